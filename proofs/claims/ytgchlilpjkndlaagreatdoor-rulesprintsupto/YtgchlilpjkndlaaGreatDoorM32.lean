/- Texts of this claim, one behind the other. -/
import Derived.Test.YtgchlilpjkndlaaGreatDoorPeD
import Derived.Test.YtgchlilpjkndlaaGreatDoorM31
import Derived.Test.YtgchlilpjkndlaaGreatDoorM30
import Derived.Test.YtgchlilpjkndlaaGreatDoorM23
import Derived.Test.YtgchlilpjkndlaaGreatDoorM24
import Derived.Test.YtgchlilpjkndlaaGreatDoorM20
/- What the reference's pen has written is what the printer writes. Plain mathematics. -/
namespace Go.Proofs.YtgchlilpjkndlaaGreatDoor
open Go.RowKit Go.Shelf
set_option linter.unusedVariables false
def PenI (q : ByteArray × Bool) (L : List UInt8) (ok : Bool) : Prop := q.2 = !ok ∧ (ok = true → q.1.data.toList = L)
theorem pen_s {q : ByteArray × Bool} {L : List UInt8} {ok : Bool} (t : ByteArray) (h : PenI q L ok) : PenI (pnS q t) (L ++ t.data.toList) ok :=
  ⟨h.1, fun k => by show (q.1 ++ t).data.toList = _; rw [ByteArray.data_append, Array.toList_append, h.2 k]⟩
theorem pen_1 {q : ByteArray × Bool} {L : List UInt8} {ok : Bool} (r : Int) (h : PenI q L ok) : PenI (pn1 q r) (L ++ (rtB r).data.toList) (ok && okR r) := by
  refine ⟨?_, fun k => ?_⟩
  · show (q.2 || !okR r) = _
    rw [h.1]
    cases ok <;> cases okR r <;> rfl
  · have hk : ok = true := by cases ok <;> first | rfl | cases k
    exact (pen_s (rtB r) h).2 hk
theorem pen_b {q : ByteArray × Bool} {L : List UInt8} {ok : Bool} (b : Bool) (h : PenI q L ok) : PenI (q.1, q.2 || !b) L (ok && b) := by
  refine ⟨?_, fun k => ?_⟩
  · show (q.2 || !b) = _
    rw [h.1]
    cases ok <;> cases b <;> rfl
  · exact h.2 (by cases ok <;> first | rfl | cases k)
theorem pen_eq {q : ByteArray × Bool} {L L' : List UInt8} {ok ok' : Bool} (h : PenI q L ok) (hL : L = L') (hk : ok = ok') : PenI q L' ok' := hL ▸ hk ▸ h
theorem pen_span {q : ByteArray × Bool} {L : List UInt8} {ok : Bool} (s : Int × Int) (h : PenI q L ok) : PenI (pnSpan q s) (L ++ wdL true (spanW s)) (ok && spanK s) := by
  unfold pnSpan spanW spanK
  by_cases e : s.2 = s.1
  · rw [if_pos e, if_pos e, e, Bool.and_self]
    exact pen_eq (pen_1 s.1 (pen_s ⟨#[32]⟩ h)) (by simp [wdL, spB]) rfl
  · rw [if_neg e, if_neg e]
    exact pen_eq (pen_1 s.2 (pen_s ⟨#[32, 46, 46, 32]⟩ (pen_1 s.1 (pen_s ⟨#[32]⟩ h)))) (by simp [wdL, spB]) (by rw [Bool.and_assoc])
theorem pen_spans : ∀ (l : List (Int × Int)) {q : ByteArray × Bool} {L : List UInt8} {ok : Bool}, PenI q L ok → PenI (l.foldl pnSpan q) (L ++ wdL true (l.flatMap spanW)) (ok && l.all spanK)
  | [], q, L, ok, h => pen_eq h (by simp [wdL]) (by simp)
  | s :: l, q, L, ok, h => by
    have := pen_spans l (pen_span s h)
    rw [List.append_assoc, Bool.and_assoc] at this
    rw [List.flatMap_cons, wdL_app, List.all_cons, Bool.true_or]
    exact this
theorem pen_braces (word : ByteArray) (l : List (Int × Int)) {q : ByteArray × Bool} {L : List UInt8} {ok : Bool} (h : PenI q L ok) : PenI (pnSpans q word l) (L ++ (word.data.toList ++ (wdL true (spansW l) ++ [10]))) (ok && l.all spanK) := by
  unfold pnSpans spansW
  refine pen_eq (pen_s ⟨#[32, 125, 10]⟩ (pen_spans l (pen_s ⟨#[32, 123]⟩ (pen_s word h)))) ?_ rfl
  rw [show (⟨#[123]⟩ :: (l.flatMap spanW ++ [⟨#[125]⟩]) : List ByteArray) = [⟨#[123]⟩] ++ (l.flatMap spanW ++ [⟨#[125]⟩]) from rfl, wdL_app, wdL_app]
  simp [wdL, spB]
theorem pen_sc (x : ByteArray × List (Int × Int)) {q : ByteArray × Bool} {L : List UInt8} {ok : Bool} (h : PenI q L ok) : PenI (pnSc q x) (L ++ lineB (scW x)) (ok && scK x) := by
  unfold pnSc scK lineB scW
  refine pen_eq (pen_braces _ x.2 (pen_b (legalB x.1) h)) ?_ (by rw [Bool.and_assoc])
  simp [wdL, spB]
theorem pen_li (word : ByteArray) (l : List (Int × Int)) {q : ByteArray × Bool} {L : List UInt8} {ok : Bool} (h : PenI q L ok) : PenI (pnLi q word l) (L ++ (liL word l).flatMap lineB) (ok && l.all spanK) := by
  rw [liL_flat]
  unfold pnLi
  by_cases e : l.length = 0
  · obtain rfl := List.length_eq_zero_iff.1 e
    rw [if_pos e, if_pos e]
    exact pen_eq h (by simp) (by simp)
  · rw [if_neg e, if_neg e]
    refine pen_eq (pen_braces word l h) ?_ rfl
    unfold lineB liW
    simp [wdL, spB]
theorem pen_pr (x : Int × Int × Int) {q : ByteArray × Bool} {L : List UInt8} {ok : Bool} (h : PenI q L ok) : PenI (pnPr q x) (L ++ lineB (prW x)) (ok && prK x) := by
  unfold pnPr prK lineB prW
  exact pen_eq (pen_s _ (pen_1 x.2.2 (pen_s _ (pen_1 x.2.1 (pen_s _ (pen_1 x.1 (pen_s _ h))))))) (by simp [wdL, spB]) (by rw [Bool.and_assoc, Bool.and_assoc])
theorem pen_runes : ∀ (l : List Int) {q : ByteArray × Bool} {L : List UInt8} {ok : Bool}, PenI q L ok → PenI (l.foldl pnR q) (L ++ wdL true (l.map rtB)) (ok && l.all okR)
  | [], q, L, ok, h => pen_eq h (by simp [wdL]) (by simp)
  | r :: l, q, L, ok, h => by
    have := pen_runes l (pen_1 r (pen_s ⟨#[32]⟩ h))
    refine pen_eq this ?_ (by rw [List.all_cons, Bool.and_assoc])
    simp [wdL, spB]
theorem okTo_okU (s : ByteArray) : okTo s = (okU s && decide ((runesL s).length ≠ 0)) := by
  have e : (runesL s).length ≠ 0 ↔ s.size ≠ 0 := by
    have h0 : (runesL s).length = (startsFrom s s.size 0).length := by unfold runesL; rw [List.length_map]; rfl
    rw [h0]
    by_cases h : 0 < s.size
    · obtain ⟨f, hf⟩ : ∃ f, s.size = f + 1 := ⟨s.size - 1, by omega⟩
      have hc := startsFrom_cons s f 0 h
      rw [← hf] at hc
      rw [hc, List.length_cons]
      omega
    · have h9 : s.size = 0 := by omega
      have he := startsFrom_end s s.size 0 h
      rw [he, List.length_nil]
      exact ⟨fun q => absurd rfl q, fun q => absurd h9 q⟩
  rw [Bool.eq_iff_iff, okTo_iff, Bool.and_eq_true, decide_eq_true_iff, okU_iff, e]
  exact And.comm
theorem pen_to (t : ByteArray) {q : ByteArray × Bool} {L : List UInt8} {ok : Bool} (h : PenI q L ok) : PenI (pnTo q t) (L ++ wdL true ((runesL t).map rtB)) (ok && (okTo t && (runesL t).all okR)) := by
  unfold pnTo
  rw [okTo_okU]
  by_cases e : okU t = true ∧ (runesL t).length ≠ 0
  · rw [if_pos e, e.1, decide_eq_true e.2]
    exact pen_eq (pen_runes _ h) rfl (by simp)
  · rw [if_neg e]
    have : (okU t && decide ((runesL t).length ≠ 0)) = false := by
      cases q1 : okU t with
      | false => rfl
      | true => exact decide_eq_false (fun z => e ⟨q1, z⟩)
    rw [this]
    exact ⟨by simp, fun k => by simp at k⟩
theorem pen_mp (word : ByteArray) (x : Int × ByteArray) {q : ByteArray × Bool} {L : List UInt8} {ok : Bool} (h : PenI q L ok) : PenI (pnMap word q x) (L ++ lineB (mpW word x)) (ok && mpK x) := by
  unfold pnMap mpK lineB
  refine pen_eq (pen_s _ (pen_to x.2 (pen_s _ (pen_1 x.1 (pen_s _ (pen_s word h)))))) ?_ ?_
  · rw [show mpW word x = [word, rtB x.1, ⟨#[61]⟩] ++ ((runesL x.2).map rtB ++ [⟨#[59]⟩]) from rfl, wdL_app, wdL_app]
    simp [wdL, spB]
  · cases ok <;> cases okR x.1 <;> cases okTo x.2 <;> simp
theorem pen_ma (x : Int × Int) {q : ByteArray × Bool} {L : List UInt8} {ok : Bool} (h : PenI q L ok) : PenI (pnMa q x) (L ++ lineB (maW x)) (ok && maK x) := by
  have h1 := pen_1 x.1 (pen_s ⟨#[109, 97, 114, 107, 32]⟩ h)
  unfold maK
  cases hc : clsB x.2 with
  | false =>
    refine ⟨?_, fun k => by simp at k⟩
    unfold pnMa
    rw [hc]
    simp
  | true =>
    have hd : decB (if clsB x.2 = true then x.2.toNat else 0) = itoaB x.2 := by
      obtain ⟨n0, n1⟩ := clsB_iff.1 hc
      rw [if_pos hc]
      unfold decB itoaB Lib.itoa
      rw [if_neg (by omega)]
    have h2 := pen_s ⟨#[32, 59, 10]⟩ (pen_s (itoaB x.2) (pen_s ⟨#[32]⟩ h1))
    have e : pnMa q x = pnS (pnS (pnS (pn1 (pnS q ⟨#[109, 97, 114, 107, 32]⟩) x.1) ⟨#[32]⟩) (itoaB x.2)) ⟨#[32, 59, 10]⟩ := by
      unfold pnMa
      rw [hd, hc]
      simp [pnS]
    rw [e]
    refine pen_eq h2 ?_ (by rw [Bool.true_and])
    unfold lineB maW
    simp [wdL, spB]
theorem pen_fold {α : Type} (P : ByteArray × Bool → α → ByteArray × Bool) (W : α → List ByteArray) (K : α → Bool) (hs : ∀ x {q : ByteArray × Bool} {L : List UInt8} {ok : Bool}, PenI q L ok → PenI (P q x) (L ++ lineB (W x)) (ok && K x)) : ∀ (l : List α) {q : ByteArray × Bool} {L : List UInt8} {ok : Bool}, PenI q L ok → PenI (l.foldl P q) (L ++ (l.map W).flatMap lineB) (ok && l.all K)
  | [], q, L, ok, h => pen_eq h (by simp) (by simp)
  | x :: l, q, L, ok, h => by
    have := pen_fold P W K hs l (hs x h)
    refine pen_eq this ?_ (by rw [List.all_cons, Bool.and_assoc])
    simp
theorem refP_inv (T : TV) : PenI (refP T) ((linesT T).flatMap lineB) (okT T) := by
  have h0 : PenI (⟨#[]⟩, false) [] true := ⟨rfl, fun _ => rfl⟩
  have h1 := pen_li ⟨#[97, 108, 108, 111, 119]⟩ T.al (pen_li ⟨#[100, 114, 111, 112]⟩ T.dr (pen_fold _ _ _ (pen_mp ⟨#[108, 111, 111, 107]⟩) T.lk (pen_fold _ _ _ (pen_mp ⟨#[102, 111, 108, 100]⟩) T.fo (pen_fold _ _ _ pen_pr T.pr (pen_fold _ _ _ pen_ma T.ma (pen_li ⟨#[99, 111, 109, 109, 111, 110]⟩ T.co (pen_fold _ _ _ pen_sc T.sc h0)))))))
  refine pen_eq h1 ?_ ?_
  · unfold linesT
    simp [List.flatMap_append]
  · unfold okT
    simp [Bool.and_assoc]
theorem refPV_eq (T : TV) : refPV T = printV T := by
  have h := refP_inv T
  unfold refPV
  cases hk : okT T with
  | false =>
    have h1 : (refP T).2 = true := by rw [h.1, hk]; rfl
    rw [print_bad hk, if_pos h1]
  | true =>
    have h1 : (refP T).2 = false := by rw [h.1, hk]; rfl
    have h2 := h.2 hk
    have h3 : (refP T).1.size = ((linesT T).flatMap lineB).length := by rw [← h2]; exact Array.length_toList.symm
    rw [if_neg (by rw [h1]; simp), h3]
    rcases Nat.lt_or_ge 262144 ((linesT T).flatMap lineB).length with q | q
    · rw [print_long hk q, if_pos q]
    · rw [print_ok hk q, if_neg (by omega)]
      have e : (refP T).1 = ⟨((linesT T).flatMap lineB).toArray⟩ := by
        apply ByteArray.ext
        rw [← h2]
      rw [e]
set_option maxRecDepth 100000 in
set_option maxHeartbeats 4000000 in
theorem refWords_long (s : ByteArray) (hs : 262144 < s.size) (w : World) : Calls Tryz.prog 62 #[.string s] w fun e w' => e = .returned (.tuple #[.slice none 0 0, .int .i64 0, .int .i64 3]) ∧ w' = w := by
  have hl : (262144 : Int) < (s.size : Int) := by omega
  clear hs
  go_enter Tryz.func62, Tryz.ntmps62
  go_wp2_with fail
  exact bodyPost_ret (v := .tuple #[.slice none 0 0, .int .i64 0, .int .i64 3]) (by simp [results, Tryz.results62, go_sem]) rfl ⟨rfl, rfl⟩
set_option maxRecDepth 100000 in
set_option maxHeartbeats 4000000 in
theorem refLegal_all (s : ByteArray) (w : World) : Calls Tryz.prog 32 #[.string s] w fun e w' => e = .returned (.bool (legalB s)) ∧ Below w.heap.size w w' := by
  by_cases hs : s.size ≤ 262144
  · exact refLegal_any s hs w
  · have hl : legalB s = false := by
      unfold legalB
      have := nameLen_le s
      exact decide_eq_false (by omega)
    rw [hl]
    have HR := hide (refWords_long s (by omega) w)
    clear hl hs
    go_enter Tryz.func32, Tryz.ntmps32
    go_wp2_with fail
    refine (unhide HR).mono ?_
    rintro e w2 ⟨rfl, rfl⟩
    go_wp2_with fail
    go_ret
    exact ⟨rfl, Below.refl _ _⟩
theorem TabB.r {T : TV} (h : TabB T) (h2 : TabI T) (hl : largeB T = false) : TabR T :=
  ⟨h.ok hl, fun x hx => ⟨(h.z0 x hx).1, fun y hy => h2.s x hx y hy⟩, h2.co, h2.dr, h2.al, h2.ma, h2.pr, fun y hy => ⟨h2.fo y hy, h.z4 y hy⟩, fun y hy => ⟨h2.lk y hy, h.z5 y hy⟩⟩
structure PrS (m : Int) (T : TV) (a0 a1 a2 a3 a4 a5 a6 a7 : Option Addr) (c0 c1 c2 c3 c4 c5 c6 c7 : Nat) (us : List Value) (W w : World) : Prop where
  e : EnvK m w
  r : EnvR w
  ti : TabIn w T a0 a1 a2 a3 a4 a5 a6 a7 us
  bl : Below W.heap.size W w
  b0 : Blk w W.heap.size #[.slice a0 T.sc.length c0, .slice a1 T.co.length c1, .slice a2 T.ma.length c2, .slice a3 T.pr.length c3, .slice a4 T.fo.length c4, .slice a5 T.lk.length c5, .slice a6 T.dr.length c6, .slice a7 T.al.length c7] 33
theorem PrS.below {m : Int} {T : TV} {a0 a1 a2 a3 a4 a5 a6 a7 : Option Addr} {c0 c1 c2 c3 c4 c5 c6 c7 : Nat} {us : List Value} {W w w' : World} (h : PrS m T a0 a1 a2 a3 a4 a5 a6 a7 c0 c1 c2 c3 c4 c5 c6 c7 us W w) (hb : Below w.heap.size w w') : PrS m T a0 a1 a2 a3 a4 a5 a6 a7 c0 c1 c2 c3 c4 c5 c6 c7 us W w' :=
  ⟨h.e.below hb, h.r.below hb, h.ti.lower hb, h.bl.trans (hb.mono h.bl.size), h.b0.below hb h.b0.lt⟩
structure PrU (m : Int) (T : TV) (a0 a1 a2 a3 a4 a5 a6 a7 : Option Addr) (c0 c1 c2 c3 c4 c5 c6 c7 : Nat) (us : List Value) (lo M : Nat) (g : Nat → Nat) (vs : List Value) (W w : World) : Prop where
  s : PrS m T a0 a1 a2 a3 a4 a5 a6 a7 c0 c1 c2 c3 c4 c5 c6 c7 us W w
  wh : WhAt w lo T g vs
  b1 : Blk w M #[.slice (some ⟨g 0, 0, none⟩) T.sc.length (T.sc.length + 8), .slice (some ⟨g 1, 0, none⟩) T.co.length (T.co.length + 8), .slice (some ⟨g 2, 0, none⟩) T.ma.length (T.ma.length + 8), .slice (some ⟨g 3, 0, none⟩) T.pr.length (T.pr.length + 8), .slice (some ⟨g 4, 0, none⟩) T.fo.length (T.fo.length + 8), .slice (some ⟨g 5, 0, none⟩) T.lk.length (T.lk.length + 8), .slice (some ⟨g 6, 0, none⟩) T.dr.length (T.dr.length + 8), .slice (some ⟨g 7, 0, none⟩) T.al.length (T.al.length + 8)] 33
theorem PrU.below {m : Int} {T : TV} {a0 a1 a2 a3 a4 a5 a6 a7 : Option Addr} {c0 c1 c2 c3 c4 c5 c6 c7 : Nat} {us : List Value} {lo M : Nat} {g : Nat → Nat} {vs : List Value} {W w w' : World} (h : PrU m T a0 a1 a2 a3 a4 a5 a6 a7 c0 c1 c2 c3 c4 c5 c6 c7 us lo M g vs W w) (hb : Below w.heap.size w w') : PrU m T a0 a1 a2 a3 a4 a5 a6 a7 c0 c1 c2 c3 c4 c5 c6 c7 us lo M g vs W w' :=
  ⟨h.s.below hb, h.wh.below hb, h.b1.below hb h.b1.lt⟩
set_option maxRecDepth 100000 in
set_option maxHeartbeats 4000000 in
theorem prints_any5 (T : TV) (hTT : TabB T ∧ TabI T) (a0 a1 a2 a3 a4 a5 a6 a7 : Option Addr) (c0 c1 c2 c3 c4 c5 c6 c7 : Nat) (us : List Value) (m : Int) (W : World) (hE : EnvK m W ∧ EnvR W) (hA : TabIn W T a0 a1 a2 a3 a4 a5 a6 a7 us) :
    Calls Tryz.prog 4 #[.agg (tabV T a0 a1 a2 a3 a4 a5 a6 a7 c0 c1 c2 c3 c4 c5 c6 c7)] W fun e w' => e = .returned (.bool true) ∧ Below W.heap.size W w' := by
  obtain ⟨hT, hTI⟩ := hTT
  have hmx : Tryz.prog.follows .mixedOrders = true := by kernel_rfl
  have hB0 : Below W.heap.size W (W.alloc (.cells (tabV T a0 a1 a2 a3 a4 a5 a6 a7 c0 c1 c2 c3 c4 c5 c6 c7) 33)) := (Below.refl _ W).alloc (Nat.le_refl _) _
  have bA := Blk.new W (tabV T a0 a1 a2 a3 a4 a5 a6 a7 c0 c1 c2 c3 c4 c5 c6 c7) 33
  unfold tabV at hB0 bA
  have HH : Hz (PrS m T a0 a1 a2 a3 a4 a5 a6 a7 c0 c1 c2 c3 c4 c5 c6 c7 us W _) := hide ⟨hE.1.below hB0, hE.2.below hB0, hA.lower hB0, hB0, bA⟩
  have HT := hide (And.intro hT hTI)
  have HL := hide (fun (w : World) (h : TabIn w T a0 a1 a2 a3 a4 a5 a6 a7 us) => large_any T hT a0 a1 a2 a3 a4 a5 a6 a7 c0 c1 c2 c3 c4 c5 c6 c7 us w h)
  unfold tabV at HL ⊢
  have z0 := bA.cell 0
  have z1 := bA.cell 1
  have z2 := bA.cell 2
  have z3 := bA.cell 3
  have z4 := bA.cell 4
  have z5 := bA.cell 5
  have z6 := bA.cell 6
  have z7 := bA.cell 7
  clear hE hA hB0 bA hT hTI
  go_enter Tryz.func4, Tryz.ntmps4
  go_wp2_with fail
  generalize W.alloc (.cells #[.slice a0 T.sc.length c0, .slice a1 T.co.length c1, .slice a2 T.ma.length c2, .slice a3 T.pr.length c3, .slice a4 T.fo.length c4, .slice a5 T.lk.length c5, .slice a6 T.dr.length c6, .slice a7 T.al.length c7] 33) = w0 at *
  refine (unhide HL _ (unhide HH).ti).mono ?_
  rintro e w1 ⟨rfl, hb⟩
  have HH1 := hide ((unhide HH).below hb)
  clear hb HH HL z0 z1 z2 z3 z4 z5 z6 z7
  cases hLB : largeB T with
  | true =>
    have HK := hide (known_any5 m w1 (unhide HH1).e)
    go_wp2_with fail
    refine (unhide HK).mono ?_
    rintro e w2 ⟨rfl, hb2⟩
    have HB := hide ((unhide HH1).below hb2).bl
    clear hb2
    go_wp2_with fail
    go_ret
    exact ⟨rfl, unhide HB⟩
  | false =>
    have HO := hide ((unhide HT).1.ok hLB)
    have HR := hide ((unhide HT).1.r (unhide HT).2 hLB)
    clear hLB HT
    have z0 : w1.cell? ⟨W.heap.size, 0, none⟩ = some (.slice a0 T.sc.length c0) := (unhide HH1).b0.cell 0
    have z1 : w1.cell? ⟨W.heap.size, 1, none⟩ = some (.slice a1 T.co.length c1) := (unhide HH1).b0.cell 1
    have z2 : w1.cell? ⟨W.heap.size, 2, none⟩ = some (.slice a2 T.ma.length c2) := (unhide HH1).b0.cell 2
    have z3 : w1.cell? ⟨W.heap.size, 3, none⟩ = some (.slice a3 T.pr.length c3) := (unhide HH1).b0.cell 3
    have z4 : w1.cell? ⟨W.heap.size, 4, none⟩ = some (.slice a4 T.fo.length c4) := (unhide HH1).b0.cell 4
    have z5 : w1.cell? ⟨W.heap.size, 5, none⟩ = some (.slice a5 T.lk.length c5) := (unhide HH1).b0.cell 5
    have z6 : w1.cell? ⟨W.heap.size, 6, none⟩ = some (.slice a6 T.dr.length c6) := (unhide HH1).b0.cell 6
    have z7 : w1.cell? ⟨W.heap.size, 7, none⟩ = some (.slice a7 T.al.length c7) := (unhide HH1).b0.cell 7
    have HC := hide (keepWhole_any T (unhide HO) a0 a1 a2 a3 a4 a5 a6 a7 c0 c1 c2 c3 c4 c5 c6 c7 us w1 (unhide HH1).ti (unhide HH1).r)
    unfold tabV at HC
    go_wp2_with fail
    refine (unhide HC).mono ?_
    rintro e w2 ⟨g, vs, rfl, hwh, hb2⟩
    have H2 := hide ((unhide HH1).below hb2)
    have HWH := hide hwh
    clear hwh hb2 HC HH1 z0 z1 z2 z3 z4 z5 z6 z7
    have b2 := Blk.new w2 #[.slice none 0 0, .slice none 0 0, .slice none 0 0, .slice none 0 0, .slice none 0 0, .slice none 0 0, .slice none 0 0, .slice none 0 0] 33
    have b3 := Blk.new w2 #[.slice (some ⟨g 0, 0, none⟩) T.sc.length (T.sc.length + 8), .slice (some ⟨g 1, 0, none⟩) T.co.length (T.co.length + 8), .slice (some ⟨g 2, 0, none⟩) T.ma.length (T.ma.length + 8), .slice (some ⟨g 3, 0, none⟩) T.pr.length (T.pr.length + 8), .slice (some ⟨g 4, 0, none⟩) T.fo.length (T.fo.length + 8), .slice (some ⟨g 5, 0, none⟩) T.lk.length (T.lk.length + 8), .slice (some ⟨g 6, 0, none⟩) T.dr.length (T.dr.length + 8), .slice (some ⟨g 7, 0, none⟩) T.al.length (T.al.length + 8)] 33
    have hb3 : Below w2.heap.size w2 (w2.alloc (.cells #[.slice (some ⟨g 0, 0, none⟩) T.sc.length (T.sc.length + 8), .slice (some ⟨g 1, 0, none⟩) T.co.length (T.co.length + 8), .slice (some ⟨g 2, 0, none⟩) T.ma.length (T.ma.length + 8), .slice (some ⟨g 3, 0, none⟩) T.pr.length (T.pr.length + 8), .slice (some ⟨g 4, 0, none⟩) T.fo.length (T.fo.length + 8), .slice (some ⟨g 5, 0, none⟩) T.lk.length (T.lk.length + 8), .slice (some ⟨g 6, 0, none⟩) T.dr.length (T.dr.length + 8), .slice (some ⟨g 7, 0, none⟩) T.al.length (T.al.length + 8)] 33)) := (Below.refl w2.heap.size w2).alloc (Nat.le_refl _) _
    have HU : Hz (PrU m T a0 a1 a2 a3 a4 a5 a6 a7 c0 c1 c2 c3 c4 c5 c6 c7 us (w1.heap.size + 2) w2.heap.size g vs W _) := hide ⟨(unhide H2).below hb3, (unhide HWH).below hb3, b3⟩
    have e0 := b2.cell 0
    have f0 := b2.frozen 0
    have e1 := b2.cell 1
    have f1 := b2.frozen 1
    have e2 := b2.cell 2
    have f2 := b2.frozen 2
    have e3 := b2.cell 3
    have f3 := b2.frozen 3
    have e4 := b2.cell 4
    have f4 := b2.frozen 4
    have e5 := b2.cell 5
    have f5 := b2.frozen 5
    have e6 := b2.cell 6
    have f6 := b2.frozen 6
    have e7 := b2.cell 7
    have f7 := b2.frozen 7
    have hne : W.heap.size ≠ w2.heap.size := Nat.ne_of_lt (unhide H2).b0.lt
    have hne2 : w2.heap.size ≠ W.heap.size := Ne.symm hne
    have y0 : ∀ o, (w2.alloc o).cell? ⟨W.heap.size, 0, none⟩ = some (.slice a0 T.sc.length c0) := fun o => (World.grownBy_alloc w2 o none).cell (a := ⟨W.heap.size, 0, none⟩) ((unhide H2).b0.cell 0) (by simp)
    have y1 : ∀ o, (w2.alloc o).cell? ⟨W.heap.size, 1, none⟩ = some (.slice a1 T.co.length c1) := fun o => (World.grownBy_alloc w2 o none).cell (a := ⟨W.heap.size, 1, none⟩) ((unhide H2).b0.cell 1) (by simp)
    have y2 : ∀ o, (w2.alloc o).cell? ⟨W.heap.size, 2, none⟩ = some (.slice a2 T.ma.length c2) := fun o => (World.grownBy_alloc w2 o none).cell (a := ⟨W.heap.size, 2, none⟩) ((unhide H2).b0.cell 2) (by simp)
    have y3 : ∀ o, (w2.alloc o).cell? ⟨W.heap.size, 3, none⟩ = some (.slice a3 T.pr.length c3) := fun o => (World.grownBy_alloc w2 o none).cell (a := ⟨W.heap.size, 3, none⟩) ((unhide H2).b0.cell 3) (by simp)
    have y4 : ∀ o, (w2.alloc o).cell? ⟨W.heap.size, 4, none⟩ = some (.slice a4 T.fo.length c4) := fun o => (World.grownBy_alloc w2 o none).cell (a := ⟨W.heap.size, 4, none⟩) ((unhide H2).b0.cell 4) (by simp)
    have y5 : ∀ o, (w2.alloc o).cell? ⟨W.heap.size, 5, none⟩ = some (.slice a5 T.lk.length c5) := fun o => (World.grownBy_alloc w2 o none).cell (a := ⟨W.heap.size, 5, none⟩) ((unhide H2).b0.cell 5) (by simp)
    have y6 : ∀ o, (w2.alloc o).cell? ⟨W.heap.size, 6, none⟩ = some (.slice a6 T.dr.length c6) := fun o => (World.grownBy_alloc w2 o none).cell (a := ⟨W.heap.size, 6, none⟩) ((unhide H2).b0.cell 6) (by simp)
    have y7 : ∀ o, (w2.alloc o).cell? ⟨W.heap.size, 7, none⟩ = some (.slice a7 T.al.length c7) := fun o => (World.grownBy_alloc w2 o none).cell (a := ⟨W.heap.size, 7, none⟩) ((unhide H2).b0.cell 7) (by simp)
    clear b2 b3 hb3 H2 HWH
    go_wp2_with fail
    clear y0 y1 y2 y3 y4 y5 y6 y7 hne hne2 e0 e1 e2 e3 e4 e5 e6 e7 f0 f1 f2 f3 f4 f5 f6 f7
    generalize w2.alloc (.cells #[.slice (some ⟨g 0, 0, none⟩) T.sc.length (T.sc.length + 8), .slice (some ⟨g 1, 0, none⟩) T.co.length (T.co.length + 8), .slice (some ⟨g 2, 0, none⟩) T.ma.length (T.ma.length + 8), .slice (some ⟨g 3, 0, none⟩) T.pr.length (T.pr.length + 8), .slice (some ⟨g 4, 0, none⟩) T.fo.length (T.fo.length + 8), .slice (some ⟨g 5, 0, none⟩) T.lk.length (T.lk.length + 8), .slice (some ⟨g 6, 0, none⟩) T.dr.length (T.dr.length + 8), .slice (some ⟨g 7, 0, none⟩) T.al.length (T.al.length + 8)] 33) = w3 at *
    generalize w2.heap.size = M at *
    have HP : Hz (∀ w, PrU m T a0 a1 a2 a3 a4 a5 a6 a7 c0 c1 c2 c3 c4 c5 c6 c7 us (w1.heap.size + 2) M g vs W w → Calls Tryz.prog 14 #[.agg #[.slice (some ⟨g 0, 0, none⟩) T.sc.length (T.sc.length + 8), .slice (some ⟨g 1, 0, none⟩) T.co.length (T.co.length + 8), .slice (some ⟨g 2, 0, none⟩) T.ma.length (T.ma.length + 8), .slice (some ⟨g 3, 0, none⟩) T.pr.length (T.pr.length + 8), .slice (some ⟨g 4, 0, none⟩) T.fo.length (T.fo.length + 8), .slice (some ⟨g 5, 0, none⟩) T.lk.length (T.lk.length + 8), .slice (some ⟨g 6, 0, none⟩) T.dr.length (T.dr.length + 8), .slice (some ⟨g 7, 0, none⟩) T.al.length (T.al.length + 8)]] w fun e w' => e = .returned (.tuple #[.string (printV T).1, .int .i64 (printV T).2]) ∧ Below w.heap.size w w') := hide (fun w h => print_any T (some ⟨g 0, 0, none⟩) (some ⟨g 1, 0, none⟩) (some ⟨g 2, 0, none⟩) (some ⟨g 3, 0, none⟩) (some ⟨g 4, 0, none⟩) (some ⟨g 5, 0, none⟩) (some ⟨g 6, 0, none⟩) (some ⟨g 7, 0, none⟩) (T.sc.length + 8) (T.co.length + 8) (T.ma.length + 8) (T.pr.length + 8) (T.fo.length + 8) (T.lk.length + 8) (T.dr.length + 8) (T.al.length + 8) vs w h.wh.tab (unhide HO) h.s.e.p)
    have HC := hide (refPrint_any (fun s _ w => refLegal_all s w) T (unhide HR) a0 a1 a2 a3 a4 a5 a6 a7 c0 c1 c2 c3 c4 c5 c6 c7 us w3 (unhide HU).s.ti)
    unfold tabV at HC
    rw [refPV_eq] at HC
    generalize printV T = PV at *
    obtain ⟨s1, f1⟩ := PV
    dsimp only at HC HP
    refine (unhide HC).mono ?_
    rintro e w4 ⟨rfl, hb4⟩
    have HU4 := hide ((unhide HU).below hb4)
    clear hb4 HU HC HR
    go_wp2_with fail
    go_loopw [6] (fun iv wr => ∃ i : Nat, i ≤ 2 ∧ iv = .int .i64 (i : Int) ∧ Hz (PrU m T a0 a1 a2 a3 a4 a5 a6 a7 c0 c1 c2 c3 c4 c5 c6 c7 us (w1.heap.size + 2) M g vs W wr)) (fun iv _ => 2 - cntI iv)
    case atStart => exact ⟨0, by omega, rfl, HU4⟩
    case round =>
      obtain ⟨i, hi, rfl, HQ⟩ := hrel
      clear HU4
      by_cases hlt : i < 2
      · have hlt2 : (i : Int) < 2 := by omega
        have x0 : wr.cell? ⟨M, 0, none⟩ = some (.slice (some ⟨g 0, 0, none⟩) T.sc.length (T.sc.length + 8)) := (unhide HQ).b1.cell 0
        have x1 : wr.cell? ⟨M, 1, none⟩ = some (.slice (some ⟨g 1, 0, none⟩) T.co.length (T.co.length + 8)) := (unhide HQ).b1.cell 1
        have x2 : wr.cell? ⟨M, 2, none⟩ = some (.slice (some ⟨g 2, 0, none⟩) T.ma.length (T.ma.length + 8)) := (unhide HQ).b1.cell 2
        have x3 : wr.cell? ⟨M, 3, none⟩ = some (.slice (some ⟨g 3, 0, none⟩) T.pr.length (T.pr.length + 8)) := (unhide HQ).b1.cell 3
        have x4 : wr.cell? ⟨M, 4, none⟩ = some (.slice (some ⟨g 4, 0, none⟩) T.fo.length (T.fo.length + 8)) := (unhide HQ).b1.cell 4
        have x5 : wr.cell? ⟨M, 5, none⟩ = some (.slice (some ⟨g 5, 0, none⟩) T.lk.length (T.lk.length + 8)) := (unhide HQ).b1.cell 5
        have x6 : wr.cell? ⟨M, 6, none⟩ = some (.slice (some ⟨g 6, 0, none⟩) T.dr.length (T.dr.length + 8)) := (unhide HQ).b1.cell 6
        have x7 : wr.cell? ⟨M, 7, none⟩ = some (.slice (some ⟨g 7, 0, none⟩) T.al.length (T.al.length + 8)) := (unhide HQ).b1.cell 7
        have HC := hide (unhide HP wr (unhide HQ))
        have ef : (f1 != f1) = false := by simp
        go_wp2_with fail
        refine (unhide HC).mono ?_
        rintro e w5 ⟨rfl, hb5⟩
        have HQ5 := hide ((unhide HQ).below hb5)
        clear hb5 HQ HC
        go_wp2_with fail
        go_roundw
        case rel => exact ⟨i + 1, by omega, rfl, HQ5⟩
        case measure => show 2 - ((i : Int) + 1).toNat < 2 - (i : Int).toNat; omega
      · have hlt2 : ¬ (i : Int) < 2 := by omega
        have x0 : wr.cell? ⟨M, 0, none⟩ = some (.slice (some ⟨g 0, 0, none⟩) T.sc.length (T.sc.length + 8)) := (unhide HQ).b1.cell 0
        have x1 : wr.cell? ⟨M, 1, none⟩ = some (.slice (some ⟨g 1, 0, none⟩) T.co.length (T.co.length + 8)) := (unhide HQ).b1.cell 1
        have x2 : wr.cell? ⟨M, 2, none⟩ = some (.slice (some ⟨g 2, 0, none⟩) T.ma.length (T.ma.length + 8)) := (unhide HQ).b1.cell 2
        have x3 : wr.cell? ⟨M, 3, none⟩ = some (.slice (some ⟨g 3, 0, none⟩) T.pr.length (T.pr.length + 8)) := (unhide HQ).b1.cell 3
        have x4 : wr.cell? ⟨M, 4, none⟩ = some (.slice (some ⟨g 4, 0, none⟩) T.fo.length (T.fo.length + 8)) := (unhide HQ).b1.cell 4
        have x5 : wr.cell? ⟨M, 5, none⟩ = some (.slice (some ⟨g 5, 0, none⟩) T.lk.length (T.lk.length + 8)) := (unhide HQ).b1.cell 5
        have x6 : wr.cell? ⟨M, 6, none⟩ = some (.slice (some ⟨g 6, 0, none⟩) T.dr.length (T.dr.length + 8)) := (unhide HQ).b1.cell 6
        have x7 : wr.cell? ⟨M, 7, none⟩ = some (.slice (some ⟨g 7, 0, none⟩) T.al.length (T.al.length + 8)) := (unhide HQ).b1.cell 7
        have z0 : wr.cell? ⟨W.heap.size, 0, none⟩ = some (.slice a0 T.sc.length c0) := (unhide HQ).s.b0.cell 0
        have z1 : wr.cell? ⟨W.heap.size, 1, none⟩ = some (.slice a1 T.co.length c1) := (unhide HQ).s.b0.cell 1
        have z2 : wr.cell? ⟨W.heap.size, 2, none⟩ = some (.slice a2 T.ma.length c2) := (unhide HQ).s.b0.cell 2
        have z3 : wr.cell? ⟨W.heap.size, 3, none⟩ = some (.slice a3 T.pr.length c3) := (unhide HQ).s.b0.cell 3
        have z4 : wr.cell? ⟨W.heap.size, 4, none⟩ = some (.slice a4 T.fo.length c4) := (unhide HQ).s.b0.cell 4
        have z5 : wr.cell? ⟨W.heap.size, 5, none⟩ = some (.slice a5 T.lk.length c5) := (unhide HQ).s.b0.cell 5
        have z6 : wr.cell? ⟨W.heap.size, 6, none⟩ = some (.slice a6 T.dr.length c6) := (unhide HQ).s.b0.cell 6
        have z7 : wr.cell? ⟨W.heap.size, 7, none⟩ = some (.slice a7 T.al.length c7) := (unhide HQ).s.b0.cell 7
        have HC := hide (keepSame_row T (unhide HO) a0 a1 a2 a3 a4 a5 a6 a7 (some ⟨g 0, 0, none⟩) (some ⟨g 1, 0, none⟩) (some ⟨g 2, 0, none⟩) (some ⟨g 3, 0, none⟩) (some ⟨g 4, 0, none⟩) (some ⟨g 5, 0, none⟩) (some ⟨g 6, 0, none⟩) (some ⟨g 7, 0, none⟩) c0 c1 c2 c3 c4 c5 c6 c7 (T.sc.length + 8) (T.co.length + 8) (T.ma.length + 8) (T.pr.length + 8) (T.fo.length + 8) (T.lk.length + 8) (T.dr.length + 8) (T.al.length + 8) us vs wr (unhide HQ).s.ti (unhide HQ).wh.tab)
        unfold tabV at HC
        go_wp2_with fail
        refine (unhide HC).mono ?_
        rintro e w5 ⟨rfl, hb5⟩
        have HQ5 := hide ((unhide HQ).below hb5)
        clear hb5 HQ HC z0 z1 z2 z3 z4 z5 z6 z7 x0 x1 x2 x3 x4 x5 x6 x7
        have x0 : w5.cell? ⟨M, 0, none⟩ = some (.slice (some ⟨g 0, 0, none⟩) T.sc.length (T.sc.length + 8)) := (unhide HQ5).b1.cell 0
        have x1 : w5.cell? ⟨M, 1, none⟩ = some (.slice (some ⟨g 1, 0, none⟩) T.co.length (T.co.length + 8)) := (unhide HQ5).b1.cell 1
        have x2 : w5.cell? ⟨M, 2, none⟩ = some (.slice (some ⟨g 2, 0, none⟩) T.ma.length (T.ma.length + 8)) := (unhide HQ5).b1.cell 2
        have x3 : w5.cell? ⟨M, 3, none⟩ = some (.slice (some ⟨g 3, 0, none⟩) T.pr.length (T.pr.length + 8)) := (unhide HQ5).b1.cell 3
        have x4 : w5.cell? ⟨M, 4, none⟩ = some (.slice (some ⟨g 4, 0, none⟩) T.fo.length (T.fo.length + 8)) := (unhide HQ5).b1.cell 4
        have x5 : w5.cell? ⟨M, 5, none⟩ = some (.slice (some ⟨g 5, 0, none⟩) T.lk.length (T.lk.length + 8)) := (unhide HQ5).b1.cell 5
        have x6 : w5.cell? ⟨M, 6, none⟩ = some (.slice (some ⟨g 6, 0, none⟩) T.dr.length (T.dr.length + 8)) := (unhide HQ5).b1.cell 6
        have x7 : w5.cell? ⟨M, 7, none⟩ = some (.slice (some ⟨g 7, 0, none⟩) T.al.length (T.al.length + 8)) := (unhide HQ5).b1.cell 7
        have HC := hide (keepStill_any T (unhide HO) (w1.heap.size + 2) g vs w5 (unhide HQ5).wh (unhide HQ5).s.r)
        go_wp2_with fail
        refine (unhide HC).mono ?_
        rintro e w6 ⟨rfl, hb6⟩
        have HQ6 := hide ((unhide HQ5).below hb6)
        clear hb6 HQ5 HC x0 x1 x2 x3 x4 x5 x6 x7
        have HK := hide (known_any5 m w6 (unhide HQ6).s.e)
        go_wp2_with fail
        refine (unhide HK).mono ?_
        rintro e w7 ⟨rfl, hb7⟩
        have HB := hide ((unhide HQ6).s.bl.trans (hb7.mono (unhide HQ6).s.bl.size))
        clear hb7
        go_wp2_with fail
        go_ret
        exact ⟨rfl, unhide HB⟩
end Go.Proofs.YtgchlilpjkndlaaGreatDoor
