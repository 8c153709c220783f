/- Texts of this claim, one behind the other. -/
import Derived.Test.YtbefahknbdjnpaaGreatDoorM28
import Derived.Lib.TrimUEq
import Derived.KernelRfl
import Derived.Test.YtbefahknbdjnpaaGreatDoorM1
/- What is printed is read back. Plain mathematics. -/
namespace Go.Proofs.YtbefahknbdjnpaaGreatDoor
open Go.RowKit Go.Shelf
set_option linter.unusedVariables false
def qOf (v : WV) : Tq := ⟨(v.kind : Nat), v.S, (v.R : Nat), (v.N : Nat)⟩
def OneQ (w : ByteArray) (q : Tq) : Prop := ∃ v, One w v ∧ qOf v = q
def OnesQ : List ByteArray → List Tq → Prop
  | [], [] => True
  | w :: ws, q :: qs => OneQ w q ∧ OnesQ ws qs
  | _, _ => False
theorem onesQ_app : ∀ {l1 : List ByteArray} {v1 : List Tq} {l2 : List ByteArray} {v2 : List Tq}, OnesQ l1 v1 → OnesQ l2 v2 → OnesQ (l1 ++ l2) (v1 ++ v2)
  | [], [], l2, v2, _, h => h
  | x :: l1, v :: v1, l2, v2, h1, h => ⟨h1.1, onesQ_app h1.2 h⟩
  | [], v :: v1, l2, v2, h1, h => h1.elim
  | x :: l1, [], l2, v2, h1, h => h1.elim
theorem onesQ_flat {α : Type} (f : α → List ByteArray) (g : α → List Tq) : ∀ (l : List α), (∀ x ∈ l, OnesQ (f x) (g x)) → OnesQ (l.flatMap f) (l.flatMap g)
  | [], _ => trivial
  | x :: l, h => by
    rw [List.flatMap_cons, List.flatMap_cons]
    exact onesQ_app (h x (List.mem_cons_self ..)) (onesQ_flat f g l (fun y hy => h y (List.mem_cons_of_mem _ hy)))
theorem q_script : OneQ ⟨#[115, 99, 114, 105, 112, 116]⟩ (tqN ⟨#[115, 99, 114, 105, 112, 116]⟩) := ⟨⟨1, ⟨#[115, 99, 114, 105, 112, 116]⟩, 0, 0, 6, true⟩, ⟨by decide, by kernel_rfl, rfl, rfl⟩, rfl⟩
theorem q_common : OneQ ⟨#[99, 111, 109, 109, 111, 110]⟩ (tqN ⟨#[99, 111, 109, 109, 111, 110]⟩) := ⟨⟨1, ⟨#[99, 111, 109, 109, 111, 110]⟩, 0, 0, 6, true⟩, ⟨by decide, by kernel_rfl, rfl, rfl⟩, rfl⟩
theorem q_mark : OneQ ⟨#[109, 97, 114, 107]⟩ (tqN ⟨#[109, 97, 114, 107]⟩) := ⟨⟨1, ⟨#[109, 97, 114, 107]⟩, 0, 0, 4, true⟩, ⟨by decide, by kernel_rfl, rfl, rfl⟩, rfl⟩
theorem q_pair : OneQ ⟨#[112, 97, 105, 114]⟩ (tqN ⟨#[112, 97, 105, 114]⟩) := ⟨⟨1, ⟨#[112, 97, 105, 114]⟩, 0, 0, 4, true⟩, ⟨by decide, by kernel_rfl, rfl, rfl⟩, rfl⟩
theorem q_fold : OneQ ⟨#[102, 111, 108, 100]⟩ (tqN ⟨#[102, 111, 108, 100]⟩) := ⟨⟨1, ⟨#[102, 111, 108, 100]⟩, 0, 0, 4, true⟩, ⟨by decide, by kernel_rfl, rfl, rfl⟩, rfl⟩
theorem q_look : OneQ ⟨#[108, 111, 111, 107]⟩ (tqN ⟨#[108, 111, 111, 107]⟩) := ⟨⟨1, ⟨#[108, 111, 111, 107]⟩, 0, 0, 4, true⟩, ⟨by decide, by kernel_rfl, rfl, rfl⟩, rfl⟩
theorem q_drop : OneQ ⟨#[100, 114, 111, 112]⟩ (tqN ⟨#[100, 114, 111, 112]⟩) := ⟨⟨1, ⟨#[100, 114, 111, 112]⟩, 0, 0, 4, true⟩, ⟨by decide, by kernel_rfl, rfl, rfl⟩, rfl⟩
theorem q_allow : OneQ ⟨#[97, 108, 108, 111, 119]⟩ (tqN ⟨#[97, 108, 108, 111, 119]⟩) := ⟨⟨1, ⟨#[97, 108, 108, 111, 119]⟩, 0, 0, 5, true⟩, ⟨by decide, by kernel_rfl, rfl, rfl⟩, rfl⟩
theorem q_open : OneQ ⟨#[123]⟩ (tqS 4) := ⟨⟨4, ByteArray.empty, 0, 0, 1, true⟩, ⟨by decide, by kernel_rfl, rfl, rfl⟩, rfl⟩
theorem q_shut : OneQ ⟨#[125]⟩ (tqS 5) := ⟨⟨5, ByteArray.empty, 0, 0, 1, true⟩, ⟨by decide, by kernel_rfl, rfl, rfl⟩, rfl⟩
theorem q_semi : OneQ ⟨#[59]⟩ (tqS 6) := ⟨⟨6, ByteArray.empty, 0, 0, 1, true⟩, ⟨by decide, by kernel_rfl, rfl, rfl⟩, rfl⟩
theorem q_asg : OneQ ⟨#[61]⟩ (tqS 7) := ⟨⟨7, ByteArray.empty, 0, 0, 1, true⟩, ⟨by decide, by kernel_rfl, rfl, rfl⟩, rfl⟩
theorem q_plus : OneQ ⟨#[43]⟩ (tqS 8) := ⟨⟨8, ByteArray.empty, 0, 0, 1, true⟩, ⟨by decide, by kernel_rfl, rfl, rfl⟩, rfl⟩
theorem q_dots : OneQ ⟨#[46, 46]⟩ (tqS 9) := ⟨⟨9, ByteArray.empty, 0, 0, 2, true⟩, ⟨by decide, by kernel_rfl, rfl, rfl⟩, rfl⟩
theorem okR_width {r : Int} : okR r = true ↔ widthOf r ≠ 0 := by
  constructor
  · intro h e
    unfold okR textV at h
    rw [if_pos e] at h
    cases h
  · intro h
    unfold okR
    rw [(one_text h).2]
    rfl
theorem q_rune {r : Int} (h : okR r = true) : OneQ (rtB r) (tqR r) := by
  have hw := okR_width.1 h
  have hb := width_bound r hw
  have ho := (one_text hw).1
  have hp := (words_places (textV r).1).1 _ (by rw [ho.ws]; exact List.mem_singleton.2 rfl)
  have hv := hp.v
  rw [rst_zero] at hv
  exact ⟨_, ⟨ho.pos, hv.symm, rfl, rfl⟩, by show Tq.mk 3 _ ((r.toNat : Nat) : Int) 0 = _; rw [show ((r.toNat : Nat) : Int) = r by omega]; rfl⟩
theorem q_name {s : ByteArray} (h : legalB s = true) : OneQ s (tqN s) := by
  obtain ⟨h0, hn⟩ := of_decide_eq_true h
  have hs : smallB (bt s 0) = true := by
    cases q : smallB (bt s 0)
    · unfold nameLen at hn; rw [if_pos (.inr q)] at hn; omega
    · rfl
  refine ⟨_, ⟨h0, wordV_small hs, ?_, hn⟩, ?_⟩
  · show edgeB s (nameLen s) = true
    unfold edgeB
    rw [decide_eq_true hn]
    rfl
  · show Tq.mk 1 (s.extract 0 (nameLen s)) 0 0 = _
    rw [hn, ByteArray.extract_zero_size]
    rfl
theorem dec_small {u : Nat} (h : u < 10) : Lib.decDigits u = [UInt8.ofNat (48 + u)] := by unfold Lib.decDigits; rw [dif_pos h]
theorem dec_step {u : Nat} (h : ¬ u < 10) : Lib.decDigits u = Lib.decDigits (u / 10) ++ [UInt8.ofNat (48 + u % 10)] := by conv => lhs; unfold Lib.decDigits; rw [dif_neg h]
theorem u8_dig {d : Nat} (h : d < 10) : (UInt8.ofNat (48 + d)).toNat = 48 + d := by rw [UInt8.toNat_ofNat']; omega
theorem dec_pos (u : Nat) : 1 ≤ (Lib.decDigits u).length := by
  by_cases h : u < 10
  · rw [dec_small h]; exact Nat.le_refl _
  · rw [dec_step h, List.length_append]; show 1 ≤ _ + 1; omega
theorem num_dec (t : ByteArray) : ∀ f u, u < f → u ≤ 65535 → (∀ i b, (Lib.decDigits u)[i]? = some b → bt t i = b.toNat) → (Lib.decDigits u).length ≤ t.size → digB (bt t 0) = true ∧ numV t = numGo t u (Lib.decDigits u).length
  | 0, u, h, _, _, _ => by omega
  | f + 1, u, h, hu, hb, hl => by
    by_cases h10 : u < 10
    · have e := dec_small h10
      have h0 : bt t 0 = 48 + u := by rw [hb 0 _ (by rw [e]; rfl), u8_dig h10]
      refine ⟨digB_iff.2 (by omega), ?_⟩
      unfold numV
      rw [h0, e, Nat.add_sub_cancel_left]
      rfl
    · have e := dec_step h10
      have hz : (Lib.decDigits u).length = (Lib.decDigits (u / 10)).length + 1 := by rw [e, List.length_append]; rfl
      have ih := num_dec t f (u / 10) (by omega) (by omega) (fun i b hi => hb i b (by rw [e]; exact (List.getElem?_append_left (List.getElem?_eq_some_iff.1 hi).1).trans hi)) (by omega)
      have hd : bt t (Lib.decDigits (u / 10)).length = 48 + u % 10 := by rw [hb _ _ (by rw [e]; exact List.getElem?_concat_length), u8_dig (by omega)]
      refine ⟨ih.1, ?_⟩
      rw [ih.2, numGo_go (by omega) (by rw [hd]; exact digB_iff.2 (by omega)) (by omega) (by omega), hd, hz, show u / 10 * 10 + (48 + u % 10 - 48) = u by omega]
theorem q_num {n : Int} (h : clsB n = true) : OneQ (itoaB n) (tqC n) := by
  unfold clsB at h
  rw [Bool.and_eq_true] at h
  have h0 := of_decide_eq_true h.1
  have h1 := of_decide_eq_true h.2
  obtain ⟨u, rfl⟩ : ∃ u : Nat, n = u := ⟨n.toNat, by omega⟩
  have e : itoaB (u : Int) = ⟨(Lib.decDigits u).toArray⟩ := by
    unfold itoaB Lib.itoa
    rw [if_neg (by omega), Int.toNat_natCast]
  have hz : (itoaB (u : Int)).size = (Lib.decDigits u).length := by rw [e]; rfl
  have hp := dec_pos u
  have hd := num_dec (itoaB (u : Int)) (u + 1) u (Nat.lt_succ_self u) (by omega) (fun i b hi => by
    have hi2 := (List.getElem?_eq_some_iff.1 hi).1
    unfold bt
    rw [get_lt _ _ (by omega)]
    congr 1
    have h3 : (itoaB (u : Int)).data[i]? = some b := by rw [e]; rw [List.getElem?_toArray]; exact hi
    rw [Array.getElem?_eq_getElem (by show i < (itoaB (u : Int)).size; omega)] at h3
    exact Option.some.inj h3) (by omega)
  have hv : numV (itoaB (u : Int)) = (u, (itoaB (u : Int)).size) := by rw [hd.2, ← hz, numGo_stop (by omega)]
  have hs : ¬ smallB (bt (itoaB (u : Int)) 0) = true := by
    have := digB_iff.1 hd.1
    intro q
    have := smallB_iff.1 q
    omega
  refine ⟨⟨2, ByteArray.empty, 0, u, (itoaB (u : Int)).size, true⟩, ⟨by omega, ?_, rfl, rfl⟩, rfl⟩
  unfold wordV
  rw [if_neg hs, if_pos hd.1, hv]
  simp [edgeB]
theorem q_span {s : Int × Int} (h : spanK s = true) : OnesQ (spanW s) (spanQ s) := by
  unfold spanK at h
  rw [Bool.and_eq_true] at h
  unfold spanW spanQ
  split
  · exact ⟨q_rune h.1, trivial⟩
  · exact ⟨q_rune h.1, q_dots, q_rune h.2, trivial⟩
theorem q_spans {l : List (Int × Int)} (h : l.all spanK = true) : OnesQ (spansW l) (spansQ l) :=
  ⟨q_open, onesQ_app (onesQ_flat spanW spanQ l (fun x hx => q_span (List.all_eq_true.1 h x hx))) ⟨q_shut, trivial⟩⟩
theorem q_runes {l : List Int} (h : l.all okR = true) : OnesQ (l.map rtB) (l.map tqR) := by
  induction l with
  | nil => exact trivial
  | cons r l ih =>
    rw [List.all_cons, Bool.and_eq_true] at h
    exact ⟨q_rune h.1, ih h.2⟩
def runesX (x : Int × ByteArray) : Int × List Int := (x.1, runesL x.2)
theorem q_map {x : Int × ByteArray} {w : ByteArray} (hw : OneQ w (tqN w)) (h : mpK x = true) : OnesQ (mpW w x) (tqN w :: mapQ x.1 (runesL x.2)) := by
  unfold mpK at h
  rw [Bool.and_eq_true, Bool.and_eq_true] at h
  exact ⟨hw, q_rune h.2.1, q_asg, onesQ_app (q_runes h.2.2) ⟨q_semi, trivial⟩⟩
theorem valid_starts (s : ByteArray) : ∀ f i, Lib.validGoD f (s.data.toList.drop i) = true ↔ ∀ p ∈ startsFrom s f i, badB s p = false
  | 0, i => ⟨fun _ p hp => (by cases hp), fun _ => rfl⟩
  | f + 1, i => by
    have hl : (s.data.toList.drop i).length = s.size - i := by rw [List.length_drop, Array.length_toList]; rfl
    unfold Lib.validGoD
    by_cases hi : i < s.size
    · have hne : ¬ s.data.toList.drop i = [] := fun e => by rw [e] at hl; have : ([] : List UInt8).length = 0 := rfl; omega
      rw [if_neg hne, startsFrom_cons s f i hi, Lib.decodeL_drop, List.drop_drop]
      by_cases hb : rn s i = 65533 ∧ wd s i = 1
      · rw [if_pos hb]
        exact ⟨fun h => (by cases h), fun h => by have := h i (List.mem_cons_self ..); unfold badB at this; rw [decide_eq_true hb] at this; cases this⟩
      · rw [if_neg hb]
        have ih := valid_starts s f (i + wd s i)
        refine ih.trans ⟨fun h p hp => ?_, fun h p hp => h p (List.mem_cons_of_mem _ hp)⟩
        rcases List.mem_cons.1 hp with rfl | hp
        · unfold badB; exact decide_eq_false hb
        · exact h p hp
    · have hne : s.data.toList.drop i = [] := List.length_eq_zero_iff.1 (by omega)
      rw [if_pos hne, startsFrom_end s _ i hi]
      exact ⟨fun _ p hp => (by cases hp), fun _ => rfl⟩
theorem okTo_iff {s : ByteArray} : okTo s = true ↔ s.size ≠ 0 ∧ ∀ p ∈ starts s, badB s p = false := by
  unfold okTo
  rw [Bool.and_eq_true, decide_eq_true_iff]
  have h := valid_starts s s.size 0
  have e : Lib.validD s.data.toList = Lib.validGoD s.size (s.data.toList.drop 0) := rfl
  rw [e]
  exact ⟨fun q => ⟨q.1, h.1 q.2⟩, fun q => ⟨q.1, h.2 q.2⟩⟩
theorem okTo_back {s : ByteArray} (h : okTo s = true) : runesBytes (runesL s) = s := clean_valid s (okTo_iff.1 h).2
theorem okTo_some {s : ByteArray} (h : okTo s = true) : runesL s ≠ [] := by
  intro e
  have h1 := okTo_back h
  rw [e] at h1
  have h2 := (okTo_iff.1 h).1
  rw [← h1] at h2
  exact h2 rfl
/-- The words of a table. -/
def liS (l : List (Int × Int)) : List (List (Int × Int)) := if l.length = 0 then [] else [l]
def toksT (T : TV) : List Tq :=
  T.sc.flatMap scQ ++ ((liS T.co).flatMap coQ ++ (T.ma.flatMap maQ ++ (T.pr.flatMap prQ ++ ((T.fo.map runesX).flatMap foQ ++ ((T.lk.map runesX).flatMap lkQ ++ ((liS T.dr).flatMap drQ ++ (liS T.al).flatMap alQ))))))
theorem q_list {w : ByteArray} (hw : OneQ w (tqN w)) (g : List (Int × Int) → List Tq) (hg : ∀ l, g l = tqN w :: spansQ l) {l : List (Int × Int)} (h : l.all spanK = true) : OnesQ (liL w l).flatten ((liS l).flatMap g) := by
  unfold liL liS
  split
  · exact trivial
  · show OnesQ ([liW w l].flatten) ([l].flatMap g)
    rw [List.flatten_cons, List.flatten_nil, List.append_nil, List.flatMap_cons, List.flatMap_nil, List.append_nil, hg]
    exact ⟨hw, q_spans h⟩
theorem okT_parts {T : TV} (h : okT T = true) : T.sc.all scK = true ∧ T.co.all spanK = true ∧ T.ma.all maK = true ∧ T.pr.all prK = true ∧ T.fo.all mpK = true ∧ T.lk.all mpK = true ∧ T.dr.all spanK = true ∧ T.al.all spanK = true := by
  unfold okT at h
  simpa only [Bool.and_eq_true] using h
theorem q_table {T : TV} (h : okT T = true) : OnesQ (linesT T).flatten (toksT T) := by
  obtain ⟨h1, h2, h3, h4, h5, h6, h7, h8⟩ := okT_parts h
  unfold linesT toksT
  simp only [List.flatten_append, ← List.flatMap_def, List.flatMap_map]
  refine onesQ_app (onesQ_flat _ _ _ fun x hx => ?_) (onesQ_app (q_list q_common coQ (fun _ => rfl) h2) (onesQ_app (onesQ_flat _ _ _ fun x hx => ?_) (onesQ_app (onesQ_flat _ _ _ fun x hx => ?_) (onesQ_app (onesQ_flat _ _ _ fun x hx => ?_) (onesQ_app (onesQ_flat _ _ _ fun x hx => ?_) (onesQ_app (q_list q_drop drQ (fun _ => rfl) h7) (q_list q_allow alQ (fun _ => rfl) h8)))))))
  · have := List.all_eq_true.1 h1 x hx
    unfold scK at this
    rw [Bool.and_eq_true] at this
    exact ⟨q_script, q_name this.1, q_spans this.2⟩
  · have := List.all_eq_true.1 h3 x hx
    unfold maK at this
    rw [Bool.and_eq_true] at this
    exact ⟨q_mark, q_rune this.2, q_num this.1, q_semi, trivial⟩
  · have := List.all_eq_true.1 h4 x hx
    unfold prK at this
    rw [Bool.and_eq_true, Bool.and_eq_true] at this
    exact ⟨q_pair, q_rune this.1, q_asg, q_rune this.2.1, q_plus, q_rune this.2.2, q_semi, trivial⟩
  · exact q_map q_fold (List.all_eq_true.1 h5 x hx)
  · exact q_map q_look (List.all_eq_true.1 h6 x hx)
/-- The words of a line, and what stands behind each. -/
def lineP : List ByteArray → List (ByteArray × UInt8)
  | [] => []
  | [w] => [(w, 10)]
  | w :: u :: ws => (w, 32) :: lineP (u :: ws)
theorem lineP_fst : ∀ (ws : List ByteArray), (lineP ws).map Prod.fst = ws
  | [] => rfl
  | [w] => rfl
  | w :: u :: ws => by show w :: (lineP (u :: ws)).map Prod.fst = _; rw [lineP_fst (u :: ws)]
theorem lineP_blank : ∀ (ws : List ByteArray) (x : ByteArray × UInt8), x ∈ lineP ws → blankB x.2.toNat = true
  | [], x, h => by cases h
  | [w], x, h => by rw [List.mem_singleton.1 h]; rfl
  | w :: u :: ws, x, h => by
    rcases List.mem_cons.1 h with rfl | h
    · rfl
    · exact lineP_blank (u :: ws) x h
theorem lineP_text : ∀ (ws : List ByteArray) (w : ByteArray), w.data.toList ++ (wdL true ws ++ [10]) = (sepB (lineP (w :: ws))).data.toList
  | [], w => by
    show w.data.toList ++ [10] = (w ++ ((⟨#[10]⟩ : ByteArray) ++ ByteArray.empty)).data.toList
    simp
  | u :: ws, w => by
    show w.data.toList ++ ([32] ++ u.data.toList ++ wdL true ws ++ [10]) = (w ++ ((⟨#[32]⟩ : ByteArray) ++ sepB (lineP (u :: ws)))).data.toList
    have h := lineP_text ws u
    have e : (w ++ ((⟨#[32]⟩ : ByteArray) ++ sepB (lineP (u :: ws)))).data.toList = w.data.toList ++ ([32] ++ (sepB (lineP (u :: ws))).data.toList) := by simp
    rw [e, ← h]
    simp only [List.append_assoc]
theorem sepB_app : ∀ (a b : List (ByteArray × UInt8)), (sepB (a ++ b)).data.toList = (sepB a).data.toList ++ (sepB b).data.toList
  | [], b => by show (sepB b).data.toList = [] ++ _; rfl
  | x :: a, b => by
    show (x.1 ++ ((⟨#[x.2]⟩ : ByteArray) ++ sepB (a ++ b))).data.toList = (x.1 ++ ((⟨#[x.2]⟩ : ByteArray) ++ sepB a)).data.toList ++ _
    have := sepB_app a b
    simp only [ByteArray.data_append, Array.toList_append, this, List.append_assoc]
theorem lines_text : ∀ (ls : List (List ByteArray)), (∀ l ∈ ls, l ≠ []) → ls.flatMap lineB = (sepB (ls.flatMap lineP)).data.toList
  | [], _ => rfl
  | l :: ls, h => by
    rw [List.flatMap_cons, List.flatMap_cons, sepB_app, lines_text ls (fun x hx => h x (List.mem_cons_of_mem _ hx))]
    congr 1
    cases l with
    | nil => exact absurd rfl (h [] (List.mem_cons_self ..))
    | cons w ws =>
      rw [← lineP_text ws w]
      show [] ++ w.data.toList ++ wdL true ws ++ [10] = _
      simp only [List.nil_append, List.append_assoc]
theorem lines_some (T : TV) : ∀ l ∈ linesT T, l ≠ [] := by
  intro l h
  unfold linesT at h
  simp only [List.mem_append, List.mem_map] at h
  have hL : ∀ w x, l ∈ liL w x → l ≠ [] := by
    intro w x h
    unfold liL at h
    split at h
    · cases h
    · rw [List.mem_singleton.1 h]; exact List.cons_ne_nil _ _
  rcases h with ⟨x, _, rfl⟩ | h | ⟨x, _, rfl⟩ | ⟨x, _, rfl⟩ | ⟨x, _, rfl⟩ | ⟨x, _, rfl⟩ | h | h
  · exact List.cons_ne_nil _ _
  · exact hL _ _ h
  · exact List.cons_ne_nil _ _
  · exact List.cons_ne_nil _ _
  · exact List.cons_ne_nil _ _
  · exact List.cons_ne_nil _ _
  · exact hL _ _ h
  · exact hL _ _ h
/-- The text of a table. -/
def textT (T : TV) : ByteArray := sepB ((linesT T).flatMap lineP)
theorem textT_eq (T : TV) : (⟨((linesT T).flatMap lineB).toArray⟩ : ByteArray) = textT T := by
  unfold textT
  rw [lines_text _ (lines_some T)]
theorem textT_size (T : TV) : (textT T).size = ((linesT T).flatMap lineB).length := by rw [← textT_eq]; rfl
theorem ones_sep : ∀ (l : List (ByteArray × UInt8)) (qs : List Tq), (∀ x ∈ l, blankB x.2.toNat = true) → OnesQ (l.map Prod.fst) qs → ∃ vs, OnesL l vs ∧ vs.map qOf = qs
  | [], [], _, _ => ⟨[], trivial, rfl⟩
  | x :: l, q :: qs, hb, h => by
    obtain ⟨⟨v, h1, h2⟩, h3⟩ := h
    obtain ⟨vs, h4, h5⟩ := ones_sep l qs (fun y hy => hb y (List.mem_cons_of_mem _ hy)) h3
    exact ⟨v :: vs, ⟨h1, hb x (List.mem_cons_self ..), h4⟩, by rw [List.map_cons, h2, h5]⟩
  | [], q :: qs, _, h => h.elim
  | x :: l, [], _, h => h.elim
theorem has_self : ∀ (ws pre : List W8), Has (pre ++ ws) pre.length (ws.map stripW)
  | [], pre => trivial
  | x :: ws, pre => by
    refine ⟨⟨x, by rw [List.getElem?_append_right (Nat.le_refl _), Nat.sub_self]; rfl, rfl⟩, ?_⟩
    have := has_self ws (pre ++ [x])
    rw [List.append_assoc, List.length_append] at this
    exact this
theorem flat_fst : ∀ (ls : List (List ByteArray)), (ls.flatMap lineP).map Prod.fst = ls.flatten
  | [] => rfl
  | l :: ls => by rw [List.flatMap_cons, List.map_append, lineP_fst, flat_fst ls, List.flatten_cons]
/-- The words of a table's text. -/
theorem text_words {T : TV} (h : okT T = true) : (wordsV (textT T)).ok = true ∧ (wsOf (textT T)).map stripW = toksT T ∧ (wsOf (textT T)) = (places 0 ((linesT T).flatMap lineP)).map (fun q => w8 (mkW (textT T) q)) := by
  obtain ⟨vs, h1, h2⟩ := ones_sep ((linesT T).flatMap lineP) (toksT T) (fun x hx => by
    obtain ⟨l, _, hl⟩ := List.mem_flatMap.1 hx
    exact lineP_blank l x hl) (by rw [flat_fst]; exact q_table h)
  obtain ⟨h3, h4, h5⟩ := words_sep h1
  have e : wsOf (textT T) = (places 0 ((linesT T).flatMap lineP)).map (fun q => w8 (mkW (textT T) q)) := by
    unfold wsOf textT
    rw [h4, List.map_map]
    rfl
  refine ⟨h3, ?_, e⟩
  have e2 : ∀ q, stripW (w8 (mkW (textT T) q)) = qOf (wordV (rst (textT T) q)) := fun q => by
    generalize hv : wordV (rst (textT T) q) = v
    unfold w8 mkW stripW qOf
    rw [hv]
  rw [e, List.map_map, ← h2, ← h5, List.map_map]
  exact List.map_congr_left (fun q _ => e2 q)
theorem text_has {T : TV} (h : okT T = true) : Has (wsOf (textT T)) 0 (toksT T) ∧ (wsOf (textT T)).length = (toksT T).length := by
  have h1 := (text_words h).2.1
  generalize wsOf (textT T) = ws at *
  generalize toksT T = qs at *
  have h2 : Has ws 0 (ws.map stripW) := has_self ws []
  rw [h1] at h2
  exact ⟨h2, by rw [← h1, List.length_map]⟩
end Go.Proofs.YtbefahknbdjnpaaGreatDoor
/- What is printed is read back: the table that is read. Plain mathematics. -/
namespace Go.Proofs.YtbefahknbdjnpaaGreatDoor
open Go.RowKit Go.Shelf
set_option linter.unusedVariables false
theorem upd_co (ws : List W8) (l : List (Int × Int)) (k : Nat) (T : TV) : updL coQ (fun T k l => { T with co := T.co ++ l, r2 := T.r2 ++ (spanI (k + 2) l).map (atV ws) }) T k (liS l) = { T with co := T.co ++ l, r2 := T.r2 ++ (spanI (k + 2) l).map (atV ws) } := by
  unfold liS
  split
  · rename_i h
    obtain rfl := List.length_eq_zero_iff.1 h
    show T = { T with co := T.co ++ [], r2 := T.r2 ++ [] }
    rw [List.append_nil, List.append_nil]
  · rfl
theorem upd_dr (ws : List W8) (l : List (Int × Int)) (k : Nat) (T : TV) : updL drQ (fun T k l => { T with dr := T.dr ++ l, r7 := T.r7 ++ (spanI (k + 2) l).map (atV ws) }) T k (liS l) = { T with dr := T.dr ++ l, r7 := T.r7 ++ (spanI (k + 2) l).map (atV ws) } := by
  unfold liS
  split
  · rename_i h
    obtain rfl := List.length_eq_zero_iff.1 h
    show T = { T with dr := T.dr ++ [], r7 := T.r7 ++ [] }
    rw [List.append_nil, List.append_nil]
  · rfl
theorem upd_al (ws : List W8) (l : List (Int × Int)) (k : Nat) (T : TV) : updL alQ (fun T k l => { T with al := T.al ++ l, r8 := T.r8 ++ (spanI (k + 2) l).map (atV ws) }) T k (liS l) = { T with al := T.al ++ l, r8 := T.r8 ++ (spanI (k + 2) l).map (atV ws) } := by
  unfold liS
  split
  · rename_i h
    obtain rfl := List.length_eq_zero_iff.1 h
    show T = { T with al := T.al ++ [], r8 := T.r8 ++ [] }
    rw [List.append_nil, List.append_nil]
  · rfl
theorem flat_ge {α : Type} (tk : α → List Tq) (h : ∀ x, 1 ≤ (tk x).length) : ∀ (l : List α), l.length ≤ (l.flatMap tk).length
  | [] => Nat.le_refl _
  | x :: l => by have := flat_ge tk h l; have := h x; rw [List.flatMap_cons, List.length_append, List.length_cons]; omega
def kT1 (T : TV) : Nat := 0 + (T.sc.flatMap scQ).length
def kT2 (T : TV) : Nat := kT1 T + ((liS T.co).flatMap coQ).length
def kT3 (T : TV) : Nat := kT2 T + (T.ma.flatMap maQ).length
def kT4 (T : TV) : Nat := kT3 T + (T.pr.flatMap prQ).length
def kT5 (T : TV) : Nat := kT4 T + ((T.fo.map runesX).flatMap foQ).length
def kT6 (T : TV) : Nat := kT5 T + ((T.lk.map runesX).flatMap lkQ).length
def kT7 (T : TV) : Nat := kT6 T + ((liS T.dr).flatMap drQ).length
def kT8 (T : TV) : Nat := kT7 T + ((liS T.al).flatMap alQ).length
/-- The table that is read, with the places of its rows. -/
def backT (ws : List W8) (T : TV) : TV :=
  ⟨T.sc, T.co, T.ma, T.pr, T.fo, T.lk, T.dr, T.al, (idxL scQ 0 T.sc).map (atV ws), (spanI (kT1 T + 2) T.co).map (atV ws), (idxL maQ (kT2 T) T.ma).map (atV ws), (idxL prQ (kT3 T) T.pr).map (atV ws), (idxL foQ (kT4 T) (T.fo.map runesX)).map (atV ws), (idxL lkQ (kT5 T) (T.lk.map runesX)).map (atV ws), (spanI (kT6 T + 2) T.dr).map (atV ws), (spanI (kT7 T + 2) T.al).map (atV ws)⟩
theorem maps_back {l : List (Int × ByteArray)} (h : l.all mpK = true) : (l.map runesX).map (fun x => (x.1, runesBytes x.2)) = l ∧ ∀ x ∈ l.map runesX, x.2 ≠ [] := by
  have hm : ∀ x ∈ l, okTo x.2 = true := fun x hx => by
    have := List.all_eq_true.1 h x hx
    unfold mpK at this
    rw [Bool.and_eq_true] at this
    exact this.1
  constructor
  · rw [List.map_map]
    conv => rhs; rw [← List.map_id l]
    refine List.map_congr_left (fun x hx => ?_)
    show (x.1, runesBytes (runesL x.2)) = x
    rw [okTo_back (hm x hx)]
  · intro x hx
    obtain ⟨y, hy, rfl⟩ := List.mem_map.1 hx
    exact okTo_some (hm y hy)
theorem rules_end {ws : List W8} {eb el ec : Int} {T : TV} (f : Nat) : rulesGo ws eb el ec f ws.length none T = ⟨ws.length, none, T⟩ := by
  cases f with
  | zero => rfl
  | succ f =>
    unfold rulesGo
    rw [List.getElem?_eq_none (Nat.le_refl _)]
set_option maxHeartbeats 4000000 in
theorem rules_text {ws : List W8} {T : TV} (eb el ec : Int) (hk : okT T = true) (h : Has ws 0 (toksT T)) (hl : ws.length = (toksT T).length) : rulesV ws eb el ec = ⟨ws.length, none, backT ws T⟩ := by
  obtain ⟨_, _, _, _, o5, o6, _, _⟩ := okT_parts hk
  obtain ⟨e5, n5⟩ := maps_back o5
  obtain ⟨e6, n6⟩ := maps_back o6
  have hlen : ws.length = kT8 T := by
    rw [hl]
    unfold toksT kT8 kT7 kT6 kT5 kT4 kT3 kT2 kT1
    simp only [List.length_append]
    omega
  have g1 := flat_ge scQ (fun x => by unfold scQ; rw [List.length_cons]; omega) T.sc
  have g2 := flat_ge coQ (fun x => by unfold coQ; rw [List.length_cons]; omega) (liS T.co)
  have g3 := flat_ge maQ (fun x => by unfold maQ; rw [List.length_cons]; omega) T.ma
  have g4 := flat_ge prQ (fun x => by unfold prQ; rw [List.length_cons]; omega) T.pr
  have g5 := flat_ge foQ (fun x => by unfold foQ; rw [List.length_cons]; omega) (T.fo.map runesX)
  have g6 := flat_ge lkQ (fun x => by unfold lkQ; rw [List.length_cons]; omega) (T.lk.map runesX)
  have g7 := flat_ge drQ (fun x => by unfold drQ; rw [List.length_cons]; omega) (liS T.dr)
  have g8 := flat_ge alQ (fun x => by unfold alQ; rw [List.length_cons]; omega) (liS T.al)
  unfold toksT at h
  obtain ⟨h1, h⟩ := has_app.1 h
  obtain ⟨h2, h⟩ := has_app.1 h
  obtain ⟨h3, h⟩ := has_app.1 h
  obtain ⟨h4, h⟩ := has_app.1 h
  obtain ⟨h5, h⟩ := has_app.1 h
  obtain ⟨h6, h⟩ := has_app.1 h
  obtain ⟨h7, h8⟩ := has_app.1 h
  obtain ⟨f, hf⟩ : ∃ f, ws.length + 1 = f + (liS T.al).length + (liS T.dr).length + (T.lk.map runesX).length + (T.fo.map runesX).length + T.pr.length + T.ma.length + (liS T.co).length + T.sc.length := by
    refine ⟨ws.length + 1 - ((liS T.al).length + (liS T.dr).length + (T.lk.map runesX).length + (T.fo.map runesX).length + T.pr.length + T.ma.length + (liS T.co).length + T.sc.length), ?_⟩
    rw [hlen]
    unfold kT8 kT7 kT6 kT5 kT4 kT3 kT2 kT1
    omega
  have u5 : ∀ k T', updL foQ (fun (T : TV) (k : Nat) (x : Int × List Int) => { T with fo := T.fo ++ [(x.1, runesBytes x.2)], r5 := T.r5 ++ [atV ws k] }) T' k (T.fo.map runesX) = { T' with fo := T'.fo ++ T.fo, r5 := T'.r5 ++ (idxL foQ k (T.fo.map runesX)).map (atV ws) } := fun k T' => by rw [upd_fo, e5]
  have u6 : ∀ k T', updL lkQ (fun (T : TV) (k : Nat) (x : Int × List Int) => { T with lk := T.lk ++ [(x.1, runesBytes x.2)], r6 := T.r6 ++ [atV ws k] }) T' k (T.lk.map runesX) = { T' with lk := T'.lk ++ T.lk, r6 := T'.r6 ++ (idxL lkQ k (T.lk.map runesX)).map (atV ws) } := fun k T' => by rw [upd_lk, e6]
  have hgo : ∀ k (X : TV), k = ws.length → rulesGo ws eb el ec f k none X = ⟨ws.length, none, X⟩ := fun k X hk => by subst hk; exact rules_end f
  unfold rulesV
  rw [hf]
  rw [rules_fold scQ (fun T k x => { T with sc := T.sc ++ [x], r1 := T.r1 ++ [atV ws k] }) (fun _ => True) (fun k x T _ h => sc_step k x T h) T.sc _ 0 TV0 (fun _ _ => trivial) h1, upd_sc]
  rw [rules_fold coQ (fun T k l => { T with co := T.co ++ l, r2 := T.r2 ++ (spanI (k + 2) l).map (atV ws) }) (fun _ => True) (fun k x T _ h => co_step k x T h) (liS T.co) _ _ _ (fun _ _ => trivial) h2, upd_co]
  rw [rules_fold maQ (fun T k x => { T with ma := T.ma ++ [x], r3 := T.r3 ++ [atV ws k] }) (fun _ => True) (fun k x T _ h => ma_step k x T h) T.ma _ _ _ (fun _ _ => trivial) h3, upd_ma]
  rw [rules_fold prQ (fun T k x => { T with pr := T.pr ++ [x], r4 := T.r4 ++ [atV ws k] }) (fun _ => True) (fun k x T _ h => pr_step k x T h) T.pr _ _ _ (fun _ _ => trivial) h4, upd_pr]
  rw [rules_fold foQ (fun (T : TV) (k : Nat) (x : Int × List Int) => { T with fo := T.fo ++ [(x.1, runesBytes x.2)], r5 := T.r5 ++ [atV ws k] }) (fun (x : Int × List Int) => x.2 ≠ []) (fun k x T hx h => fo_step k x hx T h) (T.fo.map runesX) _ _ _ n5 h5, u5]
  rw [rules_fold lkQ (fun (T : TV) (k : Nat) (x : Int × List Int) => { T with lk := T.lk ++ [(x.1, runesBytes x.2)], r6 := T.r6 ++ [atV ws k] }) (fun (x : Int × List Int) => x.2 ≠ []) (fun k x T hx h => lk_step k x hx T h) (T.lk.map runesX) _ _ _ n6 h6, u6]
  rw [rules_fold drQ (fun T k l => { T with dr := T.dr ++ l, r7 := T.r7 ++ (spanI (k + 2) l).map (atV ws) }) (fun _ => True) (fun k x T _ h => dr_step k x T h) (liS T.dr) _ _ _ (fun _ _ => trivial) h7, upd_dr]
  rw [rules_fold alQ (fun T k l => { T with al := T.al ++ l, r8 := T.r8 ++ (spanI (k + 2) l).map (atV ws) }) (fun _ => True) (fun k x T _ h => al_step k x T h) (liS T.al) _ _ _ (fun _ _ => trivial) h8, upd_al]
  unfold kT8 kT7 kT6 kT5 kT4 kT3 kT2 kT1 at hlen
  refine (hgo _ _ hlen.symm).trans ?_
  unfold backT kT7 kT6 kT5 kT4 kT3 kT2 kT1
  rfl
/-- A table's text is read as that table. -/
theorem parse_text {T : TV} (h : okT T = true) : parseA (textT T) = ⟨(wsOf (textT T)).length, none, backT (wsOf (textT T)) T⟩ := by
  have h1 := text_has h
  unfold parseA
  rw [if_pos (text_words h).1]
  unfold parseV
  exact rules_text _ _ _ h h1.1 h1.2
theorem print_text {T : TV} (h : okT T = true) (hl : (textT T).size ≤ 262144) : printV T = (textT T, 0) := by
  rw [print_ok h (by rw [← textT_size]; exact hl), textT_eq]
theorem print_three (T : TV) : (okT T = true ∧ (textT T).size ≤ 262144 ∧ printV T = (textT T, 0)) ∨ (okT T = true ∧ 262144 < (textT T).size ∧ printV T = (⟨#[]⟩, 3)) ∨ (okT T = false ∧ printV T = (⟨#[]⟩, 5)) := by
  cases h : okT T with
  | false => exact .inr (.inr ⟨rfl, print_bad h⟩)
  | true =>
    rcases Nat.lt_or_ge 262144 (textT T).size with q | q
    · exact .inr (.inl ⟨rfl, q, print_long h (by rw [← textT_size]; exact q)⟩)
    · exact .inl ⟨rfl, q, print_text h q⟩
end Go.Proofs.YtbefahknbdjnpaaGreatDoor
/- A table of as many marks as can be written. Plain mathematics. -/
namespace Go.Proofs.YtbefahknbdjnpaaGreatDoor
open Go.RowKit Go.Shelf
set_option linter.unusedVariables false
def limM (j : Nat) : List (Int × Int) := List.replicate j (768, 10) ++ List.replicate (16383 - j) (768, 1)
def limT (j : Nat) : TV := ⟨[], [], limM j, [], [], [], [], [], [], [], [], [], [], [], [], []⟩
theorem limM_len {j : Nat} (h : j ≤ 16383) : (limM j).length = 16383 := by
  unfold limM
  rw [List.length_append, List.length_replicate, List.length_replicate]
  omega
theorem limM_mem {j : Nat} {x : Int × Int} (h : x ∈ limM j) : x = (768, 10) ∨ x = (768, 1) := by
  unfold limM at h
  rcases List.mem_append.1 h with h | h
  · exact .inl (List.eq_of_mem_replicate h)
  · exact .inr (List.eq_of_mem_replicate h)
theorem lim_k1 : maK (768, 10) = true := by decide +kernel
theorem lim_k2 : maK (768, 1) = true := by decide +kernel
theorem lim_l1 : (lineB (maW (768, 10))).length = 17 := by decide +kernel
theorem lim_l2 : (lineB (maW (768, 1))).length = 16 := by decide +kernel
theorem lim_ok (j : Nat) : okT (limT j) = true := by
  have : (limM j).all maK = true := List.all_eq_true.2 fun x hx => by
    rcases limM_mem hx with rfl | rfl
    · exact lim_k1
    · exact lim_k2
  unfold okT limT
  show (true && (true && ((limM j).all maK && (true && (true && (true && (true && true))))))) = true
  rw [this]
  rfl
theorem rep_len {α : Type} (f : α → List UInt8) (x : α) : ∀ n, ((List.replicate n x).flatMap f).length = n * (f x).length
  | 0 => by simp
  | n + 1 => by rw [List.replicate_succ, List.flatMap_cons, List.length_append, rep_len f x n, Nat.succ_mul, Nat.add_comm]
theorem lim_size {j : Nat} (h : j ≤ 16383) : (textT (limT j)).size = 262128 + j := by
  rw [textT_size]
  have e : linesT (limT j) = (limM j).map maW := by
    unfold linesT limT
    show [] ++ ([] ++ ((limM j).map maW ++ ([] ++ ([] ++ ([] ++ ([] ++ [])))))) = _
    simp
  rw [e, List.flatMap_map]
  unfold limM
  rw [List.flatMap_append, List.length_append, rep_len (fun x => lineB (maW x)), rep_len (fun x => lineB (maW x)), lim_l1, lim_l2]
  omega
theorem limM_set {j : Nat} (h : j < 16383) : (limM j).set j (768, 10) = limM (j + 1) := by
  unfold limM
  rw [List.set_append_right _ _ (by rw [List.length_replicate]; omega), List.length_replicate, Nat.sub_self]
  obtain ⟨n, hn⟩ : ∃ n, 16383 - j = n + 1 := ⟨16383 - j - 1, by omega⟩
  rw [hn, show 16383 - (j + 1) = n by omega, List.replicate_succ]
  show List.replicate j (768, 10) ++ ((768, 10) :: List.replicate n (768, 1)) = _
  rw [List.replicate_succ', List.append_assoc]
  rfl
theorem encM2_rep (n : Nat) : encM2 (List.replicate (n + 1) ((768, 1) : Int × Int)) = encM2 (List.replicate n (768, 1)) ++ [.int .i32 768, .int .i64 1] := by
  rw [List.replicate_succ', encM2_app]
  rfl
theorem encM2_set : ∀ (l : List (Int × Int)) (j : Nat) (x : Int × Int) (c : Int), l[j]? = some x → (encM2 l).set (2 * j + 1) (.int .i64 c) = encM2 (l.set j (x.1, c))
  | [], j, x, c, h => by cases h
  | y :: l, 0, x, c, h => by obtain rfl := Option.some.inj h; rfl
  | y :: l, j + 1, x, c, h => by
    show _ :: _ :: (encM2 l).set (2 * j + 1) _ = _ :: _ :: encM2 (l.set j (x.1, c))
    rw [encM2_set l j x c h]
theorem limM_at {j : Nat} (h : j < 16383) : (limM j)[j]? = some (768, 1) := by
  unfold limM
  rw [List.getElem?_append_right (by rw [List.length_replicate]; omega), List.length_replicate, Nat.sub_self, List.getElem?_replicate, if_pos (by omega)]
theorem encM2_lim {j : Nat} (h : j < 16383) : (encM2 (limM j)).set (2 * j + 1) (.int .i64 10) = encM2 (limM (j + 1)) := by rw [encM2_set _ _ _ _ (limM_at h), limM_set h]
theorem limM_zero : limM 0 = List.replicate 16383 (768, 1) := rfl
end Go.Proofs.YtbefahknbdjnpaaGreatDoor
/- Within of the books, told for all numbers within the reach. -/
namespace Go.Proofs.YtbefahknbdjnpaaGreatDoor
open Go.RowKit Go.Shelf
set_option linter.unusedVariables false

theorem within_any (n lo hi : Int) (hl : -4 ≤ lo) (hlh : lo ≤ hi) (hh : hi ≤ 1099511627776) (w : World) : Calls Tryz.prog 11 #[.int .i64 n, .int .i64 lo, .int .i64 hi] w fun e w' => e = .returned (.int .i64 (lo + n % (hi - lo + 1))) ∧ w' = w := by
  have hm : (hi - lo + 1 == 0) = false := by rw [beq_eq_false_iff_ne]; omega
  have ht := Int.tmod_eq_emod (a := n) (b := hi - lo + 1)
  have h1 := Int.emod_nonneg n (show hi - lo + 1 ≠ 0 by omega)
  have h2 := Int.emod_lt_of_pos n (show 0 < hi - lo + 1 by omega)
  have hab : ((hi - lo + 1).natAbs : Int) = hi - lo + 1 := by omega
  have HE : Hz ((n.tmod (hi - lo + 1) = n % (hi - lo + 1)) ∨ (n.tmod (hi - lo + 1) = n % (hi - lo + 1) - (hi - lo + 1))) := hide <| by
    rw [ht]
    split
    · exact .inl (by omega)
    · exact .inr (by omega)
  have H1 := hide h1
  have H2 := hide h2
  clear ht h1 h2 hab
  generalize n % (hi - lo + 1) = q at *
  go_enter Tryz.func11, Tryz.ntmps11
  go_wp2
  all_goals rename_i hc
  all_goals go_ret
  all_goals refine ⟨?_, rfl⟩
  all_goals have he := unhide HE
  all_goals have h1 := unhide H1
  all_goals have h2 := unhide H2
  all_goals generalize n.tmod (hi - lo + 1) = r at *
  all_goals first
    | (show Ending.returned (Value.int .i64 (wrap64 (lo + wrap64 (wrap64 (wrap64 (r + hi) - lo) + 1)))) = _; rw [show wrap64 (lo + wrap64 (wrap64 (wrap64 (r + hi) - lo) + 1)) = lo + q by unfold wrap64; omega])
    | (show Ending.returned (Value.int .i64 (wrap64 (lo + r))) = _; rw [show wrap64 (lo + r) = lo + q by unfold wrap64; omega])
end Go.Proofs.YtbefahknbdjnpaaGreatDoor
