/- SetsAll: the runes of any set, rising and falling, left early, and again. -/
import Derived.Test.YthbaheneikifiaaSetBackW
import Derived.Test.YthbaheneikifiaaMarks
import Derived.Test.YthbaheneikifiaaWithin
import Derived.Test.YthbaheneikifiaaRefAsk
import Derived.Test.YthbaheneikifiaaArgP
namespace Go.Proofs.Ythbaheneikifiaa
open Go.RowKit Go.Shelf
attribute [local go_sem] Oper.semAt_some
set_option linter.unusedVariables false
theorem eq_nilS (f : FuncId) (p : Value) (w : World) : (binOp BinOp.eql 75 (.func (.func f) #[] #[p]) .nilFunc).run Try.prog w = .ok (.bool false) w := by
  have e : ∃ d, Op.maxDepth = d + 1 := ⟨_, rfl⟩
  obtain ⟨d, hd⟩ := e
  simp [binOp, Op.equal, hd, Op.equalIn, run_underlying Try.underlying75]
theorem loop_down {F : Fence} {n : Nat} {P : Program} {Q : Exit → Act → World → Prop} {c : Code} (I : Nat → Act → World → Prop)
    (round : ∀ k a w, I k a w → ∀ K : Act → World → Prop, (∀ k' a' w', k' < k → I k' a' w' → K a' w') → c.wpIn F n P (Exit.then K Q) a w) {k : Nat} {a : Act} {w : World} (h : I k a w) : (Code.loop c).wpIn F n P Q a w := by
  have key : ∀ m k a w, k < m → I k a w → Code.roundsIn F n P c Q m a w := by
    intro m
    induction m with
    | zero => intro k a w hk; omega
    | succ m ih => exact fun k a w hk hI => round k a w hI _ (fun k' a' w' hk' hI' => ih k' a' w' (by omega) hI')
  exact wpIn_loop_rounds (k + 1) (key (k + 1) k a w (by omega) h)
theorem Marks.lower {lo lo' : Nat} {W : World} (h : lo' ≤ lo) : ∀ {ds : List Deferred} {hi : Nat}, Marks lo W hi ds → Marks lo' W hi ds
  | [], _, _ => trivial
  | d :: ds, hi, hm => by
    obtain ⟨D, h1, h2, h3, h4, h5⟩ := hm
    exact ⟨D, by omega, h2, h3, h4, Marks.lower h h5⟩
theorem Marks.old {lo hi B : Nat} {ds : List Deferred} {X Y : World} (h : Marks lo X hi ds) (hb : Below B X Y) (hB : hi ≤ B) : Marks lo Y hi ds := h.keep (fun k hk he => (hb.block k (by omega)).trans he)
/-- What the law's rounds stand on: the set, the reference's spans, the boxes. -/
structure AllSt (w T : World) (B B6 B8 Ba Bb : Nat) (d : Option Addr) (cd : Nat) (zs : List (Int × Int)) (st : Int) : Prop where
  made : ∃ lo, w.heap.size < lo ∧ Made T B lo zs
  stop : Blk T w.heap.size #[.int .i64 st] 3
  res : Blk T (w.heap.size + 1) #[.bool false] 4
  want : Blk T B6 #[.slice d zs.length cd] 65
  own : ∃ lo, w.heap.size < lo ∧ T.ownsRow lo 63 2 (.slice d zs.length cd) zs.length (encP zs)
  size : Blk T B8 #[.int .i64 (tot zs)] 3
  there : Blk T Ba #[.pointer (some ⟨B, 0, none⟩)] 58
  back : Blk T Bb #[.pointer (some ⟨B, 0, none⟩)] 58
  len : zs.length ≤ 60
  sp : Spread zs
  old : Below w.heap.size w T
  ge : w.heap.size + 1 < B6 ∧ w.heap.size + 1 < B8 ∧ w.heap.size + 1 < Ba ∧ w.heap.size + 1 < Bb
theorem AllSt.set {w T : World} {B B6 B8 Ba Bb : Nat} {d : Option Addr} {cd : Nat} {zs : List (Int × Int)} {st : Int} (h : AllSt w T B B6 B8 Ba Bb d cd zs st) : SetAt T B zs := by
  obtain ⟨lo, _, hm⟩ := h.made
  exact hm.set h.sp (by have := h.len; omega)
theorem AllSt.row {w T : World} {B B6 B8 Ba Bb : Nat} {d : Option Addr} {cd : Nat} {zs : List (Int × Int)} {st : Int} (h : AllSt w T B B6 B8 Ba Bb d cd zs st) : RowP T d zs := by
  obtain ⟨lo, _, ho⟩ := h.own
  obtain ⟨a, c, e, hr, _⟩ := own_row ho
  cases e
  exact hr
theorem own_away {T : World} {lo b i E sz n : Nat} {v : Value} {xs : List Value} (h : T.ownsRow lo E sz v n xs) (hb : b < lo) (u : Value) : (T.setCell ⟨b, i, none⟩ u).ownsRow lo E sz v n xs := by
  refine h.kept (grown_setCell' T ⟨b, i, none⟩ u) ?_
  cases hv : v.ownBlock with
  | none => exact .inl rfl
  | some k => exact .inr (fun e => by have := (h.lt k hv).1; simp at e; omega)
theorem AllSt.setStop {w T : World} {B B6 B8 Ba Bb : Nat} {d : Option Addr} {cd : Nat} {zs : List (Int × Int)} {st : Int} (h : AllSt w T B B6 B8 Ba Bb d cd zs st) (st' : Int) : AllSt w (T.setCell ⟨w.heap.size, 0, none⟩ (.int .i64 st')) B B6 B8 Ba Bb d cd zs st' := by
  obtain ⟨g1, g2, g3, g4⟩ := h.ge
  obtain ⟨lo, hl, hm⟩ := h.made
  obtain ⟨lo', hl', ho⟩ := h.own
  obtain ⟨va, vb, m1, m2, m3⟩ := hm.form
  have hlB := hm.lo
  exact ⟨⟨lo, hl, ⟨⟨va, vb, m1.other (by omega) _, own_away m2 hl _, own_away m3 hl _⟩, hlB⟩⟩, h.stop.set 0 _, h.res.other (by omega) _, h.want.other (by omega) _, ⟨lo', hl', own_away ho hl' _⟩, h.size.other (by omega) _, h.there.other (by omega) _, h.back.other (by omega) _, h.len, h.sp, h.old.setCell (p := ⟨w.heap.size, 0, none⟩) (Nat.le_refl _) _, ⟨g1, g2, g3, g4⟩⟩
theorem refAt_nth {zs : List (Int × Int)} (h : RightL zs) {x : Nat} (hx : x < tot zs) : refAtOf zs (x : Int) = nthOf zs (x : Int) := by
  have := tot_eq h
  unfold refAtOf
  rw [if_pos (by omega)]
theorem range_inj {i j : Nat} (h : List.range i = List.range j) : i = j := by simpa using congrArg List.length h
/-- What the rounds keep: how many runes have come. -/
def RiseI (T : World) (Bn hi : Nat) (ds : List Deferred) (N : Nat) (pre : List Nat) (W : World) : Prop := ∃ m : Nat, pre = List.range m ∧ m ≤ N ∧ Blk W Bn #[.int .i64 m] 3 ∧ Below T.heap.size T W ∧ Marks T.heap.size W hi ds
def FallI (T : World) (Bn hi : Nat) (ds : List Deferred) (N : Nat) (pre : List Nat) (W : World) : Prop := ∃ j m : Nat, pre = dnL N j ∧ j + m = N ∧ Blk W Bn #[.int .i64 m] 3 ∧ Below T.heap.size T W ∧ Marks T.heap.size W hi ds
def LeftX (T : World) (Bn hi : Nat) (ds : List Deferred) (N id : Nat) (st : Int) (c : Code) (pre : List Nat) (W : World) : Prop := c = .exit id ∧ ∃ m : Nat, m ≤ N ∧ (m : Int) = st ∧ Blk W Bn #[.int .i64 m] 3 ∧ Below T.heap.size T W ∧ Marks T.heap.size W hi ds
theorem RiseI.old {T : World} {Bn hi N B : Nat} {ds : List Deferred} (h1 : Bn < B) (h2 : T.heap.size ≤ B) (h3 : hi ≤ B) : Old B (RiseI T Bn hi ds N) := by
  rintro s X Y ⟨m, p1, p2, p3, p4, p5⟩ hb
  exact ⟨m, p1, p2, p3.below hb h1, p4.trans (hb.mono h2), p5.old hb h3⟩
theorem FallI.old {T : World} {Bn hi N B : Nat} {ds : List Deferred} (h1 : Bn < B) (h2 : T.heap.size ≤ B) (h3 : hi ≤ B) : Old B (FallI T Bn hi ds N) := by
  rintro s X Y ⟨j, m, p1, p2, p3, p4, p5⟩ hb
  exact ⟨j, m, p1, p2, p3.below hb h1, p4.trans (hb.mono h2), p5.old hb h3⟩
theorem LeftX.old {T : World} {Bn hi N B id : Nat} {st : Int} {ds : List Deferred} (h1 : Bn < B) (h2 : T.heap.size ≤ B) (h3 : hi ≤ B) (c : Code) : Old B (LeftX T Bn hi ds N id st c) := by
  rintro s X Y ⟨hc, m, p1, p2, p3, p4, p5⟩ hb
  exact ⟨hc, m, p1, p2, p3.below hb h1, p4.trans (hb.mono h2), p5.old hb h3⟩
set_option maxRecDepth 100000 in
set_option maxHeartbeats 8000000 in
theorem law_all_in (n : Nat) (hn : 6 ≤ n) (a : Option Addr) (cap : Nat) (zs : List (Int × Int)) (hf : ∀ x ∈ zs, fitB x) (hcap : zs.length ≤ cap) (stop : Int) (w : World) (hr : RowP w a zs) :
    CallsIn Fence.wide n Try.prog 7 #[.slice a zs.length cap, .int .i64 stop] w fun e w' => e = .returned (.bool true) ∧ Below w.heap.size w w' := by
  have h1 : 1 ≤ n := by omega
  have HR := hide hr
  have HF := hide hf
  clear hr hf
  refine callsIn_of_wp_marks Try.func7 rfl trivial ?_ rfl
  simp only [Try.ntmps7, List.size_toArray, List.length_cons, List.length_nil, Nat.reduceAdd, Nat.reduceSub, Array.replicate_succ, Array.replicate_zero, List.push_toArray, List.append_toArray, List.nil_append, List.cons_append]
  have b0 := (Blk.new w #[.int .i64 stop] 3).alloc (.cells #[.bool false] 4)
  have b1 := Blk.new (w.alloc (.cells #[.int .i64 stop] 3)) #[.bool false] 4
  simp only [World.size_alloc] at b1
  have hB0 := ((Below.refl w.heap.size w).alloc (Nat.le_refl _) (.cells #[.int .i64 stop] 3)).alloc (by simp) (.cells #[.bool false] 4)
  have hz0 : ((w.alloc (.cells #[.int .i64 stop] 3)).alloc (.cells #[.bool false] 4)).heap.size = w.heap.size + 2 := by simp
  have Hb0 := hide b0
  have Hb1 := hide b1
  have HB0 := hide hB0
  have HZ0 := hide hz0
  clear b0 b1 hB0 hz0
  gi_wp2_with fail
  refine ⟨trivial, ?_⟩
  refine (callsIn_wide.2 (alive_any _)).mono ?_
  rintro e w1 ⟨rfl, hb⟩
  rw [unhide HZ0] at hb
  have Hc0 := hide ((unhide Hb0).below hb (by omega))
  have Hc1 := hide ((unhide Hb1).below hb (by omega))
  have HB1 := hide ((unhide HB0).trans (hb.mono (by omega)))
  clear hb Hb0 Hb1 HB0 HZ0
  gi_wp2_with fail
  refine ⟨trivial, ?_⟩
  refine (callsIn_wide.2 (few_any a cap zs hcap w1)).mono ?_
  rintro e w2 ⟨rfl, rfl⟩
  obtain ⟨xs, hxs⟩ : ∃ xs, xs = zs.take 60 := ⟨_, rfl⟩
  have HRx : Hid (RowP w2 a xs) := hide (by rw [hxs]; exact ((unhide HR).below (unhide HB1)).take 60)
  have HFx : Hid (∀ x ∈ xs, fitB x) := hide (by rw [hxs]; exact fun x hx => unhide HF x (List.mem_of_mem_take hx))
  have hxl : xs.length ≤ 60 := by rw [hxs, List.length_take]; omega
  rw [← hxs]
  clear hxs HR HF
  rcases errOf_cases xs with ⟨_, hR⟩ | hE
  · have HRt := hide hR
    clear hR
    gi_wp2_with fail
    refine ⟨trivial, ?_⟩
    refine (callsIn_wide.2 (made_right a cap xs (by omega) (unhide HRt) (unhide HFx) w2 (unhide HRx))).mono ?_
    rintro e w3 ⟨B, lo0, lo1, ys, v, rfl, q1, q2, hmade, hown, hsp, hyl, hmem, hb⟩
    obtain ⟨d, cd, rfl, hrow, _, _⟩ := own_row hown
    have hal := (Below.refl w3.heap.size w3).alloc (Nat.le_refl _) (.cells #[.slice d ys.length cd] 65)
    have HS := hide (hmade.below hal)
    have HOw := hide (own_below hown hal)
    have hlo0 : w.heap.size < lo0 := by have := (unhide Hc0).lt; omega
    have hge3 : w.heap.size + 1 < w3.heap.size := by have := (unhide Hc1).lt; have := hb.size; omega
    have hlo1 : w.heap.size < lo1 := by have := (unhide Hc0).lt; omega
    have HRw := hide (hrow.below hal)
    have HSP := hide hsp
    have hyl60 : ys.length ≤ 60 := by omega
    have Hd0 := hide (((unhide Hc0).below hb (unhide Hc0).lt).alloc (.cells #[.slice d ys.length cd] 65))
    have Hd1 := hide (((unhide Hc1).below hb (unhide Hc1).lt).alloc (.cells #[.slice d ys.length cd] 65))
    have HW := hide (Blk.new w3 #[.slice d ys.length cd] 65)
    have HB3 := hide (((unhide HB1).trans (hb.mono (unhide HB1).size)).trans (hal.mono (by have := (unhide HB1).size; have := hb.size; omega)))
    have w6 := (unhide HW).cell 0
    clear hb hal q1 q2 hmade hown hsp hyl hmem hrow Hc0 Hc1 HB1 HRx HFx
    gi_wp2_with fail
    refine ⟨trivial, ?_⟩
    refine (callsIn_wide.2 (refSize_any d cd ys (by omega) (unhide HSP).ends _ (unhide HRw))).mono ?_
    rintro e w4 ⟨rfl, hb⟩
    rw [← tot_eq (unhide HSP).ends]
    have hsz3 : w3.heap.size < w4.heap.size := by have := hb.size; simp at this; omega
    have s0 := (unhide HS).below hb
    have s1 := own_below (unhide HOw) hb
    have s2 := (unhide Hd0).below hb (unhide Hd0).lt
    have s3 := (unhide Hd1).below hb (unhide Hd1).lt
    have s4 := (unhide HW).below hb (unhide HW).lt
    have s5 := (unhide HB3).trans (hb.mono (unhide HB3).size)
    clear hb HS HRw HOw Hd0 Hd1 HW HB3 w6
    have hal := (((Below.refl w4.heap.size w4).alloc (Nat.le_refl _) (.cells #[.int .i64 (tot ys)] 3)).alloc (by simp) (.cells #[.pointer (some ⟨B, 0, none⟩)] 58)).alloc (by simp; omega) (.cells #[.pointer (some ⟨B, 0, none⟩)] 58)
    have t8 := ((Blk.new w4 #[.int .i64 (tot ys)] 3).alloc (.cells #[.pointer (some ⟨B, 0, none⟩)] 58)).alloc (.cells #[.pointer (some ⟨B, 0, none⟩)] 58)
    have ta := (Blk.new (w4.alloc (.cells #[.int .i64 (tot ys)] 3)) #[.pointer (some ⟨B, 0, none⟩)] 58).alloc (.cells #[.pointer (some ⟨B, 0, none⟩)] 58)
    have tb := Blk.new ((w4.alloc (.cells #[.int .i64 (tot ys)] 3)).alloc (.cells #[.pointer (some ⟨B, 0, none⟩)] 58)) #[.pointer (some ⟨B, 0, none⟩)] 58
    simp only [World.size_alloc] at ta tb
    have HST := hide (show AllSt w _ B w3.heap.size w4.heap.size (w4.heap.size + 1) (w4.heap.size + 1 + 1) d cd ys stop from ⟨⟨lo0, hlo0, s0.below hal⟩, s2.below hal s2.lt, s3.below hal s3.lt, s4.below hal s4.lt, ⟨lo1, hlo1, own_below s1 hal⟩, t8, ta, tb, hyl60, unhide HSP, s5.trans (hal.mono s5.size), by omega⟩)
    clear s0 s1 s2 s3 s4 s5 hal t8 ta tb
    gi_wp2_with (refine ⟨trivial, ?_⟩; gi_at_call 33; refine (callsIn_wide.2 (all_call _ _)).mono ?_; rintro e w' ⟨rfl, rfl⟩)
    refine ⟨trivial, ?_⟩
    refine (callsIn_wide.2 (back_call _ _)).mono ?_
    rintro e w' ⟨rfl, rfl⟩
    simp only [World.size_alloc]
    have hn1 := eq_nilS 78 (.pointer (some ⟨w4.heap.size + 1, 0, none⟩))
    have hn2 := eq_nilS 79 (.pointer (some ⟨w4.heap.size + 1 + 1, 0, none⟩))
    generalize ((w4.alloc (.cells #[.int .i64 (tot ys)] 3)).alloc (.cells #[.pointer (some ⟨B, 0, none⟩)] 58)).alloc (.cells #[.pointer (some ⟨B, 0, none⟩)] 58) = w5 at *
    have k0 := (unhide HST).stop.cell 0
    have kf := (unhide HST).stop.frozen 0
    gi_wp2_with fail
    refine ⟨trivial, ?_⟩
    refine (callsIn_wide.2 (within_any stop 1 3000 (by omega) (by omega) (by omega) _)).mono ?_
    rintro e w6 ⟨rfl, rfl⟩
    generalize (1 : Int) + stop % ((3000 : Int) - 1 + 1) = st at *
    have HT := hide ((unhide HST).setStop st)
    clear HST hn1 hn2
    gi_wp2
    clear k0 kf
    obtain ⟨B6, hB6⟩ : ∃ B6, B6 = w3.heap.size := ⟨_, rfl⟩
    obtain ⟨B8, hB8⟩ : ∃ B8, B8 = w4.heap.size := ⟨_, rfl⟩
    obtain ⟨Ba, hBa⟩ : ∃ Ba, Ba = w4.heap.size + 1 := ⟨_, rfl⟩
    obtain ⟨Bb, hBb⟩ : ∃ Bb, Bb = w4.heap.size + 1 + 1 := ⟨_, rfl⟩
    rw [← hBb, ← hBa, ← hB8, ← hB6] at HT
    rw [← hBb, ← hBa, ← hB8, ← hB6]
    clear hB6 hB8 hBa hBb hsz3 hge3
    generalize w6.setCell ⟨w.heap.size, 0, none⟩ (.int .i64 st) = T at *
    refine loop_down (fun k a' W => ∃ (rn hi : Nat) (ds : List Deferred), rn ≤ 2 ∧ k = 2 - rn ∧ Hid (Below T.heap.size T W) ∧ Hid (Marks T.heap.size W hi ds) ∧ hi ≤ W.heap.size ∧ ∃ r : Int, r = rn ∧ ∃ U : Nat → Value, a' = { tmps := #[.slice a zs.length cap, .int .i64 stop, U 2, .pointer (some ⟨w.heap.size, 0, none⟩), .pointer (some ⟨w.heap.size + 1, 0, none⟩), .pointer (some ⟨B, 0, none⟩), .pointer (some ⟨B6, 0, none⟩), .bool true, .pointer (some ⟨B8, 0, none⟩), .func (.func 78) #[] #[.pointer (some ⟨Ba, 0, none⟩)], .func (.func 79) #[] #[.pointer (some ⟨Bb, 0, none⟩)], .int .i64 r, U 12, U 13, U 14, U 15, U 16, U 17, U 18, U 19, U 20, U 21, U 22, U 23, U 24, U 25, U 26, U 27, U 28, U 29, U 30, U 31, U 32, U 33, U 34, U 35, U 36, U 37, U 38, U 39, U 40, U 41, U 42, U 43, U 44, U 45, U 46, U 47, U 48, U 49, U 50, U 51, U 52, U 53, U 54, U 55, U 56, U 57, U 58, U 59, U 60, U 61, U 62, U 63, U 64, U 65, U 66, U 67, U 68, U 69, U 70, U 71, U 72, U 73, U 74, U 75, U 76, U 77, U 78, U 79, U 80, U 81, U 82, U 83, U 84, U 85, U 86, U 87, U 88, U 89, U 90, U 91, U 92, U 93, U 94, U 95, U 96, U 97, U 98, U 99, U 100], defers := ds })
      ?_ (k := 2) ?h0
    case h0 => exact ⟨0, 0, [], by omega, rfl, hide (Below.refl _ _), hide trivial, by omega, 0, rfl, mk_act rfl⟩
    rintro k a' W ⟨rn, hi, ds, hr2, hk, HBW, HMW, hhi, r, hrr, U, rfl⟩ K hK
    have hTW := (unhide HBW).size
    by_cases hr : rn < 2
    · have hr' : r < 2 := by omega
      have hr0 : 0 ≤ r := by omega
      have HRR := hide hrr
      clear hrr
      gi_wp2
      rename_i K1 hK1
      obtain ⟨Bn, hBn⟩ : ∃ Bn, Bn = W.heap.size := ⟨_, rfl⟩
      have hN0 : Blk (W.alloc (.cells #[.int .i64 0] 3)) Bn #[.int .i64 0] 3 := by rw [hBn]; exact Blk.new W _ _
      have hal := (Below.refl W.heap.size W).alloc (Nat.le_refl _) (.cells #[.int .i64 0] 3)
      have hB1 : Below T.heap.size T (W.alloc (.cells #[.int .i64 0] 3)) := (unhide HBW).trans (hal.mono hTW)
      have hM1 := (unhide HMW).old hal hhi
      have hz1 : (W.alloc (.cells #[.int .i64 0] 3)).heap.size = W.heap.size + 1 := by simp
      rw [← hBn]
      have hTB : T.heap.size ≤ Bn := by omega
      have hi1 : hi ≤ Bn := by omega
      generalize W.alloc (.cells #[.int .i64 0] 3) = W1 at *
      have hBW : Bn + 1 = W1.heap.size := by omega
      clear hBn hz1 hal HBW HMW hTW hhi
      have hST := unhide HT
      have hRt : RightL ys := hST.sp.ends
      have key : ∀ (W2 : World) (D m : Nat) (a2 : Act), (∃ U : Nat → Value, a2 = { tmps := #[.slice a zs.length cap, .int .i64 stop, U 2, .pointer (some ⟨w.heap.size, 0, none⟩), .pointer (some ⟨w.heap.size + 1, 0, none⟩), .pointer (some ⟨B, 0, none⟩), .pointer (some ⟨B6, 0, none⟩), .bool true, .pointer (some ⟨B8, 0, none⟩), .func (.func 78) #[] #[.pointer (some ⟨Ba, 0, none⟩)], .func (.func 79) #[] #[.pointer (some ⟨Bb, 0, none⟩)], .int .i64 r, .pointer (some ⟨Bn, 0, none⟩), U 13, U 14, U 15, U 16, U 17, U 18, U 19, U 20, U 21, U 22, U 23, U 24, U 25, U 26, U 27, U 28, U 29, U 30, U 31, U 32, U 33, U 34, U 35, U 36, U 37, U 38, U 39, U 40, U 41, U 42, U 43, U 44, U 45, U 46, U 47, U 48, U 49, U 50, U 51, U 52, U 53, U 54, U 55, U 56, U 57, U 58, U 59, U 60, U 61, U 62, U 63, U 64, U 65, U 66, U 67, U 68, U 69, U 70, U 71, U 72, U 73, U 74, U 75, U 76, U 77, U 78, U 79, U 80, U 81, U 82, U 83, U 84, U 85, U 86, U 87, U 88, U 89, U 90, U 91, U 92, U 93, U 94, U 95, U 96, U 97, U 98, U 99, U 100], defers := { target := .collected D, args := #[] } :: ds }) → ((m : Int) = tot ys ∨ (m : Int) = st) → m ≤ tot ys → Blk W2 Bn #[.int .i64 m] 3 → Below T.heap.size T W2 → Marks T.heap.size W2 W2.heap.size ({ target := .collected D, args := #[] } :: ds) → K1 a2 W2 := by
        rintro W2 D m a2 ⟨U, rfl⟩ hms hmt p3 p4 p5
        clear hN0 hB1 hM1
        apply hK1
        clear hK1
        apply wpIn_seq_k
        intro K2 hK2
        have hTW2 := p4.size
        have hBn2 := p3.lt
        have key2 : ∀ (a3 : Act), (∃ U : Nat → Value, a3 = { tmps := #[.slice a zs.length cap, .int .i64 stop, U 2, .pointer (some ⟨w.heap.size, 0, none⟩), .pointer (some ⟨w.heap.size + 1, 0, none⟩), .pointer (some ⟨B, 0, none⟩), .pointer (some ⟨B6, 0, none⟩), .bool true, .pointer (some ⟨B8, 0, none⟩), .func (.func 78) #[] #[.pointer (some ⟨Ba, 0, none⟩)], .func (.func 79) #[] #[.pointer (some ⟨Bb, 0, none⟩)], .int .i64 r, .pointer (some ⟨Bn, 0, none⟩), U 13, U 14, U 15, U 16, U 17, U 18, U 19, U 20, U 21, U 22, U 23, U 24, U 25, U 26, U 27, U 28, U 29, U 30, U 31, U 32, U 33, U 34, U 35, U 36, U 37, U 38, U 39, U 40, U 41, U 42, U 43, U 44, U 45, U 46, U 47, U 48, U 49, U 50, U 51, U 52, U 53, U 54, U 55, U 56, U 57, U 58, U 59, U 60, U 61, U 62, U 63, U 64, U 65, U 66, U 67, U 68, U 69, U 70, U 71, U 72, U 73, U 74, U 75, U 76, U 77, U 78, U 79, U 80, U 81, U 82, U 83, U 84, U 85, U 86, U 87, U 88, U 89, U 90, U 91, U 92, U 93, U 94, U 95, U 96, U 97, U 98, U 99, U 100], defers := { target := .collected D, args := #[] } :: ds }) → K2 a3 W2 := by
          rintro a3 ⟨U, rfl⟩
          apply hK2
          clear hK2
          have n0 := p3.cell 0
          have nf := p3.frozen 0
          have hN0 : Blk (W2.setCell ⟨Bn, 0, none⟩ (.int .i64 0)) Bn #[.int .i64 0] 3 := p3.set 0 _
          have hB1 := p4.setCell (p := ⟨Bn, 0, none⟩) hTB (.int .i64 0)
          have hM1 : Marks T.heap.size (W2.setCell ⟨Bn, 0, none⟩ (.int .i64 0)) W2.heap.size ({ target := .collected D, args := #[] } :: ds) := p5.keep (fun k hk he => (Below.heap_setCell W2 ⟨Bn, 0, none⟩ _ k (by intro e; have e' : k = Bn := e; rw [e', show W2.heap[Bn]? = _ from p3] at he; cases he)).trans he)
          have hz1 : (W2.setCell ⟨Bn, 0, none⟩ (.int .i64 0)).heap.size = W2.heap.size := by simp
          gi_wp2
          rename_i K3 hK3
          clear n0 nf p3 p4 p5
          generalize W2.setCell ⟨Bn, 0, none⟩ (.int .i64 0) = W1 at *
          have key3 : ∀ (W4 : World) (D2 m : Nat) (a4 : Act), (∃ U : Nat → Value, a4 = { tmps := #[.slice a zs.length cap, .int .i64 stop, U 2, .pointer (some ⟨w.heap.size, 0, none⟩), .pointer (some ⟨w.heap.size + 1, 0, none⟩), .pointer (some ⟨B, 0, none⟩), .pointer (some ⟨B6, 0, none⟩), .bool true, .pointer (some ⟨B8, 0, none⟩), .func (.func 78) #[] #[.pointer (some ⟨Ba, 0, none⟩)], .func (.func 79) #[] #[.pointer (some ⟨Bb, 0, none⟩)], .int .i64 r, .pointer (some ⟨Bn, 0, none⟩), U 13, U 14, U 15, U 16, U 17, U 18, U 19, U 20, U 21, U 22, U 23, U 24, U 25, U 26, U 27, U 28, U 29, U 30, U 31, U 32, U 33, U 34, U 35, U 36, U 37, U 38, U 39, U 40, U 41, U 42, U 43, U 44, U 45, U 46, U 47, U 48, U 49, U 50, U 51, U 52, U 53, U 54, U 55, U 56, U 57, U 58, U 59, U 60, U 61, U 62, U 63, U 64, U 65, U 66, U 67, U 68, U 69, U 70, U 71, U 72, U 73, U 74, U 75, U 76, U 77, U 78, U 79, U 80, U 81, U 82, U 83, U 84, U 85, U 86, U 87, U 88, U 89, U 90, U 91, U 92, U 93, U 94, U 95, U 96, U 97, U 98, U 99, U 100], defers := { target := .collected D2, args := #[] } :: { target := .collected D, args := #[] } :: ds }) → ((m : Int) = tot ys ∨ (m : Int) = st) → Blk W4 Bn #[.int .i64 m] 3 → Below T.heap.size T W4 → Marks T.heap.size W4 W4.heap.size ({ target := .collected D2, args := #[] } :: { target := .collected D, args := #[] } :: ds) → K3 a4 W4 := by
            rintro W4 D2 m a4 ⟨U, rfl⟩ hms p3 p4 p5
            apply hK3
            clear hK3 hN0 hB1 hM1
            have n0 := p3.cell 0
            have k8 := (hST.size.below p4 hST.size.lt).cell 0
            have k3 := (hST.stop.below p4 hST.stop.lt).cell 0
            have HP4 := hide p4
            have HP5 := hide p5
            have hKK := hide hK
            clear p3 p4 p5 hK
            by_cases hs : (m : Int) = st
            · have hse : ((m : Int) != st) = false := by simpa using hs
              clear hs hms
              gi_wp2
              exact unhide hKK (2 - (rn + 1)) _ _ (by omega) ⟨rn + 1, W4.heap.size, _, by omega, rfl, HP4, HP5, Nat.le_refl _, r + 1, by have := unhide HRR; omega, mk_act rfl⟩
            · have hse : ((m : Int) != st) = true := by simpa using hs
              have hst : ((m : Int) != (tot ys : Int)) = false := by simp; omega
              clear hs hms
              gi_wp2
              exact unhide hKK (2 - (rn + 1)) _ _ (by omega) ⟨rn + 1, W4.heap.size, _, by omega, rfl, HP4, HP5, Nat.le_refl _, r + 1, by have := unhide HRR; omega, mk_act rfl⟩
          have KEY := hide key3
          clear key3 hK3 hK
          refine range_deep rfl h1 (gf := 79) (lb := #[.pointer (some ⟨Bb, 0, none⟩)]) rfl trivial (enters_of Try.func79 (by kernel_rfl) rfl)
            (back_deep (n - 1) Bb B (by omega) ys (by have := hST.len; omega) T hST.set (hST.back.cell 0)) KpB_t (fun W l o hl => KpB_b W l o (by omega)) hB1 (fun _ => rfl)
            (FallI T Bn W2.heap.size ({ target := .collected D, args := #[] } :: ds) (tot ys)) (LeftX T Bn W2.heap.size ({ target := .collected D, args := #[] } :: ds) (tot ys) 4 st) (FallI.old (by omega) (by omega) (by omega)) (LeftX.old (by omega) (by omega) (by omega)) ⟨tot ys, 0, (dnL_top _).symm, by omega, hN0, hB1, hM1⟩ ?round ?done ?stop
          case round =>
            rintro pre x W ⟨j, m, hpre, hjm, hbn, hbT, hmk⟩ ⟨hx, hpre2⟩ hge
            obtain rfl : j = x + 1 := dnL_inj (by omega) (by omega) (hpre.symm.trans hpre2)
            subst hpre
            clear hpre2
            dsimp only [encsR]
            gi_wp2
            refine ⟨Above.refl _ _, fun _ _ => rfl, ⟨x + 1, m, rfl, hjm, hbn, hbT, hmk⟩, ?_⟩
            intro Wr hgr hsr ⟨j2, m2, hpre, hjm2, hbn2, hbT2, hmk2⟩
            obtain rfl : x + 1 = j2 := dnL_inj (by omega) (by omega) hpre
            obtain rfl : m = m2 := by omega
            have c1 : Blk (Wr.setCell ⟨Bn, 0, none⟩ (.int .i64 ((m : Int) + 1))) Bn #[.int .i64 ((m : Int) + 1)] 3 := hbn2.set 0 _
            have c2 := hbT2.setCell (p := ⟨Bn, 0, none⟩) hTB (.int .i64 ((m : Int) + 1))
            have c3 : Marks T.heap.size (Wr.setCell ⟨Bn, 0, none⟩ (.int .i64 ((m : Int) + 1))) W2.heap.size ({ target := .collected D, args := #[] } :: ds) := hmk2.keep (fun k hk he => (Below.heap_setCell Wr ⟨Bn, 0, none⟩ _ k (by intro e; have e' : k = Bn := e; rw [e', show Wr.heap[Bn]? = _ from hbn2] at he; cases he)).trans he)
            have c4 : Above W1.heap.size Wr (Wr.setCell ⟨Bn, 0, none⟩ (.int .i64 ((m : Int) + 1))) := (Above.refl _ _).set (by omega) _
            have c5 : KpB T.heap.size Wr (Wr.setCell ⟨Bn, 0, none⟩ (.int .i64 ((m : Int) + 1))) := fun k hk => Below.heap_setCell Wr ⟨Bn, 0, none⟩ _ k (by show k ≠ Bn; omega)
            have n0 := hbn2.cell 0
            have nf := hbn2.frozen 0
            have n1 := c1.cell 0
            have k8 := (hST.size.below c2 hST.size.lt).cell 0
            have k6 := (hST.want.below c2 hST.want.lt).cell 0
            have htb : (tot ys : Int) ≤ 1000000000 := by have := tot_eq hRt; have := (total_bound hRt).2; have := hST.len; omega
            have hmb : (m : Int) ≤ 1000000000 := by omega
            have hex : (tot ys : Int) - ((m : Int) + 1) = (x : Int) := by omega
            have HAt := hide (refAt_any d cd ys (by have := hST.len; omega) hRt ((tot ys : Int) - ((m : Int) + 1)) (by omega) _ (hST.row.below c2))
            rw [show refAtOf ys ((tot ys : Int) - ((m : Int) + 1)) = nthOf ys (x : Int) by rw [hex]; exact refAt_nth hRt hx] at HAt
            have hlt : ¬ (tot ys : Int) < (m : Int) + 1 := by omega
            have HJM := hide hjm2
            have hWr2 : W2.heap.size ≤ Wr.heap.size := by omega
            generalize nthOf ys (x : Int) = rv at *
            have hvv : (rv != rv) = false := by simp
            have HC := hide (And.intro c1 (And.intro c2 (And.intro c3 (And.intro c4 c5))))
            clear hbn hbT hmk hgr hsr hpre hbn2 hbT2 hmk2 hN0 hB1 hM1 c1 c2 c3 c4 c5 hex hjm hjm2
            gi_wp2_with fail
            refine ⟨trivial, fun _ => by omega, ?_⟩
            refine (CallsIn.inRound _ (callsIn_wide.2 (unhide HAt))).mono ?_
            rintro e W3 ⟨rfl, hb⟩
            obtain ⟨c1, c2, c3, c4, c5⟩ := unhide HC
            have hsz3 : (Wr.setCell ⟨Bn, 0, none⟩ (.int .i64 ((m : Int) + 1))).heap.size = Wr.heap.size := by simp
            have e1 : Blk W3 Bn #[.int .i64 ((m + 1 : Nat) : Int)] 3 := c1.below hb c1.lt
            have e2 := c2.trans (hb.mono c2.size)
            have e3 := c3.old hb (by omega)
            have e4 : Above W1.heap.size Wr W3 := c4.trans (Above.below hb)
            have e5 : KpB T.heap.size Wr W3 := KpB_t c5 (fun k hk => hb.block k (by have := c2.size; omega))
            have m1 := (show Blk W3 Bn #[.int .i64 ((m : Int) + 1)] 3 from e1).cell 0
            have s3 := (hST.stop.below e2 hST.stop.lt).cell 0
            have HEND := hide (And.intro e1 (And.intro e2 (And.intro e3 (And.intro e4 e5))))
            clear c1 c2 c3 c4 c5 e1 e2 e3 e4 e5 hb HAt HC n0 nf n1 k8 k6 hsz3
            by_cases hs : (m : Int) + 1 = st
            · have hse : ((m : Int) + 1 == st) = true := by simpa using hs
              have HSS := hide hs
              clear hs
              gi_wp2
              have hs := unhide HSS
              have hjm := unhide HJM
              obtain ⟨e1, e2, e3, e4, e5⟩ := unhide HEND
              exact ⟨by rw [← hz1]; exact e4, rfl, m + 1, by omega, by omega, e1, e2, e3⟩
            · have hse : ((m : Int) + 1 == st) = false := by simpa using hs
              clear hs
              gi_wp2
              have hjm := unhide HJM
              obtain ⟨e1, e2, e3, e4, e5⟩ := unhide HEND
              exact ⟨by rw [← hz1]; exact e4, e5, x, m + 1, (dnL_step hx).symm, by omega, e1, e2, e3⟩
          case done =>
            rintro D2 xs W4 hD hS ⟨j, m, hpre, hjm, q3, q4, q5⟩ hdef
            obtain rfl : j = 0 := dnL_inj (by omega) (Nat.zero_le _) (hpre.symm.trans hS)
            exact unhide KEY W4 D2 m _ (mk_act rfl) (.inl (by omega)) q3 q4 (q5.push (by omega) (by omega) hdef)
          case stop =>
            rintro D2 c pre W4 hD hSp ⟨rfl, m, hm, hs, q3, q4, q5⟩ hdef
            have HK2 := hide (unhide KEY W4 D2 m)
            have HPP := hide (And.intro q3 (And.intro q4 (q5.push (D := D2) (by omega) (by omega) hdef)))
            clear q3 q4 q5 hN0 hB1 hM1
            gi_wp2
            exact unhide HK2 _ (mk_act rfl) (.inr hs) (unhide HPP).1 (unhide HPP).2.1 (unhide HPP).2.2
        have n0 := p3.cell 0
        have k8 := (hST.size.below p4 hST.size.lt).cell 0
        have k3 := (hST.stop.below p4 hST.stop.lt).cell 0
        have KEY2 := hide key2
        clear key2 hK2 p3 p4 p5 hK
        by_cases hs : (m : Int) = st
        · have hse : ((m : Int) != st) = false := by simpa using hs
          clear hs hms
          gi_wp2
          exact unhide KEY2 _ (mk_act rfl)
        · have hse : ((m : Int) != st) = true := by simpa using hs
          have hst : ((m : Int) != (tot ys : Int)) = false := by simp; omega
          clear hs hms
          gi_wp2
          exact unhide KEY2 _ (mk_act rfl)
      have KEY := hide key
      clear key hK1 hK
      refine range_deep rfl h1 (gf := 78) (lb := #[.pointer (some ⟨Ba, 0, none⟩)]) rfl trivial (enters_of Try.func78 (by kernel_rfl) rfl)
        (all_deep (n - 1) Ba B (by omega) ys (by have := hST.len; omega) T hST.set (hST.there.cell 0)) KpB_t (fun W l o hl => KpB_b W l o (by omega)) hB1 (fun _ => rfl)
        (RiseI T Bn hi ds (tot ys)) (LeftX T Bn hi ds (tot ys) 2 st) (RiseI.old (by omega) (by omega) (by omega)) (LeftX.old (by omega) (by omega) (by omega)) ⟨0, rfl, Nat.zero_le _, hN0, hB1, hM1⟩ ?round ?done ?stop
      case round =>
        rintro pre x W ⟨m, hpre, hm, hbn, hbT, hmk⟩ ⟨hx, hpre2⟩ hge
        obtain rfl : m = x := range_inj (hpre.symm.trans hpre2)
        subst hpre
        clear hpre2
        dsimp only [encsR]
        gi_wp2
        refine ⟨Above.refl _ _, fun _ _ => rfl, ⟨m, rfl, hm, hbn, hbT, hmk⟩, ?_⟩
        intro Wr hgr hsr ⟨m2, hpre, _, hbn2, hbT2, hmk2⟩
        obtain rfl : m = m2 := range_inj hpre
        have n0 := hbn2.cell 0
        have k8 := (hST.size.below hbT2 hST.size.lt).cell 0
        have k6 := (hST.want.below hbT2 hST.want.lt).cell 0
        have hmb : (m : Int) ≤ 1000000000 := by have := tot_eq hRt; have := (total_bound hRt).2; have := hST.len; omega
        have HAt := hide (refAt_any d cd ys (by have := hST.len; omega) hRt (m : Int) (by omega) Wr (hST.row.below hbT2))
        rw [refAt_nth hRt hx] at HAt
        have HBN := hide hbn2
        have HBT := hide hbT2
        have HMK := hide hmk2
        have hlt : ¬ (tot ys : Int) ≤ (m : Int) := by omega
        generalize nthOf ys (m : Int) = rv at *
        have hvv : (rv != rv) = false := by simp
        clear hbn hbT hmk hgr hsr hpre hbn2 hbT2 hmk2 hN0 hB1 hM1
        gi_wp2_with fail
        refine ⟨trivial, fun _ => by omega, ?_⟩
        refine (CallsIn.inRound _ (callsIn_wide.2 (unhide HAt))).mono ?_
        rintro e W3 ⟨rfl, hb⟩
        have c1 := (unhide HBN).below hb (unhide HBN).lt
        have c2 := (unhide HBT).trans (hb.mono (by have := (unhide HBT).size; omega))
        have c3 := (unhide HMK).old hb (by have := hb.size; have := (unhide HBN).lt; omega)
        have n1 := c1.cell 0
        have nf := c1.frozen 0
        have s3 := ((hST.stop.below c2 hST.stop.lt).other (by have := hST.stop.lt; omega) (.int .i64 ((m : Int) + 1)) (B' := Bn) (i := 0)).cell 0
        have e1 : Blk (W3.setCell ⟨Bn, 0, none⟩ (.int .i64 ((m : Int) + 1))) Bn #[.int .i64 ((m + 1 : Nat) : Int)] 3 := c1.set 0 (.int .i64 ((m : Int) + 1))
        have e2 := c2.setCell (p := ⟨Bn, 0, none⟩) hTB (.int .i64 ((m : Int) + 1))
        have e3 : Marks T.heap.size (W3.setCell ⟨Bn, 0, none⟩ (.int .i64 ((m : Int) + 1))) hi ds := c3.keep (fun k hk he => (Below.heap_setCell W3 ⟨Bn, 0, none⟩ _ k (by show k ≠ Bn; omega)).trans he)
        have e4 : Above W1.heap.size Wr (W3.setCell ⟨Bn, 0, none⟩ (.int .i64 ((m : Int) + 1))) := (Above.below hb).set (by omega) _
        have e5 : KpB T.heap.size Wr (W3.setCell ⟨Bn, 0, none⟩ (.int .i64 ((m : Int) + 1))) := fun k hk => (Below.heap_setCell W3 ⟨Bn, 0, none⟩ _ k (by show k ≠ Bn; omega)).trans (hb.block k (by have := (unhide HBT).size; omega))
        have HEND := hide (And.intro e1 (And.intro e2 (And.intro e3 (And.intro e4 e5))))
        clear c1 c2 c3 e1 e2 e3 e4 e5 hb HBN HBT HMK HAt n0 k8 k6
        by_cases hs : (m : Int) + 1 = st
        · have hse : ((m : Int) + 1 == st) = true := by simpa using hs
          have HSS := hide hs
          clear hs
          gi_wp2
          have hs := unhide HSS
          obtain ⟨e1, e2, e3, e4, e5⟩ := unhide HEND
          exact ⟨e4, rfl, m + 1, by omega, by omega, e1, e2, e3⟩
        · have hse : ((m : Int) + 1 == st) = false := by simpa using hs
          clear hs
          gi_wp2
          obtain ⟨e1, e2, e3, e4, e5⟩ := unhide HEND
          exact ⟨e4, e5, m + 1, (List.range_succ).symm, by omega, e1, e2, e3⟩
      case done =>
        rintro D xs W2 hD hS ⟨m, hpre, hm, p3, p4, p5⟩ hdef
        obtain rfl : m = tot ys := range_inj (hpre.symm.trans hS)
        exact unhide KEY W2 D _ _ (mk_act rfl) (.inl rfl) (Nat.le_refl _) p3 p4 (p5.push (by omega) (by omega) hdef)
      case stop =>
        rintro D c pre W2 hD hSp ⟨rfl, m, hm, hs, p3, p4, p5⟩ hdef
        have HK2 := hide (unhide KEY W2 D m)
        have HPP := hide (And.intro p3 (And.intro p4 (p5.push (D := D) (by omega) (by omega) hdef)))
        clear p3 p4 p5 hN0 hB1 hM1
        gi_wp2
        exact unhide HK2 _ (mk_act rfl) (.inr hs) hm (unhide HPP).1 (unhide HPP).2.1 (unhide HPP).2.2
    · have hr' : ¬ r < 2 := by omega
      have hST := unhide HT
      have k4 := (hST.res.below (unhide HBW) hST.res.lt).cell 0
      have kf := (hST.res.below (unhide HBW) hST.res.lt).frozen 0
      have hTb := hST.old.size
      have c1 : Blk (W.setCell ⟨w.heap.size + 1, 0, none⟩ (.bool true)) (w.heap.size + 1) #[.bool true] 4 := (hST.res.below (unhide HBW) hST.res.lt).set 0 _
      have c2 : Below w.heap.size w (W.setCell ⟨w.heap.size + 1, 0, none⟩ (.bool true)) := (hST.old.trans ((unhide HBW).mono hTb)).setCell (p := ⟨w.heap.size + 1, 0, none⟩) (by show w.heap.size ≤ w.heap.size + 1; omega) _
      have c3 : Marks w.heap.size (W.setCell ⟨w.heap.size + 1, 0, none⟩ (.bool true)) hi ds := ((unhide HMW).lower hTb).keep (fun k hk he => (Below.heap_setCell W ⟨w.heap.size + 1, 0, none⟩ _ k (by intro e; have e' : k = w.heap.size + 1 := e; rw [e', show W.heap[w.heap.size + 1]? = _ from hST.res.below (unhide HBW) hST.res.lt] at he; cases he)).trans he)
      have HC := hide (And.intro c1 (And.intro c2 c3))
      clear c1 c2 c3 hK
      gi_wp2
      refine leaves_marks _ _ _ (unhide HC).2.2 (unhide HC).1 (unhide HC).2.1 ?_
      intro W' hb' hB'
      have q := hb'.cell 0
      exact ⟨.bool true, by simp [results, Try.f7, go_sem, q], rfl, hB'⟩
  · have hEn : errOf xs ≠ 0 := by rcases hE with ⟨h, _⟩ | ⟨h, _⟩ <;> omega
    have HEn := hide hEn
    clear hE hEn
    gi_wp2_with fail
    refine ⟨trivial, ?_⟩
    refine (callsIn_wide.2 (made_wrong a cap xs (by omega) (unhide HEn) (unhide HFx) w2 (unhide HRx))).mono ?_
    rintro e w3 ⟨rfl, hb⟩
    have c1 := (unhide Hc1).below hb (unhide Hc1).lt
    have c2 := (unhide HB1).trans (hb.mono (unhide HB1).size)
    have k4 := (c1.alloc (.cells #[.slice none 0 0] 65)).cell 0
    have kf := (c1.alloc (.cells #[.slice none 0 0] 65)).frozen 0
    have HC := hide (And.intro ((c1.alloc (.cells #[.slice none 0 0] 65)).set 0 (.bool true)) ((c2.alloc c2.size (.cells #[.slice none 0 0] 65)).setCell (p := ⟨w.heap.size + 1, 0, none⟩) (by show w.heap.size ≤ w.heap.size + 1; omega) (.bool true)))
    clear c1 c2 hb
    gi_wp2
    have q := (show Blk _ (w.heap.size + 1) #[.bool true] 4 from (unhide HC).1).cell 0
    exact ⟨.bool true, by simp [results, Try.f7, go_sem, q], rfl, (unhide HC).2⟩
theorem law_all (a : Option Addr) (cap : Nat) (zs : List (Int × Int)) (hf : ∀ x ∈ zs, fitB x) (hcap : zs.length ≤ cap) (stop : Int) (w : World) (hr : RowP w a zs) :
    Calls Try.prog 7 #[.slice a zs.length cap, .int .i64 stop] w fun e w' => e = .returned (.bool true) ∧ Below w.heap.size w w' :=
  callsIn_wide.1 (law_all_in 6 (Nat.le_refl _) a cap zs hf hcap stop w hr)
end Go.Proofs.Ythbaheneikifiaa
