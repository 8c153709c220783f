/- Texts of this claim, one behind the other. -/
import Derived.Test.YtemmflhofhngbaaSetLay
import Derived.Test.YtemmflhofhngbaaM3
/- A set that is being made, as it lies in memory; what an append or a store leaves of it. -/
namespace Go.Proofs.Ytemmflhofhngbaa
open Go.RowKit Go.Shelf
set_option linter.unusedVariables false
/-- How many runes lie ahead of each span. -/
def ahs (zs : List (Int × Int)) : List Value := (List.range zs.length).map fun j => .int .i64 (total (zs.take j))
theorem ahs_length (zs : List (Int × Int)) : (ahs zs).length = zs.length := by simp [ahs]
theorem ahs_at (zs : List (Int × Int)) (j : Nat) (hj : j < zs.length) : (ahs zs)[j]? = some (.int .i64 (total (zs.take j))) := by simp [ahs, hj]
theorem ahs_snoc (zs : List (Int × Int)) (x : Int × Int) : ahs (zs ++ [x]) = ahs zs ++ [.int .i64 (total zs)] := by
  unfold ahs
  rw [List.length_append, List.length_singleton, List.range_succ, List.map_append]
  congr 1
  · apply List.map_congr_left
    intro j hj
    rw [List.mem_range] at hj
    rw [List.take_append_of_le_length (by omega)]
  · simp
theorem ahs_last (ys : List (Int × Int)) (y y' : Int × Int) : ahs (ys ++ [y']) = ahs (ys ++ [y]) := by rw [ahs_snoc, ahs_snoc]
theorem own_rowA {W : World} {base n : Nat} {v : Value} {zs : List (Int × Int)} (h : W.ownsRow base 3 1 v n (ahs zs)) : ∃ a c, v = .slice a zs.length c ∧ RowA W a zs ∧ n = zs.length := by
  obtain ⟨hl, h⟩ := h
  rw [ahs_length] at hl
  have hn : n = zs.length := by omega
  subst hn
  rcases h with ⟨rfl, h0⟩ | ⟨g, cap, cur, rfl, hb, hg, h1, h2, h3, h4⟩
  · exact ⟨none, 0, by rw [h0], fun h => by omega, rfl⟩
  · refine ⟨_, cap, rfl, fun h0 => ⟨g, 0, rfl, (Array.getElem?_eq_some_iff.1 hg).1, fun j hj => ?_⟩, rfl⟩
    have hbk : Blk W g cur 3 := hg
    have e := ahs_at zs j hj
    rw [← h4] at e
    rw [List.getElem?_take, if_pos (by omega)] at e
    rw [Nat.zero_add, Blk.cell hbk]
    simpa using e
theorem own_below {W W' : World} {base E sz n : Nat} {v : Value} {xs : List Value} (h : W.ownsRow base E sz v n xs) (hb : Below W.heap.size W W') : W'.ownsRow base E sz v n xs := by
  obtain ⟨hl, h⟩ := h
  refine ⟨hl, ?_⟩
  rcases h with h | ⟨g, cap, cur, h1, h2, h3, h4⟩
  · exact .inl h
  · exact .inr ⟨g, cap, cur, h1, h2, (hb.block g (Array.getElem?_eq_some_iff.1 h3).1).trans h3, h4⟩
/-- A row is no block of another type. -/
theorem own_ne {W : World} {base E t sz n B : Nat} {v : Value} {xs : List Value} {cs : Array Value} (h : W.ownsRow base E sz v n xs) (hB : Blk W B cs t) (hE : t ≠ E) : some B ≠ v.ownBlock := by
  intro e
  rcases h.2 with ⟨rfl, _⟩ | ⟨g, cap, cur, rfl, _, hg, _⟩
  · simp [Value.ownBlock] at e
  · simp [Value.ownBlock] at e
    subst e
    have := (show W.heap[B]? = _ from hB).symm.trans hg
    simp at this
    exact hE this.2
/-- Nor is it a row of another type. -/
theorem own_own {W : World} {base base' E E' sz sz' n n' : Nat} {v v' : Value} {xs xs' : List Value} (h : W.ownsRow base E sz v n xs) (h' : W.ownsRow base' E' sz' v' n' xs') (hE : E ≠ E') : v.ownBlock = none ∨ v.ownBlock ≠ v'.ownBlock := by
  rcases h.2 with ⟨rfl, _⟩ | ⟨g, cap, cur, rfl, _, hg, _⟩
  · exact .inl rfl
  · exact .inr (own_ne h' (show Blk W g cur E from hg) hE)
/-- All but a set's own blocks is as it was. -/
def Frame (w w' : World) (B : Nat) : Prop := ∀ X, X < w.heap.size → X ≠ B → (∀ va vb, Blk w B #[va, vb] 66 → va.ownBlock ≠ some X ∧ vb.ownBlock ≠ some X) → w'.heap[X]? = w.heap[X]?
/-- A set that is being made. -/
structure Made (W : World) (B lo0 : Nat) (zs : List (Int × Int)) : Prop where
  form : ∃ va vb, Blk W B #[va, vb] 66 ∧ W.ownsRow lo0 28 2 va zs.length (encP zs) ∧ W.ownsRow lo0 3 1 vb zs.length (ahs zs)
  lo : lo0 ≤ B
theorem Made.set {W : World} {B lo0 : Nat} {zs : List (Int × Int)} (h : Made W B lo0 zs) (hs : Spread zs) (hl : zs.length ≤ 1112064) : SetAt W B zs := by
  obtain ⟨va, vb, h1, h2, h3⟩ := h.form
  obtain ⟨a, ca, rfl, ha, _⟩ := own_row h2
  obtain ⟨b, cb, rfl, hb, _⟩ := own_rowA h3
  exact ⟨⟨a, ca, b, cb, h1, ha, hb⟩, hs, hl⟩
theorem Made.below {W W' : World} {B lo0 : Nat} {zs : List (Int × Int)} (h : Made W B lo0 zs) (hb : Below W.heap.size W W') : Made W' B lo0 zs := by
  obtain ⟨va, vb, h1, h2, h3⟩ := h.form
  exact ⟨⟨va, vb, h1.below hb h1.lt, own_below h2 hb, own_below h3 hb⟩, h.lo⟩
/-- A store into the last span's second cell. -/
theorem encP_last (ys : List (Int × Int)) (y : Int × Int) (u : Int) : (encP (ys ++ [y])).set (ys.length * 2 + 1) (.int .i32 u) = encP (ys ++ [(y.1, u)]) := by
  rw [encP_append, encP_append, List.set_append, if_neg (by rw [encP_length]; omega), encP_length]
  have : ys.length * 2 + 1 - ys.length * 2 = 1 := by omega
  rw [this]
  rfl
theorem Made.touch {W : World} {B lo0 g ca : Nat} {vb : Value} {ys : List (Int × Int)} {y : Int × Int} (h1 : Blk W B #[.slice (some ⟨g, 0, none⟩) (ys.length + 1) ca, vb] 66) (h2 : W.ownsRow lo0 28 2 (.slice (some ⟨g, 0, none⟩) (ys.length + 1) ca) (ys.length + 1) (encP (ys ++ [y]))) (h3 : W.ownsRow lo0 3 1 vb (ys.length + 1) (ahs (ys ++ [y]))) (hl : lo0 ≤ B) (u : Int) :
    Made (W.setCell ⟨g, ys.length * 2 + 1, none⟩ (.int .i32 u)) B lo0 (ys ++ [(y.1, u)]) ∧ Below lo0 W (W.setCell ⟨g, ys.length * 2 + 1, none⟩ (.int .i32 u)) := by
  have hs := h2.stored (ys.length * 2 + 1) (.int .i32 u)
  have hg : lo0 ≤ g := (h2.lt g rfl).1
  refine ⟨⟨⟨_, vb, h1.kept hs.2 ?_, ?_, ?_⟩, hl⟩, (Below.refl lo0 W).setCell (p := ⟨g, ys.length * 2 + 1, none⟩) hg _⟩
  · exact own_ne h2 h1 (by decide)
  · rw [List.length_append, List.length_singleton]
    have := hs.1
    rw [encP_last] at this
    exact this
  · rw [List.length_append, List.length_singleton, ahs_last ys y]
    exact h3.kept hs.2 (own_own h3 h2 (by decide))
/-- What the first append leaves. -/
theorem mid_any {wm w2 w3 : World} {B X lo0 n : Nat} {va vb : Value} {cx : Array Value} {xs ys : List Value} {tmp : Obj} (hB : Blk wm B #[va, vb] 66) (hX : Blk wm X cx 28) (ha : wm.ownsRow lo0 28 2 va n xs) (hv : wm.ownsRow lo0 3 1 vb n ys) (hb : Below wm.heap.size wm w2) (hg : (w2.alloc tmp).grownBy w3 vb.ownBlock) :
    Blk w3 B #[va, vb] 66 ∧ Blk w3 X cx 28 ∧ w3.ownsRow lo0 28 2 va n xs := by
  have b1 := (hB.below hb hB.lt).alloc tmp
  have x1 := (hX.below hb hX.lt).alloc tmp
  have a1 := (own_below ha hb).alloc tmp
  have v1 := (own_below hv hb).alloc tmp
  exact ⟨b1.kept hg (own_ne v1 b1 (by decide)), x1.kept hg (own_ne v1 x1 (by decide)), a1.kept hg (own_own a1 v1 (by decide))⟩
theorem fst_end' {w wm w2 w3 : World} {B lo0 X g1 cap1 n : Nat} {va vb : Value} {cx : Array Value} {xs ys zs : List Value} {tmp : Obj} (hB : Blk wm B #[va, vb] 66) (hX : Blk wm X cx 28) (ha : wm.ownsRow lo0 28 2 va n xs) (hv : wm.ownsRow lo0 3 1 vb n ys) (hw : Below w.heap.size w wm) (hb : Below wm.heap.size wm w2) (hg : (w2.alloc tmp).grownBy w3 vb.ownBlock) (h0 : lo0 ≤ B) (hl : lo0 ≤ w.heap.size) (hne : X ≠ B)
    (ho : w3.ownsRow lo0 3 1 (.slice (some ⟨g1, 0, none⟩) (n + 1) cap1) (n + 1) zs) :
    ∃ w4, w4 = w3.setCell ⟨B, 1, none⟩ (.slice (some ⟨g1, 0, none⟩) (n + 1) cap1) ∧ Blk w4 B #[va, .slice (some ⟨g1, 0, none⟩) (n + 1) cap1] 66 ∧ Blk w4 X cx 28 ∧ w4.ownsRow lo0 3 1 (.slice (some ⟨g1, 0, none⟩) (n + 1) cap1) (n + 1) zs ∧ w4.ownsRow lo0 28 2 va n xs ∧ Below lo0 w w4 ∧ (∀ X, X < w.heap.size → X ≠ B → vb.ownBlock ≠ some X → w4.heap[X]? = w.heap[X]?) := by
  have hm := mid_any hB hX ha hv hb hg
  refine ⟨_, rfl, by simpa using hm.1.set 1 (.slice (some ⟨g1, 0, none⟩) (n + 1) cap1), hm.2.1.other hne _, ?_, ?_, ?_, fun X hX hXB hXv => ?_⟩
  · exact ho.kept (grown_setCell' w3 ⟨B, 1, none⟩ _) (.inr (own_ne ho hm.1 (by decide)).symm)
  · rcases hm.2.2.2 with ⟨rfl, _⟩ | _
    · exact hm.2.2.kept (grown_setCell' w3 ⟨B, 1, none⟩ _) (.inl rfl)
    · exact hm.2.2.kept (grown_setCell' w3 ⟨B, 1, none⟩ _) (.inr (own_ne hm.2.2 hm.1 (by decide)).symm)
  · have s1 := hw.size
    have s2 := hb.size
    have v1 := hv.lt
    exact ((((hw.mono hl).trans (hb.mono (by omega))).alloc (by omega) tmp).grown hg (by simp; omega) (fun k e => (v1 k e).1)).setCell (p := ⟨B, 1, none⟩) h0 _
  · have s1 := hw.size
    have s2 := hb.size
    rw [Below.heap_setCell w3 ⟨B, 1, none⟩ _ X hXB, hg.block X (by simp; omega) (fun e => hXv e.symm), Below.heap_alloc w2 tmp X (by omega), hb.block X (by omega), hw.block X hX]
theorem snd_end' {w w4 w5 : World} {B lo0 g1 cap1 g5 cap5 : Nat} {va : Value} {zs : List (Int × Int)} {x : Int × Int} {tmp : Obj} (hB : Blk w4 B #[va, .slice (some ⟨g1, 0, none⟩) (zs.length + 1) cap1] 66) (ho : w4.ownsRow lo0 3 1 (.slice (some ⟨g1, 0, none⟩) (zs.length + 1) cap1) (zs.length + 1) (ahs (zs ++ [x]))) (ha : w4.ownsRow lo0 28 2 va zs.length (encP zs)) (hL : Below lo0 w w4) (hl : lo0 ≤ w.heap.size) (h0 : lo0 ≤ B)
    (hg : (w4.alloc tmp).drew.grownBy w5 va.ownBlock) (ho5 : w5.ownsRow lo0 28 2 (.slice (some ⟨g5, 0, none⟩) (zs.length + 1) cap5) (zs.length + 1) (encP zs ++ encP [x])) {Pv : Nat → Prop} (hF : ∀ X, X < w.heap.size → X ≠ B → Pv X → w4.heap[X]? = w.heap[X]?) :
    Made (w5.setCell ⟨B, 0, none⟩ (.slice (some ⟨g5, 0, none⟩) (zs.length + 1) cap5)) B lo0 (zs ++ [x]) ∧ Below lo0 w (w5.setCell ⟨B, 0, none⟩ (.slice (some ⟨g5, 0, none⟩) (zs.length + 1) cap5)) ∧ (∀ X, X < w.heap.size → X ≠ B → Pv X → va.ownBlock ≠ some X → (w5.setCell ⟨B, 0, none⟩ (.slice (some ⟨g5, 0, none⟩) (zs.length + 1) cap5)).heap[X]? = w.heap[X]?) := by
  have hg' : (w4.alloc tmp).grownBy w5 va.ownBlock := ⟨hg.os, hg.tape, hg.output, hg.size, hg.block⟩
  have b1 := hB.alloc tmp
  have a1 := ha.alloc tmp
  have o1 := ho.alloc tmp
  have hm := b1.kept hg' (own_ne a1 b1 (by decide))
  have ho1 := o1.kept hg' (own_own o1 a1 (by decide))
  rw [← encP_append] at ho5
  refine ⟨⟨⟨_, _, by simpa using hm.set 0 (.slice (some ⟨g5, 0, none⟩) (zs.length + 1) cap5), ?_, ?_⟩, h0⟩, ?_, fun X hX hXB hP hXa => ?_⟩
  · rw [List.length_append, List.length_singleton]
    exact ho5.kept (grown_setCell' w5 ⟨B, 0, none⟩ _) (.inr (own_ne ho5 hm (by decide)).symm)
  · rw [List.length_append, List.length_singleton]
    exact ho1.kept (grown_setCell' w5 ⟨B, 0, none⟩ _) (.inr (own_ne ho1 hm (by decide)).symm)
  · have s1 := hL.size
    exact ((hL.alloc (by omega) tmp).grown hg' (by simp; omega) (fun k e => (ha.lt k e).1)).setCell (p := ⟨B, 0, none⟩) h0 _
  · have s1 := hL.size
    rw [Below.heap_setCell w5 ⟨B, 0, none⟩ _ X hXB, hg'.block X (by simp; omega) (fun e => hXa e.symm), Below.heap_alloc w4 tmp X (by omega), hF X hX hXB hP]
end Go.Proofs.Ytemmflhofhngbaa
/- lay of one span more, on any set that is being made. -/
namespace Go.Proofs.Ytemmflhofhngbaa
open Go.RowKit Go.Shelf
set_option linter.unusedVariables false
set_option maxRecDepth 100000 in
set_option maxHeartbeats 4000000 in
theorem lay_touch (B lo0 : Nat) (ys : List (Int × Int)) (y x : Int × Int) (hn : ys.length ≤ 1000000) (hy : endsB y = true) (hx : endsB x = true) (ht : rankOf x.1 ≤ rankOf y.2 + 1) (w : World) (hm : Made w B lo0 (ys ++ [y])) (hl : lo0 ≤ w.heap.size) :
    Calls Try.prog 35 #[.pointer (some ⟨B, 0, none⟩), spanV x] w fun e w' => (∃ r, e = .returned r) ∧ Made w' B lo0 (layL (ys ++ [y]) x) ∧ Below lo0 w w' ∧ Frame w w' B := by
  rw [layL_touch _ _ _ ht]
  obtain ⟨va, vb, h1, h2, h3⟩ := hm.form
  have hlo := hm.lo
  rw [List.length_append, List.length_singleton] at h2 h3
  obtain ⟨g, ca, rfl, hg0, hg⟩ := h2.form (by omega)
  have hex := endsB_iff hx
  have hey := endsB_iff hy
  have r1 := rank_range hex.1.1 hex.1.2.1
  have r2 := rank_range hey.2.1 hey.2.2.1
  obtain ⟨lo, hi⟩ := x
  obtain ⟨y0, y1⟩ := y
  simp only at ht hex hey r1 r2
  simp only
  have k1 := h2.cellAt (ys.length * 2 + 1) (by omega)
  have k2 := h2.frozenAt (ys.length * 2 + 1)
  rw [(encP_at (ys ++ [(y0, y1)]) ys.length (y0, y1) (by simp)).2] at k1
  have c0 := (h1.alloc (.cells #[.int .i32 lo, .int .i32 hi] 28)).cell 0
  have c1 := alloc_cell (.cells #[.int .i32 lo, .int .i32 hi] 28) k1
  have c2 : (w.alloc (.cells #[.int .i32 lo, .int .i32 hi] 28)).frozen? ⟨g, ys.length * 2 + 1, none⟩ = false := (((Below.refl _ w).alloc (Nat.le_refl _) _).frozen (p := ⟨g, ys.length * 2 + 1, none⟩) hg).trans k2
  have q0 := (Blk.new w #[.int .i32 lo, .int .i32 hi] 28).cell 0
  have q1 := (Blk.new w #[.int .i32 lo, .int .i32 hi] 28).cell 1
  have HE := hide (fun (k : Nat) (u : Int) => Made.touch (W := (w.alloc (.cells #[.int .i32 lo, .int .i32 hi] 28)).drewN k) (h1.alloc (.cells #[.int .i32 lo, .int .i32 hi] 28)) (h2.alloc (.cells #[.int .i32 lo, .int .i32 hi] 28)) (h3.alloc (.cells #[.int .i32 lo, .int .i32 hi] 28)) hlo u)
  have HW := hide (fun (k : Nat) => below_drewN ((Below.refl lo0 w).alloc hl (.cells #[.int .i32 lo, .int .i32 hi] 28)) k)
  have HFr : Hz (∀ (k : Nat) (u : Value), Frame w (((w.alloc (.cells #[.int .i32 lo, .int .i32 hi] 28)).drewN k).setCell ⟨g, ys.length * 2 + 1, none⟩ u) B) := hide (fun k u X hX hXB hv => by
    have hne : X ≠ g := fun e => (hv _ _ h1).1 (by rw [e]; rfl)
    rw [Below.heap_setCell _ ⟨g, ys.length * 2 + 1, none⟩ _ X hne]
    exact Below.heap_alloc w _ X hX)
  generalize ys.length = m at *
  have hm1 : ((m + 1 : Nat) : Int) - 1 = (m : Int) := by omega
  have hm2 : ((m : Nat) : Int).toNat = m := by omega
  have hlo2 : 0 ≤ lo ∧ lo ≤ 1114111 := ⟨hex.1.1, hex.1.2.1⟩
  have hhi2 : 0 ≤ y1 ∧ y1 ≤ 1114111 := ⟨hey.2.1, hey.2.2.1⟩
  clear h1 h2 h3 hm k1 k2 hex hey
  go_enter Try.func35, Try.ntmps35
  go_wp2
  go_quiet ((go_at_call 37; exact Calls.quiet_of_same (rank_any _ (by omega) (by omega) _)))
  go_wp2
  have hmx2 : Try.prog.follows .mixedOrders = true := by kernel_rfl
  go_region_with (fail)
  all_goals
    have HE1 := hide (unhide HE (nq + 1) (max y1 hi))
    have HW1 := hide (unhide HW (nq + 1))
    have HF1 := hide (unhide HFr (nq + 1) (.int .i32 (max y1 hi)))
    clear HE HW HFr c0 c1 c2 q0 q1
    go_wp2
    refine bodyPost_ret (results_none rfl _ _ _) rfl ?_
    exact ⟨⟨_, rfl⟩, (unhide HE1).1, (unhide HW1).trans (unhide HE1).2, unhide HF1⟩
end Go.Proofs.Ytemmflhofhngbaa
/- lay of one span more that touches none: on any set that is being made. -/
namespace Go.Proofs.Ytemmflhofhngbaa
open Go.RowKit Go.Shelf
set_option linter.unusedVariables false
theorem ahs_add (zs : List (Int × Int)) (x : Int × Int) : ahs zs ++ [.int .i64 (total zs)] = ahs (zs ++ [x]) := (ahs_snoc zs x).symm
set_option maxRecDepth 100000 in
set_option maxHeartbeats 8000000 in
theorem lay_apart (B lo0 : Nat) (ys : List (Int × Int)) (y x : Int × Int) (hn : ys.length ≤ 1000000) (hS : Spread (ys ++ [y])) (hx : endsB x = true) (ht : ¬ rankOf x.1 ≤ rankOf y.2 + 1) (w : World) (hm : Made w B lo0 (ys ++ [y])) (hl : lo0 ≤ w.heap.size) :
    Calls Try.prog 35 #[.pointer (some ⟨B, 0, none⟩), spanV x] w fun e w' => (∃ r, e = .returned r) ∧ Made w' B lo0 (layL (ys ++ [y]) x) ∧ Below lo0 w w' ∧ Frame w w' B := by
  rw [layL_apart _ _ _ ht]
  obtain ⟨va, vb, h1, h2, h3⟩ := hm.form
  have hlo := hm.lo
  have hy := (hS.ends y (by simp)).1
  obtain ⟨zs, hzs⟩ : ∃ zs, zs = ys ++ [y] := ⟨_, rfl⟩
  have hzl : zs.length = ys.length + 1 := by rw [hzs]; simp
  obtain ⟨b, cb, rfl, _, _⟩ := own_rowA h3
  obtain ⟨g, ca, rfl, hg0, hg⟩ := h2.form (by simp)
  have hex := endsB_iff hx
  have hey := endsB_iff hy
  have r1 := rank_range hex.1.1 hex.1.2.1
  have r2 := rank_range hey.2.1 hey.2.2.1
  obtain ⟨lo, hi⟩ := x
  obtain ⟨y0, y1⟩ := y
  simp only at ht hex hey r1 r2
  have k1 := h2.cellAt (ys.length * 2 + 1) (by simp; omega)
  rw [(encP_at (ys ++ [(y0, y1)]) ys.length (y0, y1) (by simp)).2] at k1
  rw [← hzs] at h1 h2 h3 hm hS ⊢
  obtain ⟨iI, hi0, hi1, hi2, hi3⟩ := info_parts infoI
  have HI := hide (And.intro hi0 (And.intro hi1 (And.intro hi2 hi3)))
  obtain ⟨iP, hi0, hi1, hi2, hi3⟩ := info_parts infoP
  have HP := hide (And.intro hi0 (And.intro hi1 (And.intro hi2 hi3)))
  clear hi0 hi1 hi2 hi3
  have HX := hide (Blk.new w #[.int .i32 lo, .int .i32 hi] 28)
  have HBm := hide ((Below.refl w.heap.size w).alloc (Nat.le_refl _) (.cells #[.int .i32 lo, .int .i32 hi] 28))
  have HB := hide (h1.alloc (.cells #[.int .i32 lo, .int .i32 hi] 28))
  have HA := hide (h2.alloc (.cells #[.int .i32 lo, .int .i32 hi] 28))
  have HV := hide (h3.alloc (.cells #[.int .i32 lo, .int .i32 hi] 28))
  have HS := hide (fun (k : Nat) => (show Made ((w.alloc (.cells #[.int .i32 lo, .int .i32 hi] 28)).drewN k) B lo0 zs from ⟨⟨_, _, unhide HB, unhide HA, unhide HV⟩, hlo⟩).set hS (by omega))
  have HB0 := hide h1
  have HNE : Hz (w.heap.size ≠ B) := hide (fun e => by have := h1.lt; omega)
  have c0 := (unhide HB).cell 0
  have c1 := alloc_cell (.cells #[.int .i32 lo, .int .i32 hi] 28) k1
  have q0 := (unhide HX).cell 0
  rw [hzl] at c0
  have HZL := hide hzl
  have HTB := hide (total_bound hS.ends)
  generalize ys.length = m at *
  have hm1 : ((m + 1 : Nat) : Int) - 1 = (m : Int) := by omega
  have hm2 : ((m : Nat) : Int).toNat = m := by omega
  have hlo2 : 0 ≤ lo ∧ lo ≤ 1114111 := ⟨hex.1.1, hex.1.2.1⟩
  have hhi2 : 0 ≤ y1 ∧ y1 ≤ 1114111 := ⟨hey.2.1, hey.2.2.1⟩
  clear h1 h2 h3 hm k1 hex hey hS hy hx hzs hzl
  go_enter Try.func35, Try.ntmps35
  go_wp2
  go_quiet ((go_at_call 37; exact Calls.quiet_of_same (rank_any _ (by omega) (by omega) _)))
  go_wp2
  have HBd : Hz (Blk ((w.alloc (.cells #[.int .i32 lo, .int .i32 hi] 28)).drewN nq).drew B _ 66) := hide (unhide HB)
  have HXd : Hz (Blk ((w.alloc (.cells #[.int .i32 lo, .int .i32 hi] 28)).drewN nq).drew w.heap.size #[.int .i32 lo, .int .i32 hi] 28) := hide (unhide HX)
  have HAd : Hz (((w.alloc (.cells #[.int .i32 lo, .int .i32 hi] 28)).drewN nq).drew.ownsRow lo0 28 2 _ _ _) := hide (unhide HA)
  have HVd : Hz (((w.alloc (.cells #[.int .i32 lo, .int .i32 hi] 28)).drewN nq).drew.ownsRow lo0 3 1 _ _ _) := hide (unhide HV)
  have HSd : Hz (SetAt ((w.alloc (.cells #[.int .i32 lo, .int .i32 hi] 28)).drewN nq).drew B zs) := hide (unhide HS (nq + 1))
  have HBmd : Hz (Below w.heap.size w ((w.alloc (.cells #[.int .i32 lo, .int .i32 hi] 28)).drewN nq).drew) := hide (below_drewN (unhide HBm) nq).drew
  clear HB HX HA HV HS HBm c0 c1 q0
  generalize (w.alloc (.cells #[.int .i32 lo, .int .i32 hi] 28)).drewN nq = wm at *
  have c0 := (show Blk wm B _ 66 from unhide HBd).cell 0
  have c1 := (show Blk wm B _ 66 from unhide HBd).cell 1
  have HS := hide (size_any B zs wm.drew (unhide HSd))
  have HLm : Hz (lo0 ≤ wm.drew.heap.size) := hide (Nat.le_trans hl (unhide HBmd).size)
  have hmx2 : Try.prog.follows .mixedOrders = true := by kernel_rfl
  go_region_law (first
    | (go_simp; refine (unhide HS).mono ?_; rintro e w2 ⟨rfl, hb⟩; have b2 := (unhide HBd).below hb (unhide HBd).lt; have d0 := b2.cell 0; have d1 := b2.cell 1; have d3 := (b2.alloc (.cells #[.int .i64 (total zs)] 3)).cell 1)
    | (refine step_append_lies _ (by rfl) _ _ _ (by rfl) lo0 3 iI (.int .i64 0) 1 8 Try.underlying47 (unhide HI).1 (unhide HI).2.1 (unhide HI).2.2.1 (unhide HI).2.2.2 rfl (by omega) (.slice b zs.length cb) zs.length (ahs zs) (by rfl) ((own_below (unhide HVd) hb).alloc _) ⟨w2.heap.size, 0, none⟩ 1 1 [.int .i64 (total zs)] (by rfl) (by simp) (one_cell w2 _) (by simp [Value.oneCell']) (by omega) (by have := unhide HZL; unfold maxLen; omega) (by have := unhide HZL; omega) (by have := hb.size; have := unhide HLm; simp; omega) (w2.heap.size + 1) (by simp) ?_; intro g1 cap1 w3 hown1 hgrow1 hat1 hlt1; have hm := mid_any (unhide HBd) (unhide HXd) (unhide HAd) (unhide HVd) hb hgrow1; have e0 := hm.1.cell 0; have e1 := hm.1.cell 1; have e2 := hm.1.frozen 1))
  all_goals
    obtain ⟨w4, h4, hb4, hx4, ho4, ha4, hB4, hF4⟩ := fst_end' (unhide HBd) (unhide HXd) (unhide HAd) (unhide HVd) (unhide HBmd) hb hgrow1 hlo hl (unhide HNE) hown1
    rw [← h4]
    rw [ahs_add zs (lo, hi)] at ho4
    have HB4 := hide hb4
    have HX4 := hide hx4
    have HO4 := hide ho4
    have HA4 := hide ha4
    have HL4 := hide hB4
    have HF4 := hide hF4
    have p0 := hb4.cell 0
    have p1 := (hb4.alloc (.cells #[.int .i32 lo, .int .i32 hi] 28)).cell 0
    have x0 := hx4.cell 0
    have x1 := hx4.cell 1
    clear h4 hb4 hx4 ho4 hB4 hF4 ha4 hown1 hgrow1 hat1 hlt1 hm e0 e1 e2 b2 d0 d1 d3 hb HS HBd HXd HAd HVd HSd HLm HBmd c0 c1
    go_wp2
    go_region_law (first
      | (refine step_append_lies _ (by rfl) _ _ _ (by rfl) lo0 28 iP (.agg #[.int .i32 0, .int .i32 0]) 2 8 Try.underlying30 (unhide HP).1 (unhide HP).2.1 (unhide HP).2.2.1 (unhide HP).2.2.2 rfl (by omega) (.slice (some ⟨g, 0, none⟩) zs.length ca) zs.length (encP zs) (by rfl) ((unhide HA4).alloc _) ⟨w4.heap.size, 0, none⟩ 1 1 (encP [(lo, hi)]) (by rfl) (by simp [encP]) (two_cell w4 (lo, hi)) (encP_one _) (by omega) (by have := unhide HZL; unfold maxLen; omega) (by have := unhide HZL; omega) (by have := (unhide HL4).size; simp; omega) (w4.heap.size + 1) (by simp) ?_; intro g5 cap5 w5 hown5 hgrow5 hat5 hlt5; have hm5 := (show Blk (w4.alloc (.cells #[.int .i32 lo, .int .i32 hi] 28)).drew B _ 66 from (unhide HB4).alloc (.cells #[.int .i32 lo, .int .i32 hi] 28)).kept hgrow5 (own_ne (show (w4.alloc (.cells #[.int .i32 lo, .int .i32 hi] 28)).drew.ownsRow lo0 28 2 _ _ _ from (unhide HA4).alloc (.cells #[.int .i32 lo, .int .i32 hi] 28)) (show Blk (w4.alloc (.cells #[.int .i32 lo, .int .i32 hi] 28)).drew B _ 66 from (unhide HB4).alloc (.cells #[.int .i32 lo, .int .i32 hi] 28)) (by decide)); have y0 := hm5.cell 0; have y1 := hm5.frozen 0))
    all_goals
      have HE := hide (snd_end' (x := (lo, hi)) (unhide HB4) (unhide HO4) (unhide HA4) (unhide HL4) hl hlo hgrow5 hown5 (Pv := fun X => (Value.slice b zs.length cb).ownBlock ≠ some X) (unhide HF4))
      go_end0
      exact ⟨⟨_, rfl⟩, (unhide HE).1, (unhide HE).2.1, fun X hX hXB hv => (unhide HE).2.2 X hX hXB (hv _ _ (unhide HB0)).2 (hv _ _ (unhide HB0)).1⟩
end Go.Proofs.Ytemmflhofhngbaa
/- A set that is being made, one span more: lay at every set. -/
namespace Go.Proofs.Ytemmflhofhngbaa
open Go.RowKit Go.Shelf
set_option linter.unusedVariables false
/-- A set that is being made; its lists are nil as long as it is empty. -/
def Grows (W : World) (B lo0 : Nat) (zs : List (Int × Int)) : Prop := Made W B lo0 zs ∧ (zs = [] → Blk W B #[.slice none 0 0, .slice none 0 0] 66)
theorem laid_made {W : World} {B lo0 : Nat} {x : Int × Int} (h : Laid W B lo0 x) (hl : lo0 ≤ B) : Made W B lo0 [x] := by
  obtain ⟨va, vb, h1, h2, h3⟩ := h
  exact ⟨⟨va, vb, h1, h2, h3⟩, hl⟩
theorem layL_ne (zs : List (Int × Int)) (x : Int × Int) : layL zs x ≠ [] := by
  unfold layL
  split
  · split <;> simp
  · simp
theorem lay_any (B lo0 : Nat) (zs : List (Int × Int)) (x : Int × Int) (hn : zs.length ≤ 1000000) (hS : Spread zs) (hx : endsB x = true) (w : World) (hG : Grows w B lo0 zs) (hl : lo0 ≤ w.heap.size) :
    Calls Try.prog 35 #[.pointer (some ⟨B, 0, none⟩), spanV x] w fun e w' => (∃ r, e = .returned r) ∧ Grows w' B lo0 (layL zs x) ∧ Below lo0 w w' ∧ Frame w w' B := by
  rcases List.eq_nil_or_concat zs with rfl | ⟨ys, y, rfl⟩
  · refine (lay_first B lo0 x w (hG.2 rfl) hG.1.lo hl).mono fun e w' ⟨h1, h2, h3, h4⟩ => ⟨h1, ⟨laid_made h2 hG.1.lo, fun h => absurd h (layL_ne _ _)⟩, h3, fun X hX hXB _ => h4 X hX hXB⟩
  · rw [List.concat_eq_append] at *
    have hn' : ys.length ≤ 1000000 := by simp at hn; omega
    by_cases t : rankOf x.1 ≤ rankOf y.2 + 1
    · exact (lay_touch B lo0 ys y x hn' (hS.ends y (by simp)).1 hx t w hG.1 hl).mono fun e w' ⟨h1, h2, h3, h4⟩ => ⟨h1, ⟨h2, fun h => absurd h (layL_ne _ _)⟩, h3, h4⟩
    · exact (lay_apart B lo0 ys y x hn' hS hx t w hG.1 hl).mono fun e w' ⟨h1, h2, h3, h4⟩ => ⟨h1, ⟨h2, fun h => absurd h (layL_ne _ _)⟩, h3, h4⟩
theorem RowP.under {W W' : World} {N : Nat} {a : Option Addr} {zs : List (Int × Int)} (h : RowP W a zs) (hN : W.heap.size ≤ N) (hb : Below N W W') : RowP W' a zs := h.below (hb.mono hN)

theorem Grows.below {W W' : World} {B lo0 : Nat} {zs : List (Int × Int)} (h : Grows W B lo0 zs) (hb : Below W.heap.size W W') : Grows W' B lo0 zs := ⟨h.1.below hb, fun e => (h.2 e).below hb (h.2 e).lt⟩
theorem grows_new (W : World) (o : Obj) (ho : o = .cells #[.slice none 0 0, .slice none 0 0] 66) : Grows (W.alloc o) W.heap.size W.heap.size [] := by
  subst ho
  have b := Blk.new W #[.slice none 0 0, .slice none 0 0] 66
  exact ⟨⟨⟨_, _, b, World.ownsRow_nil _ _ _ _, World.ownsRow_nil _ _ _ _⟩, Nat.le_refl _⟩, fun _ => b⟩
theorem take_more {d : List (Int × Int)} {k : Nat} {x : Int × Int} (h : d[k]? = some x) : d.take (k + 1) = d.take k ++ [x] := by
  rw [List.take_add_one, h]
  rfl
end Go.Proofs.Ytemmflhofhngbaa
