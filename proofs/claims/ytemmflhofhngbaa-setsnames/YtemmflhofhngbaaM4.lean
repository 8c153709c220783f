/- Texts of this claim, one behind the other. -/
import Derived.Test.YtemmflhofhngbaaM3
import Derived.Test.YtemmflhofhngbaaM1
import Derived.Shelf.SlSortCmp.NoneTotal
import Derived.Test.YtemmflhofhngbaaM2
/- A set that is being made, as it lies in memory; what an append or a store leaves of it. -/
namespace Go.Proofs.Ytemmflhofhngbaa
open Go.RowKit Go.Shelf
set_option linter.unusedVariables false
/-- How many runes lie ahead of each span. -/
def ahs (zs : List (Int × Int)) : List Value := (List.range zs.length).map fun j => .int .i64 (total (zs.take j))
theorem ahs_length (zs : List (Int × Int)) : (ahs zs).length = zs.length := by simp [ahs]
theorem ahs_at (zs : List (Int × Int)) (j : Nat) (hj : j < zs.length) : (ahs zs)[j]? = some (.int .i64 (total (zs.take j))) := by simp [ahs, hj]
theorem ahs_snoc (zs : List (Int × Int)) (x : Int × Int) : ahs (zs ++ [x]) = ahs zs ++ [.int .i64 (total zs)] := by
  unfold ahs
  rw [List.length_append, List.length_singleton, List.range_succ, List.map_append]
  congr 1
  · apply List.map_congr_left
    intro j hj
    rw [List.mem_range] at hj
    rw [List.take_append_of_le_length (by omega)]
  · simp
theorem ahs_last (ys : List (Int × Int)) (y y' : Int × Int) : ahs (ys ++ [y']) = ahs (ys ++ [y]) := by rw [ahs_snoc, ahs_snoc]
theorem own_rowA {W : World} {base n : Nat} {v : Value} {zs : List (Int × Int)} (h : W.ownsRow base 3 1 v n (ahs zs)) : ∃ a c, v = .slice a zs.length c ∧ RowA W a zs ∧ n = zs.length := by
  obtain ⟨hl, h⟩ := h
  rw [ahs_length] at hl
  have hn : n = zs.length := by omega
  subst hn
  rcases h with ⟨rfl, h0⟩ | ⟨g, cap, cur, rfl, hb, hg, h1, h2, h3, h4⟩
  · exact ⟨none, 0, by rw [h0], fun h => by omega, rfl⟩
  · refine ⟨_, cap, rfl, fun h0 => ⟨g, 0, rfl, (Array.getElem?_eq_some_iff.1 hg).1, fun j hj => ?_⟩, rfl⟩
    have hbk : Blk W g cur 3 := hg
    have e := ahs_at zs j hj
    rw [← h4] at e
    rw [List.getElem?_take, if_pos (by omega)] at e
    rw [Nat.zero_add, Blk.cell hbk]
    simpa using e
theorem own_below {W W' : World} {base E sz n : Nat} {v : Value} {xs : List Value} (h : W.ownsRow base E sz v n xs) (hb : Below W.heap.size W W') : W'.ownsRow base E sz v n xs := by
  obtain ⟨hl, h⟩ := h
  refine ⟨hl, ?_⟩
  rcases h with h | ⟨g, cap, cur, h1, h2, h3, h4⟩
  · exact .inl h
  · exact .inr ⟨g, cap, cur, h1, h2, (hb.block g (Array.getElem?_eq_some_iff.1 h3).1).trans h3, h4⟩
/-- A row is no block of another type. -/
theorem own_ne {W : World} {base E t sz n B : Nat} {v : Value} {xs : List Value} {cs : Array Value} (h : W.ownsRow base E sz v n xs) (hB : Blk W B cs t) (hE : t ≠ E) : some B ≠ v.ownBlock := by
  intro e
  rcases h.2 with ⟨rfl, _⟩ | ⟨g, cap, cur, rfl, _, hg, _⟩
  · simp [Value.ownBlock] at e
  · simp [Value.ownBlock] at e
    subst e
    have := (show W.heap[B]? = _ from hB).symm.trans hg
    simp at this
    exact hE this.2
/-- Nor is it a row of another type. -/
theorem own_own {W : World} {base base' E E' sz sz' n n' : Nat} {v v' : Value} {xs xs' : List Value} (h : W.ownsRow base E sz v n xs) (h' : W.ownsRow base' E' sz' v' n' xs') (hE : E ≠ E') : v.ownBlock = none ∨ v.ownBlock ≠ v'.ownBlock := by
  rcases h.2 with ⟨rfl, _⟩ | ⟨g, cap, cur, rfl, _, hg, _⟩
  · exact .inl rfl
  · exact .inr (own_ne h' (show Blk W g cur E from hg) hE)
/-- All but a set's own blocks is as it was. -/
def Frame (w w' : World) (B : Nat) : Prop := ∀ X, X < w.heap.size → X ≠ B → (∀ va vb, Blk w B #[va, vb] 66 → va.ownBlock ≠ some X ∧ vb.ownBlock ≠ some X) → w'.heap[X]? = w.heap[X]?
/-- A set that is being made. -/
structure Made (W : World) (B lo0 : Nat) (zs : List (Int × Int)) : Prop where
  form : ∃ va vb, Blk W B #[va, vb] 66 ∧ W.ownsRow lo0 28 2 va zs.length (encP zs) ∧ W.ownsRow lo0 3 1 vb zs.length (ahs zs)
  lo : lo0 ≤ B
theorem Made.set {W : World} {B lo0 : Nat} {zs : List (Int × Int)} (h : Made W B lo0 zs) (hs : Spread zs) (hl : zs.length ≤ 1112064) : SetAt W B zs := by
  obtain ⟨va, vb, h1, h2, h3⟩ := h.form
  obtain ⟨a, ca, rfl, ha, _⟩ := own_row h2
  obtain ⟨b, cb, rfl, hb, _⟩ := own_rowA h3
  exact ⟨⟨a, ca, b, cb, h1, ha, hb⟩, hs, hl⟩
theorem Made.below {W W' : World} {B lo0 : Nat} {zs : List (Int × Int)} (h : Made W B lo0 zs) (hb : Below W.heap.size W W') : Made W' B lo0 zs := by
  obtain ⟨va, vb, h1, h2, h3⟩ := h.form
  exact ⟨⟨va, vb, h1.below hb h1.lt, own_below h2 hb, own_below h3 hb⟩, h.lo⟩
/-- A store into the last span's second cell. -/
theorem encP_last (ys : List (Int × Int)) (y : Int × Int) (u : Int) : (encP (ys ++ [y])).set (ys.length * 2 + 1) (.int .i32 u) = encP (ys ++ [(y.1, u)]) := by
  rw [encP_append, encP_append, List.set_append, if_neg (by rw [encP_length]; omega), encP_length]
  have : ys.length * 2 + 1 - ys.length * 2 = 1 := by omega
  rw [this]
  rfl
theorem Made.touch {W : World} {B lo0 g ca : Nat} {vb : Value} {ys : List (Int × Int)} {y : Int × Int} (h1 : Blk W B #[.slice (some ⟨g, 0, none⟩) (ys.length + 1) ca, vb] 66) (h2 : W.ownsRow lo0 28 2 (.slice (some ⟨g, 0, none⟩) (ys.length + 1) ca) (ys.length + 1) (encP (ys ++ [y]))) (h3 : W.ownsRow lo0 3 1 vb (ys.length + 1) (ahs (ys ++ [y]))) (hl : lo0 ≤ B) (u : Int) :
    Made (W.setCell ⟨g, ys.length * 2 + 1, none⟩ (.int .i32 u)) B lo0 (ys ++ [(y.1, u)]) ∧ Below lo0 W (W.setCell ⟨g, ys.length * 2 + 1, none⟩ (.int .i32 u)) := by
  have hs := h2.stored (ys.length * 2 + 1) (.int .i32 u)
  have hg : lo0 ≤ g := (h2.lt g rfl).1
  refine ⟨⟨⟨_, vb, h1.kept hs.2 ?_, ?_, ?_⟩, hl⟩, (Below.refl lo0 W).setCell (p := ⟨g, ys.length * 2 + 1, none⟩) hg _⟩
  · exact own_ne h2 h1 (by decide)
  · rw [List.length_append, List.length_singleton]
    have := hs.1
    rw [encP_last] at this
    exact this
  · rw [List.length_append, List.length_singleton, ahs_last ys y]
    exact h3.kept hs.2 (own_own h3 h2 (by decide))
/-- What the first append leaves. -/
theorem mid_any {wm w2 w3 : World} {B X lo0 n : Nat} {va vb : Value} {cx : Array Value} {xs ys : List Value} {tmp : Obj} (hB : Blk wm B #[va, vb] 66) (hX : Blk wm X cx 28) (ha : wm.ownsRow lo0 28 2 va n xs) (hv : wm.ownsRow lo0 3 1 vb n ys) (hb : Below wm.heap.size wm w2) (hg : (w2.alloc tmp).grownBy w3 vb.ownBlock) :
    Blk w3 B #[va, vb] 66 ∧ Blk w3 X cx 28 ∧ w3.ownsRow lo0 28 2 va n xs := by
  have b1 := (hB.below hb hB.lt).alloc tmp
  have x1 := (hX.below hb hX.lt).alloc tmp
  have a1 := (own_below ha hb).alloc tmp
  have v1 := (own_below hv hb).alloc tmp
  exact ⟨b1.kept hg (own_ne v1 b1 (by decide)), x1.kept hg (own_ne v1 x1 (by decide)), a1.kept hg (own_own a1 v1 (by decide))⟩
theorem fst_end' {w wm w2 w3 : World} {B lo0 X g1 cap1 n : Nat} {va vb : Value} {cx : Array Value} {xs ys zs : List Value} {tmp : Obj} (hB : Blk wm B #[va, vb] 66) (hX : Blk wm X cx 28) (ha : wm.ownsRow lo0 28 2 va n xs) (hv : wm.ownsRow lo0 3 1 vb n ys) (hw : Below w.heap.size w wm) (hb : Below wm.heap.size wm w2) (hg : (w2.alloc tmp).grownBy w3 vb.ownBlock) (h0 : lo0 ≤ B) (hl : lo0 ≤ w.heap.size) (hne : X ≠ B)
    (ho : w3.ownsRow lo0 3 1 (.slice (some ⟨g1, 0, none⟩) (n + 1) cap1) (n + 1) zs) :
    ∃ w4, w4 = w3.setCell ⟨B, 1, none⟩ (.slice (some ⟨g1, 0, none⟩) (n + 1) cap1) ∧ Blk w4 B #[va, .slice (some ⟨g1, 0, none⟩) (n + 1) cap1] 66 ∧ Blk w4 X cx 28 ∧ w4.ownsRow lo0 3 1 (.slice (some ⟨g1, 0, none⟩) (n + 1) cap1) (n + 1) zs ∧ w4.ownsRow lo0 28 2 va n xs ∧ Below lo0 w w4 ∧ (∀ X, X < w.heap.size → X ≠ B → vb.ownBlock ≠ some X → w4.heap[X]? = w.heap[X]?) := by
  have hm := mid_any hB hX ha hv hb hg
  refine ⟨_, rfl, by simpa using hm.1.set 1 (.slice (some ⟨g1, 0, none⟩) (n + 1) cap1), hm.2.1.other hne _, ?_, ?_, ?_, fun X hX hXB hXv => ?_⟩
  · exact ho.kept (grown_setCell' w3 ⟨B, 1, none⟩ _) (.inr (own_ne ho hm.1 (by decide)).symm)
  · rcases hm.2.2.2 with ⟨rfl, _⟩ | _
    · exact hm.2.2.kept (grown_setCell' w3 ⟨B, 1, none⟩ _) (.inl rfl)
    · exact hm.2.2.kept (grown_setCell' w3 ⟨B, 1, none⟩ _) (.inr (own_ne hm.2.2 hm.1 (by decide)).symm)
  · have s1 := hw.size
    have s2 := hb.size
    have v1 := hv.lt
    exact ((((hw.mono hl).trans (hb.mono (by omega))).alloc (by omega) tmp).grown hg (by simp; omega) (fun k e => (v1 k e).1)).setCell (p := ⟨B, 1, none⟩) h0 _
  · have s1 := hw.size
    have s2 := hb.size
    rw [Below.heap_setCell w3 ⟨B, 1, none⟩ _ X hXB, hg.block X (by simp; omega) (fun e => hXv e.symm), Below.heap_alloc w2 tmp X (by omega), hb.block X (by omega), hw.block X hX]
theorem snd_end' {w w4 w5 : World} {B lo0 g1 cap1 g5 cap5 : Nat} {va : Value} {zs : List (Int × Int)} {x : Int × Int} {tmp : Obj} (hB : Blk w4 B #[va, .slice (some ⟨g1, 0, none⟩) (zs.length + 1) cap1] 66) (ho : w4.ownsRow lo0 3 1 (.slice (some ⟨g1, 0, none⟩) (zs.length + 1) cap1) (zs.length + 1) (ahs (zs ++ [x]))) (ha : w4.ownsRow lo0 28 2 va zs.length (encP zs)) (hL : Below lo0 w w4) (hl : lo0 ≤ w.heap.size) (h0 : lo0 ≤ B)
    (hg : (w4.alloc tmp).drew.grownBy w5 va.ownBlock) (ho5 : w5.ownsRow lo0 28 2 (.slice (some ⟨g5, 0, none⟩) (zs.length + 1) cap5) (zs.length + 1) (encP zs ++ encP [x])) {Pv : Nat → Prop} (hF : ∀ X, X < w.heap.size → X ≠ B → Pv X → w4.heap[X]? = w.heap[X]?) :
    Made (w5.setCell ⟨B, 0, none⟩ (.slice (some ⟨g5, 0, none⟩) (zs.length + 1) cap5)) B lo0 (zs ++ [x]) ∧ Below lo0 w (w5.setCell ⟨B, 0, none⟩ (.slice (some ⟨g5, 0, none⟩) (zs.length + 1) cap5)) ∧ (∀ X, X < w.heap.size → X ≠ B → Pv X → va.ownBlock ≠ some X → (w5.setCell ⟨B, 0, none⟩ (.slice (some ⟨g5, 0, none⟩) (zs.length + 1) cap5)).heap[X]? = w.heap[X]?) := by
  have hg' : (w4.alloc tmp).grownBy w5 va.ownBlock := ⟨hg.os, hg.tape, hg.output, hg.size, hg.block⟩
  have b1 := hB.alloc tmp
  have a1 := ha.alloc tmp
  have o1 := ho.alloc tmp
  have hm := b1.kept hg' (own_ne a1 b1 (by decide))
  have ho1 := o1.kept hg' (own_own o1 a1 (by decide))
  rw [← encP_append] at ho5
  refine ⟨⟨⟨_, _, by simpa using hm.set 0 (.slice (some ⟨g5, 0, none⟩) (zs.length + 1) cap5), ?_, ?_⟩, h0⟩, ?_, fun X hX hXB hP hXa => ?_⟩
  · rw [List.length_append, List.length_singleton]
    exact ho5.kept (grown_setCell' w5 ⟨B, 0, none⟩ _) (.inr (own_ne ho5 hm (by decide)).symm)
  · rw [List.length_append, List.length_singleton]
    exact ho1.kept (grown_setCell' w5 ⟨B, 0, none⟩ _) (.inr (own_ne ho1 hm (by decide)).symm)
  · have s1 := hL.size
    exact ((hL.alloc (by omega) tmp).grown hg' (by simp; omega) (fun k e => (ha.lt k e).1)).setCell (p := ⟨B, 0, none⟩) h0 _
  · have s1 := hL.size
    rw [Below.heap_setCell w5 ⟨B, 0, none⟩ _ X hXB, hg'.block X (by simp; omega) (fun e => hXa e.symm), Below.heap_alloc w4 tmp X (by omega), hF X hX hXB hP]
end Go.Proofs.Ytemmflhofhngbaa
/- lay of one span more, on any set that is being made. -/
namespace Go.Proofs.Ytemmflhofhngbaa
open Go.RowKit Go.Shelf
set_option linter.unusedVariables false
set_option maxRecDepth 100000 in
set_option maxHeartbeats 4000000 in
theorem lay_touch (B lo0 : Nat) (ys : List (Int × Int)) (y x : Int × Int) (hn : ys.length ≤ 1000000) (hy : endsB y = true) (hx : endsB x = true) (ht : rankOf x.1 ≤ rankOf y.2 + 1) (w : World) (hm : Made w B lo0 (ys ++ [y])) (hl : lo0 ≤ w.heap.size) :
    Calls Try.prog 35 #[.pointer (some ⟨B, 0, none⟩), spanV x] w fun e w' => (∃ r, e = .returned r) ∧ Made w' B lo0 (layL (ys ++ [y]) x) ∧ Below lo0 w w' ∧ Frame w w' B := by
  rw [layL_touch _ _ _ ht]
  obtain ⟨va, vb, h1, h2, h3⟩ := hm.form
  have hlo := hm.lo
  rw [List.length_append, List.length_singleton] at h2 h3
  obtain ⟨g, ca, rfl, hg0, hg⟩ := h2.form (by omega)
  have hex := endsB_iff hx
  have hey := endsB_iff hy
  have r1 := rank_range hex.1.1 hex.1.2.1
  have r2 := rank_range hey.2.1 hey.2.2.1
  obtain ⟨lo, hi⟩ := x
  obtain ⟨y0, y1⟩ := y
  simp only at ht hex hey r1 r2
  simp only
  have k1 := h2.cellAt (ys.length * 2 + 1) (by omega)
  have k2 := h2.frozenAt (ys.length * 2 + 1)
  rw [(encP_at (ys ++ [(y0, y1)]) ys.length (y0, y1) (by simp)).2] at k1
  have c0 := (h1.alloc (.cells #[.int .i32 lo, .int .i32 hi] 28)).cell 0
  have c1 := alloc_cell (.cells #[.int .i32 lo, .int .i32 hi] 28) k1
  have c2 : (w.alloc (.cells #[.int .i32 lo, .int .i32 hi] 28)).frozen? ⟨g, ys.length * 2 + 1, none⟩ = false := (((Below.refl _ w).alloc (Nat.le_refl _) _).frozen (p := ⟨g, ys.length * 2 + 1, none⟩) hg).trans k2
  have q0 := (Blk.new w #[.int .i32 lo, .int .i32 hi] 28).cell 0
  have q1 := (Blk.new w #[.int .i32 lo, .int .i32 hi] 28).cell 1
  have HE := hide (fun (k : Nat) (u : Int) => Made.touch (W := (w.alloc (.cells #[.int .i32 lo, .int .i32 hi] 28)).drewN k) (h1.alloc (.cells #[.int .i32 lo, .int .i32 hi] 28)) (h2.alloc (.cells #[.int .i32 lo, .int .i32 hi] 28)) (h3.alloc (.cells #[.int .i32 lo, .int .i32 hi] 28)) hlo u)
  have HW := hide (fun (k : Nat) => below_drewN ((Below.refl lo0 w).alloc hl (.cells #[.int .i32 lo, .int .i32 hi] 28)) k)
  have HFr : Hz (∀ (k : Nat) (u : Value), Frame w (((w.alloc (.cells #[.int .i32 lo, .int .i32 hi] 28)).drewN k).setCell ⟨g, ys.length * 2 + 1, none⟩ u) B) := hide (fun k u X hX hXB hv => by
    have hne : X ≠ g := fun e => (hv _ _ h1).1 (by rw [e]; rfl)
    rw [Below.heap_setCell _ ⟨g, ys.length * 2 + 1, none⟩ _ X hne]
    exact Below.heap_alloc w _ X hX)
  generalize ys.length = m at *
  have hm1 : ((m + 1 : Nat) : Int) - 1 = (m : Int) := by omega
  have hm2 : ((m : Nat) : Int).toNat = m := by omega
  have hlo2 : 0 ≤ lo ∧ lo ≤ 1114111 := ⟨hex.1.1, hex.1.2.1⟩
  have hhi2 : 0 ≤ y1 ∧ y1 ≤ 1114111 := ⟨hey.2.1, hey.2.2.1⟩
  clear h1 h2 h3 hm k1 k2 hex hey
  go_enter Try.func35, Try.ntmps35
  go_wp2
  go_quiet ((go_at_call 37; exact Calls.quiet_of_same (rank_any _ (by omega) (by omega) _)))
  go_wp2
  have hmx2 : Try.prog.follows .mixedOrders = true := by kernel_rfl
  go_region_with (fail)
  all_goals
    have HE1 := hide (unhide HE (nq + 1) (max y1 hi))
    have HW1 := hide (unhide HW (nq + 1))
    have HF1 := hide (unhide HFr (nq + 1) (.int .i32 (max y1 hi)))
    clear HE HW HFr c0 c1 c2 q0 q1
    go_wp2
    refine bodyPost_ret (results_none rfl _ _ _) rfl ?_
    exact ⟨⟨_, rfl⟩, (unhide HE1).1, (unhide HW1).trans (unhide HE1).2, unhide HF1⟩
end Go.Proofs.Ytemmflhofhngbaa
/- lay of one span more that touches none: on any set that is being made. -/
namespace Go.Proofs.Ytemmflhofhngbaa
open Go.RowKit Go.Shelf
set_option linter.unusedVariables false
theorem ahs_add (zs : List (Int × Int)) (x : Int × Int) : ahs zs ++ [.int .i64 (total zs)] = ahs (zs ++ [x]) := (ahs_snoc zs x).symm
set_option maxRecDepth 100000 in
set_option maxHeartbeats 8000000 in
theorem lay_apart (B lo0 : Nat) (ys : List (Int × Int)) (y x : Int × Int) (hn : ys.length ≤ 1000000) (hS : Spread (ys ++ [y])) (hx : endsB x = true) (ht : ¬ rankOf x.1 ≤ rankOf y.2 + 1) (w : World) (hm : Made w B lo0 (ys ++ [y])) (hl : lo0 ≤ w.heap.size) :
    Calls Try.prog 35 #[.pointer (some ⟨B, 0, none⟩), spanV x] w fun e w' => (∃ r, e = .returned r) ∧ Made w' B lo0 (layL (ys ++ [y]) x) ∧ Below lo0 w w' ∧ Frame w w' B := by
  rw [layL_apart _ _ _ ht]
  obtain ⟨va, vb, h1, h2, h3⟩ := hm.form
  have hlo := hm.lo
  have hy := (hS.ends y (by simp)).1
  obtain ⟨zs, hzs⟩ : ∃ zs, zs = ys ++ [y] := ⟨_, rfl⟩
  have hzl : zs.length = ys.length + 1 := by rw [hzs]; simp
  obtain ⟨b, cb, rfl, _, _⟩ := own_rowA h3
  obtain ⟨g, ca, rfl, hg0, hg⟩ := h2.form (by simp)
  have hex := endsB_iff hx
  have hey := endsB_iff hy
  have r1 := rank_range hex.1.1 hex.1.2.1
  have r2 := rank_range hey.2.1 hey.2.2.1
  obtain ⟨lo, hi⟩ := x
  obtain ⟨y0, y1⟩ := y
  simp only at ht hex hey r1 r2
  have k1 := h2.cellAt (ys.length * 2 + 1) (by simp; omega)
  rw [(encP_at (ys ++ [(y0, y1)]) ys.length (y0, y1) (by simp)).2] at k1
  rw [← hzs] at h1 h2 h3 hm hS ⊢
  obtain ⟨iI, hi0, hi1, hi2, hi3⟩ := info_parts infoI
  have HI := hide (And.intro hi0 (And.intro hi1 (And.intro hi2 hi3)))
  obtain ⟨iP, hi0, hi1, hi2, hi3⟩ := info_parts infoP
  have HP := hide (And.intro hi0 (And.intro hi1 (And.intro hi2 hi3)))
  clear hi0 hi1 hi2 hi3
  have HX := hide (Blk.new w #[.int .i32 lo, .int .i32 hi] 28)
  have HBm := hide ((Below.refl w.heap.size w).alloc (Nat.le_refl _) (.cells #[.int .i32 lo, .int .i32 hi] 28))
  have HB := hide (h1.alloc (.cells #[.int .i32 lo, .int .i32 hi] 28))
  have HA := hide (h2.alloc (.cells #[.int .i32 lo, .int .i32 hi] 28))
  have HV := hide (h3.alloc (.cells #[.int .i32 lo, .int .i32 hi] 28))
  have HS := hide (fun (k : Nat) => (show Made ((w.alloc (.cells #[.int .i32 lo, .int .i32 hi] 28)).drewN k) B lo0 zs from ⟨⟨_, _, unhide HB, unhide HA, unhide HV⟩, hlo⟩).set hS (by omega))
  have HB0 := hide h1
  have HNE : Hz (w.heap.size ≠ B) := hide (fun e => by have := h1.lt; omega)
  have c0 := (unhide HB).cell 0
  have c1 := alloc_cell (.cells #[.int .i32 lo, .int .i32 hi] 28) k1
  have q0 := (unhide HX).cell 0
  rw [hzl] at c0
  have HZL := hide hzl
  have HTB := hide (total_bound hS.ends)
  generalize ys.length = m at *
  have hm1 : ((m + 1 : Nat) : Int) - 1 = (m : Int) := by omega
  have hm2 : ((m : Nat) : Int).toNat = m := by omega
  have hlo2 : 0 ≤ lo ∧ lo ≤ 1114111 := ⟨hex.1.1, hex.1.2.1⟩
  have hhi2 : 0 ≤ y1 ∧ y1 ≤ 1114111 := ⟨hey.2.1, hey.2.2.1⟩
  clear h1 h2 h3 hm k1 hex hey hS hy hx hzs hzl
  go_enter Try.func35, Try.ntmps35
  go_wp2
  go_quiet ((go_at_call 37; exact Calls.quiet_of_same (rank_any _ (by omega) (by omega) _)))
  go_wp2
  have HBd : Hz (Blk ((w.alloc (.cells #[.int .i32 lo, .int .i32 hi] 28)).drewN nq).drew B _ 66) := hide (unhide HB)
  have HXd : Hz (Blk ((w.alloc (.cells #[.int .i32 lo, .int .i32 hi] 28)).drewN nq).drew w.heap.size #[.int .i32 lo, .int .i32 hi] 28) := hide (unhide HX)
  have HAd : Hz (((w.alloc (.cells #[.int .i32 lo, .int .i32 hi] 28)).drewN nq).drew.ownsRow lo0 28 2 _ _ _) := hide (unhide HA)
  have HVd : Hz (((w.alloc (.cells #[.int .i32 lo, .int .i32 hi] 28)).drewN nq).drew.ownsRow lo0 3 1 _ _ _) := hide (unhide HV)
  have HSd : Hz (SetAt ((w.alloc (.cells #[.int .i32 lo, .int .i32 hi] 28)).drewN nq).drew B zs) := hide (unhide HS (nq + 1))
  have HBmd : Hz (Below w.heap.size w ((w.alloc (.cells #[.int .i32 lo, .int .i32 hi] 28)).drewN nq).drew) := hide (below_drewN (unhide HBm) nq).drew
  clear HB HX HA HV HS HBm c0 c1 q0
  generalize (w.alloc (.cells #[.int .i32 lo, .int .i32 hi] 28)).drewN nq = wm at *
  have c0 := (show Blk wm B _ 66 from unhide HBd).cell 0
  have c1 := (show Blk wm B _ 66 from unhide HBd).cell 1
  have HS := hide (size_any B zs wm.drew (unhide HSd))
  have HLm : Hz (lo0 ≤ wm.drew.heap.size) := hide (Nat.le_trans hl (unhide HBmd).size)
  have hmx2 : Try.prog.follows .mixedOrders = true := by kernel_rfl
  go_region_law (first
    | (go_simp; refine (unhide HS).mono ?_; rintro e w2 ⟨rfl, hb⟩; have b2 := (unhide HBd).below hb (unhide HBd).lt; have d0 := b2.cell 0; have d1 := b2.cell 1; have d3 := (b2.alloc (.cells #[.int .i64 (total zs)] 3)).cell 1)
    | (refine step_append_lies _ (by rfl) _ _ _ (by rfl) lo0 3 iI (.int .i64 0) 1 8 Try.underlying47 (unhide HI).1 (unhide HI).2.1 (unhide HI).2.2.1 (unhide HI).2.2.2 rfl (by omega) (.slice b zs.length cb) zs.length (ahs zs) (by rfl) ((own_below (unhide HVd) hb).alloc _) ⟨w2.heap.size, 0, none⟩ 1 1 [.int .i64 (total zs)] (by rfl) (by simp) (one_cell w2 _) (by simp [Value.oneCell']) (by omega) (by have := unhide HZL; unfold maxLen; omega) (by have := unhide HZL; omega) (by have := hb.size; have := unhide HLm; simp; omega) (w2.heap.size + 1) (by simp) ?_; intro g1 cap1 w3 hown1 hgrow1 hat1 hlt1; have hm := mid_any (unhide HBd) (unhide HXd) (unhide HAd) (unhide HVd) hb hgrow1; have e0 := hm.1.cell 0; have e1 := hm.1.cell 1; have e2 := hm.1.frozen 1))
  all_goals
    obtain ⟨w4, h4, hb4, hx4, ho4, ha4, hB4, hF4⟩ := fst_end' (unhide HBd) (unhide HXd) (unhide HAd) (unhide HVd) (unhide HBmd) hb hgrow1 hlo hl (unhide HNE) hown1
    rw [← h4]
    rw [ahs_add zs (lo, hi)] at ho4
    have HB4 := hide hb4
    have HX4 := hide hx4
    have HO4 := hide ho4
    have HA4 := hide ha4
    have HL4 := hide hB4
    have HF4 := hide hF4
    have p0 := hb4.cell 0
    have p1 := (hb4.alloc (.cells #[.int .i32 lo, .int .i32 hi] 28)).cell 0
    have x0 := hx4.cell 0
    have x1 := hx4.cell 1
    clear h4 hb4 hx4 ho4 hB4 hF4 ha4 hown1 hgrow1 hat1 hlt1 hm e0 e1 e2 b2 d0 d1 d3 hb HS HBd HXd HAd HVd HSd HLm HBmd c0 c1
    go_wp2
    go_region_law (first
      | (refine step_append_lies _ (by rfl) _ _ _ (by rfl) lo0 28 iP (.agg #[.int .i32 0, .int .i32 0]) 2 8 Try.underlying30 (unhide HP).1 (unhide HP).2.1 (unhide HP).2.2.1 (unhide HP).2.2.2 rfl (by omega) (.slice (some ⟨g, 0, none⟩) zs.length ca) zs.length (encP zs) (by rfl) ((unhide HA4).alloc _) ⟨w4.heap.size, 0, none⟩ 1 1 (encP [(lo, hi)]) (by rfl) (by simp [encP]) (two_cell w4 (lo, hi)) (encP_one _) (by omega) (by have := unhide HZL; unfold maxLen; omega) (by have := unhide HZL; omega) (by have := (unhide HL4).size; simp; omega) (w4.heap.size + 1) (by simp) ?_; intro g5 cap5 w5 hown5 hgrow5 hat5 hlt5; have hm5 := (show Blk (w4.alloc (.cells #[.int .i32 lo, .int .i32 hi] 28)).drew B _ 66 from (unhide HB4).alloc (.cells #[.int .i32 lo, .int .i32 hi] 28)).kept hgrow5 (own_ne (show (w4.alloc (.cells #[.int .i32 lo, .int .i32 hi] 28)).drew.ownsRow lo0 28 2 _ _ _ from (unhide HA4).alloc (.cells #[.int .i32 lo, .int .i32 hi] 28)) (show Blk (w4.alloc (.cells #[.int .i32 lo, .int .i32 hi] 28)).drew B _ 66 from (unhide HB4).alloc (.cells #[.int .i32 lo, .int .i32 hi] 28)) (by decide)); have y0 := hm5.cell 0; have y1 := hm5.frozen 0))
    all_goals
      have HE := hide (snd_end' (x := (lo, hi)) (unhide HB4) (unhide HO4) (unhide HA4) (unhide HL4) hl hlo hgrow5 hown5 (Pv := fun X => (Value.slice b zs.length cb).ownBlock ≠ some X) (unhide HF4))
      go_end0
      exact ⟨⟨_, rfl⟩, (unhide HE).1, (unhide HE).2.1, fun X hX hXB hv => (unhide HE).2.2 X hX hXB (hv _ _ (unhide HB0)).2 (hv _ _ (unhide HB0)).1⟩
end Go.Proofs.Ytemmflhofhngbaa
/- A set that is being made, one span more: lay at every set. -/
namespace Go.Proofs.Ytemmflhofhngbaa
open Go.RowKit Go.Shelf
set_option linter.unusedVariables false
/-- A set that is being made; its lists are nil as long as it is empty. -/
def Grows (W : World) (B lo0 : Nat) (zs : List (Int × Int)) : Prop := Made W B lo0 zs ∧ (zs = [] → Blk W B #[.slice none 0 0, .slice none 0 0] 66)
theorem laid_made {W : World} {B lo0 : Nat} {x : Int × Int} (h : Laid W B lo0 x) (hl : lo0 ≤ B) : Made W B lo0 [x] := by
  obtain ⟨va, vb, h1, h2, h3⟩ := h
  exact ⟨⟨va, vb, h1, h2, h3⟩, hl⟩
theorem layL_ne (zs : List (Int × Int)) (x : Int × Int) : layL zs x ≠ [] := by
  unfold layL
  split
  · split <;> simp
  · simp
theorem lay_any (B lo0 : Nat) (zs : List (Int × Int)) (x : Int × Int) (hn : zs.length ≤ 1000000) (hS : Spread zs) (hx : endsB x = true) (w : World) (hG : Grows w B lo0 zs) (hl : lo0 ≤ w.heap.size) :
    Calls Try.prog 35 #[.pointer (some ⟨B, 0, none⟩), spanV x] w fun e w' => (∃ r, e = .returned r) ∧ Grows w' B lo0 (layL zs x) ∧ Below lo0 w w' ∧ Frame w w' B := by
  rcases List.eq_nil_or_concat zs with rfl | ⟨ys, y, rfl⟩
  · refine (lay_first B lo0 x w (hG.2 rfl) hG.1.lo hl).mono fun e w' ⟨h1, h2, h3, h4⟩ => ⟨h1, ⟨laid_made h2 hG.1.lo, fun h => absurd h (layL_ne _ _)⟩, h3, fun X hX hXB _ => h4 X hX hXB⟩
  · rw [List.concat_eq_append] at *
    have hn' : ys.length ≤ 1000000 := by simp at hn; omega
    by_cases t : rankOf x.1 ≤ rankOf y.2 + 1
    · exact (lay_touch B lo0 ys y x hn' (hS.ends y (by simp)).1 hx t w hG.1 hl).mono fun e w' ⟨h1, h2, h3, h4⟩ => ⟨h1, ⟨h2, fun h => absurd h (layL_ne _ _)⟩, h3, h4⟩
    · exact (lay_apart B lo0 ys y x hn' hS hx t w hG.1 hl).mono fun e w' ⟨h1, h2, h3, h4⟩ => ⟨h1, ⟨h2, fun h => absurd h (layL_ne _ _)⟩, h3, h4⟩
theorem RowP.under {W W' : World} {N : Nat} {a : Option Addr} {zs : List (Int × Int)} (h : RowP W a zs) (hN : W.heap.size ≤ N) (hb : Below N W W') : RowP W' a zs := h.below (hb.mono hN)

theorem Grows.below {W W' : World} {B lo0 : Nat} {zs : List (Int × Int)} (h : Grows W B lo0 zs) (hb : Below W.heap.size W W') : Grows W' B lo0 zs := ⟨h.1.below hb, fun e => (h.2 e).below hb (h.2 e).lt⟩
theorem grows_new (W : World) (o : Obj) (ho : o = .cells #[.slice none 0 0, .slice none 0 0] 66) : Grows (W.alloc o) W.heap.size W.heap.size [] := by
  subst ho
  have b := Blk.new W #[.slice none 0 0, .slice none 0 0] 66
  exact ⟨⟨⟨_, _, b, World.ownsRow_nil _ _ _ _, World.ownsRow_nil _ _ _ _⟩, Nat.le_refl _⟩, fun _ => b⟩
theorem take_more {d : List (Int × Int)} {k : Nat} {x : Int × Int} (h : d[k]? = some x) : d.take (k + 1) = d.take k ++ [x] := by
  rw [List.take_add_one, h]
  rfl
end Go.Proofs.Ytemmflhofhngbaa
/- slices.SortFunc at a list of spans that the call owns: the same spans, rising. -/
namespace Go.Proofs.Ytemmflhofhngbaa
open Go.RowKit Go.Shelf
open Go.Sort (HoldsK putRowK flatK size_flatK get_flatK)
set_option linter.unusedVariables false
/-- A span's two cells. -/
def encQ (x : Int × Int) : List Value := [.int .i32 x.1, .int .i32 x.2]
theorem of1_grow (x y : Int × Int) (W : World) : Calls Try.prog 33 #[spanV x, spanV y] W fun e w' => e = .returned (.int .i64 (cmpOf x.1 y.1)) ∧ ∃ q os', w' = Go.Sort.grow (W.drewN q) os' := by
  have HC := hide (fun w => compare_any x.1 y.1 w)
  obtain ⟨lo, hi⟩ := x
  obtain ⟨mo, mi⟩ := y
  simp only at HC
  go_enter Try.func33, Try.ntmps33
  go_wp2_with fail
  refine (unhide HC _).mono ?_
  rintro e w2 ⟨rfl, rfl⟩
  go_wp2
  go_ret
  exact ⟨rfl, 0, _, by rw [Go.Sort.alloc_eq_grow, Go.Sort.alloc_eq_grow, Go.Sort.grow_grow]; rfl⟩
theorem ltQ (x y : Int × Int) : ltOf (fun x y : Int × Int => cmpOf x.1 y.1) x y = decide (x.1 < y.1) := by
  unfold ltOf cmpOf
  by_cases h1 : x.1 < y.1
  · simp [h1]
  · by_cases h2 : y.1 < x.1 <;> simp [h1, h2]
theorem swoQ : Go.Sort.SWO (ltOf fun x y : Int × Int => cmpOf x.1 y.1) where
  irrefl x := by rw [ltQ]; simp
  trans x y z h1 h2 := by rw [ltQ] at *; simp at *; omega
  ntrans x y z h1 h2 := by rw [ltQ] at *; simp at *; omega
theorem cmpLaysQ (blk off size : Nat) (w : World) : CmpLays Try.prog 33 #[] encQ 2 (fun x y => cmpOf x.1 y.1) blk off size w := fun _ _ _ _ x y => of1_grow x y _
theorem holdsQ {W : World} {base g cap : Nat} {l : List (Int × Int)} (h : W.ownsRow base 28 2 (.slice (some ⟨g, 0, none⟩) l.length cap) l.length (encP l)) : HoldsK encQ 2 W g 0 l.toArray := by
  intro j hj
  rw [size_flatK] at hj
  simp only [List.size_toArray] at hj
  rw [get_flatK _ _ _ _ (by simpa using hj), Nat.zero_add]
  obtain ⟨x, hx⟩ : ∃ x, l[j / 2]? = some x := ⟨_, List.getElem?_eq_getElem (by omega)⟩
  have hx' : l.toArray[j / 2]! = x := by simp [getElem!_def, hx]
  have e := encP_at l _ x hx
  refine ⟨?_, h.frozenAt j⟩
  rw [h.cellAt j hj, hx']
  rcases Nat.mod_two_eq_zero_or_one j with m | m
  · have : j / 2 * 2 = j := by omega
    rw [this] at e
    rw [e.1, m]
    rfl
  · have : j / 2 * 2 + 1 = j := by omega
    rw [this] at e
    rw [e.2, m]
    rfl
theorem rowQ {W : World} {g : Nat} {d : Array (Int × Int)} (h : HoldsK encQ 2 W g 0 d) (hg : g < W.heap.size) : RowP W (some ⟨g, 0, none⟩) d.toList := fun h0 => by
  refine ⟨g, 0, rfl, hg, fun j x hj => ?_⟩
  have hl := (List.getElem?_eq_some_iff.1 hj).1
  simp only [Array.length_toList] at hl
  have hx : d[j]! = x := by
    have : d[j]? = some x := by simpa using hj
    simp [getElem!_def, this]
  have a := (h.cell (i := j) (c := 0) hl (by omega)).1
  have b := (h.cell (i := j) (c := 1) hl (by omega)).1
  rw [hx] at a b
  exact ⟨a, b⟩
theorem below_sortWorldK {base blk off n : Nat} {W : World} {d : Array (Int × Int)} {os : Array Obj} (hb : base ≤ blk) (hlt : blk < W.heap.size) : Below base W (Go.Proofs.sortWorldK encQ 2 W blk off n d os) := by
  refine ⟨rfl, rfl, rfl, size_sortWorldK_c encQ 2 W blk off n d os, fun k hk => ?_⟩
  have hkl : k < (putRowK encQ 2 (Go.Sort.ahead W n) blk off d).heap.size := by
    rw [show (putRowK encQ 2 (Go.Sort.ahead W n) blk off d).heap.size = W.heap.size from Go.Sort.size_putRow _ _ _ _ _]
    omega
  show (_ ++ os)[k]? = _
  rw [Array.getElem?_append_left hkl]
  show (Array.modify W.heap blk _)[k]? = _
  rw [Array.getElem?_modify, if_neg (by omega)]
theorem sort_any (v : Value) (l : List (Int × Int)) (base : Nat) (hl : l.length ≤ 1000000) (w : World) (h : w.ownsRow base 28 2 v l.length (encP l)) :
    Calls Try.prog 32 #[v, .func (.func 33) #[] #[]] w fun e w' => e = .returned (.tuple #[]) ∧ ∃ (d : List (Int × Int)) (a : Option Addr) (c : Nat), v = .slice a d.length c ∧ d.Perm l ∧ RisingL d ∧ RowP w' a d ∧ Below base w w' := by
  by_cases h0 : l.length = 0
  · have : l = [] := List.eq_nil_of_length_eq_zero h0
    subst this
    obtain ⟨a, c, rfl, _, _, _⟩ := own_row h
    refine (AnyF.slices_SortFunc_none sortP a c _ w).mono fun e w' ⟨he, hw⟩ => ?_
    subst hw
    exact ⟨he, [], a, c, rfl, List.Perm.refl _, fun i j x y _ h => by simp at h, fun h => by simp at h, Below.refl _ _⟩
  · obtain ⟨g, cap, rfl, hg0, hg⟩ := h.form (by omega)
    have hH := holdsQ h
    have eg : ∀ args w, (callFunc 33 args).run Try.prog w = .ok (.enter 33 args) w := enters_of Try.func33 (by kernel_rfl) rfl
    have hcon := AnyQ.slices_SortFunc sortP 2 Try.isAgg28 Try.sizeOf28 encQ (fun _ => rfl) (fun x v hv => by simp [encQ] at hv; rcases hv with rfl | rfl <;> rfl) (fun x y => cmpOf x.1 y.1) swoQ 33 #[] g 0 cap l.toArray w eg (cmpLaysQ g 0 l.toArray.size w) hH hg (by simp; omega)
    refine hcon.mono fun e w' ⟨he, d', n, os, hp, hs, hw⟩ => ?_
    subst hw
    have hsz : d'.size = l.length := by simpa using hp.1
    have hH' := holdsK_sortWorldK_c encQ 2 w g 0 l.toArray d' n os hH hg (by simpa using hp.1)
    refine ⟨he, d'.toList, some ⟨g, 0, none⟩, cap, by simp [hsz], ?_, ?_, ?_, below_sortWorldK hg0 hg⟩
    · have := hp.2.2
      have h' : (List.take l.length d'.toList).Perm l := by simpa [hsz, ← hp.1] using this
      rwa [List.take_of_length_le (by simp [hsz])] at h'
    · intro i j x y hij hx hy
      have hi := (List.getElem?_eq_some_iff.1 hx).1
      have hj := (List.getElem?_eq_some_iff.1 hy).1
      simp only [Array.length_toList] at hi hj
      have e1 : d'[i]! = x := by
        have : d'[i]? = some x := by simpa using hx
        simp [getElem!_def, this]
      have e2 : d'[j]! = y := by
        have : d'[j]? = some y := by simpa using hy
        simp [getElem!_def, this]
      have := hs i j (Nat.zero_le _) hij (by simp; omega)
      rw [ltQ, e1, e2] at this
      have := of_decide_eq_false this
      omega
    · exact rowQ hH' (by have := size_sortWorldK_c encQ 2 w g 0 n d' os; omega)
end Go.Proofs.Ytemmflhofhngbaa
/- Of at every list of right spans. -/
namespace Go.Proofs.Ytemmflhofhngbaa
open Go.RowKit Go.Shelf
set_option linter.unusedVariables false
theorem layAll_take {l d : List (Int × Int)} (hp : d.Perm l) (hR : RightL l) (hr : RisingL d) (k : Nat) : Spread (layAll (d.take k)) ∧ (layAll (d.take k)).length ≤ d.length ∧ RightL d := by
  have h1 : RightL d := fun x hx => hR x (hp.mem_iff.1 hx)
  have h2 : RisingL (d.take k) := fun i j x y hij hx hy => by
    have a := (List.getElem?_eq_some_iff.1 hx).1
    have b := (List.getElem?_eq_some_iff.1 hy).1
    rw [List.length_take] at a b
    rw [List.getElem?_take, if_pos (by omega)] at hx hy
    exact hr i j x y hij hx hy
  have h := layAll_all _ (d.take k) rfl (fun x hx => h1 x (List.mem_of_mem_take hx)) h2
  have := h.2.2.1
  rw [List.length_take] at this
  exact ⟨h.1, by omega, h1⟩
theorem layAll_end {l d : List (Int × Int)} (hp : d.Perm l) (hR : RightL l) (hr : RisingL d) : Spread (layAll d) ∧ (layAll d).length ≤ l.length ∧ ∀ r, memB (layAll d) r = memB l r := by
  have h := layAll_all _ d rfl (fun x hx => hR x (hp.mem_iff.1 hx)) hr
  exact ⟨h.1, by rw [← hp.length_eq]; exact h.2.2.1, fun r => (h.2.1 r).trans (memB_perm hp r)⟩
set_option maxRecDepth 100000 in
set_option maxHeartbeats 4000000 in
theorem of_right (a : Option Addr) (cap : Nat) (l : List (Int × Int)) (hl : l.length ≤ 1000000) (hR : RightL l) (w : World) (hr : RowP w a l) :
    Calls Try.prog 7 #[.slice a l.length cap] w fun e w' => ∃ (B lo0 : Nat) (zs : List (Int × Int)), e = .returned (.tuple #[.pointer (some ⟨B, 0, none⟩), .int .i64 0]) ∧ w.heap.size ≤ lo0 ∧ Made w' B lo0 zs ∧ Spread zs ∧ zs.length ≤ l.length ∧ (∀ r, memB zs r = memB l r) ∧ Below w.heap.size w w' := by
  have HN := hide (contains_noRunes a cap l (by omega) w hr)
  have e1 : (l.any fun x => !endsB x) = false := by
    rw [List.any_eq_false]
    intro x hx
    simp [(hR x hx).1]
  have e2 : (l.any fun x => decide (x.2 < x.1)) = false := by
    rw [List.any_eq_false]
    intro x hx
    have := (hR x hx).2
    simp; omega
  rw [e1] at HN
  have HF := hide (fun w hr => contains_falling a cap l (by omega) w hr)
  rw [e2] at HF
  have HR := hide hr
  have HRR := hide hR
  clear hr hR e1 e2
  go_enter Try.func7, Try.ntmps7
  go_wp2_with fail
  refine (unhide HN).mono ?_
  rintro e w1 ⟨rfl, hb1⟩
  have HB1 := hide hb1
  clear hb1
  go_wp2_with fail
  refine (unhide HF w1 ((unhide HR).below (unhide HB1))).mono ?_
  rintro e w2 ⟨rfl, hb2⟩
  have HB2 := hide ((unhide HB1).trans (hb2.mono (unhide HB1).size))
  clear hb2
  go_wp2_with fail
  refine (clone_any a cap l (by omega) w2 ((unhide HR).below (unhide HB2))).mono ?_
  rintro e w3 ⟨v, rfl, hown, hb3⟩
  have HO := hide hown
  have HB3 := hide ((unhide HB2).trans (hb3.mono (unhide HB2).size))
  have HS2 := hide (unhide HB2).size
  clear hown hb3
  go_wp2_with fail
  refine (sort_any v l _ (by omega) w3 (unhide HO)).mono ?_
  rintro e w4 ⟨rfl, d, p, c, rfl, hperm, hris, hrow, hb4⟩
  have HB4 := hide ((unhide HB3).trans (hb4.mono (unhide HS2)))
  have HPm := hide hperm
  have HRs := hide hris
  have HRw := hide hrow
  have hdl : d.length = l.length := hperm.length_eq
  clear hperm hris hrow hb4 HO
  go_wp2
  have hz : (l.length : Int) ≤ 1000000 := by omega
  go_loopw [20] (fun i wr => ∃ k : Nat, i = .int .i64 k ∧ k ≤ l.length ∧ Hz (Grows wr w4.heap.size w4.heap.size (layAll (d.take k))) ∧ Hz (Below w4.heap.size w4 wr)) (fun i _ => l.length - (intOf i).toNat)
  case atStart => exact ⟨0, rfl, by omega, hide (grows_new w4 _ rfl), hide ((Below.refl _ w4).alloc (Nat.le_refl _) _)⟩
  case round =>
    obtain ⟨k, rfl, hk, HG, HB⟩ := hrel
    by_cases hkn : k < l.length
    · have hk1 : (k : Int) < (l.length : Int) := by omega
      have hk2 : ((k : Nat) : Int).toNat = k := by omega
      obtain ⟨x, hx⟩ : ∃ x, d[k]? = some x := ⟨_, List.getElem?_eq_getElem (by omega)⟩
      have HT := hide (take_more hx)
      obtain ⟨g, o, rfl, hg, hc⟩ := unhide HRw (by omega)
      have c0 := ((unhide HB).cell (p := ⟨g, o + k * 2, none⟩) hg).trans (hc k x hx).1
      have c1 := ((unhide HB).cell (p := ⟨g, o + k * 2 + 1, none⟩) hg).trans (hc k x hx).2
      have HL := hide (layAll_take (unhide HPm) (unhide HRR) (unhide HRs) k)
      have HX := hide ((unhide HL).2.2 x (List.mem_of_getElem? hx))
      obtain ⟨lo, hi⟩ := x
      simp only at c0 c1
      have b1 := Blk.new wr #[.int .i32 lo, .int .i32 hi] 28
      have q0 := b1.cell 0
      have q1 := b1.cell 1
      have HB1 := hide ((unhide HB).alloc (unhide HB).size (.cells #[.int .i32 lo, .int .i32 hi] 28))
      have HG1 := hide ((unhide HG).below ((Below.refl _ wr).alloc (Nat.le_refl _) (.cells #[.int .i32 lo, .int .i32 hi] 28)))
      clear b1 hc hx
      go_wp2_with fail
      refine (lay_any w4.heap.size w4.heap.size (layAll (d.take k)) (lo, hi) (by have := (unhide HL).2.1; omega) (unhide HL).1 (unhide HX).1 _ (unhide HG1) (unhide HB1).size).mono ?_
      rintro e w6 ⟨⟨r, rfl⟩, hG, hb, _⟩
      rw [← layAll_snoc, ← unhide HT] at hG
      have HG2 := hide hG
      have HB2 := hide ((unhide HB1).trans hb)
      clear hG hb
      go_wp2
      go_roundw
      case rel => exact ⟨k + 1, by congr 1, by omega, HG2, HB2⟩
      case measure => simp [intOf]; omega
    · have hk1 : ¬ (k : Int) < (l.length : Int) := by omega
      obtain rfl : k = l.length := by omega
      rw [List.take_of_length_le (by omega)] at HG
      have HE := hide (layAll_end (unhide HPm) (unhide HRR) (unhide HRs))
      go_wp2
      go_ret2
      exact ⟨w4.heap.size, rfl, w4.heap.size, (unhide HB4).size, layAll d, (unhide HG).1, (unhide HE).1, (unhide HE).2.1, (unhide HE).2.2, (unhide HB4).trans ((unhide HB).mono (unhide HB4).size)⟩
end Go.Proofs.Ytemmflhofhngbaa
/- gather: a set of runes. -/
namespace Go.Proofs.Ytemmflhofhngbaa
open Go.RowKit Go.Shelf
set_option linter.unusedVariables false
/-- Each rune as a span. -/
def dup (zs : List Int) : List (Int × Int) := zs.map fun x => (x, x)
theorem dup_length (zs : List Int) : (dup zs).length = zs.length := by simp [dup]
theorem dup_at {zs : List Int} {k : Nat} {x : Int × Int} (h : (dup zs)[k]? = some x) : zs[k]? = some x.1 ∧ x.2 = x.1 := by
  unfold dup at h
  rw [List.getElem?_map] at h
  cases e : zs[k]? with
  | none => rw [e] at h; cases h
  | some y => rw [e] at h; cases h; exact ⟨rfl, rfl⟩
theorem dup_right {zs : List Int} (h : ∀ x ∈ zs, runeB x = true) : RightL (dup zs) := fun x hx => by
  obtain ⟨y, hy, rfl⟩ := List.mem_map.1 hx
  exact ⟨endsB_mk (h y hy) (h y hy), Int.le_refl _⟩
/-- Nothing to sort. -/
theorem so_ins0 (p : Option Addr) (cap : Nat) (w : World) : Calls Try.prog 81 #[.slice p 0 cap, .int .i64 0, .int .i64 0] w fun e w' => e = .returned (.tuple #[]) ∧ w' = w := by
  go_enter Try.func81, Try.ntmps81
  go_wp2
  go_loopw [6] (fun vi wr => vi = .int .i64 1 ∧ wr = w) (fun vi _ => 0)
  case atStart => exact ⟨rfl, rfl⟩
  case round =>
    obtain ⟨rfl, rfl⟩ := hrel
    go_wp2
    go_end0
    exact ⟨rfl, rfl⟩
theorem so_pdq0 (p : Option Addr) (cap : Nat) (w : World) : Calls Try.prog 74 #[.slice p 0 cap, .int .i64 0, .int .i64 0, .int .i64 0] w fun e w' => e = .returned (.tuple #[]) ∧ w' = w := by
  go_enter Try.func74, Try.ntmps74
  go_wp2_with fail
  go_loopw [1, 2, 3, 8, 9] (fun s1 s2 s3 s8 s9 wr => s1 = .int .i64 0 ∧ s2 = .int .i64 0 ∧ s3 = .int .i64 0 ∧ s8 = .bool true ∧ s9 = .bool true ∧ wr = w) (fun _ _ _ _ _ _ => 0)
  case atStart => exact ⟨rfl, rfl, rfl, rfl, rfl, rfl⟩
  case round =>
    obtain ⟨rfl, rfl, rfl, rfl, rfl, rfl⟩ := hrel
    go_wp2_with (go_at_call 81; refine (so_ins0 p cap _).mono ?_; rintro e w1 ⟨rfl, rfl⟩)
    (try simp only [Exit.inBlock, Exit.then])
    refine bodyPost_ret (results_none rfl _ _ _) rfl ?_
    exact ⟨rfl, rfl⟩
theorem so_sort0 (p : Option Addr) (cap : Nat) (w : World) : Calls Try.prog 60 #[.slice p 0 cap] w fun e w' => e = .returned (.tuple #[]) ∧ w' = w := by
  have HL := hide (len_any 0 (by omega))
  have e0 : Sort.bitsLen 0 = 0 := by decide
  rw [e0] at HL
  go_enter Try.func60, Try.ntmps60
  go_wp2_with (first | (go_at_call 58; refine (unhide HL _).mono ?_; rintro e w' ⟨rfl, rfl⟩) | (go_at_call 74; refine (so_pdq0 p cap _).mono ?_; rintro e w' ⟨rfl, rfl⟩))
  go_end0
  exact ⟨rfl, rfl⟩
theorem perm_list {zs : List Int} {d : Array Int} (h : Sort.PermIn 0 zs.length zs.toArray d) : d.toList.Perm zs := by
  have h1 := h.1
  have h2 := h.2.2
  rw [show zs.toArray.extract 0 zs.length = zs.toArray by simp, show d.extract 0 zs.length = d by rw [show zs.length = d.size by simpa using h1.symm]; simp] at h2
  simpa using h2
theorem rise_list {zs : List Int} {d : Array Int} (hz : d.size = zs.length) (h : Sort.SortedIn Sort.ltInt 0 zs.length d) : RisingL (dup d.toList) := fun i j x y hij hx hy => by
  have a := (dup_at hx).1
  have b := (dup_at hy).1
  have hi := (List.getElem?_eq_some_iff.1 a)
  have hj := (List.getElem?_eq_some_iff.1 b)
  obtain ⟨i1, i2⟩ := hi
  obtain ⟨j1, j2⟩ := hj
  have hs := ltI_f (h i j (Nat.zero_le _) hij (by simp at j1; omega))
  rw [← i2, ← j2]
  simp at i1 j1
  simpa [getElem!_pos, i1, j1] using hs
/-- slices.Sort at a list of runes that lies from base on: the same ones, rising; nothing ahead of base changes. -/
theorem sort_row (p : Option Addr) (cap base : Nat) (zs : List Int) (hz : zs.length ≤ 1000000) (w : World) (hb : base ≤ w.heap.size) (hr : 0 < zs.length → ∃ g o, p = some ⟨g, o, none⟩ ∧ base ≤ g ∧ g < w.heap.size ∧ Sort.Holds (Value.int .i32) w g o zs.toArray) :
    Calls Try.prog 60 #[.slice p zs.length cap] w fun e w' => e = .returned (.tuple #[]) ∧ ∃ ys : List Int, ys.Perm zs ∧ RisingL (dup ys) ∧ (0 < zs.length → ∃ g o, p = some ⟨g, o, none⟩ ∧ g < w'.heap.size ∧ ∀ j x, ys[j]? = some x → w'.cell? ⟨g, o + j, none⟩ = some (.int .i32 x)) ∧ Below base w w' := by
  cases zs with
  | nil => exact (so_sort0 p cap w).mono fun e w' ⟨h1, h2⟩ => ⟨h1, [], List.Perm.refl _, fun i j x y _ h => by simp [dup] at h, fun h => by simp at h, h2 ▸ Below.refl _ _⟩
  | cons z zs =>
    obtain ⟨g, o, rfl, hg, hgl, hH⟩ := hr (by simp)
    refine (so_sort g o cap (z :: zs).length hz (z :: zs).toArray (by simp) w hgl hH).mono fun e w' ⟨h1, d, h2, h3, h4⟩ => ⟨h1, d.toList, perm_list h2, rise_list (by have := h2.1; simpa using this) h3, fun _ => ⟨g, o, rfl, Nat.lt_of_lt_of_le hgl h4.gr.size, fun j x hx => ?_⟩, ⟨h4.gr.os, h4.gr.tape, h4.gr.output, h4.gr.size, fun k hk => h4.gr.block k (by omega) (fun e => by injection e; omega)⟩⟩
    obtain ⟨j1, j2⟩ := List.getElem?_eq_some_iff.1 hx
    simp at j1
    have := (h4.row j j1).1
    rw [this]
    simp [getElem!_pos, j1, ← j2]
end Go.Proofs.Ytemmflhofhngbaa
/- gather: a set of runes. -/
namespace Go.Proofs.Ytemmflhofhngbaa
open Go.RowKit Go.Shelf
set_option linter.unusedVariables false
set_option maxRecDepth 100000 in
set_option maxHeartbeats 4000000 in
theorem gather_any (p : Option Addr) (cap base : Nat) (zs : List Int) (hz : zs.length ≤ 1000000) (hR : ∀ x ∈ zs, runeB x = true) (w : World) (hb : base ≤ w.heap.size) (hr : 0 < zs.length → ∃ g o, p = some ⟨g, o, none⟩ ∧ base ≤ g ∧ g < w.heap.size ∧ Sort.Holds (Value.int .i32) w g o zs.toArray) :
    Calls Try.prog 41 #[.slice p zs.length cap] w fun e w' => ∃ (B lo0 : Nat) (us : List (Int × Int)), e = .returned (.pointer (some ⟨B, 0, none⟩)) ∧ w.heap.size ≤ lo0 ∧ Made w' B lo0 us ∧ Spread us ∧ us.length ≤ zs.length ∧ (∀ r, memB us r = memB (dup zs) r) ∧ Below base w w' := by
  have HRR := hide (dup_right hR)
  have HC := hide (sort_row p cap base zs hz w hb hr)
  clear hr hR
  go_enter Try.func41, Try.ntmps41
  go_wp2_with fail
  refine (unhide HC).mono ?_
  rintro e w4 ⟨rfl, d, hperm, hris, hrow, hb4⟩
  have hdl : d.length = zs.length := hperm.length_eq
  have HPm : Hz ((dup d).Perm (dup zs)) := hide (hperm.map _)
  have HRs := hide hris
  have HRw := hide hrow
  have HB4 := hide hb4
  clear hperm hris hrow hb4 HC
  have hsz := (unhide HB4).size
  go_wp2_with fail
  go_loopw [12] (fun i wr => ∃ k : Nat, i = .int .i64 k ∧ k ≤ zs.length ∧ Hz (Grows wr w4.heap.size w4.heap.size (layAll ((dup d).take k))) ∧ Hz (Below w4.heap.size w4 wr)) (fun i _ => zs.length - (intOf i).toNat)
  case atStart => exact ⟨0, rfl, by omega, hide (grows_new w4 _ rfl), hide ((Below.refl _ w4).alloc (Nat.le_refl _) _)⟩
  case round =>
    obtain ⟨k, rfl, hk, HG, HB⟩ := hrel
    by_cases hkn : k < zs.length
    · have hk1 : (k : Int) < (zs.length : Int) := by omega
      have hk2 : ((k : Nat) : Int).toNat = k := by omega
      obtain ⟨x, hx⟩ : ∃ x, d[k]? = some x := ⟨_, List.getElem?_eq_getElem (by omega)⟩
      have hx2 : (dup d)[k]? = some (x, x) := by unfold dup; rw [List.getElem?_map, hx]; rfl
      have HT := hide (take_more hx2)
      obtain ⟨g, o, rfl, hg, hc⟩ := unhide HRw (by omega)
      have c0 := ((unhide HB).cell (p := ⟨g, o + k, none⟩) hg).trans (hc k x hx)
      have HL := hide (layAll_take (unhide HPm) (unhide HRR) (unhide HRs) k)
      have HX := hide ((unhide HL).2.2 (x, x) (List.mem_of_getElem? hx2))
      have hld : (dup d).length = zs.length := by rw [dup_length]; exact hdl
      have hbd := (unhide HL).2.1
      have hbd2 : (layAll ((dup d).take k)).length ≤ 1000000 := by omega
      have HBD := hide hbd2
      clear hc hx hx2 hld hbd hbd2
      go_wp2_with fail
      refine (lay_any w4.heap.size w4.heap.size (layAll ((dup d).take k)) (x, x) (unhide HBD) (unhide HL).1 (unhide HX).1 _ (unhide HG) (unhide HB).size).mono ?_
      rintro e w6 ⟨⟨r, rfl⟩, hG, hb, _⟩
      rw [← layAll_snoc, ← unhide HT] at hG
      have HG2 := hide hG
      have HB2 := hide ((unhide HB).trans hb)
      clear hG hb
      go_wp2_with fail
      go_roundw
      case rel => exact ⟨k + 1, by congr 1, by omega, HG2, HB2⟩
      case measure => simp [intOf]; omega
    · have hk1 : ¬ (k : Int) < (zs.length : Int) := by omega
      obtain rfl : k = zs.length := by omega
      rw [List.take_of_length_le (by rw [dup_length]; omega)] at HG
      have HE := hide (layAll_end (unhide HPm) (unhide HRR) (unhide HRs))
      go_wp2_with fail
      go_ret
      exact ⟨w4.heap.size, rfl, w4.heap.size, hsz, layAll (dup d), (unhide HG).1, (unhide HE).1, by have := (unhide HE).2.1; rw [dup_length] at this; exact this, (unhide HE).2.2, (unhide HB4).trans ((unhide HB).mono (by omega))⟩
end Go.Proofs.Ytemmflhofhngbaa
/- One value more behind a list that the call owns; a list that is made empty. -/
namespace Go.Proofs.Ytemmflhofhngbaa
open Go.RowKit Go.Shelf
set_option linter.unusedVariables false
theorem append_v {w : World} {ops : Array Oper} {rest : List Oper} {o : Oper} {a : Act} {Q : Exit → Act → World → Prop} (hgd : o.guard = none) (s x : Operand) (T E : TypeId)
    (ho : o.op = .call { callee := .builtin .append, args := #[s, x], argTypes := #[T, T] }) (i : TypeInfo) (z : Value) (bytes : Nat) (hT : Try.prog.underlying T = some (.slice E)) (hi : Try.prog.info? E = some i) (h1 : i.zero = some z) (h2 : i.size = 1) (h3 : i.bytes = bytes) (hzs : z.cells.size = 1) (hb8 : bytes ≤ 64)
    (lo : Nat) (v : Value) (xs : List Value) (u : Value) (hs : a.eval s = v) (hl : xs.length ≤ 900000) (W : World) (hW : w = W.alloc (.cells #[u] E)) (hu : u.oneCell' = true) (hv : W.ownsRow lo E 1 v xs.length xs) (hlo : lo ≤ W.heap.size) (n : Nat) (hn : n = W.heap.size) (hx : a.eval x = .slice (some ⟨n, 0, none⟩) 1 1)
    (h : ∀ v' w', w'.ownsRow lo E 1 v' (xs ++ [u]).length (xs ++ [u]) → Below lo W w' → wpList Try.prog ops Q rest (a.put o.dst v') w') : wpList Try.prog ops Q (o :: rest) a w := by
  subst hW
  subst hn
  have b := Blk.new W #[u] E
  refine wpList_append_own _ hgd s x T ho lo E i z 1 bytes hT hi h1 h2 h3 hzs (by decide) v xs.length xs hs (hv.alloc _) ⟨W.heap.size, 0, none⟩ 1 1 [u] hx (by simp) (fun j y hj => ?_) (fun y hy => by rw [List.mem_singleton.1 hy]; exact hu) (by unfold maxLen; omega) ?_ (by simp; omega) (fun v' w' h4 h5 _ => h v' w' (by rw [List.length_append, List.length_singleton]; exact h4) ?_)
  · match j, hj with
    | 0, hj => cases hj; exact b.cell 0
    | j + 1, hj => simp at hj
  · have : (xs.length + 1) * bytes ≤ 900001 * 64 := Nat.mul_le_mul (by omega) hb8
    omega
  · exact ((Below.refl lo W).alloc hlo _).grown h5 (by simp; omega) (fun k e => ((hv.alloc (.cells #[u] E)).lt k e).1)
theorem infoR32 : (Try.prog.info? 21).map (fun i => (i.zero, i.size, i.bytes)) = some (some (.int .i32 0), 1, 4) := by kernel_rfl
/-- make([]rune, 0, n). -/
theorem make_runes (n : Nat) (hn : n ≤ 1000000) (w : World) : ∃ cur : Array Value, (Instr.makeSlice 48 (.int .i64 0) (.int .i64 (n : Int))).run Try.prog w = .ok (.slice (some ⟨w.heap.size, 0, none⟩) 0 n) (w.alloc (.cells cur 21)) ∧ cur.size = n * 1 := by
  obtain ⟨i0, hi, hz0, hz1, hz2⟩ := info_parts infoR32
  have := run_make (P := Try.prog) w 48 21 i0 (.int .i32 0) Try.underlying48 hi hz0 .i64 .i64 0 (n : Int) (by omega) (by omega) (by rw [hz2]; omega) (by omega)
  refine ⟨_, this, ?_⟩
  rw [hz1]
  simp [madeCells]
end Go.Proofs.Ytemmflhofhngbaa
/- From at numbers. -/
namespace Go.Proofs.Ytemmflhofhngbaa
open Go.RowKit Go.Shelf
set_option linter.unusedVariables false
/-- A list of numbers of a kind that lies somewhere. -/
def RowN (K : IntKind) (W : World) (a : Option Addr) (zs : List Int) : Prop := 0 < zs.length → ∃ g o, a = some ⟨g, o, none⟩ ∧ g < W.heap.size ∧ ∀ j x, zs[j]? = some x → W.cell? ⟨g, o + j, none⟩ = some (.int K x)
theorem RowN.below {K : IntKind} {W W' : World} {a : Option Addr} {zs : List Int} (h : RowN K W a zs) (hb : Below W.heap.size W W') : RowN K W' a zs := fun h0 => by
  obtain ⟨g, o, e, hg, hc⟩ := h h0
  exact ⟨g, o, e, Nat.lt_of_lt_of_le hg hb.size, fun j x hx => (hb.cell (p := ⟨g, o + j, none⟩) hg).trans (hc j x hx)⟩
def e32 (zs : List Int) : List Value := zs.map (Value.int .i32)
/-- What From answers. -/
def FromP (zs : List Int) (w : World) (e : Ending) (w' : World) : Prop :=
  (zs.all runeB = true → ∃ (B lo0 : Nat) (us : List (Int × Int)), e = .returned (.tuple #[.pointer (some ⟨B, 0, none⟩), .int .i64 0]) ∧ w.heap.size ≤ lo0 ∧ Made w' B lo0 us ∧ Spread us ∧ us.length ≤ zs.length ∧ (∀ r, memB us r = memB (dup zs) r)) ∧ (zs.all runeB = false → e = .returned (.tuple #[.pointer none, .int .i64 12])) ∧ Below w.heap.size w w'
theorem fromP_no {zs : List Int} {w w' : World} {k : Nat} {x : Int} (hx : zs[k]? = some x) (h : runeB x = false) (hb : Below w.heap.size w w') : FromP zs w (.returned (.tuple #[.pointer none, .int .i64 12])) w' := by
  have e : zs.all runeB = false := List.all_eq_false.2 ⟨x, List.mem_of_getElem? hx, by rw [h]; decide⟩
  exact ⟨fun h2 => absurd (e.symm.trans h2) Bool.false_ne_true, fun _ => rfl, hb⟩
theorem wrap6432 (x : Int) : wrap64 (wrap32 x) = wrap32 x := by unfold wrap64 wrap32; omega
theorem take_snoc {zs : List Int} {k : Nat} {x : Int} (hx : zs[k]? = some x) : zs.take (k + 1) = zs.take k ++ [x] := by
  rw [List.take_add_one, hx]
  rfl
theorem own_holds {W : World} {base : Nat} {v : Value} {zs : List Int} (h : W.ownsRow base 21 1 v zs.length (e32 zs)) : ∃ p cap, v = .slice p zs.length cap ∧ (0 < zs.length → ∃ g o, p = some ⟨g, o, none⟩ ∧ base ≤ g ∧ g < W.heap.size ∧ Sort.Holds (Value.int .i32) W g o zs.toArray) := by
  obtain ⟨h1, h2⟩ := h
  rcases h2 with ⟨rfl, h3⟩ | ⟨g, cap, cur, rfl, hg, hb, hc1, hc2, hc3, ht⟩
  · exact ⟨none, 0, by rw [h3], fun h => by omega⟩
  · refine ⟨some ⟨g, 0, none⟩, cap, rfl, fun _ => ⟨g, 0, rfl, hg, (Array.getElem?_eq_some_iff.1 hb).1, fun j hj => ⟨?_, ?_⟩⟩⟩
    · have hj' : j < zs.length := by simpa using hj
      have e : cur.toList[j]? = some (.int .i32 zs[j]) := by
        have : (cur.toList.take (zs.length * 1))[j]? = (e32 zs)[j]? := by rw [ht]
        rw [List.getElem?_take, if_pos (by omega)] at this
        rw [this]
        simp [e32, hj']
      have e2 : cur[j]? = some (.int .i32 zs[j]) := by simpa using e
      rw [Nat.zero_add, show W.cell? ⟨g, j, none⟩ = cur[j]? from Blk.cell (t := 21) hb j, e2]
      simp [getElem!_pos, hj']
    · exact Blk.frozen (t := 21) hb _
set_option maxRecDepth 100000 in
set_option maxHeartbeats 4000000 in
theorem from_int (p : Option Addr) (cap : Nat) (zs : List Int) (hz : zs.length ≤ 1000) (hf : ∀ x ∈ zs, -9223372036854775808 ≤ x ∧ x ≤ 9223372036854775807) (w : World) (hr : RowN .i64 w p zs) :
    Calls Try.prog 52 #[.slice p zs.length cap] w (FromP zs w) := by
  obtain ⟨cur, hmk, hcs⟩ := make_runes zs.length (by omega) w
  obtain ⟨iR, hi0, hi1, hi2, hi3⟩ := info_parts infoR32
  have HIP := hide (And.intro hi0 (And.intro hi1 (And.intro hi2 hi3)))
  have hlen : (zs.length : Int) ≤ 1000 := by omega
  have HR := hide hr
  have HF := hide hf
  have HCS := hide hcs
  clear hr hf hcs hi0 hi1 hi2 hi3
  go_enter Try.func52, Try.ntmps52
  go_wp2_with fail
  go_loopw [4, 13] (fun v i wr => ∃ k : Nat, i = .int .i64 k ∧ k ≤ zs.length ∧ Hz (wr.ownsRow w.heap.size 21 1 v (zs.take k).length (e32 (zs.take k))) ∧ Hz (Below w.heap.size w wr) ∧ Hz (∀ j x, j < k → zs[j]? = some x → runeB x = true)) (fun _ i _ => zs.length - (intOf i).toNat)
  case atStart => exact ⟨0, rfl, by omega, hide (World.ownsRow_made w cur zs.length (Nat.le_refl _) (by unfold maxLen; omega) (unhide HCS)), hide ((Below.refl _ w).alloc (Nat.le_refl _) _), hide (fun j x h => by omega)⟩
  case round =>
    obtain ⟨k, rfl, hk, HO, HB, HA⟩ := hrel
    clear hmk
    by_cases hkn : k < zs.length
    · have hk1 : (k : Int) < (zs.length : Int) := by omega
      have hk2 : ((k : Nat) : Int).toNat = k := by omega
      obtain ⟨x, hx⟩ : ∃ x, zs[k]? = some x := ⟨_, List.getElem?_eq_getElem (by omega)⟩
      obtain ⟨g, o, rfl, hg, hc⟩ := unhide HR (by omega)
      have c0 := ((unhide HB).cell (p := ⟨g, o + k, none⟩) hg).trans (hc k x hx)
      obtain ⟨bx1, bx2⟩ := unhide HF x (List.mem_of_getElem? hx)
      have HX := hide hx
      clear hc hx
      cases hrx : runeB x with
      | true =>
        have hb := runeB_iff hrx
        have hb1 := hb.1
        have hb2 := hb.2.1
        have hw0 : (widthOf x == 0) = false := by rw [width_rune, hrx]; rfl
        have hne : (x != x) = false := by simp
        have HL := hide (show (e32 (zs.take k)).length = (zs.take k).length by simp [e32])
        have HOa : Hz (wr.ownsRow w.heap.size 21 1 _ (e32 (zs.take k)).length (e32 (zs.take k))) := hide (by rw [unhide HL]; exact unhide HO)
        have HRX := hide hrx
        clear hb hrx
        go_wp2_with (first | (go_at_call 40; refine (width_any x _).mono ?_; rintro e w' ⟨rfl, rfl⟩) | (at_builtin; refine append_v rfl _ _ 48 21 rfl iR (.int .i32 0) 4 Try.underlying48 (unhide HIP).1 (unhide HIP).2.1 (unhide HIP).2.2.1 (unhide HIP).2.2.2 rfl (by decide) w.heap.size _ (e32 (zs.take k)) (.int .i32 x) rfl ?qa _ rfl rfl (unhide HOa) ?qb _ rfl rfl ?_))
        case qa => rw [unhide HL, List.length_take]; omega
        case qb => exact (unhide HB).size
        intro v' w1 hown hb1'
        have HO2 : Hz (w1.ownsRow w.heap.size 21 1 v' (zs.take (k + 1)).length (e32 (zs.take (k + 1)))) := hide (by
          rw [take_snoc (unhide HX)]
          have e : e32 (zs.take k ++ [x]) = e32 (zs.take k) ++ [.int .i32 x] := by simp [e32]
          rw [e, List.length_append]
          rw [unhide HL] at hown
          exact hown)
        have HB2 : Hz (Below w.heap.size w w1) := hide ((unhide HB).trans hb1')
        have HA2 : Hz (∀ j y, j < k + 1 → zs[j]? = some y → runeB y = true) := hide (fun j y hj hy => by
          by_cases e : j = k
          · subst e; have := (unhide HX).symm.trans hy; cases this; exact unhide HRX
          · exact unhide HA j y (by omega) hy)
        clear hown hb1' HO HOa HB HA c0
        go_wp2_with fail
        go_roundw
        case rel => exact ⟨k + 1, by congr 1, by omega, HO2, HB2, HA2⟩
        case measure => simp [intOf]; omega
      | false =>
        have HRX := hide hrx
        clear hrx
        obtain ⟨y, hy⟩ : ∃ y, y = wrap32 x := ⟨_, rfl⟩
        by_cases hxy : y = x
        · have hyx : wrap32 x = x := by rw [← hy]; exact hxy
          have hw0 : (widthOf x == 0) = true := by rw [width_rune, unhide HRX]; rfl
          have hne : (x != x) = false := by simp
          clear hxy hy
          clear y
          go_wp2_with (first | (go_at_call 40; refine (width_any x _).mono ?_; rintro e w' ⟨rfl, rfl⟩))
          go_ret2
          exact fromP_no (unhide HX) (unhide HRX) (unhide HB)
        · have hne : (wrap64 (wrap32 x) != x) = true := by rw [wrap6432, ← hy]; exact bne_iff_ne.2 hxy
          clear hxy hy
          clear y
          go_wp2_with fail
          go_ret2
          exact fromP_no (unhide HX) (unhide HRX) (unhide HB)
    · have hk1 : ¬ (k : Int) < (zs.length : Int) := by omega
      obtain rfl : k = zs.length := by omega
      rw [List.take_length] at HO
      have hall : ∀ x ∈ zs, runeB x = true := fun x hx => by
        obtain ⟨j, hj⟩ := List.getElem?_of_mem hx
        exact unhide HA j x (List.getElem?_eq_some_iff.1 hj).1 hj
      obtain ⟨q, cq, rfl, hq⟩ := own_holds (unhide HO)
      have HG := hide (gather_any q cq w.heap.size zs (by omega) hall wr (unhide HB).size hq)
      have HALL := hide hall
      clear hq hall
      go_wp2_with fail
      refine (unhide HG).mono ?_
      rintro e w5 ⟨B, lo0, us, rfl, hlo, hM, hS, hl, hm, hb⟩
      have HM := hide hM
      have HSS := hide hS
      have HMM := hide hm
      have HB5 := hide ((unhide HB).trans hb)
      have HLL := hide (Nat.le_trans (unhide HB).size hlo)
      clear hM hS hm hb hlo
      go_wp2_with fail
      go_ret2
      exact ⟨fun _ => ⟨B, lo0, us, rfl, unhide HLL, unhide HM, unhide HSS, hl, unhide HMM⟩, fun h => absurd h (by rw [List.all_eq_true.2 (unhide HALL)]; decide), unhide HB5⟩
set_option maxRecDepth 100000 in
set_option maxHeartbeats 4000000 in
theorem from_rune (p : Option Addr) (cap : Nat) (zs : List Int) (hz : zs.length ≤ 1000) (hf : ∀ x ∈ zs, -2147483648 ≤ x ∧ x ≤ 2147483647) (w : World) (hr : RowN .i32 w p zs) :
    Calls Try.prog 13 #[.slice p zs.length cap] w (FromP zs w) := by
  obtain ⟨cur, hmk, hcs⟩ := make_runes zs.length (by omega) w
  obtain ⟨iR, hi0, hi1, hi2, hi3⟩ := info_parts infoR32
  have HIP := hide (And.intro hi0 (And.intro hi1 (And.intro hi2 hi3)))
  have hlen : (zs.length : Int) ≤ 1000 := by omega
  have HR := hide hr
  have HF := hide hf
  have HCS := hide hcs
  clear hr hf hcs hi0 hi1 hi2 hi3
  go_enter Try.func13, Try.ntmps13
  go_wp2_with fail
  go_loopw [4, 13] (fun v i wr => ∃ k : Nat, i = .int .i64 k ∧ k ≤ zs.length ∧ Hz (wr.ownsRow w.heap.size 21 1 v (zs.take k).length (e32 (zs.take k))) ∧ Hz (Below w.heap.size w wr) ∧ Hz (∀ j x, j < k → zs[j]? = some x → runeB x = true)) (fun _ i _ => zs.length - (intOf i).toNat)
  case atStart => exact ⟨0, rfl, by omega, hide (World.ownsRow_made w cur zs.length (Nat.le_refl _) (by unfold maxLen; omega) (unhide HCS)), hide ((Below.refl _ w).alloc (Nat.le_refl _) _), hide (fun j x h => by omega)⟩
  case round =>
    obtain ⟨k, rfl, hk, HO, HB, HA⟩ := hrel
    clear hmk
    by_cases hkn : k < zs.length
    · have hk1 : (k : Int) < (zs.length : Int) := by omega
      have hk2 : ((k : Nat) : Int).toNat = k := by omega
      obtain ⟨x, hx⟩ : ∃ x, zs[k]? = some x := ⟨_, List.getElem?_eq_getElem (by omega)⟩
      obtain ⟨g, o, rfl, hg, hc⟩ := unhide HR (by omega)
      have c0 := ((unhide HB).cell (p := ⟨g, o + k, none⟩) hg).trans (hc k x hx)
      obtain ⟨bx1, bx2⟩ := unhide HF x (List.mem_of_getElem? hx)
      have HX := hide hx
      clear hc hx
      cases hrx : runeB x with
      | true =>
        have hb := runeB_iff hrx
        have hb1 := hb.1
        have hb2 := hb.2.1
        have hw0 : (widthOf x == 0) = false := by rw [width_rune, hrx]; rfl
        have hne : (x != x) = false := by simp
        have HL := hide (show (e32 (zs.take k)).length = (zs.take k).length by simp [e32])
        have HOa : Hz (wr.ownsRow w.heap.size 21 1 _ (e32 (zs.take k)).length (e32 (zs.take k))) := hide (by rw [unhide HL]; exact unhide HO)
        have HRX := hide hrx
        clear hb hrx
        go_wp2_with (first | (go_at_call 40; refine (width_any x _).mono ?_; rintro e w' ⟨rfl, rfl⟩) | (at_builtin; refine append_v rfl _ _ 48 21 rfl iR (.int .i32 0) 4 Try.underlying48 (unhide HIP).1 (unhide HIP).2.1 (unhide HIP).2.2.1 (unhide HIP).2.2.2 rfl (by decide) w.heap.size _ (e32 (zs.take k)) (.int .i32 x) rfl ?qa _ rfl rfl (unhide HOa) ?qb _ rfl rfl ?_))
        case qa => rw [unhide HL, List.length_take]; omega
        case qb => exact (unhide HB).size
        intro v' w1 hown hb1'
        have HO2 : Hz (w1.ownsRow w.heap.size 21 1 v' (zs.take (k + 1)).length (e32 (zs.take (k + 1)))) := hide (by
          rw [take_snoc (unhide HX)]
          have e : e32 (zs.take k ++ [x]) = e32 (zs.take k) ++ [.int .i32 x] := by simp [e32]
          rw [e, List.length_append]
          rw [unhide HL] at hown
          exact hown)
        have HB2 : Hz (Below w.heap.size w w1) := hide ((unhide HB).trans hb1')
        have HA2 : Hz (∀ j y, j < k + 1 → zs[j]? = some y → runeB y = true) := hide (fun j y hj hy => by
          by_cases e : j = k
          · subst e; have := (unhide HX).symm.trans hy; cases this; exact unhide HRX
          · exact unhide HA j y (by omega) hy)
        clear hown hb1' HO HOa HB HA c0
        go_wp2_with fail
        go_roundw
        case rel => exact ⟨k + 1, by congr 1, by omega, HO2, HB2, HA2⟩
        case measure => simp [intOf]; omega
      | false =>
        have hw0 : (widthOf x == 0) = true := by rw [width_rune, hrx]; rfl
        have hne : (x != x) = false := by simp
        have HRX := hide hrx
        clear hrx
        go_wp2_with (first | (go_at_call 40; refine (width_any x _).mono ?_; rintro e w' ⟨rfl, rfl⟩))
        go_ret2
        exact fromP_no (unhide HX) (unhide HRX) (unhide HB)
    · have hk1 : ¬ (k : Int) < (zs.length : Int) := by omega
      obtain rfl : k = zs.length := by omega
      rw [List.take_length] at HO
      have hall : ∀ x ∈ zs, runeB x = true := fun x hx => by
        obtain ⟨j, hj⟩ := List.getElem?_of_mem hx
        exact unhide HA j x (List.getElem?_eq_some_iff.1 hj).1 hj
      obtain ⟨q, cq, rfl, hq⟩ := own_holds (unhide HO)
      have HG := hide (gather_any q cq w.heap.size zs (by omega) hall wr (unhide HB).size hq)
      have HALL := hide hall
      clear hq hall
      go_wp2_with fail
      refine (unhide HG).mono ?_
      rintro e w5 ⟨B, lo0, us, rfl, hlo, hM, hS, hl, hm, hb⟩
      have HM := hide hM
      have HSS := hide hS
      have HMM := hide hm
      have HB5 := hide ((unhide HB).trans hb)
      have HLL := hide (Nat.le_trans (unhide HB).size hlo)
      clear hM hS hm hb hlo
      go_wp2_with fail
      go_ret2
      exact ⟨fun _ => ⟨B, lo0, us, rfl, unhide HLL, unhide HM, unhide HSS, hl, unhide HMM⟩, fun h => absurd h (by rw [List.all_eq_true.2 (unhide HALL)]; decide), unhide HB5⟩
set_option maxRecDepth 100000 in
set_option maxHeartbeats 4000000 in
theorem from_u32 (p : Option Addr) (cap : Nat) (zs : List Int) (hz : zs.length ≤ 1000) (hf : ∀ x ∈ zs, 0 ≤ x ∧ x ≤ 4294967295) (w : World) (hr : RowN .u32 w p zs) :
    Calls Try.prog 53 #[.slice p zs.length cap] w (FromP zs w) := by
  obtain ⟨cur, hmk, hcs⟩ := make_runes zs.length (by omega) w
  obtain ⟨iR, hi0, hi1, hi2, hi3⟩ := info_parts infoR32
  have HIP := hide (And.intro hi0 (And.intro hi1 (And.intro hi2 hi3)))
  have hlen : (zs.length : Int) ≤ 1000 := by omega
  have HR := hide hr
  have HF := hide hf
  have HCS := hide hcs
  clear hr hf hcs hi0 hi1 hi2 hi3
  go_enter Try.func53, Try.ntmps53
  go_wp2_with fail
  go_loopw [4, 13] (fun v i wr => ∃ k : Nat, i = .int .i64 k ∧ k ≤ zs.length ∧ Hz (wr.ownsRow w.heap.size 21 1 v (zs.take k).length (e32 (zs.take k))) ∧ Hz (Below w.heap.size w wr) ∧ Hz (∀ j x, j < k → zs[j]? = some x → runeB x = true)) (fun _ i _ => zs.length - (intOf i).toNat)
  case atStart => exact ⟨0, rfl, by omega, hide (World.ownsRow_made w cur zs.length (Nat.le_refl _) (by unfold maxLen; omega) (unhide HCS)), hide ((Below.refl _ w).alloc (Nat.le_refl _) _), hide (fun j x h => by omega)⟩
  case round =>
    obtain ⟨k, rfl, hk, HO, HB, HA⟩ := hrel
    clear hmk
    by_cases hkn : k < zs.length
    · have hk1 : (k : Int) < (zs.length : Int) := by omega
      have hk2 : ((k : Nat) : Int).toNat = k := by omega
      obtain ⟨x, hx⟩ : ∃ x, zs[k]? = some x := ⟨_, List.getElem?_eq_getElem (by omega)⟩
      obtain ⟨g, o, rfl, hg, hc⟩ := unhide HR (by omega)
      have c0 := ((unhide HB).cell (p := ⟨g, o + k, none⟩) hg).trans (hc k x hx)
      obtain ⟨bx1, bx2⟩ := unhide HF x (List.mem_of_getElem? hx)
      have HX := hide hx
      clear hc hx
      cases hrx : runeB x with
      | true =>
        have hb := runeB_iff hrx
        have hb1 := hb.1
        have hb2 := hb.2.1
        have hw0 : (widthOf x == 0) = false := by rw [width_rune, hrx]; rfl
        have hne : (x != x) = false := by simp
        have HL := hide (show (e32 (zs.take k)).length = (zs.take k).length by simp [e32])
        have HOa : Hz (wr.ownsRow w.heap.size 21 1 _ (e32 (zs.take k)).length (e32 (zs.take k))) := hide (by rw [unhide HL]; exact unhide HO)
        have HRX := hide hrx
        clear hb hrx
        go_wp2_with (first | (go_at_call 40; refine (width_any x _).mono ?_; rintro e w' ⟨rfl, rfl⟩) | (at_builtin; refine append_v rfl _ _ 48 21 rfl iR (.int .i32 0) 4 Try.underlying48 (unhide HIP).1 (unhide HIP).2.1 (unhide HIP).2.2.1 (unhide HIP).2.2.2 rfl (by decide) w.heap.size _ (e32 (zs.take k)) (.int .i32 x) rfl ?qa _ rfl rfl (unhide HOa) ?qb _ rfl rfl ?_))
        case qa => rw [unhide HL, List.length_take]; omega
        case qb => exact (unhide HB).size
        intro v' w1 hown hb1'
        have HO2 : Hz (w1.ownsRow w.heap.size 21 1 v' (zs.take (k + 1)).length (e32 (zs.take (k + 1)))) := hide (by
          rw [take_snoc (unhide HX)]
          have e : e32 (zs.take k ++ [x]) = e32 (zs.take k) ++ [.int .i32 x] := by simp [e32]
          rw [e, List.length_append]
          rw [unhide HL] at hown
          exact hown)
        have HB2 : Hz (Below w.heap.size w w1) := hide ((unhide HB).trans hb1')
        have HA2 : Hz (∀ j y, j < k + 1 → zs[j]? = some y → runeB y = true) := hide (fun j y hj hy => by
          by_cases e : j = k
          · subst e; have := (unhide HX).symm.trans hy; cases this; exact unhide HRX
          · exact unhide HA j y (by omega) hy)
        clear hown hb1' HO HOa HB HA c0
        go_wp2_with fail
        go_roundw
        case rel => exact ⟨k + 1, by congr 1, by omega, HO2, HB2, HA2⟩
        case measure => simp [intOf]; omega
      | false =>
        have HRX := hide hrx
        clear hrx
        obtain ⟨y, hy⟩ : ∃ y, y = wrap32 x := ⟨_, rfl⟩
        by_cases hxy : y = x
        · have hyx : wrap32 x = x := by rw [← hy]; exact hxy
          have hw0 : (widthOf x == 0) = true := by rw [width_rune, unhide HRX]; rfl
          have hne : (x != x) = false := by simp
          clear hxy hy
          clear y
          go_wp2_with (first | (go_at_call 40; refine (width_any x _).mono ?_; rintro e w' ⟨rfl, rfl⟩))
          go_ret2
          exact fromP_no (unhide HX) (unhide HRX) (unhide HB)
        · have hne : (wrap64 (wrap32 x) != x) = true := by rw [wrap6432, ← hy]; exact bne_iff_ne.2 hxy
          clear hxy hy
          clear y
          go_wp2_with fail
          go_ret2
          exact fromP_no (unhide HX) (unhide HRX) (unhide HB)
    · have hk1 : ¬ (k : Int) < (zs.length : Int) := by omega
      obtain rfl : k = zs.length := by omega
      rw [List.take_length] at HO
      have hall : ∀ x ∈ zs, runeB x = true := fun x hx => by
        obtain ⟨j, hj⟩ := List.getElem?_of_mem hx
        exact unhide HA j x (List.getElem?_eq_some_iff.1 hj).1 hj
      obtain ⟨q, cq, rfl, hq⟩ := own_holds (unhide HO)
      have HG := hide (gather_any q cq w.heap.size zs (by omega) hall wr (unhide HB).size hq)
      have HALL := hide hall
      clear hq hall
      go_wp2_with fail
      refine (unhide HG).mono ?_
      rintro e w5 ⟨B, lo0, us, rfl, hlo, hM, hS, hl, hm, hb⟩
      have HM := hide hM
      have HSS := hide hS
      have HMM := hide hm
      have HB5 := hide ((unhide HB).trans hb)
      have HLL := hide (Nat.le_trans (unhide HB).size hlo)
      clear hM hS hm hb hlo
      go_wp2_with fail
      go_ret2
      exact ⟨fun _ => ⟨B, lo0, us, rfl, unhide HLL, unhide HM, unhide HSS, hl, unhide HMM⟩, fun h => absurd h (by rw [List.all_eq_true.2 (unhide HALL)]; decide), unhide HB5⟩
set_option maxRecDepth 100000 in
set_option maxHeartbeats 4000000 in
theorem from_kin (p : Option Addr) (cap : Nat) (zs : List Int) (hz : zs.length ≤ 1000) (hf : ∀ x ∈ zs, 0 ≤ x ∧ x ≤ 4294967295) (w : World) (hr : RowN .u32 w p zs) :
    Calls Try.prog 54 #[.slice p zs.length cap] w (FromP zs w) := by
  obtain ⟨cur, hmk, hcs⟩ := make_runes zs.length (by omega) w
  obtain ⟨iR, hi0, hi1, hi2, hi3⟩ := info_parts infoR32
  have HIP := hide (And.intro hi0 (And.intro hi1 (And.intro hi2 hi3)))
  have hlen : (zs.length : Int) ≤ 1000 := by omega
  have HR := hide hr
  have HF := hide hf
  have HCS := hide hcs
  clear hr hf hcs hi0 hi1 hi2 hi3
  go_enter Try.func54, Try.ntmps54
  go_wp2_with fail
  go_loopw [4, 13] (fun v i wr => ∃ k : Nat, i = .int .i64 k ∧ k ≤ zs.length ∧ Hz (wr.ownsRow w.heap.size 21 1 v (zs.take k).length (e32 (zs.take k))) ∧ Hz (Below w.heap.size w wr) ∧ Hz (∀ j x, j < k → zs[j]? = some x → runeB x = true)) (fun _ i _ => zs.length - (intOf i).toNat)
  case atStart => exact ⟨0, rfl, by omega, hide (World.ownsRow_made w cur zs.length (Nat.le_refl _) (by unfold maxLen; omega) (unhide HCS)), hide ((Below.refl _ w).alloc (Nat.le_refl _) _), hide (fun j x h => by omega)⟩
  case round =>
    obtain ⟨k, rfl, hk, HO, HB, HA⟩ := hrel
    clear hmk
    by_cases hkn : k < zs.length
    · have hk1 : (k : Int) < (zs.length : Int) := by omega
      have hk2 : ((k : Nat) : Int).toNat = k := by omega
      obtain ⟨x, hx⟩ : ∃ x, zs[k]? = some x := ⟨_, List.getElem?_eq_getElem (by omega)⟩
      obtain ⟨g, o, rfl, hg, hc⟩ := unhide HR (by omega)
      have c0 := ((unhide HB).cell (p := ⟨g, o + k, none⟩) hg).trans (hc k x hx)
      obtain ⟨bx1, bx2⟩ := unhide HF x (List.mem_of_getElem? hx)
      have HX := hide hx
      clear hc hx
      cases hrx : runeB x with
      | true =>
        have hb := runeB_iff hrx
        have hb1 := hb.1
        have hb2 := hb.2.1
        have hw0 : (widthOf x == 0) = false := by rw [width_rune, hrx]; rfl
        have hne : (x != x) = false := by simp
        have HL := hide (show (e32 (zs.take k)).length = (zs.take k).length by simp [e32])
        have HOa : Hz (wr.ownsRow w.heap.size 21 1 _ (e32 (zs.take k)).length (e32 (zs.take k))) := hide (by rw [unhide HL]; exact unhide HO)
        have HRX := hide hrx
        clear hb hrx
        go_wp2_with (first | (go_at_call 40; refine (width_any x _).mono ?_; rintro e w' ⟨rfl, rfl⟩) | (at_builtin; refine append_v rfl _ _ 48 21 rfl iR (.int .i32 0) 4 Try.underlying48 (unhide HIP).1 (unhide HIP).2.1 (unhide HIP).2.2.1 (unhide HIP).2.2.2 rfl (by decide) w.heap.size _ (e32 (zs.take k)) (.int .i32 x) rfl ?qa _ rfl rfl (unhide HOa) ?qb _ rfl rfl ?_))
        case qa => rw [unhide HL, List.length_take]; omega
        case qb => exact (unhide HB).size
        intro v' w1 hown hb1'
        have HO2 : Hz (w1.ownsRow w.heap.size 21 1 v' (zs.take (k + 1)).length (e32 (zs.take (k + 1)))) := hide (by
          rw [take_snoc (unhide HX)]
          have e : e32 (zs.take k ++ [x]) = e32 (zs.take k) ++ [.int .i32 x] := by simp [e32]
          rw [e, List.length_append]
          rw [unhide HL] at hown
          exact hown)
        have HB2 : Hz (Below w.heap.size w w1) := hide ((unhide HB).trans hb1')
        have HA2 : Hz (∀ j y, j < k + 1 → zs[j]? = some y → runeB y = true) := hide (fun j y hj hy => by
          by_cases e : j = k
          · subst e; have := (unhide HX).symm.trans hy; cases this; exact unhide HRX
          · exact unhide HA j y (by omega) hy)
        clear hown hb1' HO HOa HB HA c0
        go_wp2_with fail
        go_roundw
        case rel => exact ⟨k + 1, by congr 1, by omega, HO2, HB2, HA2⟩
        case measure => simp [intOf]; omega
      | false =>
        have HRX := hide hrx
        clear hrx
        obtain ⟨y, hy⟩ : ∃ y, y = wrap32 x := ⟨_, rfl⟩
        by_cases hxy : y = x
        · have hyx : wrap32 x = x := by rw [← hy]; exact hxy
          have hw0 : (widthOf x == 0) = true := by rw [width_rune, unhide HRX]; rfl
          have hne : (x != x) = false := by simp
          clear hxy hy
          clear y
          go_wp2_with (first | (go_at_call 40; refine (width_any x _).mono ?_; rintro e w' ⟨rfl, rfl⟩))
          go_ret2
          exact fromP_no (unhide HX) (unhide HRX) (unhide HB)
        · have hne : (wrap64 (wrap32 x) != x) = true := by rw [wrap6432, ← hy]; exact bne_iff_ne.2 hxy
          clear hxy hy
          clear y
          go_wp2_with fail
          go_ret2
          exact fromP_no (unhide HX) (unhide HRX) (unhide HB)
    · have hk1 : ¬ (k : Int) < (zs.length : Int) := by omega
      obtain rfl : k = zs.length := by omega
      rw [List.take_length] at HO
      have hall : ∀ x ∈ zs, runeB x = true := fun x hx => by
        obtain ⟨j, hj⟩ := List.getElem?_of_mem hx
        exact unhide HA j x (List.getElem?_eq_some_iff.1 hj).1 hj
      obtain ⟨q, cq, rfl, hq⟩ := own_holds (unhide HO)
      have HG := hide (gather_any q cq w.heap.size zs (by omega) hall wr (unhide HB).size hq)
      have HALL := hide hall
      clear hq hall
      go_wp2_with fail
      refine (unhide HG).mono ?_
      rintro e w5 ⟨B, lo0, us, rfl, hlo, hM, hS, hl, hm, hb⟩
      have HM := hide hM
      have HSS := hide hS
      have HMM := hide hm
      have HB5 := hide ((unhide HB).trans hb)
      have HLL := hide (Nat.le_trans (unhide HB).size hlo)
      clear hM hS hm hb hlo
      go_wp2_with fail
      go_ret2
      exact ⟨fun _ => ⟨B, lo0, us, rfl, unhide HLL, unhide HM, unhide HSS, hl, unhide HMM⟩, fun h => absurd h (by rw [List.all_eq_true.2 (unhide HALL)]; decide), unhide HB5⟩
end Go.Proofs.Ytemmflhofhngbaa
/- The n-th rune of a set, and how many lie below a number. -/
namespace Go.Proofs.Ytemmflhofhngbaa
open Go.RowKit Go.Shelf
set_option linter.unusedVariables false
theorem span_pos {x : Int × Int} (he : endsB x = true) (hx : x.1 ≤ x.2) : 1 ≤ spanSize x := by
  have h := endsB_iff he
  have := (rank_le h.1.2.2 h.2.2.2).2 hx
  unfold spanSize
  omega
/-- The n-th rune of a set. -/
def nthOf : List (Int × Int) → Int → Int
  | [], _ => 0
  | x :: zs, n => if n < spanSize x then rankedOf (rankOf x.1 + n) else nthOf zs (n - spanSize x)
theorem total_cons (x : Int × Int) (zs : List (Int × Int)) : total (x :: zs) = spanSize x + total zs := rfl
theorem total_take_nonneg {zs : List (Int × Int)} (h : RightL zs) (i : Nat) : 0 ≤ total (zs.take i) := (total_bound (fun x hx => h x (List.mem_of_mem_take hx))).1
theorem nth_at : ∀ (zs : List (Int × Int)) (i : Nat) (x : Int × Int) (n : Int), RightL zs → zs[i]? = some x → total (zs.take i) ≤ n → n < total (zs.take i) + spanSize x → nthOf zs n = rankedOf (rankOf x.1 + (n - total (zs.take i)))
  | [], i, x, n, _, hx, _, _ => by simp at hx
  | y :: zs, 0, x, n, hR, hx, h0, h1 => by
    simp at hx
    subst hx
    simp only [List.take_zero, total] at h0 h1 ⊢
    show (if n < spanSize y then _ else _) = _
    rw [if_pos (by omega)]
    congr 2
    omega
  | y :: zs, i + 1, x, n, hR, hx, h0, h1 => by
    simp only [List.take_succ_cons, total_cons] at h0 h1 ⊢
    have hR' : RightL zs := fun z hz => hR z (List.mem_cons_of_mem _ hz)
    have hnn := total_take_nonneg hR' i
    show (if n < spanSize y then _ else nthOf zs (n - spanSize y)) = _
    rw [if_neg (by omega), nth_at zs i x (n - spanSize y) hR' (by simpa using hx) (by omega) (by omega)]
    congr 2
    omega
/-- How many runes of a set lie below r. -/
def belowOf : List (Int × Int) → Int → Int
  | [], _ => 0
  | x :: zs, r => (if x.1 < r then min (rankOf r) (rankOf x.2 + 1) - rankOf x.1 else 0) + belowOf zs r
theorem below_none : ∀ (zs : List (Int × Int)) (r : Int), (∀ x ∈ zs, r ≤ x.1) → belowOf zs r = 0
  | [], _, _ => rfl
  | x :: zs, r, h => by
    have := h x List.mem_cons_self
    show (if x.1 < r then _ else 0) + belowOf zs r = 0
    rw [if_neg (by omega), below_none zs r (fun y hy => h y (List.mem_cons_of_mem _ hy))]
    rfl
theorem rank_mono {a b : Int} (ha : a < 55296 ∨ 57343 < a) (h : a < b) : rankOf a + 1 ≤ rankOf b ∨ (55295 = a ∧ rankOf b = 55296) := by
  unfold rankOf
  split <;> split <;> (try split) <;> (try split) <;> omega
theorem rank_above {a b : Int} (ha : a < 55296 ∨ 57343 < a) (h : a < b) : rankOf a + 1 ≤ rankOf b := by
  unfold rankOf
  split <;> split <;> (try split) <;> (try split) <;> omega
theorem belowK_of : ∀ (zs : List (Int × Int)) (r : Int) (k : Nat), Spread zs → Cut (fun x => x.1) zs r k → belowK zs r k = belowOf zs r
  | zs, r, 0, hS, hc => by
    rw [below_none zs r (fun x hx => by
      obtain ⟨i, hi, rfl⟩ := List.mem_iff_getElem.1 hx
      exact hc.2.2 i _ (Nat.zero_le _) (List.getElem?_eq_getElem hi))]
    rfl
  | [], r, k + 1, hS, hc => by have := hc.1; simp at this
  | x :: zs, r, k + 1, hS, hc => by
    have hx : x.1 < r := hc.2.1 0 x (by omega) rfl
    show _ = (if x.1 < r then _ else 0) + belowOf zs r
    rw [if_pos hx]
    have hc' : Cut (fun x => x.1) zs r k := ⟨by have := hc.1; simp at this; omega, fun j y hj hy => hc.2.1 (j + 1) y (by omega) (by simpa using hy), fun j y hj hy => hc.2.2 (j + 1) y (by omega) (by simpa using hy)⟩
    have ih := belowK_of zs r k hS.tail hc'
    cases k with
    | zero =>
      rw [← ih]
      show total [] + min (rankOf r) (rankOf x.2 + 1) - rankOf x.1 = min (rankOf r) (rankOf x.2 + 1) - rankOf x.1 + 0
      simp [total]
    | succ m =>
      rw [← ih]
      have hm : m < zs.length := by have := hc'.1; omega
      obtain ⟨y, hy⟩ : ∃ y, zs[m]? = some y := ⟨_, List.getElem?_eq_getElem hm⟩
      have hyr : y.1 < r := hc'.2.1 m y (by omega) hy
      have hlt := hS.head_lt (List.mem_of_getElem? hy)
      have he := endsB_iff (hS.ends x (by simp)).1
      have h1 := rank_above he.2.2.2 (show x.2 < r by omega)
      show total ((x :: zs).take (m + 1)) + min (rankOf r) (rankOf ((x :: zs).getD (m + 1) (0, 0)).2 + 1) - rankOf ((x :: zs).getD (m + 1) (0, 0)).1 = _ + (total (zs.take m) + min (rankOf r) (rankOf (zs.getD m (0, 0)).2 + 1) - rankOf (zs.getD m (0, 0)).1)
      rw [List.take_succ_cons, total_cons, List.getD_cons_succ, Int.min_eq_right h1]
      unfold spanSize
      omega
theorem ranked_rank {n : Int} (h : 0 ≤ n) : rankOf (rankedOf n) = n := by
  unfold rankedOf rankOf
  split <;> split <;> (try split) <;> omega
theorem ranked_rune {n : Int} (h : 0 ≤ n) (h1 : n ≤ 1112063) : runeB (rankedOf n) = true := by
  unfold rankedOf runeB
  apply decide_eq_true
  split <;> omega
/-- The n-th rune: it is in the set, n are below it. -/
theorem nth_facts {zs : List (Int × Int)} (hS : Spread zs) {i : Nat} {x : Int × Int} {n : Int} (hx : zs[i]? = some x) (h0 : total (zs.take i) ≤ n) (h1 : n < total (zs.take i) + spanSize x) :
    runeB (nthOf zs n) = true ∧ x.1 ≤ nthOf zs n ∧ nthOf zs n ≤ x.2 ∧ rankOf (nthOf zs n) = rankOf x.1 + (n - total (zs.take i)) := by
  have hm := List.mem_of_getElem? hx
  have he := endsB_iff (hS.ends x hm).1
  have a := rank_range he.1.1 he.1.2.1
  have b := rank_range he.2.1 he.2.2.1
  unfold spanSize at h1
  rw [nth_at zs i x n hS.ends hx h0 (by unfold spanSize; omega)]
  have r := ranked_rank (n := rankOf x.1 + (n - total (zs.take i))) (by omega)
  have q := ranked_rune (n := rankOf x.1 + (n - total (zs.take i))) (by omega) (by omega)
  have qq := runeB_iff q
  refine ⟨q, (rank_le he.1.2.2 qq.2.2).1 (by omega), (rank_le qq.2.2 he.2.2.2).1 (by omega), r⟩
theorem below_take : ∀ (zs : List (Int × Int)) (i : Nat) (x : Int × Int) (r : Int), Spread zs → zs[i]? = some x → x.1 < r → (∀ y, zs[i + 1]? = some y → r ≤ y.1) → belowOf zs r = total (zs.take i) + (min (rankOf r) (rankOf x.2 + 1) - rankOf x.1) := by
  intro zs i x r hS hx h1 h2
  have hi := (List.getElem?_eq_some_iff.1 hx).1
  have hc : Cut (fun x => x.1) zs r (i + 1) := ⟨by omega, fun j y hj hy => by
      show y.1 < r
      rcases Nat.lt_or_eq_of_le (show j ≤ i by omega) with a | a
      · have := hS.los j i y x a hy hx; omega
      · subst a; rw [hx] at hy; cases hy; exact h1, fun j y hj hy => by
      show r ≤ y.1
      rcases Nat.lt_or_eq_of_le hj with a | a
      · have hj' := (List.getElem?_eq_some_iff.1 hy).1
        obtain ⟨z, hz⟩ : ∃ z, zs[i + 1]? = some z := ⟨_, List.getElem?_eq_getElem (by omega)⟩
        have := hS.los (i + 1) j z y a hz hy
        have := h2 z hz
        omega
      · rw [← a] at hy; exact h2 y hy⟩
  rw [← belowK_of zs r (i + 1) hS hc]
  have hg : zs.getD i (0, 0) = x := by simp [List.getD, hx]
  show total (zs.take i) + min (rankOf r) (rankOf (zs.getD i (0, 0)).2 + 1) - rankOf (zs.getD i (0, 0)).1 = _
  rw [hg]
  omega
/-- Where the n-th rune stands. -/
theorem nth_where : ∀ (zs : List (Int × Int)) (n : Int), RightL zs → 0 ≤ n → n < total zs → ∃ (i : Nat) (x : Int × Int), zs[i]? = some x ∧ total (zs.take i) ≤ n ∧ n < total (zs.take i) + spanSize x
  | [], n, _, h0, h1 => by simp [total] at h1; omega
  | y :: zs, n, hR, h0, h1 => by
    by_cases c : n < spanSize y
    · exact ⟨0, y, rfl, by simpa [total] using h0, by simpa [total] using c⟩
    · rw [total_cons] at h1
      obtain ⟨i, x, hx, a, b⟩ := nth_where zs (n - spanSize y) (fun z hz => hR z (List.mem_cons_of_mem _ hz)) (by omega) (by omega)
      exact ⟨i + 1, x, by simpa using hx, by rw [List.take_succ_cons, total_cons]; omega, by rw [List.take_succ_cons, total_cons]; omega⟩
theorem nth_all {zs : List (Int × Int)} (hS : Spread zs) {n : Int} (h0 : 0 ≤ n) (h1 : n < total zs) : memB zs (nthOf zs n) = true ∧ belowOf zs (nthOf zs n) = n ∧ belowOf zs (nthOf zs n + 1) = n + 1 ∧ 0 ≤ nthOf zs n ∧ nthOf zs n ≤ 1114111 := by
  obtain ⟨i, x, hx, a, b⟩ := nth_where zs n hS.ends h0 h1
  obtain ⟨hr, h2, h3, h4⟩ := nth_facts hS hx a b
  have hm := List.mem_of_getElem? hx
  have he := endsB_iff (hS.ends x hm).1
  have hrr := runeB_iff hr
  have hle2 := (rank_le hrr.2.2 he.2.2.2).2 h3
  have hnext : ∀ y, zs[i + 1]? = some y → nthOf zs n + 1 ≤ y.1 := fun y hy => by
    have := hS.lt i (i + 1) x y (by omega) hx hy
    omega
  have hb1 := below_take zs i x (nthOf zs n + 1) hS hx (by omega) hnext
  have hr1 := rank_above hrr.2.2 (show nthOf zs n < nthOf zs n + 1 by omega)
  have hr2 : rankOf (nthOf zs n + 1) = rankOf (nthOf zs n) + 1 := by
    have : rankOf (nthOf zs n + 1) ≤ rankOf (nthOf zs n) + 1 := by unfold rankOf; split <;> split <;> (try split) <;> (try split) <;> omega
    omega
  refine ⟨(memB_iff _ _).2 ⟨⟨x, hm, h2, h3⟩, hr⟩, ?_, ?_, hrr.1, hrr.2.1⟩
  · by_cases c : x.1 < nthOf zs n
    · rw [below_take zs i x (nthOf zs n) hS hx c (fun y hy => by have := hnext y hy; omega)]
      omega
    · have e : nthOf zs n = x.1 := by omega
      have hz : n = total (zs.take i) := by rw [e] at h4; omega
      cases i with
      | zero =>
        rw [e, below_none zs x.1 (fun y hy => by
          obtain ⟨j, hj, rfl⟩ := List.mem_iff_getElem.1 hy
          cases j with
          | zero => rw [List.getElem?_eq_getElem hj] at hx; cases hx; omega
          | succ j => have := hS.los 0 (j + 1) x _ (by omega) hx (List.getElem?_eq_getElem hj); omega)]
        rw [hz]; rfl
      | succ m =>
        have hml : m < zs.length := by have := (List.getElem?_eq_some_iff.1 hx).1; omega
        obtain ⟨y, hy⟩ : ∃ y, zs[m]? = some y := ⟨_, List.getElem?_eq_getElem hml⟩
        have hlt := hS.lt m (m + 1) y x (by omega) hy hx
        have hey := hS.ends y (List.mem_of_getElem? hy)
        have hye := endsB_iff hey.1
        rw [e, below_take zs m y x.1 hS hy (by omega) (fun z hz' => by rw [hx] at hz'; cases hz'; omega)]
        have hra := rank_above hye.2.2.2 hlt
        rw [Int.min_eq_right hra, hz]
        rw [take_more hy, total_snoc]
        unfold spanSize
        omega
  · rw [hb1, hr2]
    omega
end Go.Proofs.Ytemmflhofhngbaa
/- Not of a set: all other runes. -/
namespace Go.Proofs.Ytemmflhofhngbaa
open Go.RowKit Go.Shelf
set_option linter.unusedVariables false
theorem mem_take_succ' {l : List (Int × Int)} {k : Nat} {x y : Int × Int} (hx : l[k]? = some x) (hy : y ∈ l.take (k + 1)) : y ∈ l.take k ∨ y = x := by
  rw [List.take_add_one, hx] at hy
  simpa using hy
/-- The runes from one rank on up to and without another, laid. -/
def layR (zs : List (Int × Int)) (f t : Int) : List (Int × Int) := if f < t then layL zs (rankedOf f, rankedOf (t - 1)) else zs
theorem layR_right {f t : Int} (h0 : 0 ≤ f) (h1 : t ≤ 1112064) (h : f < t) : endsB (rankedOf f, rankedOf (t - 1)) = true ∧ rankedOf f ≤ rankedOf (t - 1) := by
  refine ⟨endsB_mk (ranked_rune h0 (by omega)) (ranked_rune (by omega) (by omega)), ?_⟩
  unfold rankedOf
  split <;> split <;> omega
theorem ranked_le {f r : Int} (h0 : 0 ≤ f) (h1 : f ≤ 1112063) (hr : runeB r = true) : (rankedOf f ≤ r ↔ f ≤ rankOf r) ∧ (r ≤ rankedOf f ↔ rankOf r ≤ f) := by
  have q := runeB_iff (ranked_rune h0 h1)
  have p := runeB_iff hr
  have e := ranked_rank h0
  have a := rank_le q.2.2 p.2.2
  have b := rank_le p.2.2 q.2.2
  rw [e] at a b
  exact ⟨a.symm, b.symm⟩
theorem layR_facts {zs : List (Int × Int)} {f t : Int} (hS : Spread zs) (hlow : ∀ y ∈ zs, rankOf y.2 < f) (h0 : 0 ≤ f) (h1 : t ≤ 1112064) (hft : f ≤ t) :
    Spread (layR zs f t) ∧ (∀ r, runeB r = true → (memB (layR zs f t) r = true ↔ memB zs r = true ∨ (f ≤ rankOf r ∧ rankOf r < t))) ∧ (∀ y ∈ layR zs f t, rankOf y.2 < t) ∧ (layR zs f t).length ≤ zs.length + 1 := by
  unfold layR
  by_cases h : f < t
  · rw [if_pos h]
    have hx := layR_right h0 h1 h
    have hle : ∀ y ∈ zs, y.1 ≤ rankedOf f := fun y hy => by
      have a := hS.ends y hy
      have b := endsB_iff a.1
      have c := (ranked_le h0 (by omega) (endsB_parts a.1).2).2.2 (by have := hlow y hy; omega)
      have := a.2
      omega
    refine ⟨layL_spread hS hx.1 hx.2 hle, fun r hr => ?_, fun y hy => ?_, layL_length _ _⟩
    · rw [layL_mem hS hx.1 hx.2 hle, Bool.or_eq_true, memB_iff [_]]
      simp only [List.mem_singleton, exists_eq_left]
      rw [(ranked_le h0 (by omega) hr).1, (ranked_le (f := t - 1) (by omega) (by omega) hr).2]
      constructor
      · rintro (a | ⟨⟨a, b⟩, _⟩)
        · exact .inl a
        · exact .inr ⟨a, by omega⟩
      · rintro (a | ⟨a, b⟩)
        · exact .inl a
        · exact .inr ⟨⟨a, by omega⟩, hr⟩
    · have hm : memB (layL zs (rankedOf f, rankedOf (t - 1))) y.2 = true := by
        have a := (layL_spread hS hx.1 hx.2 hle).ends y hy
        exact (memB_iff _ _).2 ⟨⟨y, hy, a.2, by omega⟩, (endsB_parts a.1).2⟩
      have hyr : runeB y.2 = true := (endsB_parts ((layL_spread hS hx.1 hx.2 hle).ends y hy).1).2
      rw [layL_mem hS hx.1 hx.2 hle, Bool.or_eq_true, memB_iff, memB_iff [_]] at hm
      simp only [List.mem_singleton, exists_eq_left] at hm
      rcases hm with ⟨⟨z, hz, p, q⟩, _⟩ | ⟨⟨p, q⟩, _⟩
      · have a := hlow z hz
        have b := endsB_iff (hS.ends z hz).1
        have c := (rank_le (runeB_iff hyr).2.2 b.2.2.2).2 q
        omega
      · have := (ranked_le (f := t - 1) (by omega) (by omega) hyr).2.1 q
        omega
  · rw [if_neg h]
    have e : f = t := by omega
    subst e
    refine ⟨hS, fun r hr => ?_, hlow, by omega⟩
    constructor
    · exact .inl
    · rintro (a | ⟨a, b⟩)
      · exact a
      · omega
structure NotI (zs : List (Int × Int)) (k : Nat) (out : List (Int × Int)) (f : Int) : Prop where
  spread : Spread out
  rng : 0 ≤ f ∧ f ≤ 1112064
  mem : ∀ r, runeB r = true → (memB out r = true ↔ rankOf r < f ∧ memB (zs.take k) r = false)
  low : ∀ y ∈ out, rankOf y.2 < f
  len : out.length ≤ k
  past : ∀ y ∈ zs.take k, rankOf y.2 + 1 ≤ f
  next : ∀ x, zs[k]? = some x → f ≤ rankOf x.1
theorem notI_start {zs : List (Int × Int)} (hS : Spread zs) : NotI zs 0 [] 0 where
  spread := ⟨fun x h => by simp at h, fun i j x y _ h => by simp at h⟩
  rng := by omega
  mem r hr := by
    have := rank_range (runeB_iff hr).1 (runeB_iff hr).2.1
    simp [memB]
    omega
  low y h := by simp at h
  len := by simp
  past y h := by simp at h
  next x hx := by
    have e := endsB_iff (hS.ends x (List.mem_of_getElem? hx)).1
    exact (rank_range e.1.1 e.1.2.1).1
theorem notI_step {zs : List (Int × Int)} (hS : Spread zs) {k : Nat} {out : List (Int × Int)} {f : Int} {x : Int × Int} (h : NotI zs k out f) (hx : zs[k]? = some x) : NotI zs (k + 1) (layR out f (rankOf x.1)) (rankOf x.2 + 1) := by
  have hm := List.mem_of_getElem? hx
  have hex := hS.ends x hm
  have he := endsB_iff hex.1
  have r1 := rank_range he.1.1 he.1.2.1
  have r2 := rank_range he.2.1 he.2.2.1
  have r12 := (rank_le he.1.2.2 he.2.2.2).2 hex.2
  have hf := h.next x hx
  obtain ⟨a, b, c, d⟩ := layR_facts h.spread h.low h.rng.1 (by omega) hf
  refine ⟨a, by omega, fun r hr => ?_, fun y hy => by have := c y hy; omega, by have := h.len; omega, fun y hy => ?_, fun y hy => ?_⟩
  · have hrr := runeB_iff hr
    rw [b r hr, h.mem r hr, take_more hx, memB_append]
    have q1 := rank_le he.1.2.2 hrr.2.2
    have q2 := rank_le hrr.2.2 he.2.2.2
    have hx1 : memB [x] r = true ↔ rankOf x.1 ≤ rankOf r ∧ rankOf r ≤ rankOf x.2 := by
      rw [memB_iff]
      simp only [List.mem_singleton, exists_eq_left]
      rw [q1, q2]
      exact ⟨fun h => h.1, fun h => ⟨h, hr⟩⟩
    have hpast : memB (zs.take k) r = true → rankOf r < f := fun hmm => by
      obtain ⟨⟨y, hy, p, q⟩, _⟩ := (memB_iff _ _).1 hmm
      have e := endsB_iff (hS.ends y (List.mem_of_mem_take hy)).1
      have := (rank_le hrr.2.2 e.2.2.2).2 q
      have := h.past y hy
      omega
    cases m1 : memB (zs.take k) r <;> cases m2 : memB [x] r
    · have : ¬ (rankOf x.1 ≤ rankOf r ∧ rankOf r ≤ rankOf x.2) := fun e => by rw [hx1.2 e] at m2; cases m2
      simp
      omega
    · have := hx1.1 m2
      simp
      omega
    · have := hpast m1
      simp
      omega
    · have := hpast m1
      simp
      omega
  · rcases mem_take_succ' hx hy with e | e
    · have := h.past y e; omega
    · subst e; omega
  · have := hS.apart k (k + 1) x y (by omega) hx hy
    omega
theorem notI_end {zs : List (Int × Int)} (hS : Spread zs) {out : List (Int × Int)} {f : Int} (h : NotI zs zs.length out f) : Spread (layR out f 1112064) ∧ (∀ r, memB (layR out f 1112064) r = (runeB r && !memB zs r)) ∧ (layR out f 1112064).length ≤ zs.length + 1 := by
  obtain ⟨a, b, c, d⟩ := layR_facts h.spread h.low h.rng.1 (Int.le_refl _) h.rng.2
  refine ⟨a, fun r => ?_, by have := h.len; omega⟩
  cases hr : runeB r with
  | false => simp [memB, hr]
  | true =>
    have hrr := runeB_iff hr
    have hk := rank_range hrr.1 hrr.2.1
    have hp : memB zs r = true → rankOf r < f := fun hmm => by
      obtain ⟨⟨y, hy, p, q⟩, _⟩ := (memB_iff _ _).1 hmm
      have e := endsB_iff (hS.ends y hy).1
      have := (rank_le hrr.2.2 e.2.2.2).2 q
      have := h.past y (by rw [List.take_of_length_le (Nat.le_refl _)]; exact hy)
      omega
    rw [Bool.eq_iff_iff, b r hr, h.mem r hr, List.take_of_length_le (Nat.le_refl _)]
    cases m : memB zs r
    · simp; omega
    · have := hp m; simp; omega
end Go.Proofs.Ytemmflhofhngbaa
/- Not of a set, walked. -/
namespace Go.Proofs.Ytemmflhofhngbaa
open Go.RowKit Go.Shelf
set_option linter.unusedVariables false
set_option maxRecDepth 100000 in
set_option maxHeartbeats 4000000 in
theorem layRanks_any (B lo0 : Nat) (zs : List (Int × Int)) (f t : Int) (hn : zs.length ≤ 1000000) (hS : Spread zs) (h0 : 0 ≤ f) (h1 : 0 ≤ t ∧ t ≤ 1112064) (h2 : f ≤ 1112064) (w : World) (hG : Grows w B lo0 zs) (hl : lo0 ≤ w.heap.size) :
    Calls Try.prog 36 #[.pointer (some ⟨B, 0, none⟩), .int .i64 f, .int .i64 t] w fun e w' => (∃ r, e = .returned r) ∧ Grows w' B lo0 (layR zs f t) ∧ Below lo0 w w' ∧ Frame w w' B := by
  unfold layR
  by_cases h : f < t
  · rw [if_pos h]
    have HL := hide (lay_any B lo0 zs (rankedOf f, rankedOf (t - 1)) hn hS (layR_right h0 h1.2 h).1 w hG hl)
    have HA := hide (fun w => ranked_any f h0 (by omega) w)
    have HBb := hide (fun w => ranked_any (t - 1) (by omega) (by omega) w)
    clear hG hS
    go_enter Try.func36, Try.ntmps36
    go_wp2_with fail
    refine (unhide HA _).mono ?_
    rintro e w1 ⟨rfl, rfl⟩
    go_wp2_with fail
    refine (unhide HBb _).mono ?_
    rintro e w2 ⟨rfl, rfl⟩
    go_wp2_with fail
    refine (unhide HL).mono ?_
    rintro e w3 ⟨⟨r, rfl⟩, hg, hb, hfr⟩
    have HG := hide hg
    have HB := hide hb
    have HFr := hide hfr
    clear hg hb hfr
    go_wp2
    go_end0
    exact ⟨⟨_, rfl⟩, unhide HG, unhide HB, unhide HFr⟩
  · rw [if_neg h]
    have HG := hide hG
    clear hG hS
    go_enter Try.func36, Try.ntmps36
    go_wp2
    go_end0
    exact ⟨⟨_, rfl⟩, unhide HG, Below.refl _ _, fun X _ _ _ => rfl⟩
/-- A block that is newer than all that a set owns stays through what is laid. -/
theorem box_kept {wr w6 : World} {B lo0 : Nat} {zs : List (Int × Int)} {cs : Array Value} {t : TypeId} (hm : Made wr B lo0 zs) (hf : Frame (wr.alloc (.cells cs t)) w6 B) : Blk w6 wr.heap.size cs t := by
  obtain ⟨va, vb, h1, h2, h3⟩ := hm.form
  have hlt := h1.lt
  refine (hf wr.heap.size (by simp) (by omega) fun va' vb' hB => ?_).trans (Blk.new wr cs t)
  have e := (show (wr.alloc (.cells cs t)).heap[B]? = _ from h1.alloc (.cells cs t)).symm.trans hB
  simp at e
  obtain ⟨rfl, rfl⟩ := e
  exact ⟨fun e => by have := (h2.lt _ e).2; omega, fun e => by have := (h3.lt _ e).2; omega⟩
set_option maxRecDepth 100000 in
set_option maxHeartbeats 4000000 in
theorem not_any (B : Nat) (zs : List (Int × Int)) (hz : zs.length ≤ 100000) (w : World) (hs : SetAt w B zs) :
    Calls Try.prog 11 #[.pointer (some ⟨B, 0, none⟩)] w fun e w' => ∃ (B' lo0 : Nat) (ys : List (Int × Int)), e = .returned (.pointer (some ⟨B', 0, none⟩)) ∧ w.heap.size ≤ lo0 ∧ Made w' B' lo0 ys ∧ Spread ys ∧ ys.length ≤ zs.length + 1 ∧ (∀ r, memB ys r = (runeB r && !memB zs r)) ∧ Below w.heap.size w w' := by
  obtain ⟨⟨a, ca, b, cb, hb0, hp, ha⟩, hsp, hl⟩ := hs
  have HS := hide hsp
  have HP := hide hp
  have HBk := hide hb0
  have d0 := (hb0.alloc (.cells #[.slice none 0 0, .slice none 0 0] 66)).cell 0
  have hzi : (zs.length : Int) ≤ 100000 := by omega
  clear hsp hp ha hb0
  go_enter Try.func11, Try.ntmps11
  go_wp2
  go_loopw [4, 14] (fun fv iv wr => ∃ (k : Nat) (out : List (Int × Int)) (f : Int), iv = .int .i64 k ∧ fv = .int .i64 f ∧ k ≤ zs.length ∧ (0 ≤ f ∧ f ≤ 1112064) ∧ Hz (NotI zs k out f) ∧ Hz (Grows wr w.heap.size w.heap.size out) ∧ Hz (Below w.heap.size w wr)) (fun _ iv _ => zs.length - (intOf iv).toNat)
  case atStart => exact ⟨0, [], 0, rfl, rfl, by omega, by omega, hide (notI_start (unhide HS)), hide (grows_new w _ rfl), hide ((Below.refl _ w).alloc (Nat.le_refl _) _)⟩
  case round =>
    obtain ⟨k, out, f, rfl, rfl, hk, hf, HI, HG, HB⟩ := hrel
    have hol : out.length ≤ 1000000 := by have := (unhide HI).len; omega
    by_cases hkn : k < zs.length
    · have hk1 : (k : Int) < (zs.length : Int) := by omega
      have hk2 : ((k : Nat) : Int).toNat = k := by omega
      obtain ⟨x, hx⟩ : ∃ x, zs[k]? = some x := ⟨_, List.getElem?_eq_getElem hkn⟩
      have HI2 := hide (notI_step (unhide HS) (unhide HI) hx)
      have he := endsB_iff ((unhide HS).ends x (List.mem_of_getElem? hx)).1
      have r1 := rank_range he.1.1 he.1.2.1
      have r2 := rank_range he.2.1 he.2.2.1
      obtain ⟨g, o, rfl, hg, hc⟩ := unhide HP (by omega)
      have c0 := ((unhide HB).cell (p := ⟨g, o + k * 2, none⟩) hg).trans (hc k x hx).1
      have c1 := ((unhide HB).cell (p := ⟨g, o + k * 2 + 1, none⟩) hg).trans (hc k x hx).2
      obtain ⟨lo, hi⟩ := x
      simp only at c0 c1 he r1 r2 HI2
      have b1 := Blk.new wr #[.int .i32 lo, .int .i32 hi] 28
      have q0 := b1.cell 0
      have HB1 := hide ((unhide HB).alloc (unhide HB).size (.cells #[.int .i32 lo, .int .i32 hi] 28))
      have HG1 := hide ((unhide HG).below ((Below.refl _ wr).alloc (Nat.le_refl _) (.cells #[.int .i32 lo, .int .i32 hi] 28)))
      have HRk := hide (fun w => rank_any lo (by omega) (by omega) w)
      have HRh := hide (fun w => rank_any hi (by omega) (by omega) w)
      have HLR := hide (layRanks_any w.heap.size w.heap.size out f (rankOf lo) hol (unhide HI).spread (by omega) (by omega) (by omega) _ (unhide HG1) (unhide HB1).size)
      clear b1 hc hx
      go_wp2_with fail
      refine (unhide HRk _).mono ?_
      rintro e w5 ⟨rfl, rfl⟩
      go_wp2_with fail
      refine (unhide HLR).mono ?_
      rintro e w6 ⟨⟨r, rfl⟩, hG, hb, hfr⟩
      have hbx := box_kept (unhide HG).1 hfr
      have x1 := hbx.cell 1
      have HG2 := hide hG
      have HB2 := hide ((unhide HB1).trans hb)
      clear hG hb hfr hbx q0 c0 c1
      go_wp2_with fail
      refine (unhide HRh _).mono ?_
      rintro e w7 ⟨rfl, rfl⟩
      go_wp2
      go_roundw
      case rel => exact ⟨k + 1, _, _, by congr 1, rfl, by omega, by omega, HI2, HG2, HB2⟩
      case measure => simp [intOf]; omega
    · have hk1 : ¬ (k : Int) < (zs.length : Int) := by omega
      obtain rfl : k = zs.length := by omega
      have HE := hide (notI_end (unhide HS) (unhide HI))
      have HLR := hide (layRanks_any w.heap.size w.heap.size out f 1112064 hol (unhide HI).spread (by omega) (by omega) (by omega) wr (unhide HG) (unhide HB).size)
      have HRk := hide (fun w => rank_any 1114111 (by omega) (by omega) w)
      rw [show rankOf 1114111 = 1112063 by decide] at HRk
      go_wp2_with fail
      refine (unhide HRk _).mono ?_
      rintro e w5 ⟨rfl, rfl⟩
      go_wp2_with fail
      refine (unhide HLR).mono ?_
      rintro e w6 ⟨⟨r, rfl⟩, hG, hb, _⟩
      have HG2 := hide hG
      have HB2 := hide ((unhide HB).trans hb)
      clear hG hb
      go_wp2
      go_ret
      exact ⟨w.heap.size, w.heap.size, _, rfl, Nat.le_refl _, (unhide HG2).1, (unhide HE).1, (unhide HE).2.2, (unhide HE).2.1, unhide HB2⟩
end Go.Proofs.Ytemmflhofhngbaa
