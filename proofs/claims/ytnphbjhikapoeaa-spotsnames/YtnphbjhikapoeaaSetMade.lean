/- A set that is being made, as it lies in memory; what an append or a store leaves of it. -/
import Derived.Test.YtnphbjhikapoeaaSetLay
import Derived.Test.YtnphbjhikapoeaaSetSpread
namespace Go.Proofs.Ytnphbjhikapoeaa
open Go.RowKit Go.Shelf
set_option linter.unusedVariables false
/-- How many runes lie ahead of each span. -/
def ahs (zs : List (Int × Int)) : List Value := (List.range zs.length).map fun j => .int .i64 (total (zs.take j))
theorem ahs_length (zs : List (Int × Int)) : (ahs zs).length = zs.length := by simp [ahs]
theorem ahs_at (zs : List (Int × Int)) (j : Nat) (hj : j < zs.length) : (ahs zs)[j]? = some (.int .i64 (total (zs.take j))) := by simp [ahs, hj]
theorem ahs_snoc (zs : List (Int × Int)) (x : Int × Int) : ahs (zs ++ [x]) = ahs zs ++ [.int .i64 (total zs)] := by
  unfold ahs
  rw [List.length_append, List.length_singleton, List.range_succ, List.map_append]
  congr 1
  · apply List.map_congr_left
    intro j hj
    rw [List.mem_range] at hj
    rw [List.take_append_of_le_length (by omega)]
  · simp
theorem ahs_last (ys : List (Int × Int)) (y y' : Int × Int) : ahs (ys ++ [y']) = ahs (ys ++ [y]) := by rw [ahs_snoc, ahs_snoc]
theorem own_rowA {W : World} {base n : Nat} {v : Value} {zs : List (Int × Int)} (h : W.ownsRow base 3 1 v n (ahs zs)) : ∃ a c, v = .slice a zs.length c ∧ RowA W a zs ∧ n = zs.length := by
  obtain ⟨hl, h⟩ := h
  rw [ahs_length] at hl
  have hn : n = zs.length := by omega
  subst hn
  rcases h with ⟨rfl, h0⟩ | ⟨g, cap, cur, rfl, hb, hg, h1, h2, h3, h4⟩
  · exact ⟨none, 0, by rw [h0], fun h => by omega, rfl⟩
  · refine ⟨_, cap, rfl, fun h0 => ⟨g, 0, rfl, (Array.getElem?_eq_some_iff.1 hg).1, fun j hj => ?_⟩, rfl⟩
    have hbk : Blk W g cur 3 := hg
    have e := ahs_at zs j hj
    rw [← h4] at e
    rw [List.getElem?_take, if_pos (by omega)] at e
    rw [Nat.zero_add, Blk.cell hbk]
    simpa using e
theorem own_below {W W' : World} {base E sz n : Nat} {v : Value} {xs : List Value} (h : W.ownsRow base E sz v n xs) (hb : Below W.heap.size W W') : W'.ownsRow base E sz v n xs := by
  obtain ⟨hl, h⟩ := h
  refine ⟨hl, ?_⟩
  rcases h with h | ⟨g, cap, cur, h1, h2, h3, h4⟩
  · exact .inl h
  · exact .inr ⟨g, cap, cur, h1, h2, (hb.block g (Array.getElem?_eq_some_iff.1 h3).1).trans h3, h4⟩
/-- A row is no block of another type. -/
theorem own_ne {W : World} {base E t sz n B : Nat} {v : Value} {xs : List Value} {cs : Array Value} (h : W.ownsRow base E sz v n xs) (hB : Blk W B cs t) (hE : t ≠ E) : some B ≠ v.ownBlock := by
  intro e
  rcases h.2 with ⟨rfl, _⟩ | ⟨g, cap, cur, rfl, _, hg, _⟩
  · simp [Value.ownBlock] at e
  · simp [Value.ownBlock] at e
    subst e
    have := (show W.heap[B]? = _ from hB).symm.trans hg
    simp at this
    exact hE this.2
/-- Nor is it a row of another type. -/
theorem own_own {W : World} {base base' E E' sz sz' n n' : Nat} {v v' : Value} {xs xs' : List Value} (h : W.ownsRow base E sz v n xs) (h' : W.ownsRow base' E' sz' v' n' xs') (hE : E ≠ E') : v.ownBlock = none ∨ v.ownBlock ≠ v'.ownBlock := by
  rcases h.2 with ⟨rfl, _⟩ | ⟨g, cap, cur, rfl, _, hg, _⟩
  · exact .inl rfl
  · exact .inr (own_ne h' (show Blk W g cur E from hg) hE)
/-- All but a set's own blocks is as it was. -/
def Frame (w w' : World) (B : Nat) : Prop := ∀ X, X < w.heap.size → X ≠ B → (∀ va vb, Blk w B #[va, vb] 105 → va.ownBlock ≠ some X ∧ vb.ownBlock ≠ some X) → w'.heap[X]? = w.heap[X]?
/-- A set that is being made. -/
structure Made (W : World) (B lo0 : Nat) (zs : List (Int × Int)) : Prop where
  form : ∃ va vb, Blk W B #[va, vb] 105 ∧ W.ownsRow lo0 63 2 va zs.length (encP zs) ∧ W.ownsRow lo0 3 1 vb zs.length (ahs zs)
  lo : lo0 ≤ B
theorem Made.set {W : World} {B lo0 : Nat} {zs : List (Int × Int)} (h : Made W B lo0 zs) (hs : Spread zs) (hl : zs.length ≤ 1112064) : SetAt W B zs := by
  obtain ⟨va, vb, h1, h2, h3⟩ := h.form
  obtain ⟨a, ca, rfl, ha, _⟩ := own_row h2
  obtain ⟨b, cb, rfl, hb, _⟩ := own_rowA h3
  exact ⟨⟨a, ca, b, cb, h1, ha, hb⟩, hs, hl⟩
theorem Made.below {W W' : World} {B lo0 : Nat} {zs : List (Int × Int)} (h : Made W B lo0 zs) (hb : Below W.heap.size W W') : Made W' B lo0 zs := by
  obtain ⟨va, vb, h1, h2, h3⟩ := h.form
  exact ⟨⟨va, vb, h1.below hb h1.lt, own_below h2 hb, own_below h3 hb⟩, h.lo⟩
/-- A store into the last span's second cell. -/
theorem encP_last (ys : List (Int × Int)) (y : Int × Int) (u : Int) : (encP (ys ++ [y])).set (ys.length * 2 + 1) (.int .i32 u) = encP (ys ++ [(y.1, u)]) := by
  rw [encP_append, encP_append, List.set_append, if_neg (by rw [encP_length]; omega), encP_length]
  have : ys.length * 2 + 1 - ys.length * 2 = 1 := by omega
  rw [this]
  rfl
theorem Made.touch {W : World} {B lo0 g ca : Nat} {vb : Value} {ys : List (Int × Int)} {y : Int × Int} (h1 : Blk W B #[.slice (some ⟨g, 0, none⟩) (ys.length + 1) ca, vb] 105) (h2 : W.ownsRow lo0 63 2 (.slice (some ⟨g, 0, none⟩) (ys.length + 1) ca) (ys.length + 1) (encP (ys ++ [y]))) (h3 : W.ownsRow lo0 3 1 vb (ys.length + 1) (ahs (ys ++ [y]))) (hl : lo0 ≤ B) (u : Int) :
    Made (W.setCell ⟨g, ys.length * 2 + 1, none⟩ (.int .i32 u)) B lo0 (ys ++ [(y.1, u)]) ∧ Below lo0 W (W.setCell ⟨g, ys.length * 2 + 1, none⟩ (.int .i32 u)) := by
  have hs := h2.stored (ys.length * 2 + 1) (.int .i32 u)
  have hg : lo0 ≤ g := (h2.lt g rfl).1
  refine ⟨⟨⟨_, vb, h1.kept hs.2 ?_, ?_, ?_⟩, hl⟩, (Below.refl lo0 W).setCell (p := ⟨g, ys.length * 2 + 1, none⟩) hg _⟩
  · exact own_ne h2 h1 (by decide)
  · rw [List.length_append, List.length_singleton]
    have := hs.1
    rw [encP_last] at this
    exact this
  · rw [List.length_append, List.length_singleton, ahs_last ys y]
    exact h3.kept hs.2 (own_own h3 h2 (by decide))
/-- What the first append leaves. -/
theorem mid_any {wm w2 w3 : World} {B X lo0 n : Nat} {va vb : Value} {cx : Array Value} {xs ys : List Value} {tmp : Obj} (hB : Blk wm B #[va, vb] 105) (hX : Blk wm X cx 63) (ha : wm.ownsRow lo0 63 2 va n xs) (hv : wm.ownsRow lo0 3 1 vb n ys) (hb : Below wm.heap.size wm w2) (hg : (w2.alloc tmp).grownBy w3 vb.ownBlock) :
    Blk w3 B #[va, vb] 105 ∧ Blk w3 X cx 63 ∧ w3.ownsRow lo0 63 2 va n xs := by
  have b1 := (hB.below hb hB.lt).alloc tmp
  have x1 := (hX.below hb hX.lt).alloc tmp
  have a1 := (own_below ha hb).alloc tmp
  have v1 := (own_below hv hb).alloc tmp
  exact ⟨b1.kept hg (own_ne v1 b1 (by decide)), x1.kept hg (own_ne v1 x1 (by decide)), a1.kept hg (own_own a1 v1 (by decide))⟩
theorem fst_end' {w wm w2 w3 : World} {B lo0 X g1 cap1 n : Nat} {va vb : Value} {cx : Array Value} {xs ys zs : List Value} {tmp : Obj} (hB : Blk wm B #[va, vb] 105) (hX : Blk wm X cx 63) (ha : wm.ownsRow lo0 63 2 va n xs) (hv : wm.ownsRow lo0 3 1 vb n ys) (hw : Below w.heap.size w wm) (hb : Below wm.heap.size wm w2) (hg : (w2.alloc tmp).grownBy w3 vb.ownBlock) (h0 : lo0 ≤ B) (hl : lo0 ≤ w.heap.size) (hne : X ≠ B)
    (ho : w3.ownsRow lo0 3 1 (.slice (some ⟨g1, 0, none⟩) (n + 1) cap1) (n + 1) zs) :
    ∃ w4, w4 = w3.setCell ⟨B, 1, none⟩ (.slice (some ⟨g1, 0, none⟩) (n + 1) cap1) ∧ Blk w4 B #[va, .slice (some ⟨g1, 0, none⟩) (n + 1) cap1] 105 ∧ Blk w4 X cx 63 ∧ w4.ownsRow lo0 3 1 (.slice (some ⟨g1, 0, none⟩) (n + 1) cap1) (n + 1) zs ∧ w4.ownsRow lo0 63 2 va n xs ∧ Below lo0 w w4 ∧ (∀ X, X < w.heap.size → X ≠ B → vb.ownBlock ≠ some X → w4.heap[X]? = w.heap[X]?) := by
  have hm := mid_any hB hX ha hv hb hg
  refine ⟨_, rfl, by simpa using hm.1.set 1 (.slice (some ⟨g1, 0, none⟩) (n + 1) cap1), hm.2.1.other hne _, ?_, ?_, ?_, fun X hX hXB hXv => ?_⟩
  · exact ho.kept (grown_setCell' w3 ⟨B, 1, none⟩ _) (.inr (own_ne ho hm.1 (by decide)).symm)
  · rcases hm.2.2.2 with ⟨rfl, _⟩ | _
    · exact hm.2.2.kept (grown_setCell' w3 ⟨B, 1, none⟩ _) (.inl rfl)
    · exact hm.2.2.kept (grown_setCell' w3 ⟨B, 1, none⟩ _) (.inr (own_ne hm.2.2 hm.1 (by decide)).symm)
  · have s1 := hw.size
    have s2 := hb.size
    have v1 := hv.lt
    exact ((((hw.mono hl).trans (hb.mono (by omega))).alloc (by omega) tmp).grown hg (by simp; omega) (fun k e => (v1 k e).1)).setCell (p := ⟨B, 1, none⟩) h0 _
  · have s1 := hw.size
    have s2 := hb.size
    rw [Below.heap_setCell w3 ⟨B, 1, none⟩ _ X hXB, hg.block X (by simp; omega) (fun e => hXv e.symm), Below.heap_alloc w2 tmp X (by omega), hb.block X (by omega), hw.block X hX]
theorem snd_end' {w w4 w5 : World} {B lo0 g1 cap1 g5 cap5 : Nat} {va : Value} {zs : List (Int × Int)} {x : Int × Int} {tmp : Obj} (hB : Blk w4 B #[va, .slice (some ⟨g1, 0, none⟩) (zs.length + 1) cap1] 105) (ho : w4.ownsRow lo0 3 1 (.slice (some ⟨g1, 0, none⟩) (zs.length + 1) cap1) (zs.length + 1) (ahs (zs ++ [x]))) (ha : w4.ownsRow lo0 63 2 va zs.length (encP zs)) (hL : Below lo0 w w4) (hl : lo0 ≤ w.heap.size) (h0 : lo0 ≤ B)
    (hg : (w4.alloc tmp).drew.grownBy w5 va.ownBlock) (ho5 : w5.ownsRow lo0 63 2 (.slice (some ⟨g5, 0, none⟩) (zs.length + 1) cap5) (zs.length + 1) (encP zs ++ encP [x])) {Pv : Nat → Prop} (hF : ∀ X, X < w.heap.size → X ≠ B → Pv X → w4.heap[X]? = w.heap[X]?) :
    Made (w5.setCell ⟨B, 0, none⟩ (.slice (some ⟨g5, 0, none⟩) (zs.length + 1) cap5)) B lo0 (zs ++ [x]) ∧ Below lo0 w (w5.setCell ⟨B, 0, none⟩ (.slice (some ⟨g5, 0, none⟩) (zs.length + 1) cap5)) ∧ (∀ X, X < w.heap.size → X ≠ B → Pv X → va.ownBlock ≠ some X → (w5.setCell ⟨B, 0, none⟩ (.slice (some ⟨g5, 0, none⟩) (zs.length + 1) cap5)).heap[X]? = w.heap[X]?) := by
  have hg' : (w4.alloc tmp).grownBy w5 va.ownBlock := ⟨hg.os, hg.tape, hg.output, hg.size, hg.block⟩
  have b1 := hB.alloc tmp
  have a1 := ha.alloc tmp
  have o1 := ho.alloc tmp
  have hm := b1.kept hg' (own_ne a1 b1 (by decide))
  have ho1 := o1.kept hg' (own_own o1 a1 (by decide))
  rw [← encP_append] at ho5
  refine ⟨⟨⟨_, _, by simpa using hm.set 0 (.slice (some ⟨g5, 0, none⟩) (zs.length + 1) cap5), ?_, ?_⟩, h0⟩, ?_, fun X hX hXB hP hXa => ?_⟩
  · rw [List.length_append, List.length_singleton]
    exact ho5.kept (grown_setCell' w5 ⟨B, 0, none⟩ _) (.inr (own_ne ho5 hm (by decide)).symm)
  · rw [List.length_append, List.length_singleton]
    exact ho1.kept (grown_setCell' w5 ⟨B, 0, none⟩ _) (.inr (own_ne ho1 hm (by decide)).symm)
  · have s1 := hL.size
    exact ((hL.alloc (by omega) tmp).grown hg' (by simp; omega) (fun k e => (ha.lt k e).1)).setCell (p := ⟨B, 0, none⟩) h0 _
  · have s1 := hL.size
    rw [Below.heap_setCell w5 ⟨B, 0, none⟩ _ X hXB, hg'.block X (by simp; omega) (fun e => hXa e.symm), Below.heap_alloc w4 tmp X (by omega), hF X hX hXB hP]
end Go.Proofs.Ytnphbjhikapoeaa
