/- New, told for every text: a text too long is refused; else its places lie in new memory: the first byte of each spot, and the first spot of each line. -/
import Derived.Test.YtnphbjhikapoeaaVals
import Derived.Maps.AppendAt
import Derived.Deep.AppendLies
import Derived.Deep.RegionHeld3
import Derived.Deep.RegionLaw
import Derived.RangeFuncBox
namespace Go.Proofs.Ytnphbjhikapoeaa
open Go.RowKit Go.Shelf
set_option linter.unusedVariables false

abbrev i64L (l : List Nat) : List Value := l.map (fun i : Nat => Value.int .i64 (i : Int))
theorem add_none (g o j : Nat) : (⟨g, o, none⟩ : Addr).add j = ⟨g, o + j, none⟩ := by unfold Addr.add; split <;> simp_all
theorem one_new (W : World) (u : Value) (t : TypeId) : ∀ j v, [u][j]? = some v → (W.alloc (.cells #[u] t)).cell? ((⟨W.heap.size, 0, none⟩ : Addr).add j) = some v := by
  intro j v hj
  rw [add_none, (Blk.new W #[u] t).cell (0 + j), ← hj]
  simp

/-- The first spots of the lines behind the first one. -/
def lnsGo (s : ByteArray) : List Nat → Nat → List Nat
  | [], _ => []
  | x :: l, k => if rn s x = 10 then (k + 1) :: lnsGo s l (k + 1) else lnsGo s l (k + 1)
def lnsOf (s : ByteArray) (pre : List Nat) : List Nat := 0 :: lnsGo s pre 0
def lns (s : ByteArray) : List Nat := lnsOf s (starts s)
theorem lnsGo_append (s : ByteArray) (b : List Nat) : ∀ (a : List Nat) (k : Nat), lnsGo s (a ++ b) k = lnsGo s a k ++ lnsGo s b (k + a.length)
  | [], k => by simp [lnsGo]
  | x :: a, k => by
    simp only [List.cons_append, lnsGo]
    rw [lnsGo_append s b a (k + 1), show k + 1 + a.length = k + (x :: a).length by simp; omega]
    split <;> simp
theorem lnsOf_nl (s : ByteArray) (pre : List Nat) (x : Nat) (h : rn s x = 10) : lnsOf s (pre ++ [x]) = lnsOf s pre ++ [pre.length + 1] := by
  unfold lnsOf
  rw [lnsGo_append]
  simp [lnsGo, h]
theorem lnsOf_no (s : ByteArray) (pre : List Nat) (x : Nat) (h : ¬ rn s x = 10) : lnsOf s (pre ++ [x]) = lnsOf s pre := by
  unfold lnsOf
  rw [lnsGo_append]
  simp [lnsGo, h]
theorem lnsGo_length (s : ByteArray) : ∀ (a : List Nat) (k : Nat), (lnsGo s a k).length ≤ a.length
  | [], k => by simp [lnsGo]
  | x :: a, k => by
    unfold lnsGo
    have := lnsGo_length s a (k + 1)
    split <;> simp <;> omega
theorem lnsOf_length (s : ByteArray) (pre : List Nat) : (lnsOf s pre).length ≤ pre.length + 1 := by
  have := lnsGo_length s pre 0
  simp [lnsOf]
  omega

theorem row_not_low {W : World} {base e size n : Nat} {v : Value} {xs : List Value} (h : W.ownsRow base e size v n xs) {b : Nat} (hb : b < base) : some b ≠ v.ownBlock := fun h0 => by
  rcases h.2 with ⟨rfl, _⟩ | ⟨g, cap, cur, rfl, hg, _⟩
  · simp [Value.ownBlock] at h0
  · simp [Value.ownBlock] at h0; omega
theorem own_block_lt {W : World} {base e size n : Nat} {v : Value} {xs : List Value} (h : W.ownsRow base e size v n xs) (g : Nat) (hg : v.ownBlock = some g) : base ≤ g ∧ g < W.heap.size := h.lt g hg
theorem blk_not_row {W : World} {B : Nat} {cs : Array Value} {t : TypeId} (h : Blk W B cs t) {base e size n : Nat} {v : Value} {xs : List Value} (hr : W.ownsRow base e size v n xs) (hne : t ≠ e) : some B ≠ v.ownBlock := fun h0 => by
  rcases hr.2 with ⟨rfl, _⟩ | ⟨g, cap, cur, rfl, _, hh, _⟩
  · simp [Value.ownBlock] at h0
  · obtain rfl : B = g := by simpa [Value.ownBlock] using h0
    rw [show W.heap[B]? = _ from h] at hh
    simp at hh
    exact hne hh.2
theorem iter_not_row {W : World} {B : Nat} {s : ByteArray} {p : Nat} (h : W.heap[B]? = some (.stringIter s p)) {base e size n : Nat} {v : Value} {xs : List Value} (hr : W.ownsRow base e size v n xs) : some B ≠ v.ownBlock := fun h0 => by
  rcases hr.2 with ⟨rfl, _⟩ | ⟨g, cap, cur, rfl, _, hh, _⟩
  · simp [Value.ownBlock] at h0
  · obtain rfl : B = g := by simpa [Value.ownBlock] using h0
    rw [h] at hh
    simp at hh
theorem grown_setCell (W : World) (a : Addr) (v : Value) : W.grownBy (W.setCell a v) (some a.block) :=
  ⟨rfl, rfl, rfl, by simp, fun k _ hk => Below.heap_setCell _ _ _ k (fun e => hk (by rw [e]))⟩
theorem apart_symm {a b : Option Nat} (h : a = none ∨ a ≠ b) : b = none ∨ b ≠ a := by
  cases b with
  | none => exact .inl rfl
  | some x =>
    refine .inr fun e => ?_
    rcases h with h | h
    · rw [h] at e; cases e
    · exact h e.symm

/-- The world while New goes over the text. -/
structure Nw (s : ByteArray) (N : Nat) (w W : World) (pos : Nat) (l1 l2 : List Nat) (v1 v2 : Value) : Prop where
  bT : Blk W (N + 1) #[.string s, v1, v2] 87
  it : W.heap[N + 1 + 1]? = some (.stringIter s pos)
  r1 : W.ownsRow (N + 3) 3 1 v1 l1.length (i64L l1)
  r2 : W.ownsRow N 3 1 v2 l2.length (i64L l2)
  ap : v1.ownBlock = none ∨ v1.ownBlock ≠ v2.ownBlock
  bel : Below N w W

theorem Nw.iter {s : ByteArray} {N : Nat} {w W : World} {pos : Nat} {l1 l2 : List Nat} {v1 v2 : Value} (h : Nw s N w W pos l1 l2 v1 v2) (p' : Nat) : Nw s N w (W.iterAt (N + 1 + 1) s p') p' l1 l2 v1 v2 := by
  have hg := grown_iterAt W (N + 1 + 1) s p'
  exact ⟨h.bT.kept hg (by simp), Lib.iterAt_heap W (N + 1 + 1) s pos p' h.it,
    h.r1.kept hg (.inr (fun e => iter_not_row h.it h.r1 e.symm)), h.r2.kept hg (.inr (fun e => iter_not_row h.it h.r2 e.symm)), h.ap,
    h.bel.grown hg (by have := h.bT.lt; omega) (fun k hk => by simp at hk; omega)⟩

theorem Nw.app1 {s : ByteArray} {N : Nat} {w W W2 : World} {pos : Nat} {l1 l2 : List Nat} {v1 v2 v1' : Value} {x : Nat} {tmp : Obj} (h : Nw s N w W pos l1 l2 v1 v2)
    (hown' : W2.ownsRow (N + 3) 3 1 v1' (l1.length + 1) (i64L l1 ++ [.int .i64 x])) (hgrow : (W.alloc tmp).grownBy W2 v1.ownBlock) (hat : v1'.ownBlock = v1.ownBlock ∨ v1'.ownBlock = some (W.heap.size + 1)) :
    Blk W2 (N + 1) #[.string s, v1, v2] 87 ∧ Nw s N w (W2.setCell ⟨N + 1, 1, none⟩ v1') pos (l1 ++ [x]) l2 v1' v2 := by
  have kT := (h.bT.alloc tmp).kept hgrow (row_not_low h.r1 (by omega))
  have hNW := h.bT.lt
  have k2 := (h.r2.alloc tmp).kept hgrow (apart_symm h.ap)
  have hsz := grown_setCell W2 ⟨N + 1, 1, none⟩ v1'
  refine ⟨kT, kT.set 1 v1', ?_, ?_, ?_, ?_, ?_⟩
  · have hl := (Array.getElem?_eq_some_iff.1 h.it).1
    rw [Below.heap_setCell _ _ _ _ (by simp), hgrow.block _ (by simp; omega) (iter_not_row h.it h.r1), Below.heap_alloc _ _ _ hl]
    exact h.it
  · refine ownsRow_setCell_below ?_ (by show N + 1 < N + 3; omega) _
    rw [List.length_append, i64L, List.map_append]
    exact hown'
  · exact k2.kept hsz (.inr (fun e => blk_not_row kT k2 (by decide) e.symm))
  · rcases hat with e | e
    · rw [e]; exact h.ap
    · rw [e]
      refine .inr fun e2 => ?_
      have := (own_block_lt h.r2 _ e2.symm).2
      omega
  · refine Below.setCell (p := ⟨N + 1, 1, none⟩) ?_ (by show N ≤ N + 1; omega) _
    exact (h.bel.alloc (by omega) tmp).grown hgrow (by simp; omega) (fun k hk => by have := (own_block_lt h.r1 k hk).1; omega)

theorem Nw.app2 {s : ByteArray} {N : Nat} {w W W2 : World} {pos : Nat} {l1 l2 : List Nat} {v1 v2 v2' : Value} {x : Nat} {tmp : Obj} (h : Nw s N w W pos l1 l2 v1 v2)
    (hown' : W2.ownsRow N 3 1 v2' (l2.length + 1) (i64L l2 ++ [.int .i64 x])) (hgrow : (W.alloc tmp).grownBy W2 v2.ownBlock) (hat : v2'.ownBlock = v2.ownBlock ∨ v2'.ownBlock = some (W.heap.size + 1)) :
    Blk W2 (N + 1) #[.string s, v1, v2] 87 ∧ Nw s N w (W2.setCell ⟨N + 1, 2, none⟩ v2') pos l1 (l2 ++ [x]) v1 v2' := by
  have kT := (h.bT.alloc tmp).kept hgrow (blk_not_row h.bT h.r2 (by decide))
  have hNW := h.bT.lt
  have k1 := (h.r1.alloc tmp).kept hgrow h.ap
  have hsz := grown_setCell W2 ⟨N + 1, 2, none⟩ v2'
  refine ⟨kT, kT.set 2 v2', ?_, ?_, ?_, ?_, ?_⟩
  · have hl := (Array.getElem?_eq_some_iff.1 h.it).1
    rw [Below.heap_setCell _ _ _ _ (by simp), hgrow.block _ (by simp; omega) (iter_not_row h.it h.r2), Below.heap_alloc _ _ _ hl]
    exact h.it
  · exact ownsRow_setCell_below k1 (by show N + 1 < N + 3; omega) _
  · have h2 : W2.ownsRow N 3 1 v2' (l2 ++ [x]).length (i64L (l2 ++ [x])) := by rw [List.length_append, i64L, List.map_append]; exact hown'
    exact h2.kept hsz (.inr (fun e => blk_not_row kT h2 (by decide) e.symm))
  · rcases hat with e | e
    · rw [e]; exact h.ap
    · rw [e]
      cases hv : v1.ownBlock with
      | none => exact .inl rfl
      | some g =>
        refine .inr fun e2 => ?_
        have := (own_block_lt h.r1 _ hv).2
        simp at e2
        omega
  · refine Below.setCell (p := ⟨N + 1, 2, none⟩) ?_ (by show N ≤ N + 1; omega) _
    exact (h.bel.alloc (by omega) tmp).grown hgrow (by simp; omega) (fun k hk => (own_block_lt h.r2 k hk).1)

theorem nw_store {s : ByteArray} {N : Nat} {w W W2 : World} {pos : Nat} {l1 l2 : List Nat} {v1 v2 : Value} {tmp : Obj} (h : Nw s N w W pos l1 l2 v1 v2) (hgrow : (W.alloc tmp).drew.grownBy W2 v2.ownBlock) :
    W2.cell? ⟨N + 1, 2, none⟩ = some v2 ∧ W2.frozen? ⟨N + 1, 2, none⟩ = false := by
  have kT := (h.bT.alloc tmp).kept (W' := W2) (row := v2.ownBlock) ⟨hgrow.os, hgrow.tape, hgrow.output, hgrow.size, hgrow.block⟩ (blk_not_row h.bT h.r2 (by decide))
  exact ⟨kT.cell 2, kT.frozen 2⟩
theorem nw_lines {s : ByteArray} {N : Nat} {w W W2 : World} {pos x gg cap : Nat} {l1 pre : List Nat} {v1 v2 : Value} {tmp : Obj} (h : Nw s N w W pos l1 (lnsOf s pre) v1 v2) (h10 : rn s x = 10)
    (hown : W2.ownsRow N 3 1 (.slice (some ⟨gg, 0, none⟩) ((lnsOf s pre).length + 1) cap) ((lnsOf s pre).length + 1) (i64L (lnsOf s pre) ++ [.int .i64 ((pre.length : Int) + 1)]))
    (hgrow : (W.alloc tmp).drew.grownBy W2 v2.ownBlock) (hatt : v2.ownBlock = some gg ∨ gg = W.heap.size + 1) :
    Nw s N w (W2.setCell ⟨N + 1, 2, none⟩ (.slice (some ⟨gg, 0, none⟩) ((lnsOf s pre).length + 1) cap)) pos l1 (lnsOf s (pre ++ [x])) v1 (.slice (some ⟨gg, 0, none⟩) ((lnsOf s pre).length + 1) cap) := by
  rw [lnsOf_nl s pre x h10]
  rw [show (pre.length : Int) + 1 = ((pre.length + 1 : Nat) : Int) by omega] at hown
  refine (h.app2 (tmp := tmp) hown ⟨hgrow.os, hgrow.tape, hgrow.output, hgrow.size, hgrow.block⟩ ?_).2
  rcases hatt with e | e
  · exact .inl (by rw [e]; rfl)
  · exact .inr (by rw [← e]; rfl)
/-- Numbers in memory. -/
def IntsAt (W : World) (g : Nat) (l : List Nat) : Prop := ∀ k x : Nat, l[k]? = some x → W.cell? ⟨g, k, none⟩ = some (.int .i64 x)
/-- A text's places in a world. -/
def TextAt (W : World) (B : Nat) (s : ByteArray) : Prop := ∃ g1 c1 g2 c2, Blk W B #[.string s, .slice (some ⟨g1, 0, none⟩) ((starts s).length + 1) c1, .slice (some ⟨g2, 0, none⟩) (lns s).length c2] 87 ∧ g1 < W.heap.size ∧ g2 < W.heap.size ∧ IntsAt W g1 (starts s ++ [s.size]) ∧ IntsAt W g2 (lns s)
theorem TextAt.below {W W' : World} {N B : Nat} {s : ByteArray} (h : TextAt W B s) (hb : Below N W W') (hN : W.heap.size ≤ N) : TextAt W' B s := by
  obtain ⟨g1, c1, g2, c2, hB, h1, h2, i1, i2⟩ := h
  have hs := hb.size
  exact ⟨g1, c1, g2, c2, hB.below hb (Nat.lt_of_lt_of_le hB.lt hN), by omega, by omega, fun k x hk => (hb.cell (p := ⟨g1, k, none⟩) (by show g1 < N; omega)).trans (i1 k x hk), fun k x hk => (hb.cell (p := ⟨g2, k, none⟩) (by show g2 < N; omega)).trans (i2 k x hk)⟩
theorem own_ints {W : World} {base : Nat} {v : Value} {l : List Nat} (h : W.ownsRow base 3 1 v l.length (i64L l)) (hl : 0 < l.length) : ∃ g cap, v = .slice (some ⟨g, 0, none⟩) l.length cap ∧ g < W.heap.size ∧ IntsAt W g l := by
  rcases h.2 with ⟨rfl, h0⟩ | ⟨g, cap, cur, rfl, _, hh, _⟩
  · omega
  · refine ⟨g, cap, rfl, (Array.getElem?_eq_some_iff.1 hh).1, fun k x hk => ?_⟩
    have := h.cells (g := g) rfl k (.int .i64 x) (by simp [i64L, hk])
    rw [add_none, Nat.zero_add] at this
    exact this
theorem Nw.text {s : ByteArray} {N : Nat} {w W : World} {pos : Nat} {v1 v2 : Value} (h : Nw s N w W pos (starts s ++ [s.size]) (lns s) v1 v2) : TextAt W (N + 1) s := by
  obtain ⟨g1, c1, rfl, h1, i1⟩ := own_ints h.r1 (by simp)
  obtain ⟨g2, c2, rfl, h2, i2⟩ := own_ints h.r2 (by simp [lns, lnsOf])
  have := h.bT
  rw [List.length_append] at this
  exact ⟨g1, c1, g2, c2, this, h1, h2, i1, i2⟩

/-- A text's places in a world, all of them from a block on. -/
def TextFrom (lo : Nat) (W : World) (B : Nat) (s : ByteArray) : Prop := ∃ g1 c1 g2 c2, lo ≤ B ∧ lo ≤ g1 ∧ lo ≤ g2 ∧ Blk W B #[.string s, .slice (some ⟨g1, 0, none⟩) ((starts s).length + 1) c1, .slice (some ⟨g2, 0, none⟩) (lns s).length c2] 87 ∧ g1 < W.heap.size ∧ g2 < W.heap.size ∧ IntsAt W g1 (starts s ++ [s.size]) ∧ IntsAt W g2 (lns s)
theorem TextFrom.at {lo : Nat} {W : World} {B : Nat} {s : ByteArray} (h : TextFrom lo W B s) : TextAt W B s := by
  obtain ⟨g1, c1, g2, c2, _, _, _, h⟩ := h
  exact ⟨g1, c1, g2, c2, h⟩
theorem TextFrom.mono {lo lo' : Nat} {W : World} {B : Nat} {s : ByteArray} (h : TextFrom lo W B s) (hl : lo' ≤ lo) : TextFrom lo' W B s := by
  obtain ⟨g1, c1, g2, c2, h1, h2, h3, h⟩ := h
  exact ⟨g1, c1, g2, c2, by omega, by omega, by omega, h⟩
theorem TextFrom.below {lo : Nat} {W W' : World} {N B : Nat} {s : ByteArray} (h : TextFrom lo W B s) (hb : Below N W W') (hN : W.heap.size ≤ N) : TextFrom lo W' B s := by
  obtain ⟨g1, c1, g2, c2, l1, l2, l3, hB, h1, h2, i1, i2⟩ := h
  have hs := hb.size
  exact ⟨g1, c1, g2, c2, l1, l2, l3, hB.below hb (Nat.lt_of_lt_of_le hB.lt hN), by omega, by omega, fun k x hk => (hb.cell (p := ⟨g1, k, none⟩) (by show g1 < N; omega)).trans (i1 k x hk), fun k x hk => (hb.cell (p := ⟨g2, k, none⟩) (by show g2 < N; omega)).trans (i2 k x hk)⟩
/-- A store below leaves it. -/
theorem TextFrom.away {lo : Nat} {W : World} {B b i : Nat} {s : ByteArray} (h : TextFrom lo W B s) (hb : b < lo) (v : Value) : TextFrom lo (W.setCell ⟨b, i, none⟩ v) B s := by
  obtain ⟨g1, c1, g2, c2, l1, l2, l3, hB, h1, h2, i1, i2⟩ := h
  exact ⟨g1, c1, g2, c2, l1, l2, l3, hB.other (by omega) _, by simpa using h1, by simpa using h2, fun k x hk => (World.cell?_of_block (a := ⟨g1, k, none⟩) (Below.heap_setCell W ⟨b, i, none⟩ v g1 (by show g1 ≠ b; omega))).trans (i1 k x hk), fun k x hk => (World.cell?_of_block (a := ⟨g2, k, none⟩) (Below.heap_setCell W ⟨b, i, none⟩ v g2 (by show g2 ≠ b; omega))).trans (i2 k x hk)⟩
theorem own_ints_from {W : World} {base : Nat} {v : Value} {l : List Nat} (h : W.ownsRow base 3 1 v l.length (i64L l)) (hl : 0 < l.length) : ∃ g cap, v = .slice (some ⟨g, 0, none⟩) l.length cap ∧ base ≤ g ∧ g < W.heap.size ∧ IntsAt W g l := by
  obtain ⟨g, cap, rfl, h1, h2⟩ := own_ints h hl
  exact ⟨g, cap, rfl, (own_block_lt h g rfl).1, h1, h2⟩
theorem Nw.textFrom {s : ByteArray} {N : Nat} {w W : World} {pos : Nat} {v1 v2 : Value} (h : Nw s N w W pos (starts s ++ [s.size]) (lns s) v1 v2) : TextFrom N W (N + 1) s := by
  obtain ⟨g1, c1, rfl, l1, h1, i1⟩ := own_ints_from h.r1 (by simp)
  obtain ⟨g2, c2, rfl, l2, h2, i2⟩ := own_ints_from h.r2 (by simp [lns, lnsOf])
  have := h.bT
  rw [List.length_append] at this
  exact ⟨g1, c1, g2, c2, by omega, by omega, by omega, this, h1, h2, i1, i2⟩

theorem infoInt : (Try.prog.info? 3).map (fun i => (i.zero, i.size, i.bytes)) = some (some (.int .i64 0), 1, 8) := by kernel_rfl

theorem new_long (s : ByteArray) (hs : 65536 < s.size) (hm : s.size ≤ maxLen) (w : World) : Calls Try.prog 37 #[.string s] w fun e w' => e = .returned (.tuple #[.pointer none, .int .i64 3]) ∧ w' = w := by
  unfold maxLen at hm
  have h1 : (65536 : Int) < (s.size : Int) := by omega
  go_enter Try.func37, Try.ntmps37
  go_wp2
  go_ret2
  exact ⟨rfl, rfl⟩

set_option maxRecDepth 100000 in
set_option maxHeartbeats 8000000 in
theorem new_from (s : ByteArray) (hs : s.size ≤ 65536) (w : World) : Calls Try.prog 37 #[.string s] w fun e w' => e = .returned (.tuple #[.pointer (some ⟨w.heap.size + 1, 0, none⟩), .int .i64 0]) ∧ TextFrom w.heap.size w' (w.heap.size + 1) s ∧ Below w.heap.size w w' := by
  obtain ⟨i0, hi, hz0, hz1, hz2⟩ := info_parts infoInt
  have HI := hide (And.intro hi (And.intro hz0 (And.intro hz1 hz2)))
  have h1 : ¬ (65536 : Int) < (s.size : Int) := by omega
  have hnl := starts_length s
  have hrg : Nw s w.heap.size w (((w.alloc (.cells #[.int .i64 0] 3)).alloc (.cells #[.string s, .slice none 0 0, .slice (some ⟨w.heap.size, 0, none⟩) 1 1] 87)).alloc (.stringIter s 0)) 0 [] (lnsOf s []) (.slice none 0 0) (.slice (some ⟨w.heap.size, 0, none⟩) 1 1) := by
    have q5 := (Blk.new (w.alloc (.cells #[.int .i64 0] 3)) #[.string s, .slice none 0 0, .slice (some ⟨w.heap.size, 0, none⟩) 1 1] 87).alloc (.stringIter s 0)
    have q6 := World.alloc_heap_new ((w.alloc (.cells #[.int .i64 0] 3)).alloc (.cells #[.string s, .slice none 0 0, .slice (some ⟨w.heap.size, 0, none⟩) 1 1] 87)) (.stringIter s 0)
    simp only [World.size_alloc] at q5 q6
    refine ⟨q5, q6, World.ownsRow_nil _ _ _ _, ?_, .inl rfl, (((Below.refl _ w).alloc (Nat.le_refl _) _).alloc (by simp) _).alloc (by simp; omega) _⟩
    exact ((World.ownsRow_lit w #[.int .i64 0] 1 (Nat.le_refl _) (by decide) rfl).alloc _).alloc _
  have HRG := hide hrg
  clear hi hz0 hz1 hz2 hrg
  go_enter Try.func37, Try.ntmps37
  go_wp2
  go_loopw [5] (fun _ wr => ∃ (pre : List Nat) (pos f : Nat) (v1 v2 : Value), Hid (starts s = pre ++ startsFrom s f pos) ∧ s.size ≤ pos + f ∧ Hid (Nw s w.heap.size w wr pos pre (lnsOf s pre) v1 v2)) (fun _ wr => s.size - wr.iterPos (w.heap.size + 1 + 1))
  case atStart => exact ⟨[], 0, s.size, _, _, hide rfl, by omega, HRG⟩
  case round =>
    obtain ⟨pre, pos, f, v1, v2, HS, hf, HR⟩ := hrel
    by_cases hp : pos < s.size
    · have hnx : ∀ ty, (Instr.next (.pointer (some ⟨w.heap.size + 1 + 1, 0, none⟩)) true ty).run Try.prog wr = _ := fun ty => Lib.run_next_any_at wr (w.heap.size + 1 + 1) s pos ty (unhide HR).it hp
      have hpl : pre.length < s.size := by
        have h1 := starts_length s
        obtain ⟨g, rfl⟩ : ∃ g, f = g + 1 := ⟨f - 1, by omega⟩
        rw [unhide HS, List.length_append, startsFrom_cons s g pos hp] at h1
        simp at h1
        omega
      have HR1 := hide ((unhide HR).iter (pos + (Utf8.decode s pos).2))
      have hpm := iterPos_at (unhide HR).it
      have c1 := (unhide HR1).bT.cell 1
      have HW := hide (wd_pos s pos)
      have hroom := (unhide HR1).bT.lt
      have hroom2 : w.heap.size + 3 ≤ (wr.iterAt (w.heap.size + 1 + 1) s (pos + (Utf8.decode s pos).2)).heap.size := by have := (Array.getElem?_eq_some_iff.1 (unhide HR1).it).1; omega
      generalize hWi : wr.iterAt (w.heap.size + 1 + 1) s (pos + (Utf8.decode s pos).2) = Wi at *
      clear hWi
      go_wp2_with (at_builtin; refine wpList_append_own_at _ rfl _ _ 85 rfl (w.heap.size + 3) 3 i0 (.int .i64 0) 1 8 Try.underlying85 (unhide HI).1 (unhide HI).2.1 (unhide HI).2.2.1 (unhide HI).2.2.2 rfl (by decide) _ _ _ rfl ((unhide HR1).r1.alloc _) ⟨Wi.heap.size, 0, none⟩ 1 1 [.int .i64 pos] rfl rfl (one_new _ _ _) ?c2 ?c3 ?c4 ?c5 ?_)
      case c2 => intro u hu; simp at hu; rw [hu]; rfl
      case c3 => unfold maxLen; omega
      case c4 => omega
      case c5 => simp; omega
      intro v' w2 hown' hgrow _ hat
      obtain ⟨g', cap', rfl⟩ := ownsRow_succ hown'
      obtain ⟨kT, hrg2⟩ := (unhide HR1).app1 hown' hgrow hat
      have c1' := kT.cell 1
      have f1 := kT.frozen 1
      have HR2 := hide hrg2
      clear hown' hgrow hat kT hrg2 c1
      by_cases h10 : rn s pos = 10
      · have hb10 : (((Utf8.decode s pos).1 : Int) == 10) = true := by rw [beq_iff_eq]; simp only [rn] at h10; omega
        go_wp2_with fail
        generalize hWj : w2.setCell ⟨w.heap.size + 1, 1, none⟩ (.slice (some ⟨g', 0, none⟩) (pre.length + 1) cap') = Wj at *
        have d1 := (unhide HR2).bT.cell 1
        have d2 := (unhide HR2).bT.cell 2
        have e2 := (unhide HR2).bT.frozen 2
        have hlt2 := (unhide HR2).bT.lt
        have hlen : (lnsOf s pre).length ≤ 65537 := by have := lnsOf_length s pre; omega
        have hmx : Try.prog.follows .mixedOrders = true := by kernel_rfl
        clear hWj c1' f1
        have ne2 := blk_not_row (unhide HR2).bT (unhide HR2).r2 (by decide)
        have hr2 := (unhide HR2).r2
        have fz : ∀ o, (Wj.alloc o).frozen? ⟨w.heap.size + 1, 2, none⟩ = false := fun o => ((unhide HR2).bT.alloc o).frozen 2
        have fz2 : ∀ o, (Wj.alloc o).drew.frozen? ⟨w.heap.size + 1, 2, none⟩ = false := fz
        go_region_law ((refine step_append_lies _ (by rfl) _ _ _ (by rfl) w.heap.size 3 i0 _ 1 8 Try.underlying85 (unhide HI).1 (unhide HI).2.1 (unhide HI).2.2.1 (unhide HI).2.2.2 rfl (by omega) v2 (lnsOf s pre).length (i64L (lnsOf s pre)) (by rfl) ((hr2.alloc _).drew) ⟨Wj.heap.size, 0, none⟩ 1 1 [.int .i64 ((pre.length : Int) + 1)] (by rfl) (by rfl) (World.news_of_block (cs := #[.int .i64 ((pre.length : Int) + 1)]) (t := 3) (fr := (0, 0)) (heap_alloc_new Wj _)) (by simp [Value.oneCell']) (by omega) (by unfold maxLen; omega) (by omega) (by simp; omega) (Wj.heap.size + 1) (by simp) ?_; intro gg cap w3 hown1 hgrow hatt hlt; obtain ⟨q1, q2⟩ := nw_store (unhide HR2) hgrow))
        all_goals have HR3 := hide (nw_lines (unhide HR2) h10 hown1 hgrow hatt)
        all_goals have hpm2 := iterPos_at (unhide HR3).it
        all_goals clear hown1 hgrow hatt
        all_goals go_wp2
        all_goals go_roundw
        all_goals first
          | exact ⟨pre ++ [pos], pos + wd s pos, f - 1, _, _, hide (by
              obtain ⟨g, rfl⟩ : ∃ g, f = g + 1 := ⟨f - 1, by omega⟩
              rw [unhide HS, startsFrom_cons s g pos hp]; simp), by have := unhide HW; omega, HR3⟩
          | (rw [hpm2, hpm]; have := unhide HW; simp only [wd] at this; omega)
      · have hb10 : (((Utf8.decode s pos).1 : Int) == 10) = false := by rw [beq_eq_false_iff_ne]; simp only [rn] at h10; omega
        have hpm2 := iterPos_at (unhide HR2).it
        go_wp2
        go_roundw
        case rel =>
          refine ⟨pre ++ [pos], pos + wd s pos, f - 1, .slice (some ⟨g', 0, none⟩) (pre.length + 1) cap', v2, hide (by
            obtain ⟨g, rfl⟩ : ∃ g, f = g + 1 := ⟨f - 1, by omega⟩
            rw [unhide HS, startsFrom_cons s g pos hp]; simp), by have := unhide HW; omega, hide ?_⟩
          rw [lnsOf_no s pre pos h10]
          exact unhide HR2
        case measure =>
          rw [hpm2, hpm]
          have := unhide HW
          simp only [wd] at this
          omega
    · have hnx : ∀ ty, (Instr.next (.pointer (some ⟨w.heap.size + 1 + 1, 0, none⟩)) true ty).run Try.prog wr = _ := fun ty => Lib.run_next_end_at wr (w.heap.size + 1 + 1) s pos ty (unhide HR).it hp
      have hst := unhide HS
      rw [startsFrom_end s f pos hp, List.append_nil] at hst
      subst hst
      have c1 := (unhide HR).bT.cell 1
      have hroom2 : w.heap.size + 3 ≤ wr.heap.size := by have := (Array.getElem?_eq_some_iff.1 (unhide HR).it).1; omega
      clear HRG HS
      go_wp2_with (at_builtin; refine wpList_append_own_at _ rfl _ _ 85 rfl (w.heap.size + 3) 3 i0 (.int .i64 0) 1 8 Try.underlying85 (unhide HI).1 (unhide HI).2.1 (unhide HI).2.2.1 (unhide HI).2.2.2 rfl (by decide) _ _ _ rfl ((unhide HR).r1.alloc _) ⟨wr.heap.size, 0, none⟩ 1 1 [.int .i64 s.size] rfl rfl (one_new _ _ _) ?c2 ?c3 ?c4 ?c5 ?_)
      case c2 => intro u hu; simp at hu; rw [hu]; rfl
      case c3 => unfold maxLen; omega
      case c4 => omega
      case c5 => simp; omega
      intro v' w2 hown' hgrow _ hat
      obtain ⟨g', cap', rfl⟩ := ownsRow_succ hown'
      obtain ⟨kT, hrg2⟩ := (unhide HR).app1 hown' hgrow hat
      have c1' := kT.cell 1
      have f1 := kT.frozen 1
      have HR2 := hide hrg2
      clear hown' hgrow hat kT hrg2 c1
      go_wp2
      go_ret2
      exact ⟨rfl, (unhide HR2).textFrom, (unhide HR2).bel⟩
theorem new_any (s : ByteArray) (hs : s.size ≤ 65536) (w : World) : Calls Try.prog 37 #[.string s] w fun e w' => e = .returned (.tuple #[.pointer (some ⟨w.heap.size + 1, 0, none⟩), .int .i64 0]) ∧ TextAt w' (w.heap.size + 1) s ∧ Below w.heap.size w w' :=
  (new_from s hs w).mono fun e w' ⟨h1, h2, h3⟩ => ⟨h1, h2.at, h3⟩
end Go.Proofs.Ytnphbjhikapoeaa
