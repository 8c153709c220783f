/- First, told for every text: its first spot and true, or the zero spot and false. -/
import Derived.Test.YthjndkjbjflmfaaIter
namespace Go.Proofs.Ythjndkjbjflmfaa
open Go.RowKit Go.Shelf
attribute [local go_sem] Oper.semAt_some
set_option linter.unusedVariables false

/-- A block of cells, none of them frozen. -/
def Blk (W : World) (B : Nat) (cs : Array Value) (t : TypeId) : Prop := W.heap[B]? = some (.cells cs t (0, 0))
theorem Blk.lt {W : World} {B : Nat} {cs : Array Value} {t : TypeId} (h : Blk W B cs t) : B < W.heap.size := (Array.getElem?_eq_some_iff.1 h).1
theorem Blk.cell {W : World} {B : Nat} {cs : Array Value} {t : TypeId} (h : Blk W B cs t) (i : Nat) : W.cell? ⟨B, i, none⟩ = cs[i]? := by
  simp [World.cell?, show W.heap[B]? = _ from h]
theorem Blk.frozen {W : World} {B : Nat} {cs : Array Value} {t : TypeId} (h : Blk W B cs t) (i : Nat) : W.frozen? ⟨B, i, none⟩ = false := by simp [World.frozen?, show W.heap[B]? = _ from h]
theorem Blk.new (W : World) (cs : Array Value) (t : TypeId) : Blk (W.alloc (.cells cs t)) W.heap.size cs t := World.alloc_heap_new W _
theorem Blk.kept {W W' : World} {row : Option Nat} {B : Nat} {cs : Array Value} {t : TypeId} (h : Blk W B cs t) (hg : W.grownBy W' row) (hne : some B ≠ row) : Blk W' B cs t := (hg.block B h.lt hne).trans h
theorem Blk.alloc {W : World} {B : Nat} {cs : Array Value} {t : TypeId} (h : Blk W B cs t) (o : Obj) : Blk (W.alloc o) B cs t := h.kept (World.grownBy_alloc W o none) (by simp)
theorem Blk.below {W W' : World} {N B : Nat} {cs : Array Value} {t : TypeId} (h : Blk W B cs t) (hb : Below N W W') (hlt : B < N) : Blk W' B cs t := (hb.block B hlt).trans h
theorem Blk.own {β : Type} (B : Nat) (cs : β → Array Value) (t : TypeId) : Own (fun s W => Blk W B (cs s) t) := fun s A A' row hs hg hr => hs.kept hg (fun e => by
  obtain ⟨o, ho, hc⟩ := hr B e.symm
  rw [show A.heap[B]? = _ from hs] at ho
  cases ho
  simp [Obj.isCells] at hc)

theorem Blk.set {W : World} {B : Nat} {cs : Array Value} {t : TypeId} (h : Blk W B cs t) (i : Nat) (v : Value) : Blk (W.setCell ⟨B, i, none⟩ v) B (cs.setIfInBounds i v) t := by
  show (W.heap.modify B _)[B]? = _
  rw [Array.getElem?_modify, if_pos rfl, show W.heap[B]? = _ from h]
  rfl
theorem Blk.other {W : World} {B B' i : Nat} {cs : Array Value} {t : TypeId} (h : Blk W B cs t) (hne : B ≠ B') (v : Value) : Blk (W.setCell ⟨B', i, none⟩ v) B cs t :=
  (Below.heap_setCell W ⟨B', i, none⟩ v B hne).trans h
theorem Blk.put {W : World} {B l : Nat} {cs : Array Value} {t : TypeId} {o : Obj} (h : Blk W B cs t) (o' : Obj) (hl : W.heap[l]? = some o) (ho : o.isCells = false) : Blk (W.putObj l o') B cs t :=
  (World.putObj_heap_other (fun e => by subst e; rw [show W.heap[B]? = _ from h] at hl; cases hl; simp [Obj.isCells] at ho)).trans h
abbrev spotCells (x : Int × Int × Bool) : Array Value := #[.int .i32 x.1, .int .i64 x.2.1, .bool x.2.2]
/-- What First answers. -/
def firstV (s : ByteArray) : Value := if 0 < s.size then .tuple #[encSpot (spotV s 0), .bool true] else .tuple #[encSpot (0, 0, false), .bool false]
theorem firstV_pos {s : ByteArray} (h : 0 < s.size) : firstV s = .tuple #[encSpot (spotV s 0), .bool true] := if_pos h
theorem firstV_neg {s : ByteArray} (h : ¬ 0 < s.size) : firstV s = .tuple #[encSpot (0, 0, false), .bool false] := if_neg h
theorem starts_head (s : ByteArray) (h : 0 < s.size) : ∃ r, starts s = 0 :: r := by
  unfold starts
  obtain ⟨m, hm⟩ : ∃ m, s.size = m + 1 := ⟨s.size - 1, by omega⟩
  rw [hm, startsFrom_cons s m 0 h]
  exact ⟨_, rfl⟩
theorem starts_empty (s : ByteArray) (h : ¬ 0 < s.size) : starts s = [] := startsFrom_end s _ _ h

end Go.Proofs.Ythjndkjbjflmfaa
