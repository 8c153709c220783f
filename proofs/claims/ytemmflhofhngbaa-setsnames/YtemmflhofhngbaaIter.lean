/- The function that Spots hands back, as an iterator: it hands out each spot of the text with the number of its first byte, in order, and stops where it is told to. -/
import Derived.Test.YtemmflhofhngbaaLeaf
import Derived.Lib.OthersKept
namespace Go.Proofs.Ytemmflhofhngbaa
open Go.RowKit Go.Shelf
attribute [local go_sem] Oper.semAt_some
set_option linter.unusedVariables false

/-- A fact that is kept from the walk: a structure, so that no tactic looks behind it. -/
structure Hz (p : Prop) : Prop where
  out : p
theorem hide {p : Prop} (h : p) : Hz p := ⟨h⟩
theorem unhide {p : Prop} (h : Hz p) : p := h.out

theorem grown_of_below {W W' : World} (h : Below W.heap.size W W') : W.grownBy W' none := ⟨h.os, h.tape, h.output, h.size, fun k hk _ => h.block k hk⟩
theorem grown_iterAt (w : World) (k : Nat) (s : ByteArray) (pos : Nat) : w.grownBy (w.iterAt k s pos) (some k) :=
  ⟨rfl, rfl, rfl, by rw [Lib.iterAt_size]; exact Nat.le_refl _, fun i _ h => Lib.iterAt_other w k i s pos (fun e => h (by rw [e]))⟩
theorem iterPos_at {w : World} {k : Nat} {s : ByteArray} {pos : Nat} (h : w.heap[k]? = some (.stringIter s pos)) : w.iterPos k = pos := by unfold World.iterPos; rw [h]

/-- What a round that goes on keeps: the box with the text, and whatever is walked over. -/
def KpS (b : Nat) (W W' : World) : Prop := W'.cell? ⟨b, 0, none⟩ = W.cell? ⟨b, 0, none⟩ ∧ KeepsWalks W W'
abbrev encsS (s : ByteArray) (i : Nat) : Array Value := #[.int .i64 i, encSpot (spotV s i)]

theorem cell_lt {W : World} {a : Addr} {v : Value} (h : W.cell? a = some v) : a.block < W.heap.size := by
  obtain ⟨o, ho, _⟩ := cells_of_cell h
  exact (Array.getElem?_eq_some_iff.1 ho).1
theorem startsFrom_length (s : ByteArray) : ∀ f i, (startsFrom s f i).length ≤ f
  | 0, i => by simp [startsFrom]
  | f + 1, i => by
    unfold startsFrom
    split
    · have := startsFrom_length s f (i + wd s i); simp; omega
    · simp
theorem starts_length (s : ByteArray) : (starts s).length ≤ s.size := startsFrom_length s _ _

theorem KpS_t {b : Nat} {A B C : World} (h : KpS b A B) (k : KpS b B C) : KpS b A C := ⟨k.1.trans h.1, h.2.trans k.2⟩
theorem KpS_b {b : Nat} {w : World} (hb : b < w.heap.size) (W : World) (l : Nat) (o o' : Obj) (hl : w.heap.size ≤ l) (h : W.heap[l]? = some o) (_ : o.isCells = false) (hw : o.isWalk = false) : KpS b W (W.putObj l o') :=
  ⟨World.cell?_of_block (World.putObj_heap_other (by show b ≠ l; omega)), KeepsWalks.putObj _ h hw⟩

end Go.Proofs.Ytemmflhofhngbaa
