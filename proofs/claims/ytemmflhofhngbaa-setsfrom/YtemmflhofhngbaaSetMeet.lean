/- Meet of two sets. -/
import Derived.Test.YtemmflhofhngbaaM5
import Derived.BigRegion
namespace Go.Proofs.Ytemmflhofhngbaa
open Go.RowKit Go.Shelf
set_option linter.unusedVariables false
theorem alloc1 {w : World} {a : Addr} {v : Value} (h : w.cell? a = some v) : ∀ o : Obj, (w.alloc o).cell? a = some v := fun o => alloc_cell o h
theorem alloc2 {w : World} {a : Addr} {v : Value} (h : w.cell? a = some v) : ∀ o o' : Obj, ((w.alloc o).alloc o').cell? a = some v := fun o o' => alloc_cell o' (alloc_cell o h)
theorem some_nil (w : World) : Calls Try.prog 39 #[.pointer none] w fun e w' => e = .returned (.pointer (some ⟨w.heap.size, 0, none⟩)) ∧ w' = w.alloc (.cells #[.slice none 0 0, .slice none 0 0] 66) := by
  go_enter Try.func39, Try.ntmps39
  go_wp2
  go_ret
  exact ⟨rfl, rfl⟩
theorem two_boxes (w : World) (xs ys : Array Value) : Blk ((w.alloc (.cells xs 28)).alloc (.cells ys 28)).drew w.heap.size xs 28 ∧ Blk ((w.alloc (.cells xs 28)).alloc (.cells ys 28)).drew (w.heap.size + 1) ys 28 ∧ Below w.heap.size w ((w.alloc (.cells xs 28)).alloc (.cells ys 28)).drew := by
  refine ⟨(Blk.new w xs 28).alloc _, ?_, (((Below.refl w.heap.size w).alloc (Nat.le_refl _) _).alloc (by simp) _).drew⟩
  have := Blk.new (w.alloc (.cells xs 28)) ys 28
  rw [World.size_alloc] at this
  exact this
theorem grows_two (w : World) : Grows ((w.alloc (.cells #[.slice none 0 0, .slice none 0 0] 66)).alloc (.cells #[.slice none 0 0, .slice none 0 0] 66)).drew w.heap.size w.heap.size [] ∧ Grows ((w.alloc (.cells #[.slice none 0 0, .slice none 0 0] 66)).alloc (.cells #[.slice none 0 0, .slice none 0 0] 66)).drew (w.heap.size + 1) w.heap.size [] ∧ Below w.heap.size w ((w.alloc (.cells #[.slice none 0 0, .slice none 0 0] 66)).alloc (.cells #[.slice none 0 0, .slice none 0 0] 66)).drew := by
  have b : Blk ((w.alloc (.cells #[.slice none 0 0, .slice none 0 0] 66)).alloc (.cells #[.slice none 0 0, .slice none 0 0] 66)).drew (w.heap.size + 1) #[.slice none 0 0, .slice none 0 0] 66 := by
    have := Blk.new (w.alloc (.cells #[.slice none 0 0, .slice none 0 0] 66)) #[.slice none 0 0, .slice none 0 0] 66
    rw [World.size_alloc] at this
    exact this
  exact ⟨(grows_new w _ rfl).below ((Below.refl _ _).alloc (Nat.le_refl _) _).drew, ⟨⟨⟨_, _, b, World.ownsRow_nil _ _ _ _, World.ownsRow_nil _ _ _ _⟩, Nat.le_succ _⟩, fun _ => b⟩, (((Below.refl w.heap.size w).alloc (Nat.le_refl _) _).alloc (by simp) _).drew⟩
/-- A set, or none: an empty one. -/
def SomeAt (w : World) (p : Option Addr) (ys : List (Int × Int)) : Prop := (p = none ∧ ys = []) ∨ ∃ C, p = some ⟨C, 0, none⟩ ∧ SetAt w C ys
theorem SomeAt.spread {w : World} {p : Option Addr} {ys : List (Int × Int)} (h : SomeAt w p ys) : Spread ys := by
  rcases h with ⟨_, rfl⟩ | ⟨C, _, h⟩
  · exact ⟨fun x h => by simp at h, fun i j x y _ h => by simp at h⟩
  · exact h.spread
theorem meet_len {zs ys out : List (Int × Int)} {i j : Nat} (h : MeetI zs ys i j out) (hi : i ≤ zs.length) (hj : j ≤ ys.length) : out.length ≤ zs.length + ys.length := by have := h.len; omega
end Go.Proofs.Ytemmflhofhngbaa
