/- UtfSpots: the parts of its law that stand by themselves. -/
import Derived.Test.YtinhmhkdofoneaaBackIter
namespace Go.Proofs.Ytinhmhkdofoneaa
open Go.RowKit Go.Shelf
set_option linter.unusedVariables false

theorem same_eq (s : ByteArray) (i : Nat) (w : World) : Calls Try.prog 15 #[encSpot (spotV s i), .agg #[.int .i32 (rn s i), .int .i64 i, .int .i64 (wd s i), .bool (decide (rn s i = 65533 ∧ wd s i = 1))]] w fun e w' => e = .returned (.bool true) ∧ Below w.heap.size w w' := by
  unfold encSpot spotV
  generalize decide (rn s i = 65533 ∧ wd s i = 1) = bb
  generalize rn s i = r
  generalize wd s i = d
  have x := (Blk.new w #[.int .i32 (r : Nat), .int .i64 (d : Nat), .bool bb] 31).alloc (.cells #[.int .i32 (r : Nat), .int .i64 i, .int .i64 (d : Nat), .bool bb] 33)
  have y := Blk.new (w.alloc (.cells #[.int .i32 (r : Nat), .int .i64 (d : Nat), .bool bb] 31)) #[.int .i32 (r : Nat), .int .i64 i, .int .i64 (d : Nat), .bool bb] 33
  have HB := hide (((Below.refl w.heap.size w).alloc (Nat.le_refl _) (.cells #[.int .i32 (r : Nat), .int .i64 (d : Nat), .bool bb] 31)).alloc (by simp) (.cells #[.int .i32 (r : Nat), .int .i64 i, .int .i64 (d : Nat), .bool bb] 33))
  simp only [World.size_alloc] at y
  have x0 := x.cell 0
  have x1 := x.cell 1
  have x2 := x.cell 2
  have y0 := y.cell 0
  have y2 := y.cell 2
  have y3 := y.cell 3
  clear x y
  go_enter Try.func15, Try.ntmps15
  go_wp2
  go_ret
  exact ⟨rfl, unhide HB⟩
end Go.Proofs.Ytinhmhkdofoneaa
