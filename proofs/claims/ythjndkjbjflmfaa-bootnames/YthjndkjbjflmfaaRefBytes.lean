/- The reference's Width and Bytes, told for every number. -/
import Derived.Test.YthjndkjbjflmfaaClean
import Derived.Test.YthjndkjbjflmfaaBds
import Derived.Laws.BytesArg
namespace Go.Proofs.Ythjndkjbjflmfaa
open Go.RowKit Go.Shelf
set_option linter.unusedVariables false

theorem refWidth_any (r : Int) (w : World) : Calls Try.prog 32 #[.int .i32 r] w fun e w' => e = .returned (.int .i64 (widthOf r)) ∧ w' = w := by
  by_cases h0 : r < 0
  · rw [show widthOf r = 0 by unfold widthOf; rw [if_pos (by omega)]]
    go_enter Try.func32, Try.ntmps32
    go_wp2
    go_ret
    exact ⟨rfl, rfl⟩
  by_cases h3 : 1114111 < r
  · rw [show widthOf r = 0 by unfold widthOf; rw [if_pos (by omega)]]
    go_enter Try.func32, Try.ntmps32
    go_wp2
    go_ret
    exact ⟨rfl, rfl⟩
  by_cases h1 : 55296 ≤ r
  · by_cases h2 : r ≤ 57343
    · rw [show widthOf r = 0 by unfold widthOf; rw [if_pos (by omega)]]
      go_enter Try.func32, Try.ntmps32
      go_wp2
      go_ret
      exact ⟨rfl, rfl⟩
    have h5 : ¬ r < 128 := by omega
    have h6 : ¬ r < 2048 := by omega
    by_cases h4 : r < 65536
    · rw [show widthOf r = 3 by unfold widthOf; rw [if_neg (by omega), if_neg (by omega), if_neg (by omega), if_pos (by omega)]]
      go_enter Try.func32, Try.ntmps32
      go_wp2
      go_ret
      exact ⟨rfl, rfl⟩
    · rw [show widthOf r = 4 by unfold widthOf; rw [if_neg (by omega), if_neg (by omega), if_neg (by omega), if_neg (by omega)]]
      go_enter Try.func32, Try.ntmps32
      go_wp2
      go_ret
      exact ⟨rfl, rfl⟩
  by_cases h5 : r < 128
  · rw [show widthOf r = 1 by unfold widthOf; rw [if_neg (by omega), if_pos (by omega)]]
    go_enter Try.func32, Try.ntmps32
    go_wp2
    go_ret
    exact ⟨rfl, rfl⟩
  by_cases h6 : r < 2048
  · rw [show widthOf r = 2 by unfold widthOf; rw [if_neg (by omega), if_neg (by omega), if_pos (by omega)]]
    go_enter Try.func32, Try.ntmps32
    go_wp2
    go_ret
    exact ⟨rfl, rfl⟩
  · have h4 : r < 65536 := by omega
    rw [show widthOf r = 3 by unfold widthOf; rw [if_neg (by omega), if_neg (by omega), if_neg (by omega), if_pos (by omega)]]
    go_enter Try.func32, Try.ntmps32
    go_wp2
    go_ret
    exact ⟨rfl, rfl⟩

/-- The bytes of a text, as cells. -/
def byteVals (b : ByteArray) : List Value := b.data.toList.map (fun u => Value.int .u8 u.toNat)
theorem byteVals_length (b : ByteArray) : (byteVals b).length = b.size := by simp [byteVals]
theorem byteVals_append (a b : ByteArray) : byteVals (a ++ b) = byteVals a ++ byteVals b := by simp [byteVals]

theorem and63 (z : Int) (h0 : 0 ≤ z) (h1 : z < 2147483648) : bits .and .i32 z 63 = z % 64 := bits_mask .i32 31 (by decide) wraps_i32 6 (by decide) z h0 h1
theorem or128 (y : Int) (h0 : 0 ≤ y) (h1 : y < 64) : bits .or .i32 128 y = 128 + y := bits_join .i32 31 (by decide) wraps_i32 6 128 y (by decide) (by decide) (by decide) h0 h1 (by omega)
theorem or192 (y : Int) (h0 : 0 ≤ y) (h1 : y < 32) : bits .or .i32 192 y = 192 + y := bits_join .i32 31 (by decide) wraps_i32 5 192 y (by decide) (by decide) (by decide) h0 h1 (by omega)
theorem or224 (y : Int) (h0 : 0 ≤ y) (h1 : y < 16) : bits .or .i32 224 y = 224 + y := bits_join .i32 31 (by decide) wraps_i32 4 224 y (by decide) (by decide) (by decide) h0 h1 (by omega)
theorem or240 (y : Int) (h0 : 0 ≤ y) (h1 : y < 8) : bits .or .i32 240 y = 240 + y := bits_join .i32 31 (by decide) wraps_i32 3 240 y (by decide) (by decide) (by decide) h0 h1 (by omega)

theorem refBytes_1 (z : Int) (h1 : 0 ≤ z) (h2 : z < 128) (w : World) : Calls Try.prog 58 #[.int .i32 z] w fun e w' => e = .returned (.slice (some ⟨w.heap.size, 0, none⟩) 1 1) ∧ w' = w.alloc (.cells #[.int .u8 z] 5) := by
  have hw : widthOf z = 1 := by unfold widthOf; rw [if_neg (by omega), if_pos (by omega)]
  have HW := hide hw
  clear hw
  go_enter Try.func58, Try.ntmps58
  go_wp2_with fail
  refine (refWidth_any z _).mono ?_
  rintro e w1 ⟨rfl, rfl⟩
  rw [unhide HW]
  go_wp2
  go_ret
  exact ⟨rfl, rfl⟩

theorem refBytes_2 (z : Int) (h1 : 128 ≤ z) (h2 : z < 2048) (w : World) : Calls Try.prog 58 #[.int .i32 z] w fun e w' => e = .returned (.slice (some ⟨w.heap.size, 0, none⟩) 2 2) ∧ w' = w.alloc (.cells #[.int .u8 (192 + z / 64), .int .u8 (128 + z % 64)] 5) := by
  have hw : widthOf z = 2 := by unfold widthOf; rw [if_neg (by omega), if_neg (by omega), if_pos (by omega)]
  have HW := hide hw
  have e1 := and63 z (by omega) (by omega)
  have e2 := or128 (z % 64) (by omega) (by omega)
  clear hw
  go_enter Try.func58, Try.ntmps58
  go_wp2_with fail
  refine (refWidth_any z _).mono ?_
  rintro e w1 ⟨rfl, rfl⟩
  rw [unhide HW]
  go_wp2
  go_ret
  exact ⟨rfl, rfl⟩

theorem refBytes_3 (z : Int) (h1 : 2048 ≤ z) (h2 : z < 65536) (h3 : ¬ (55296 ≤ z ∧ z ≤ 57343)) (w : World) : Calls Try.prog 58 #[.int .i32 z] w fun e w' => e = .returned (.slice (some ⟨w.heap.size, 0, none⟩) 3 3) ∧ w' = w.alloc (.cells #[.int .u8 (224 + z / 4096), .int .u8 (128 + z / 64 % 64), .int .u8 (128 + z % 64)] 5) := by
  have hw : widthOf z = 3 := by unfold widthOf; rw [if_neg (by omega), if_neg (by omega), if_neg (by omega), if_pos (by omega)]
  have HW := hide hw
  have e1 := and63 z (by omega) (by omega)
  have e2 := or128 (z % 64) (by omega) (by omega)
  have e3 := and63 (z / 64) (by omega) (by omega)
  have e4 := or128 (z / 64 % 64) (by omega) (by omega)
  have e7 := or224 (z / 4096) (by omega) (by omega)
  clear hw
  go_enter Try.func58, Try.ntmps58
  go_wp2_with fail
  refine (refWidth_any z _).mono ?_
  rintro e w1 ⟨rfl, rfl⟩
  rw [unhide HW]
  go_wp2
  go_ret
  exact ⟨rfl, rfl⟩

theorem refBytes_4 (z : Int) (h1 : 65536 ≤ z) (h2 : z ≤ 1114111) (w : World) : Calls Try.prog 58 #[.int .i32 z] w fun e w' => e = .returned (.slice (some ⟨w.heap.size, 0, none⟩) 4 4) ∧ w' = w.alloc (.cells #[.int .u8 (240 + z / 262144), .int .u8 (128 + z / 4096 % 64), .int .u8 (128 + z / 64 % 64), .int .u8 (128 + z % 64)] 5) := by
  have hw : widthOf z = 4 := by unfold widthOf; rw [if_neg (by omega), if_neg (by omega), if_neg (by omega), if_neg (by omega)]
  have HW := hide hw
  have e1 := and63 z (by omega) (by omega)
  have e2 := or128 (z % 64) (by omega) (by omega)
  have e3 := and63 (z / 64) (by omega) (by omega)
  have e4 := or128 (z / 64 % 64) (by omega) (by omega)
  have e5 := and63 (z / 4096) (by omega) (by omega)
  have e6 := or128 (z / 4096 % 64) (by omega) (by omega)
  have e7 := or240 (z / 262144) (by omega) (by omega)
  clear hw
  go_enter Try.func58, Try.ntmps58
  go_wp2_with fail
  refine (refWidth_any z _).mono ?_
  rintro e w1 ⟨rfl, rfl⟩
  rw [unhide HW]
  go_wp2
  go_ret
  exact ⟨rfl, rfl⟩

theorem refBytes_any (z : Int) (h : widthOf z ≠ 0) (w : World) : Calls Try.prog 58 #[.int .i32 z] w fun e w' => e = .returned (.slice (some ⟨w.heap.size, 0, none⟩) (Utf8.encode z).size (Utf8.encode z).size) ∧ w' = w.alloc (.cells (byteVals (Utf8.encode z)).toArray 5) := by
  obtain ⟨_, z0, z1, z2⟩ := valid_of_width h
  by_cases h1 : z < 128
  · rw [enc1 h h1]
    refine (refBytes_1 z z0 h1 w).mono ?_
    rintro e w' ⟨rfl, rfl⟩
    refine ⟨rfl, ?_⟩
    simp only [byteVals, List.map_cons, List.map_nil]
    rw [u8n _ (by omega), Int.toNat_of_nonneg z0]
  by_cases h2 : z < 2048
  · rw [enc2 h (by omega) h2]
    refine (refBytes_2 z (by omega) h2 w).mono ?_
    rintro e w' ⟨rfl, rfl⟩
    refine ⟨rfl, ?_⟩
    simp only [byteVals, List.map_cons, List.map_nil]
    rw [u8n _ (by omega), u8n _ (by omega), show ((192 + z.toNat / 64 : Nat) : Int) = 192 + z / 64 by omega, show ((128 + z.toNat % 64 : Nat) : Int) = 128 + z % 64 by omega]
  by_cases h3 : z < 65536
  · rw [enc3 h (by omega) h3]
    refine (refBytes_3 z (by omega) h3 z2 w).mono ?_
    rintro e w' ⟨rfl, rfl⟩
    refine ⟨rfl, ?_⟩
    simp only [byteVals, List.map_cons, List.map_nil]
    rw [u8n _ (by omega), u8n _ (by omega), u8n _ (by omega), show ((224 + z.toNat / 4096 : Nat) : Int) = 224 + z / 4096 by omega, show ((128 + z.toNat / 64 % 64 : Nat) : Int) = 128 + z / 64 % 64 by omega, show ((128 + z.toNat % 64 : Nat) : Int) = 128 + z % 64 by omega]
  · rw [enc4 h (by omega)]
    refine (refBytes_4 z (by omega) z1 w).mono ?_
    rintro e w' ⟨rfl, rfl⟩
    refine ⟨rfl, ?_⟩
    simp only [byteVals, List.map_cons, List.map_nil]
    rw [u8n _ (by omega), u8n _ (by omega), u8n _ (by omega), u8n _ (by omega), show ((240 + z.toNat / 262144 : Nat) : Int) = 240 + z / 262144 by omega, show ((128 + z.toNat / 4096 % 64 : Nat) : Int) = 128 + z / 4096 % 64 by omega, show ((128 + z.toNat / 64 % 64 : Nat) : Int) = 128 + z / 64 % 64 by omega, show ((128 + z.toNat % 64 : Nat) : Int) = 128 + z % 64 by omega]

end Go.Proofs.Ythjndkjbjflmfaa
