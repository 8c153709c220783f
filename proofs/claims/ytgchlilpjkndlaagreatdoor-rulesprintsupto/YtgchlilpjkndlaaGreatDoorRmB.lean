/- Do the marks stand behind a list (guisekeep6.still). -/
import Derived.Test.YtgchlilpjkndlaaGreatDoorM20
namespace Go.Proofs.YtgchlilpjkndlaaGreatDoor
open Go.RowKit Go.Shelf
set_option linter.unusedVariables false
set_option maxRecDepth 100000 in
set_option maxHeartbeats 4000000 in
theorem stillSpan_any (g n : Nat) (hn : n ≤ 1000000) (x0 x1 : Int) (w : World) (hg : g < w.heap.size) (hc : ∀ k, n ≤ k → k < n + 8 → w.cell? ⟨g, k * 2, none⟩ = some (.int .i32 x0) ∧ w.cell? ⟨g, k * 2 + 1, none⟩ = some (.int .i32 x1)) :
    Calls Tryz.prog 50 #[.slice (some ⟨g, 0, none⟩) n (n + 8), .agg #[.int .i32 x0, .int .i32 x1]] w fun e w' => e = .returned (.bool true) ∧ Below w.heap.size w w' := by
  have HB := hide ((Below.refl w.heap.size w).alloc (Nat.le_refl _) (.cells #[.int .i32 x0, .int .i32 x1] 76))
  have HB0 : Hz (∀ p : Addr, p.block < w.heap.size → (w.alloc (.cells #[.int .i32 x0, .int .i32 x1] 76)).cell? p = w.cell? p) := hide (fun p hp => (unhide HB).cell hp)
  have HX0 := hide (Blk.new w #[.int .i32 x0, .int .i32 x1] 76)
  have HC := hide hc
  have HG := hide hg
  clear hc hg
  have hle : n ≤ n + 8 := by omega
  go_enter Tryz.func50, Tryz.ntmps50
  go_wp2
  go_loopw [6] (fun i wr => ∃ k : Nat, n ≤ k ∧ k ≤ n + 8 ∧ i = .int .i64 k ∧ ∃ q, wr = (w.alloc (.cells #[.int .i32 x0, .int .i32 x1] 76)).drewN q) (fun i _ => n + 8 - (intOf i).toNat)
  case atStart => exact ⟨n, Nat.le_refl _, by omega, rfl, 0, rfl⟩
  case round =>
    obtain ⟨k, hk0, hk9, rfl, q, rfl⟩ := hrel
    by_cases hk8 : k < n + 8
    · have k1 : ((k : Nat) : Int) < ((n + 8 : Nat) : Int) := by omega
      have k2 : ((k : Nat) : Int).toNat = k := by omega
      have c0 : (w.alloc (.cells #[.int .i32 x0, .int .i32 x1] 76)).cell? ⟨g, k * 2, none⟩ = some (.int .i32 x0) := (unhide HB0 _ (unhide HG)).trans (unhide HC k hk0 hk8).1
      have c1 : (w.alloc (.cells #[.int .i32 x0, .int .i32 x1] 76)).cell? ⟨g, k * 2 + 1, none⟩ = some (.int .i32 x1) := (unhide HB0 _ (unhide HG)).trans (unhide HC k hk0 hk8).2
      have d0 : (w.alloc (.cells #[.int .i32 x0, .int .i32 x1] 76)).cell? ⟨w.heap.size, 0, none⟩ = some (.int .i32 x0) := by have := (unhide HX0).cell 0; rw [this]; rfl
      have d1 : (w.alloc (.cells #[.int .i32 x0, .int .i32 x1] 76)).cell? ⟨w.heap.size, 1, none⟩ = some (.int .i32 x1) := by have := (unhide HX0).cell 1; rw [this]; rfl
      have e0 : (x0 == x0) = true := by simp
      have e1 : (x1 == x1) = true := by simp
      go_wp2
      go_quiet (fail)
      go_wp2
      go_roundw
      case rel => exact ⟨k + 1, by omega, by omega, by go_num, _, rfl⟩
      case measure => simp [intOf]; omega
    · have k1 : ¬ ((k : Nat) : Int) < ((n + 8 : Nat) : Int) := by omega
      go_wp2
      go_ret
      exact ⟨rfl, below_drewNW (unhide HB) _⟩
set_option maxRecDepth 100000 in
set_option maxHeartbeats 4000000 in
theorem stillMark_any (g n : Nat) (hn : n ≤ 1000000) (x0 x1 : Int) (w : World) (hg : g < w.heap.size) (hc : ∀ k, n ≤ k → k < n + 8 → w.cell? ⟨g, k * 2, none⟩ = some (.int .i32 x0) ∧ w.cell? ⟨g, k * 2 + 1, none⟩ = some (.int .i64 x1)) :
    Calls Tryz.prog 51 #[.slice (some ⟨g, 0, none⟩) n (n + 8), .agg #[.int .i32 x0, .int .i64 x1]] w fun e w' => e = .returned (.bool true) ∧ Below w.heap.size w w' := by
  have HB := hide ((Below.refl w.heap.size w).alloc (Nat.le_refl _) (.cells #[.int .i32 x0, .int .i64 x1] 82))
  have HB0 : Hz (∀ p : Addr, p.block < w.heap.size → (w.alloc (.cells #[.int .i32 x0, .int .i64 x1] 82)).cell? p = w.cell? p) := hide (fun p hp => (unhide HB).cell hp)
  have HX0 := hide (Blk.new w #[.int .i32 x0, .int .i64 x1] 82)
  have HC := hide hc
  have HG := hide hg
  clear hc hg
  have hle : n ≤ n + 8 := by omega
  go_enter Tryz.func51, Tryz.ntmps51
  go_wp2
  go_loopw [6] (fun i wr => ∃ k : Nat, n ≤ k ∧ k ≤ n + 8 ∧ i = .int .i64 k ∧ ∃ q, wr = (w.alloc (.cells #[.int .i32 x0, .int .i64 x1] 82)).drewN q) (fun i _ => n + 8 - (intOf i).toNat)
  case atStart => exact ⟨n, Nat.le_refl _, by omega, rfl, 0, rfl⟩
  case round =>
    obtain ⟨k, hk0, hk9, rfl, q, rfl⟩ := hrel
    by_cases hk8 : k < n + 8
    · have k1 : ((k : Nat) : Int) < ((n + 8 : Nat) : Int) := by omega
      have k2 : ((k : Nat) : Int).toNat = k := by omega
      have c0 : (w.alloc (.cells #[.int .i32 x0, .int .i64 x1] 82)).cell? ⟨g, k * 2, none⟩ = some (.int .i32 x0) := (unhide HB0 _ (unhide HG)).trans (unhide HC k hk0 hk8).1
      have c1 : (w.alloc (.cells #[.int .i32 x0, .int .i64 x1] 82)).cell? ⟨g, k * 2 + 1, none⟩ = some (.int .i64 x1) := (unhide HB0 _ (unhide HG)).trans (unhide HC k hk0 hk8).2
      have d0 : (w.alloc (.cells #[.int .i32 x0, .int .i64 x1] 82)).cell? ⟨w.heap.size, 0, none⟩ = some (.int .i32 x0) := by have := (unhide HX0).cell 0; rw [this]; rfl
      have d1 : (w.alloc (.cells #[.int .i32 x0, .int .i64 x1] 82)).cell? ⟨w.heap.size, 1, none⟩ = some (.int .i64 x1) := by have := (unhide HX0).cell 1; rw [this]; rfl
      have e0 : (x0 == x0) = true := by simp
      have e1 : (x1 == x1) = true := by simp
      go_wp2
      go_quiet (fail)
      go_wp2
      go_roundw
      case rel => exact ⟨k + 1, by omega, by omega, by go_num, _, rfl⟩
      case measure => simp [intOf]; omega
    · have k1 : ¬ ((k : Nat) : Int) < ((n + 8 : Nat) : Int) := by omega
      go_wp2
      go_ret
      exact ⟨rfl, below_drewNW (unhide HB) _⟩
set_option maxRecDepth 100000 in
set_option maxHeartbeats 4000000 in
theorem stillPair_any (g n : Nat) (hn : n ≤ 1000000) (x0 x1 x2 : Int) (w : World) (hg : g < w.heap.size) (hc : ∀ k, n ≤ k → k < n + 8 → w.cell? ⟨g, k * 3, none⟩ = some (.int .i32 x0) ∧ w.cell? ⟨g, k * 3 + 1, none⟩ = some (.int .i32 x1) ∧ w.cell? ⟨g, k * 3 + 2, none⟩ = some (.int .i32 x2)) :
    Calls Tryz.prog 52 #[.slice (some ⟨g, 0, none⟩) n (n + 8), .agg #[.int .i32 x0, .int .i32 x1, .int .i32 x2]] w fun e w' => e = .returned (.bool true) ∧ Below w.heap.size w w' := by
  have HB := hide ((Below.refl w.heap.size w).alloc (Nat.le_refl _) (.cells #[.int .i32 x0, .int .i32 x1, .int .i32 x2] 85))
  have HB0 : Hz (∀ p : Addr, p.block < w.heap.size → (w.alloc (.cells #[.int .i32 x0, .int .i32 x1, .int .i32 x2] 85)).cell? p = w.cell? p) := hide (fun p hp => (unhide HB).cell hp)
  have HX0 := hide (Blk.new w #[.int .i32 x0, .int .i32 x1, .int .i32 x2] 85)
  have HC := hide hc
  have HG := hide hg
  clear hc hg
  have hle : n ≤ n + 8 := by omega
  go_enter Tryz.func52, Tryz.ntmps52
  go_wp2
  go_loopw [6] (fun i wr => ∃ k : Nat, n ≤ k ∧ k ≤ n + 8 ∧ i = .int .i64 k ∧ ∃ q, wr = (w.alloc (.cells #[.int .i32 x0, .int .i32 x1, .int .i32 x2] 85)).drewN q) (fun i _ => n + 8 - (intOf i).toNat)
  case atStart => exact ⟨n, Nat.le_refl _, by omega, rfl, 0, rfl⟩
  case round =>
    obtain ⟨k, hk0, hk9, rfl, q, rfl⟩ := hrel
    by_cases hk8 : k < n + 8
    · have k1 : ((k : Nat) : Int) < ((n + 8 : Nat) : Int) := by omega
      have k2 : ((k : Nat) : Int).toNat = k := by omega
      have c0 : (w.alloc (.cells #[.int .i32 x0, .int .i32 x1, .int .i32 x2] 85)).cell? ⟨g, k * 3, none⟩ = some (.int .i32 x0) := (unhide HB0 _ (unhide HG)).trans (unhide HC k hk0 hk8).1
      have c1 : (w.alloc (.cells #[.int .i32 x0, .int .i32 x1, .int .i32 x2] 85)).cell? ⟨g, k * 3 + 1, none⟩ = some (.int .i32 x1) := (unhide HB0 _ (unhide HG)).trans (unhide HC k hk0 hk8).2.1
      have c2 : (w.alloc (.cells #[.int .i32 x0, .int .i32 x1, .int .i32 x2] 85)).cell? ⟨g, k * 3 + 2, none⟩ = some (.int .i32 x2) := (unhide HB0 _ (unhide HG)).trans (unhide HC k hk0 hk8).2.2
      have d0 : (w.alloc (.cells #[.int .i32 x0, .int .i32 x1, .int .i32 x2] 85)).cell? ⟨w.heap.size, 0, none⟩ = some (.int .i32 x0) := by have := (unhide HX0).cell 0; rw [this]; rfl
      have d1 : (w.alloc (.cells #[.int .i32 x0, .int .i32 x1, .int .i32 x2] 85)).cell? ⟨w.heap.size, 1, none⟩ = some (.int .i32 x1) := by have := (unhide HX0).cell 1; rw [this]; rfl
      have d2 : (w.alloc (.cells #[.int .i32 x0, .int .i32 x1, .int .i32 x2] 85)).cell? ⟨w.heap.size, 2, none⟩ = some (.int .i32 x2) := by have := (unhide HX0).cell 2; rw [this]; rfl
      have e0 : (x0 == x0) = true := by simp
      have e1 : (x1 == x1) = true := by simp
      have e2 : (x2 == x2) = true := by simp
      go_wp2
      go_quiet (fail)
      go_wp2
      go_roundw
      case rel => exact ⟨k + 1, by omega, by omega, by go_num, _, rfl⟩
      case measure => simp [intOf]; omega
    · have k1 : ¬ ((k : Nat) : Int) < ((n + 8 : Nat) : Int) := by omega
      go_wp2
      go_ret
      exact ⟨rfl, below_drewNW (unhide HB) _⟩
set_option maxRecDepth 100000 in
set_option maxHeartbeats 4000000 in
theorem stillMap_any (g n : Nat) (hn : n ≤ 1000000) (x0 : Int) (x1 : ByteArray) (w : World) (hg : g < w.heap.size) (hc : ∀ k, n ≤ k → k < n + 8 → w.cell? ⟨g, k * 2, none⟩ = some (.int .i32 x0) ∧ w.cell? ⟨g, k * 2 + 1, none⟩ = some (.string x1)) :
    Calls Tryz.prog 53 #[.slice (some ⟨g, 0, none⟩) n (n + 8), .agg #[.int .i32 x0, .string x1]] w fun e w' => e = .returned (.bool true) ∧ Below w.heap.size w w' := by
  have HB := hide ((Below.refl w.heap.size w).alloc (Nat.le_refl _) (.cells #[.int .i32 x0, .string x1] 78))
  have HB0 : Hz (∀ p : Addr, p.block < w.heap.size → (w.alloc (.cells #[.int .i32 x0, .string x1] 78)).cell? p = w.cell? p) := hide (fun p hp => (unhide HB).cell hp)
  have HX0 := hide (Blk.new w #[.int .i32 x0, .string x1] 78)
  have HC := hide hc
  have HG := hide hg
  clear hc hg
  have hle : n ≤ n + 8 := by omega
  go_enter Tryz.func53, Tryz.ntmps53
  go_wp2
  go_loopw [6] (fun i wr => ∃ k : Nat, n ≤ k ∧ k ≤ n + 8 ∧ i = .int .i64 k ∧ ∃ q, wr = (w.alloc (.cells #[.int .i32 x0, .string x1] 78)).drewN q) (fun i _ => n + 8 - (intOf i).toNat)
  case atStart => exact ⟨n, Nat.le_refl _, by omega, rfl, 0, rfl⟩
  case round =>
    obtain ⟨k, hk0, hk9, rfl, q, rfl⟩ := hrel
    by_cases hk8 : k < n + 8
    · have k1 : ((k : Nat) : Int) < ((n + 8 : Nat) : Int) := by omega
      have k2 : ((k : Nat) : Int).toNat = k := by omega
      have c0 : (w.alloc (.cells #[.int .i32 x0, .string x1] 78)).cell? ⟨g, k * 2, none⟩ = some (.int .i32 x0) := (unhide HB0 _ (unhide HG)).trans (unhide HC k hk0 hk8).1
      have c1 : (w.alloc (.cells #[.int .i32 x0, .string x1] 78)).cell? ⟨g, k * 2 + 1, none⟩ = some (.string x1) := (unhide HB0 _ (unhide HG)).trans (unhide HC k hk0 hk8).2
      have d0 : (w.alloc (.cells #[.int .i32 x0, .string x1] 78)).cell? ⟨w.heap.size, 0, none⟩ = some (.int .i32 x0) := by have := (unhide HX0).cell 0; rw [this]; rfl
      have d1 : (w.alloc (.cells #[.int .i32 x0, .string x1] 78)).cell? ⟨w.heap.size, 1, none⟩ = some (.string x1) := by have := (unhide HX0).cell 1; rw [this]; rfl
      have e0 : (x0 == x0) = true := by simp
      have e1 : (x1.toList == x1.toList) = true := by simp
      go_wp2
      go_quiet (fail)
      go_wp2
      go_roundw
      case rel => exact ⟨k + 1, by omega, by omega, by go_num, _, rfl⟩
      case measure => simp [intOf]; omega
    · have k1 : ¬ ((k : Nat) : Int) < ((n + 8 : Nat) : Int) := by omega
      go_wp2
      go_ret
      exact ⟨rfl, below_drewNW (unhide HB) _⟩
end Go.Proofs.YtgchlilpjkndlaaGreatDoor
