/- The reference's Byte and Of, told for every text. -/
import Derived.Test.YtaafecaclkagiabRef2
namespace Go.Proofs.Ytaafecaclkagiab
open Go.RowKit Go.Shelf
set_option linter.unusedVariables false

theorem rows_form {W : World} {base : Nat} {e : TypeId} {v : Value} {s : ByteArray} (h : W.ownsRow base e 4 v (starts s).length ((starts s).flatMap (refCells s))) :
    ∃ a cap, v = .slice a (starts s).length cap ∧ ∀ k, k < (starts s).length → ∃ g, a = some ⟨g, 0, none⟩ ∧ g < W.heap.size ∧ ∀ j, j < 4 → W.cell? ⟨g, k * 4 + j, none⟩ = (refCells s (pl s k))[j]? := by
  by_cases hn : 0 < (starts s).length
  · obtain ⟨g, cap, rfl, h1, h2, _, hc⟩ := row_cells h hn
    refine ⟨_, cap, rfl, fun k hk => ⟨g, rfl, h2, fun j hj => ?_⟩⟩
    have := hc k (pl s k) (pl_start s k hk) j hj
    rw [Nat.mul_comm] at this
    exact this
  · rcases h.2 with ⟨rfl, h0⟩ | ⟨g, cap, cur, rfl, _⟩
    · exact ⟨none, 0, by rw [h0], fun k hk => by omega⟩
    · exact ⟨_, cap, rfl, fun k hk => by omega⟩

set_option maxHeartbeats 2000000 in
theorem refByte_any (s : ByteArray) (hs : s.size ≤ 1048576) (n : Nat) (hn : n ≤ (starts s).length) (w : World) : Calls Try.prog 30 #[.string s, .int .i64 n] w fun e w' => e = .returned (.int .i64 (pl s n)) ∧ Below w.heap.size w w' := by
  have hnl := starts_length s
  by_cases he : n = (starts s).length
  · subst he
    rw [pl_end]
    have heq : (((starts s).length : Int) == ((starts s).length : Int)) = true := by simp
    go_enter Try.func30, Try.ntmps30
    go_wp2_with fail
    refine (refSpots_any s (by omega) _).mono ?_
    rintro e w1 ⟨v, rfl, hown, hb⟩
    obtain ⟨a, cap, rfl, _⟩ := rows_form hown
    have HB := hide hb
    clear hb hown
    go_wp2
    go_ret
    exact ⟨rfl, unhide HB⟩
  · have hne : ((n : Int) == ((starts s).length : Int)) = false := beq_eq_false_iff_ne.2 (by omega)
    have n1 : (n : Int) < ((starts s).length : Int) := by omega
    have n2 : ((n : Nat) : Int).toNat = n := by omega
    go_enter Try.func30, Try.ntmps30
    go_wp2_with fail
    refine (refSpots_any s (by omega) _).mono ?_
    rintro e w1 ⟨v, rfl, hown, hb⟩
    obtain ⟨a, cap, rfl, hc⟩ := rows_form hown
    obtain ⟨g, rfl, hg, hcc⟩ := hc n (by omega)
    have c1 : w1.cell? ⟨g, n * 4 + 1, none⟩ = some (.int .i64 (pl s n)) := hcc 1 (by omega)
    have HB := hide hb
    clear hb hown hc hcc
    go_wp2
    go_ret
    exact ⟨rfl, unhide HB⟩

theorem refOf_out (s : ByteArray) (hm : s.size ≤ 1048576) (b : Int) (hb : b < 0 ∨ (s.size : Int) < b) (w : World) : Calls Try.prog 31 #[.string s, .int .i64 b] w fun e w' => e = .returned (.int .i64 (-1)) ∧ Below w.heap.size w w' := by
  by_cases b0 : b < 0
  · go_enter Try.func31, Try.ntmps31
    go_wp2
    go_ret
    exact ⟨rfl, Below.refl _ _⟩
  · have b1 : (s.size : Int) < b := by omega
    go_enter Try.func31, Try.ntmps31
    go_wp2
    go_ret
    exact ⟨rfl, Below.refl _ _⟩

set_option maxRecDepth 100000 in
set_option maxHeartbeats 4000000 in
theorem refOf_in (s : ByteArray) (hs : s.size ≤ 1048576) (b n : Nat) (hb : b ≤ s.size) (hn : Holds s b n) (w : World) : Calls Try.prog 31 #[.string s, .int .i64 b] w fun e w' => e = .returned (.int .i64 n) ∧ Below w.heap.size w w' := by
  have hnl := starts_length s
  have b0 : ¬ (b : Int) < 0 := by omega
  have b1 : ¬ (s.size : Int) < (b : Int) := by omega
  have HN := hide hn
  clear hn
  go_enter Try.func31, Try.ntmps31
  go_wp2_with fail
  refine (refSpots_any s (by omega) _).mono ?_
  rintro e w1 ⟨v, rfl, hown, hb1⟩
  obtain ⟨a, cap, rfl, hc⟩ := rows_form hown
  have HC := hide hc
  have HB := hide hb1
  clear hb1 hown hc
  go_wp2
  go_loopw [6] (fun i wr => ∃ k : Nat, k ≤ n ∧ i = .int .i64 k ∧ ∃ q, wr = w1.drewN q) (fun i _ => (starts s).length - (intOf i).toNat)
  case atStart => exact ⟨0, by omega, rfl, 0, rfl⟩
  case round =>
    obtain ⟨k, hk, rfl, q, rfl⟩ := hrel
    have hnc := (unhide HN).1
    by_cases hkn : k < (starts s).length
    · obtain ⟨g, rfl, hg, hcc⟩ := unhide HC k hkn
      have c1 : w1.cell? ⟨g, k * 4 + 1, none⟩ = some (.int .i64 (pl s k)) := hcc 1 (by omega)
      have c2 : w1.cell? ⟨g, k * 4 + 2, none⟩ = some (.int .i64 ((wd s (pl s k) : Nat) : Int)) := hcc 2 (by omega)
      have hnx := pl_next s k hkn
      have hle := pl_le s (k + 1) (by omega)
      have k1 : (k : Int) < ((starts s).length : Int) := by omega
      have k2 : ((k : Nat) : Int).toNat = k := by omega
      have k3 : ((pl s k : Nat) : Int) + ((wd s (pl s k) : Nat) : Int) = ((pl s (k + 1) : Nat) : Int) := by omega
      have k4 : ((pl s k : Nat) : Int) ≤ 1048576 := by omega
      have k5 : ((wd s (pl s k) : Nat) : Int) ≤ 1048576 := by omega
      have k6 : (k : Int) ≤ 1048576 := by omega
      have k7 : (0 : Int) ≤ ((wd s (pl s k) : Nat) : Int) := by omega
      have k8 : ((pl s (k + 1) : Nat) : Int) ≤ 1048576 := by omega
      have k9 : (0 : Int) ≤ ((pl s (k + 1) : Nat) : Int) := by omega
      generalize hW : ((wd s (pl s k) : Nat) : Int) = ww at *
      clear hcc hnx hle hW
      by_cases he : k = n
      · subst he
        have hlt : (b : Int) < ((pl s (k + 1) : Nat) : Int) := by have := (unhide HN).2.2 hkn; omega
        generalize ((pl s (k + 1) : Nat) : Int) = pn at *
        clear hnc
        go_wp2
        go_quiet (fail)
        go_wp2
        go_ret
        exact ⟨rfl, below_drewN (below_drewN (unhide HB) _) _⟩
      · have hlt : ¬ (b : Int) < ((pl s (k + 1) : Nat) : Int) := by
          have h1 := pl_mono s (k + 1) n (by omega) hnc
          have h2 := (unhide HN).2.1
          omega
        generalize ((pl s (k + 1) : Nat) : Int) = pn at *
        go_wp2
        go_quiet (fail)
        go_wp2
        go_roundw
        case rel => exact ⟨k + 1, by omega, by go_num, _, rfl⟩
        case measure => simp [intOf]; omega
    · have k1 : ¬ (k : Int) < ((starts s).length : Int) := by omega
      obtain rfl : n = (starts s).length := by omega
      clear hk hnc hkn
      go_wp2
      go_ret
      exact ⟨rfl, below_drewN (unhide HB) _⟩
end Go.Proofs.Ytaafecaclkagiab
