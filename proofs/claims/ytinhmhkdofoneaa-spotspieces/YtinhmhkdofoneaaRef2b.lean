/- The reference's Byte and Of, told for every text. -/
import Derived.Test.YtinhmhkdofoneaaRef2
namespace Go.Proofs.Ytinhmhkdofoneaa
open Go.RowKit Go.Shelf
set_option linter.unusedVariables false

theorem rows_form {W : World} {base : Nat} {e : TypeId} {v : Value} {s : ByteArray} (h : W.ownsRow base e 4 v (starts s).length ((starts s).flatMap (refCells s))) :
    ∃ a cap, v = .slice a (starts s).length cap ∧ ∀ k, k < (starts s).length → ∃ g, a = some ⟨g, 0, none⟩ ∧ g < W.heap.size ∧ ∀ j, j < 4 → W.cell? ⟨g, k * 4 + j, none⟩ = (refCells s (pl s k))[j]? := by
  by_cases hn : 0 < (starts s).length
  · obtain ⟨g, cap, rfl, h1, h2, _, hc⟩ := row_cells h hn
    refine ⟨_, cap, rfl, fun k hk => ⟨g, rfl, h2, fun j hj => ?_⟩⟩
    have := hc k (pl s k) (pl_start s k hk) j hj
    rw [Nat.mul_comm] at this
    exact this
  · rcases h.2 with ⟨rfl, h0⟩ | ⟨g, cap, cur, rfl, _⟩
    · exact ⟨none, 0, by rw [h0], fun k hk => by omega⟩
    · exact ⟨_, cap, rfl, fun k hk => by omega⟩

set_option maxHeartbeats 2000000 in
theorem refByte_any (s : ByteArray) (hs : s.size ≤ 1048576) (n : Nat) (hn : n ≤ (starts s).length) (w : World) : Calls Try.prog 69 #[.string s, .int .i64 n] w fun e w' => e = .returned (.int .i64 (pl s n)) ∧ Below w.heap.size w w' := by
  have hnl := starts_length s
  by_cases he : n = (starts s).length
  · subst he
    rw [pl_end]
    have heq : (((starts s).length : Int) == ((starts s).length : Int)) = true := by simp
    go_enter Try.func69, Try.ntmps69
    go_wp2_with fail
    refine (refSpots_any s (by omega) _).mono ?_
    rintro e w1 ⟨v, rfl, hown, hb⟩
    obtain ⟨a, cap, rfl, _⟩ := rows_form hown
    have HB := hide hb
    clear hb hown
    go_wp2
    go_ret
    exact ⟨rfl, unhide HB⟩
  · have hne : ((n : Int) == ((starts s).length : Int)) = false := beq_eq_false_iff_ne.2 (by omega)
    have n1 : (n : Int) < ((starts s).length : Int) := by omega
    have n2 : ((n : Nat) : Int).toNat = n := by omega
    go_enter Try.func69, Try.ntmps69
    go_wp2_with fail
    refine (refSpots_any s (by omega) _).mono ?_
    rintro e w1 ⟨v, rfl, hown, hb⟩
    obtain ⟨a, cap, rfl, hc⟩ := rows_form hown
    obtain ⟨g, rfl, hg, hcc⟩ := hc n (by omega)
    have c1 : w1.cell? ⟨g, n * 4 + 1, none⟩ = some (.int .i64 (pl s n)) := hcc 1 (by omega)
    have HB := hide hb
    clear hb hown hc hcc
    go_wp2
    go_ret
    exact ⟨rfl, unhide HB⟩

end Go.Proofs.Ytinhmhkdofoneaa
