/- The book's Same at lists of bytes. -/
import Derived.Test.YtinhmhkdofoneaaBookMB
namespace Go.Proofs.Ytinhmhkdofoneaa
open Go.RowKit Go.Shelf
set_option linter.unusedVariables false

theorem below_drewNB {B : Nat} {a w : World} (h : Below B a w) (n : Nat) : Below B a (w.drewN n) := h.trans ⟨rfl, rfl, rfl, Nat.le_refl _, fun _ _ => rfl⟩
/-- A list in memory. -/
def LstB (W : World) (a : Option Addr) (zs : List Int) : Prop := ∀ k z, zs[k]? = some z → ∃ g, a = some ⟨g, 0, none⟩ ∧ W.cell? ⟨g, k, none⟩ = some (Value.int .u8 z)
theorem own_lstB {W : World} {lo : Nat} {v : Value} {zs : List Int} (h : W.ownsRow lo 5 1 v zs.length (encB zs)) : ∃ a cap, v = .slice a zs.length cap ∧ LstB W a zs ∧ zs.length ≤ cap ∧ cap ≤ maxLen := by
  rcases h.2 with ⟨rfl, h0⟩ | ⟨g, cap, cur, rfl, hb, hg, h1, h2, h3, h4⟩
  · obtain rfl : zs = [] := List.eq_nil_of_length_eq_zero h0
    exact ⟨none, 0, rfl, fun k z hz => by simp at hz, by simp, by simp⟩
  · refine ⟨_, cap, rfl, fun k z hz => ⟨g, rfl, ?_⟩, h1, h2⟩
    have := h.cells (g := g) rfl k (Value.int .u8 z) (by simp [encB, hz])
    rwa [add_none', Nat.zero_add] at this

set_option maxRecDepth 100000 in
set_option maxHeartbeats 2000000 in
theorem same_lstB (a b : Option Addr) (ca cb : Nat) (zs : List Int) (hz : zs.length ≤ 9223372036854775807) (w : World) (ha : LstB w a zs) (hb : LstB w b zs) :
    Calls Try.prog 26 #[.slice a zs.length ca, .slice b zs.length cb] w fun e w' => e = .returned (.bool true) ∧ Below w.heap.size w w' := by
  have HA := hide ha
  have HB := hide hb
  clear ha hb
  have hne : (((zs.length : Nat) : Int) != ((zs.length : Nat) : Int)) = false := by simp
  go_enter Try.func26, Try.ntmps26
  go_wp2
  go_loopw [5] (fun i wr => ∃ k : Nat, k ≤ zs.length ∧ i = .int .i64 k ∧ ∃ q, wr = w.drewN q) (fun i _ => zs.length - (intOf i).toNat)
  case atStart => exact ⟨0, by omega, rfl, 0, rfl⟩
  case round =>
    obtain ⟨k, hk, rfl, q, rfl⟩ := hrel
    by_cases hkn : k < zs.length
    · obtain ⟨z, hzk⟩ : ∃ z, zs[k]? = some z := ⟨_, List.getElem?_eq_getElem hkn⟩
      obtain ⟨g, rfl, c0⟩ := unhide HA k z hzk
      obtain ⟨g2, rfl, c1⟩ := unhide HB k z hzk
      have hk1 : (k : Int) < (zs.length : Int) := by omega
      have hk2 : ((k : Nat) : Int).toNat = k := by omega
      have hzz : (z != z) = false := by simp
      clear hzk
      go_wp2
      go_quiet (fail)
      go_wp2
      go_roundw
      case rel => exact ⟨k + 1, by omega, by go_num, _, rfl⟩
      case measure => simp [intOf]; omega
    · have hk1 : ¬ (k : Int) < (zs.length : Int) := by omega
      go_wp2
      go_ret
      exact ⟨rfl, below_drewNB (Below.refl _ _) _⟩
theorem same_ownB (lo : Nat) (v c : Value) (zs : List Int) (w : World) (hv : w.ownsRow lo 5 1 v zs.length (encB zs)) (hc : w.ownsRow lo 5 1 c zs.length (encB zs)) :
    Calls Try.prog 26 #[v, c] w fun e w' => e = .returned (.bool true) ∧ Below w.heap.size w w' := by
  obtain ⟨a, ca, rfl, ha, h1, h2⟩ := own_lstB hv
  obtain ⟨b, cb, rfl, hb, _, _⟩ := own_lstB hc
  exact same_lstB a b ca cb zs (by unfold maxLen at h2; omega) w ha hb
end Go.Proofs.Ytinhmhkdofoneaa
