/- The book's Same at lists of texts. -/
import Derived.Test.YtnphbjhikapoeaaSl
namespace Go.Proofs.Ytnphbjhikapoeaa
open Go.RowKit Go.Shelf
set_option linter.unusedVariables false

abbrev encS (zs : List ByteArray) : List Value := zs.map Value.string
theorem below_drewNS {B : Nat} {a w : World} (h : Below B a w) (n : Nat) : Below B a (w.drewN n) := h.trans ⟨rfl, rfl, rfl, Nat.le_refl _, fun _ _ => rfl⟩
/-- A list in memory. -/
def LstS (W : World) (a : Option Addr) (zs : List ByteArray) : Prop := ∀ k z, zs[k]? = some z → ∃ g, a = some ⟨g, 0, none⟩ ∧ W.cell? ⟨g, k, none⟩ = some (Value.string z)
theorem own_lstS {W : World} {lo : Nat} {v : Value} {zs : List ByteArray} (h : W.ownsRow lo 9 1 v zs.length (encS zs)) : ∃ a cap, v = .slice a zs.length cap ∧ LstS W a zs ∧ zs.length ≤ cap ∧ cap ≤ maxLen := by
  rcases h.2 with ⟨rfl, h0⟩ | ⟨g, cap, cur, rfl, hb, hg, h1, h2, h3, h4⟩
  · obtain rfl : zs = [] := List.eq_nil_of_length_eq_zero h0
    exact ⟨none, 0, rfl, fun k z hz => by simp at hz, by simp, by simp⟩
  · refine ⟨_, cap, rfl, fun k z hz => ⟨g, rfl, ?_⟩, h1, h2⟩
    have := h.cells (g := g) rfl k (Value.string z) (by simp [encS, hz])
    rwa [add_none', Nat.zero_add] at this

set_option maxRecDepth 100000 in
set_option maxHeartbeats 2000000 in
theorem same_lstS (a b : Option Addr) (ca cb : Nat) (zs : List ByteArray) (hz : zs.length ≤ 9223372036854775807) (w : World) (ha : LstS w a zs) (hb : LstS w b zs) :
    Calls Try.prog 15 #[.slice a zs.length ca, .slice b zs.length cb] w fun e w' => e = .returned (.bool true) ∧ Below w.heap.size w w' := by
  have HA := hide ha
  have HB := hide hb
  clear ha hb
  have hne : (((zs.length : Nat) : Int) != ((zs.length : Nat) : Int)) = false := by simp
  go_enter Try.func15, Try.ntmps15
  go_wp2
  go_loopw [5] (fun i wr => ∃ k : Nat, k ≤ zs.length ∧ i = .int .i64 k ∧ ∃ q, wr = w.drewN q) (fun i _ => zs.length - (intOf i).toNat)
  case atStart => exact ⟨0, by omega, rfl, 0, rfl⟩
  case round =>
    obtain ⟨k, hk, rfl, q, rfl⟩ := hrel
    by_cases hkn : k < zs.length
    · obtain ⟨z, hzk⟩ : ∃ z, zs[k]? = some z := ⟨_, List.getElem?_eq_getElem hkn⟩
      obtain ⟨g, rfl, c0⟩ := unhide HA k z hzk
      obtain ⟨g2, rfl, c1⟩ := unhide HB k z hzk
      have hk1 : (k : Int) < (zs.length : Int) := by omega
      have hk2 : ((k : Nat) : Int).toNat = k := by omega
      have hzz : (z.toList != z.toList) = false := by simp
      clear hzk
      go_wp2
      go_quiet (fail)
      go_wp2
      go_roundw
      case rel => exact ⟨k + 1, by omega, by go_num, _, rfl⟩
      case measure => simp [intOf]; omega
    · have hk1 : ¬ (k : Int) < (zs.length : Int) := by omega
      go_wp2
      go_ret
      exact ⟨rfl, below_drewNS (Below.refl _ _) _⟩
theorem same_ownS (lo : Nat) (v c : Value) (zs : List ByteArray) (w : World) (hv : w.ownsRow lo 9 1 v zs.length (encS zs)) (hc : w.ownsRow lo 9 1 c zs.length (encS zs)) :
    Calls Try.prog 15 #[v, c] w fun e w' => e = .returned (.bool true) ∧ Below w.heap.size w w' := by
  obtain ⟨a, ca, rfl, ha, h1, h2⟩ := own_lstS hv
  obtain ⟨b, cb, rfl, hb, _, _⟩ := own_lstS hc
  exact same_lstS a b ca cb zs (by unfold maxLen at h2; omega) w ha hb
end Go.Proofs.Ytnphbjhikapoeaa
