/- boot.Decode, told for every text. -/
import Derived.Test.YthjndkjbjflmfaaBtR
namespace Go.Proofs.Ythjndkjbjflmfaa
open Go.RowKit Go.Shelf
set_option linter.unusedVariables false
theorem dec_any (p : Pm) (a : ByteArray) (ha : a.size ≤ 1000000) (w : World) : Calls Try.prog 15 #[.agg (cellsP p), .string a] w fun e w' => e = .returned (encD (decV p a)) ∧ Below w.heap.size w w' := by
  unfold decV
  by_cases h1 : rightB p = false
  · rw [if_pos h1]; exact dec_wrong h1 a ha w
  have h1' : rightB p = true := by simpa using h1
  rw [if_neg h1]
  by_cases h2 : 65536 < a.size
  · rw [if_pos h2]; exact dec_long h1' a ha h2 w
  rw [if_neg h2]
  by_cases h3 : lastH a = 0
  · rw [if_pos h3]; exact dec_spell h1' a h2 h3 w
  rw [if_neg h3]
  obtain ⟨m, hm, hS⟩ : ∃ m : Nat, ((lastH a = -1 ∧ m = 0 ∧ (lastH a + 1).toNat = 0) ∨ (lastH a = m ∧ 0 < m ∧ m < a.size ∧ (lastH a + 1).toNat = m + 1)) ∧ a.extract 0 m = headH a := by
    rcases lastH_in a with h | ⟨i, hi, h⟩
    · exact ⟨0, .inl ⟨h, rfl, by rw [h]; rfl⟩, by unfold headH; rw [h]; rfl⟩
    · exact ⟨i, .inr ⟨h, by omega, hi, by omega⟩, by unfold headH; rw [h]; rfl⟩
  by_cases h4 : (refV (headH a)).2 ≠ 0
  · rw [if_pos h4]
    exact dec_ref h1' a h2 m (hm.imp (fun h => ⟨h.1, h.2.1⟩) (fun h => ⟨h.1, h.2.1, h.2.2.1⟩)) _ hS h4 w
  rw [if_neg h4]
  have h4' : (refV (headH a)).2 = 0 := by omega
  obtain ⟨⟨T1, T2, T3⟩, hT⟩ : ∃ T, tailD p a = T := ⟨_, rfl⟩
  rw [hT]
  dsimp only
  unfold tailD at hT
  by_cases h5 : T3 = 0
  · subst h5
    rw [if_neg (fun h => h rfl)]
    exact dec_layO h1' a h2 m _ hm _ hS h4' T1 T2 hT w
  · rw [if_pos h5]
    exact dec_layB h1' a h2 m _ hm _ hS h4' T1 T2 T3 hT h5 w
end Go.Proofs.Ythjndkjbjflmfaa
