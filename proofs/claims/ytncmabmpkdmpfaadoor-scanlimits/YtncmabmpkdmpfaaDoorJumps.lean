/- A scope in which the run jumps to several labels: what holds at each jump, and a measure that falls. -/
import Derived.Test.YtncmabmpkdmpfaaDoorFirst
import Derived.ScopeJumps
import Derived.WalkMore
namespace Go.Proofs.YtncmabmpkdmpfaaDoor
open Go.RowKit Go.Shelf
set_option linter.unusedVariables false
/-- As Q; by a goto to a label: J of that label. -/
def jumps (J : Nat → Act → World → Prop) (Q : Exit → Act → World → Prop) : Exit → Act → World → Prop
  | .goto l, a, w => J l a w
  | e, a, w => Q e a w
theorem wp_scope_many {P : Program} {a : Act} {w : World} {Q : Exit → Act → World → Prop} {c : Code} (J : Nat → Nat → Act → World → Prop)
    (first : c.wp P (jumps (fun l a w => ∃ k, J l k a w) Q) a w)
    (pass : ∀ l k a w, J l k a w → ∃ rest, findLabel c l = some rest ∧ rest.wp P (jumps (fun l' a' w' => ∃ k', k' < k ∧ J l' k' a' w') Q) a w) : (Code.scope c).wp P Q a w := by
  intro b k cs
  have key : ∀ n l a w, J l n a w → ∃ rest, gotoIn l (.inScope c :: k) = some (.code rest :: .inScope c :: k) ∧ ∃ e a' w', Q e a' w' ∧ Arrives P (lone (b.at a (.code rest :: .inScope c :: k)) cs w) b k cs e a' w' := by
    intro n
    induction n using Nat.strongRecOn with
    | _ n ih =>
      intro l a w hJ
      obtain ⟨rest, hf, hp⟩ := pass l n a w hJ
      refine ⟨rest, by simp [gotoIn, hf], ?_⟩
      obtain ⟨e, a₁, w₁, hq, harr⟩ := hp b (.inScope c :: k) cs
      cases e with
      | normal => exact ⟨.normal, a₁, w₁, hq, Steps.trans harr (.one step_inScope)⟩
      | exit id => exact ⟨.exit id, a₁, w₁, hq, fun k' hk => harr k' (by simp [exitTo, hk])⟩
      | goto l' =>
        obtain ⟨k', hlt, hJ'⟩ := hq
        obtain ⟨rest', hg, e₂, a₂, w₂, hq₂, harr₂⟩ := ih k' hlt l' a₁ w₁ hJ'
        exact ⟨e₂, a₂, w₂, hq₂, .of_steps (harr _ hg) harr₂⟩
      | ret => exact ⟨_, a₁, w₁, hq, harr⟩
      | panic ch => exact ⟨_, a₁, w₁, hq, harr⟩
      | outgrown => exact ⟨_, a₁, w₁, hq, harr⟩
  obtain ⟨e, a₁, w₁, hq, harr⟩ := first b (.inScope c :: k) cs
  cases e with
  | normal => exact ⟨.normal, a₁, w₁, hq, .head step_scope (Steps.trans harr (.one step_inScope))⟩
  | exit id => exact ⟨.exit id, a₁, w₁, hq, fun k' hk => .head step_scope (harr k' (by simp [exitTo, hk]))⟩
  | goto l' =>
    obtain ⟨k', hq⟩ := hq
    obtain ⟨rest', hg, e₂, a₂, w₂, hq₂, harr₂⟩ := key k' l' a₁ w₁ hq
    exact ⟨e₂, a₂, w₂, hq₂, .of_steps (.head step_scope (harr _ hg)) harr₂⟩
  | ret => exact ⟨_, a₁, w₁, hq, .of_steps (.one step_scope) harr⟩
  | panic ch => exact ⟨_, a₁, w₁, hq, .of_steps (.one step_scope) harr⟩
  | outgrown => exact ⟨_, a₁, w₁, hq, .of_steps (.one step_scope) harr⟩
theorem jumps_mono {P : Program} {c : Code} {J J' : Nat → Act → World → Prop} {Q : Exit → Act → World → Prop} {a : Act} {w : World} (h : c.wp P (jumps J Q) a w) (hJ : ∀ l a w, J l a w → J' l a w) : c.wp P (jumps J' Q) a w := by
  refine wp_mono h ?_
  intro e a' w' he
  cases e <;> first | exact hJ _ _ _ he | exact he
/-- The run comes to the labels 0 and 5 from above, too. -/
theorem wp_scope_cut {P : Program} {a : Act} {w : World} {Q : Exit → Act → World → Prop} {c : Code} (J : Nat → Nat → Act → World → Prop)
    (zero : ∃ X, findLabel c 0 = some (Code.skip.seq X) ∧ (∀ k a w, J 0 k a w → X.wp P (jumps (fun l' a' w' => ∃ k', k' < k ∧ J l' k' a' w') Q) a w) ∧ ((∀ k a w, J 0 k a w → X.wp P (jumps (fun l a w => ∃ k, J l k a w) Q) a w) → c.wp P (jumps (fun l a w => ∃ k, J l k a w) Q) a w))
    (five : ∃ X, findLabel c 5 = some (Code.skip.seq X) ∧ (∀ k a w, J 5 k a w → X.wp P (jumps (fun l' a' w' => ∃ k', k' < k ∧ J l' k' a' w') Q) a w) ∧ ((∀ k a w, J 5 k a w → X.wp P (jumps (fun l' a' w' => ∃ k', k' < k ∧ J l' k' a' w') Q) a w) → ∀ k a w, J 6 k a w → ∃ rest, findLabel c 6 = some rest ∧ rest.wp P (jumps (fun l' a' w' => ∃ k', k' < k ∧ J l' k' a' w') Q) a w))
    (pass : ∀ l k a w, l ≠ 4 → l ≠ 5 → J (l + 1) k a w → ∃ rest, findLabel c (l + 1) = some rest ∧ rest.wp P (jumps (fun l' a' w' => ∃ k', k' < k ∧ J l' k' a' w') Q) a w) : (Code.scope c).wp P Q a w := by
  obtain ⟨X, hf, hz, hfirst⟩ := zero
  obtain ⟨X5, hf5, hz5, h6⟩ := five
  refine wp_scope_many J (hfirst fun k a w h => jumps_mono (hz k a w h) (fun l a w ⟨k', _, hk⟩ => ⟨k', hk⟩)) ?_
  intro l k a w h
  cases l with
  | zero => exact ⟨_, hf, wp_seq (wp_skip (hz k a w h))⟩
  | succ l =>
    by_cases h4 : l = 4
    · subst h4; exact ⟨_, hf5, wp_seq (wp_skip (hz5 k a w h))⟩
    · by_cases h5 : l = 5
      · subst h5; exact h6 hz5 k a w h
      · exact pass l k a w h4 h5 h
end Go.Proofs.YtncmabmpkdmpfaaDoor
