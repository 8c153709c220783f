/- Texts of this claim, one behind the other. -/
import Derived.Test.YtbbnppcpjpdpaaaGreatDoorM2
import Derived.ScopeJumps
import Derived.WalkMore
import Derived.Test.YtbbnppcpjpdpaaaGreatDoorM9
import Derived.Deep.RegionWith
import Derived.Deep.RegionLaw
import Derived.Deep.AppendLies
import Derived.OwnWalk
/- A scope in which the run jumps to several labels: what holds at each jump, and a measure that falls. -/
namespace Go.Proofs.YtbbnppcpjpdpaaaGreatDoor
open Go.RowKit Go.Shelf
set_option linter.unusedVariables false
/-- As Q; by a goto to a label: J of that label. -/
def jumps (J : Nat → Act → World → Prop) (Q : Exit → Act → World → Prop) : Exit → Act → World → Prop
  | .goto l, a, w => J l a w
  | e, a, w => Q e a w
theorem wp_scope_many {P : Program} {a : Act} {w : World} {Q : Exit → Act → World → Prop} {c : Code} (J : Nat → Nat → Act → World → Prop)
    (first : c.wp P (jumps (fun l a w => ∃ k, J l k a w) Q) a w)
    (pass : ∀ l k a w, J l k a w → ∃ rest, findLabel c l = some rest ∧ rest.wp P (jumps (fun l' a' w' => ∃ k', k' < k ∧ J l' k' a' w') Q) a w) : (Code.scope c).wp P Q a w := by
  intro b k cs
  have key : ∀ n l a w, J l n a w → ∃ rest, gotoIn l (.inScope c :: k) = some (.code rest :: .inScope c :: k) ∧ ∃ e a' w', Q e a' w' ∧ Arrives P (lone (b.at a (.code rest :: .inScope c :: k)) cs w) b k cs e a' w' := by
    intro n
    induction n using Nat.strongRecOn with
    | _ n ih =>
      intro l a w hJ
      obtain ⟨rest, hf, hp⟩ := pass l n a w hJ
      refine ⟨rest, by simp [gotoIn, hf], ?_⟩
      obtain ⟨e, a₁, w₁, hq, harr⟩ := hp b (.inScope c :: k) cs
      cases e with
      | normal => exact ⟨.normal, a₁, w₁, hq, Steps.trans harr (.one step_inScope)⟩
      | exit id => exact ⟨.exit id, a₁, w₁, hq, fun k' hk => harr k' (by simp [exitTo, hk])⟩
      | goto l' =>
        obtain ⟨k', hlt, hJ'⟩ := hq
        obtain ⟨rest', hg, e₂, a₂, w₂, hq₂, harr₂⟩ := ih k' hlt l' a₁ w₁ hJ'
        exact ⟨e₂, a₂, w₂, hq₂, .of_steps (harr _ hg) harr₂⟩
      | ret => exact ⟨_, a₁, w₁, hq, harr⟩
      | panic ch => exact ⟨_, a₁, w₁, hq, harr⟩
      | outgrown => exact ⟨_, a₁, w₁, hq, harr⟩
  obtain ⟨e, a₁, w₁, hq, harr⟩ := first b (.inScope c :: k) cs
  cases e with
  | normal => exact ⟨.normal, a₁, w₁, hq, .head step_scope (Steps.trans harr (.one step_inScope))⟩
  | exit id => exact ⟨.exit id, a₁, w₁, hq, fun k' hk => .head step_scope (harr k' (by simp [exitTo, hk]))⟩
  | goto l' =>
    obtain ⟨k', hq⟩ := hq
    obtain ⟨rest', hg, e₂, a₂, w₂, hq₂, harr₂⟩ := key k' l' a₁ w₁ hq
    exact ⟨e₂, a₂, w₂, hq₂, .of_steps (.head step_scope (harr _ hg)) harr₂⟩
  | ret => exact ⟨_, a₁, w₁, hq, .of_steps (.one step_scope) harr⟩
  | panic ch => exact ⟨_, a₁, w₁, hq, .of_steps (.one step_scope) harr⟩
  | outgrown => exact ⟨_, a₁, w₁, hq, .of_steps (.one step_scope) harr⟩
theorem jumps_mono {P : Program} {c : Code} {J J' : Nat → Act → World → Prop} {Q : Exit → Act → World → Prop} {a : Act} {w : World} (h : c.wp P (jumps J Q) a w) (hJ : ∀ l a w, J l a w → J' l a w) : c.wp P (jumps J' Q) a w := by
  refine wp_mono h ?_
  intro e a' w' he
  cases e <;> first | exact hJ _ _ _ he | exact he
/-- The run comes to the labels 0 and 5 from above, too. -/
theorem wp_scope_cut {P : Program} {a : Act} {w : World} {Q : Exit → Act → World → Prop} {c : Code} (J : Nat → Nat → Act → World → Prop)
    (zero : ∃ X, findLabel c 0 = some (Code.skip.seq X) ∧ (∀ k a w, J 0 k a w → X.wp P (jumps (fun l' a' w' => ∃ k', k' < k ∧ J l' k' a' w') Q) a w) ∧ ((∀ k a w, J 0 k a w → X.wp P (jumps (fun l a w => ∃ k, J l k a w) Q) a w) → c.wp P (jumps (fun l a w => ∃ k, J l k a w) Q) a w))
    (five : ∃ X, findLabel c 5 = some (Code.skip.seq X) ∧ (∀ k a w, J 5 k a w → X.wp P (jumps (fun l' a' w' => ∃ k', k' < k ∧ J l' k' a' w') Q) a w) ∧ ((∀ k a w, J 5 k a w → X.wp P (jumps (fun l' a' w' => ∃ k', k' < k ∧ J l' k' a' w') Q) a w) → ∀ k a w, J 6 k a w → ∃ rest, findLabel c 6 = some rest ∧ rest.wp P (jumps (fun l' a' w' => ∃ k', k' < k ∧ J l' k' a' w') Q) a w))
    (pass : ∀ l k a w, l ≠ 4 → l ≠ 5 → J (l + 1) k a w → ∃ rest, findLabel c (l + 1) = some rest ∧ rest.wp P (jumps (fun l' a' w' => ∃ k', k' < k ∧ J l' k' a' w') Q) a w) : (Code.scope c).wp P Q a w := by
  obtain ⟨X, hf, hz, hfirst⟩ := zero
  obtain ⟨X5, hf5, hz5, h6⟩ := five
  refine wp_scope_many J (hfirst fun k a w h => jumps_mono (hz k a w h) (fun l a w ⟨k', _, hk⟩ => ⟨k', hk⟩)) ?_
  intro l k a w h
  cases l with
  | zero => exact ⟨_, hf, wp_seq (wp_skip (hz k a w h))⟩
  | succ l =>
    by_cases h4 : l = 4
    · subst h4; exact ⟨_, hf5, wp_seq (wp_skip (hz5 k a w h))⟩
    · by_cases h5 : l = 5
      · subst h5; exact h6 hz5 k a w h
      · exact pass l k a w h4 h5 h
end Go.Proofs.YtbbnppcpjpdpaaaGreatDoor
/- cut: the words of a text, its walk. -/
namespace Go.Proofs.YtbbnppcpjpdpaaaGreatDoor
open Go.RowKit Go.Shelf
set_option linter.unusedVariables false
theorem own_keep {W W' : World} {lo k E sz n : Nat} {v : Value} {xs : List Value} (h : W.ownsRow lo E sz v n xs) (hg : W.grownBy W' (some k)) (hk : k < lo) : W'.ownsRow lo E sz v n xs := by
  refine h.kept hg ?_
  cases hv : v.ownBlock with
  | none => exact .inl rfl
  | some j => exact .inr (fun e => by have := (h.lt j hv).1; simp at e; omega)
theorem prod3 (z : Nat × Nat × Bool) : ∃ y n o, z = (y, n, o) := ⟨z.1, z.2.1, z.2.2, rfl⟩
/-- What the walk stands on. -/
structure CutSt (w W : World) (C : Nat) (s : ByteArray) (b : Nat) (x : Nat × Nat) (v : Value) (ws : List Wd) (cs : Array Value) : Prop where
  blk : Blk W C (ctrC s b x.1 x.2 v) 113
  box : Blk W w.heap.size cs 124
  own : W.ownsRow (w.heap.size + 1) 124 8 v ws.length (encWs ws)
  gr : w.grownBy W (some C)
  lt : C < w.heap.size
theorem CutSt.below {w W W' : World} {C : Nat} {s : ByteArray} {b : Nat} {x : Nat × Nat} {v : Value} {ws : List Wd} {cs : Array Value} (h : CutSt w W C s b x v ws cs) (hb : Below W.heap.size W W') : CutSt w W' C s b x v ws cs :=
  ⟨h.blk.below hb h.blk.lt, h.box.below hb h.box.lt, own_keep h.own ⟨hb.os, hb.tape, hb.output, hb.size, fun k hk _ => hb.block k hk⟩ (k := 0) (by omega), h.gr.trans ⟨hb.os, hb.tape, hb.output, hb.size, fun k hk _ => hb.block k hk⟩, h.lt⟩
theorem CutSt.drew {w W : World} {C : Nat} {s : ByteArray} {b : Nat} {x : Nat × Nat} {v : Value} {ws : List Wd} {cs : Array Value} (h : CutSt w W C s b x v ws cs) (q : Nat) : CutSt w (W.drewN q) C s b x v ws cs :=
  h.below ⟨rfl, rfl, rfl, Nat.le_refl _, fun _ _ => rfl⟩
theorem CutSt.drew1 {w W : World} {C : Nat} {s : ByteArray} {b : Nat} {x : Nat × Nat} {v : Value} {ws : List Wd} {cs : Array Value} (h : CutSt w W C s b x v ws cs) : CutSt w W.drew C s b x v ws cs :=
  h.below ⟨rfl, rfl, rfl, Nat.le_refl _, fun _ _ => rfl⟩
theorem CutSt.pass {w W W' : World} {C : Nat} {s : ByteArray} {b : Nat} {x : Nat × Nat} {v : Value} {ws : List Wd} {cs : Array Value} (h : CutSt w W C s b x v ws cs) {b' : Nat} {x' : Nat × Nat} (hb : Blk W' C (ctrC s b' x'.1 x'.2 v) 113) (hg : W.grownBy W' (some C)) : CutSt w W' C s b' x' v ws cs := by
  have hl := h.lt
  exact ⟨hb, h.box.kept hg (fun e => by simp at e; omega), own_keep h.own hg (by omega), h.gr.trans hg, h.lt⟩
theorem CutSt.set {w W : World} {C : Nat} {s : ByteArray} {b : Nat} {x : Nat × Nat} {v : Value} {ws : List Wd} {cs : Array Value} (h : CutSt w W C s b x v ws cs) (i : Nat) (u : Value) : CutSt w (W.setCell ⟨w.heap.size, i, none⟩ u) C s b x v ws (cs.setIfInBounds i u) := by
  have hl := h.lt
  exact ⟨h.blk.other (by omega) _, h.box.set i u, own_keep h.own (grown_setCell' W ⟨w.heap.size, i, none⟩ u) (by show w.heap.size < _; omega), h.gr.andThen (grown_setCell' W ⟨w.heap.size, i, none⟩ u) (fun j hj => by cases hj; exact .inl (Nat.le_refl _)), h.lt⟩
theorem CutSt.as {w W : World} {C : Nat} {s : ByteArray} {b : Nat} {x : Nat × Nat} {v : Value} {ws : List Wd} {cs cs' : Array Value} (h : CutSt w W C s b x v ws cs) (e : cs = cs') : CutSt w W C s b x v ws cs' := e ▸ h
theorem CutSt.app {w W W2 : World} {C : Nat} {s : ByteArray} {b : Nat} {x : Nat × Nat} {v : Value} {ws : List Wd} {cs : Array Value} {tmp : Obj} (h : CutSt w W C s b x v ws cs) (hg : (W.alloc tmp).drew.grownBy W2 v.ownBlock) : Blk W2 C (ctrC s b x.1 x.2 v) 113 ∧ Blk W2 w.heap.size cs 124 := by
  have hl := h.lt
  have hne : ∀ k, k ≤ w.heap.size → some k ≠ v.ownBlock := fun k hk e => by have := (h.own.lt k e.symm).1; omega
  have hg' : (W.alloc tmp).grownBy W2 v.ownBlock := ⟨hg.os, hg.tape, hg.output, hg.size, hg.block⟩
  exact ⟨(h.blk.alloc tmp).kept hg' (hne C (by omega)), (h.box.alloc tmp).kept hg' (hne _ (Nat.le_refl _))⟩
theorem CutSt.push {w W W2 : World} {C : Nat} {s : ByteArray} {b : Nat} {x : Nat × Nat} {v v' : Value} {ws : List Wd} {cs : Array Value} {tmp : Obj} {X : Wd} (h : CutSt w W C s b x v ws cs) (hg : (W.alloc tmp).drew.grownBy W2 v.ownBlock) (ho : W2.ownsRow (w.heap.size + 1) 124 8 v' (ws.length + 1) (encWs ws ++ wdCells X)) :
    CutSt w (W2.setCell ⟨C, 4, none⟩ v') C s b x v' (ws ++ [X]) cs := by
  have hl := h.lt
  obtain ⟨h1, h2⟩ := h.app hg
  have hg' : (W.alloc tmp).grownBy W2 v.ownBlock := ⟨hg.os, hg.tape, hg.output, hg.size, hg.block⟩
  have gr1 : w.grownBy W2 (some C) := (h.gr.trans (World.grownBy_alloc _ _ _)).andThen hg' (fun j hj => .inl (by have := (h.own.lt j hj).1; omega))
  refine ⟨h1.set 4 v', h2.other (by omega) _, ?_, gr1.trans (grown_setCell' W2 ⟨C, 4, none⟩ v'), hl⟩
  rw [List.length_append, encWs_snoc]
  exact own_keep ho (grown_setCell' W2 ⟨C, 4, none⟩ v') (by show C < _; omega)
theorem infoWord : (Tryz.prog.info? 124).map (fun i => (i.zero, i.size, i.bytes)) = some (some (.agg #[.int .i64 0, .string ⟨#[]⟩, .int .i32 0, .int .i64 0, .int .i64 0, .int .i64 0, .int .i64 0, .int .i64 0]), 8, 72) := by kernel_rfl
end Go.Proofs.YtbbnppcpjpdpaaaGreatDoor
