/- A region that draws its order and only reads, inside a round of a range over a function: one walk of the text's order serves every order. -/
import Derived.Test.YtnphbjhikapoeaaIter
import Derived.Sort.QuietTacIn
namespace Go.Proofs.Ytnphbjhikapoeaa
open Go.RowKit Go.Shelf
set_option linter.unusedVariables false

def noDefer (o : Oper) : Bool := match o.op with | .defer _ => false | _ => true
theorem noDefer_ne {o : Oper} (h : noDefer o = true) (c : _) : o.op ≠ .defer c := fun e => by simp [noDefer, e] at h

section
variable {F : Fence} {n : Nat} {P : Program} {ops : Array Oper} {C : World → Prop}

theorem oper_round {o : Oper} {a : Act} {K : Act → Prop} {K' : Act → World → Prop} {Q' : Exit → Act → World → Prop} {w : World} (hd : noDefer o = true) (hw : C w) (h : ∀ a w', C w' → K a → K' a w')
    (ha : o.askedIn F P a C) (hh : o.quietIn F n P a C K) : o.wpIn F n P a w K' Q' := by
  obtain ⟨v, hv, hk⟩ := hh
  have hq : Oper.quietUponIn F n P C w v ((execOp a.eval o).run P w) := hv w hw
  unfold Oper.wpIn
  rw [Oper.semAt_eq _ _ _ (noDefer_ne hd)]
  refine ⟨ha w hw, ?_⟩
  match hr : (execOp a.eval o).run P w, hq with
  | .ok (.value u) w', hq => obtain ⟨rfl, rfl⟩ := hq; exact h _ _ hw hk
  | .ok .skip w', hq => obtain ⟨rfl, rfl⟩ := hq; exact h _ _ hw hk
  | .ok (.enter f args) w', hq =>
    obtain ⟨rfl, h1, h2⟩ := hq
    refine ⟨h1, h2.mono ?_⟩
    rintro e w2 ⟨rfl, hc⟩
    exact h _ _ hc hk

theorem any_round {Q : Act → Prop} {Q' : Exit → Act → World → Prop} (hd : ∀ (i : Nat) (o : Oper), ops[i]? = some o → noDefer o = true) (hQ : ∀ a w, C w → Q a → Q' .normal a w) : ∀ (fuel : Nat) (listed : Array Bool) (a : Act) (w : World), C w →
    wpAnyQIn F n P .any ops C Q fuel listed a → wpAnyIn F n P .any ops Q' fuel listed a w
  | 0, _, _, _, hw, h => ⟨h.1, hQ _ _ hw h.2⟩
  | fuel + 1, listed, a, w, hw, h => by
    refine ⟨fun h0 => hQ _ _ hw (h.1 h0), fun i hi => ?_⟩
    have hi' := h.2 i hi
    have next : ∀ a' w', C w' → wpAnyQIn F n P .any ops C Q fuel (listed.setIfInBounds i true) a' → wpAnyIn F n P .any ops Q' fuel (listed.setIfInBounds i true) a' w' := fun a' w' hw' => any_round hd hQ fuel _ a' w' hw'
    unfold qOpIn at hi'
    unfold wpOpIn
    cases ho : ops[i]? with
    | none => simp only [ho] at hi'; exact next _ _ hw hi'
    | some o =>
      simp only [ho] at hi'
      obtain ⟨h1, h2⟩ := hi'
      by_cases hwt : Region.wanted o (yielded ops a.tmps) = true
      · simp only [hwt, if_true] at h2 ⊢
        exact oper_round (hd i o ho) hw next h1 h2
      · simp only [hwt] at h2 ⊢
        exact ⟨h1 w hw, next _ _ hw h2⟩

/-- At the class 'the world behind some draws'. -/
theorem region_round {id : Nat} {Q : Exit → Act → World → Prop} {a : Act} {w : World} {l : List Oper} (hm : P.follows .mixedOrders = true) (hB : Region.lexB .any l.toArray = true) (hd : l.all noDefer = true)
    (h : wpQuietIn F n P l.toArray (fun w' => ∃ n, w' = w.drewN n) (fun a' => ∀ w', (∃ n, w' = w.drewN n) → Q .normal a' w') l a) : (Code.region id l.toArray true).wpIn F n P Q a w := by
  simp only [Region.lexB, Bool.and_eq_true] at hB
  refine wpIn_region_any hm (any_round (Q := fun a' => ∀ w', (∃ n, w' = w.drewN n) → Q .normal a' w') (C := fun w' => ∃ n, w' = w.drewN n) (fun i o ho => ?_) (fun _ w' hw' h => h w' hw') _ _ _ _ ⟨1, rfl⟩ ?_)
  · rw [List.getElem?_toArray] at ho
    exact List.all_eq_true.1 hd o (List.mem_of_getElem? ho)
  · have := wpAnyQIn_lex (F := F) (n := n) (C := fun w' => ∃ n, w' = w.drewN n) (md := .any) hB.1 l 0 (Array.replicate l.toArray.size false) a (by simp) (by simpa using hB.2) h
    simpa using this
end
end Go.Proofs.Ytnphbjhikapoeaa
