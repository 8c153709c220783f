/- The marks that ranges over functions leave among the deferred calls: several of them, and how a function leaves behind them. -/
import Derived.Test.YtemmflhofhngbaaFirst
namespace Go.Proofs.Ytemmflhofhngbaa
open Go.RowKit Go.Shelf
set_option linter.unusedVariables false

/-- Marks, each above the next one, all of them open. -/
def Marks (lo : Nat) (W : World) : Nat → List Deferred → Prop
  | _, [] => True
  | hi, d :: ds => ∃ D, lo ≤ D ∧ D < hi ∧ d = { target := .collected D, args := #[] } ∧ W.heap[D]? = some (.deferred (some [])) ∧ Marks lo W D ds
theorem Marks.keep {lo : Nat} {W W' : World} : ∀ {ds : List Deferred} {hi : Nat}, Marks lo W hi ds → (∀ k, k < hi → W.heap[k]? = some (.deferred (some [])) → W'.heap[k]? = some (.deferred (some []))) → Marks lo W' hi ds
  | [], _, _, _ => trivial
  | d :: ds, hi, h, hk => by
    obtain ⟨D, h1, h2, h3, h4, h5⟩ := h
    exact ⟨D, h1, h2, h3, hk D h2 h4, Marks.keep h5 (fun k hlt he => hk k (by omega) he)⟩
theorem Marks.mono {lo : Nat} {W : World} {hi hi' : Nat} : ∀ {ds : List Deferred}, Marks lo W hi ds → hi ≤ hi' → Marks lo W hi' ds
  | [], _, _ => trivial
  | d :: ds, ⟨D, h1, h2, h⟩, hl => ⟨D, h1, by omega, h⟩
theorem Marks.others {lo : Nat} {W W' : World} {ds : List Deferred} {hi : Nat} (h : Marks lo W hi ds) (k : KeepsOthers W W') : Marks lo W' hi ds := h.keep (fun j _ he => k.same j _ he rfl)
theorem Marks.below {lo : Nat} {W W' : World} {ds : List Deferred} {hi : Nat} (h : Marks lo W hi ds) (k : Below W.heap.size W W') : Marks lo W' hi ds := h.keep (fun j _ he => by
  have hl := (Array.getElem?_eq_some_iff.1 he).1
  rw [k.block j hl]; exact he)
theorem Marks.own {β : Type} {lo hi B : Nat} {ds : List Deferred} (hB : hi ≤ B) : OwnFrom B (fun (_ : β) W => Marks lo W hi ds) := fun s W W' row hs hg hr => hs.keep (fun k hk he => by
  have hl := (Array.getElem?_eq_some_iff.1 he).1
  rw [hg.block k hl (fun e => by have := (hr k e.symm).1; omega)]; exact he)
theorem Marks.push {lo : Nat} {W : World} {ds : List Deferred} {hi D : Nat} (h : Marks lo W hi ds) (hD : hi ≤ D) (hlo : lo ≤ D) (hm : W.heap[D]? = some (.deferred (some []))) : Marks lo W W.heap.size ({ target := .collected D, args := #[] } :: ds) :=
  ⟨D, hlo, (Array.getElem?_eq_some_iff.1 hm).1, rfl, hm, h.mono hD⟩

theorem leaves_marks {F : Fence} {n : Nat} {P : Program} {fn : Func} {tmps : Array Value} {R : Ending → World → Prop} {w : World} {B : Nat} {cs : Array Value} {t : TypeId} :
    ∀ (ds : List Deferred) (hi : Nat) (W : World), Marks w.heap.size W hi ds → Blk W B cs t → Below w.heap.size w W → (∀ W', Blk W' B cs t → Below w.heap.size w W' → LeavesInM F n P fn tmps R [] .returning W') → LeavesInM F n P fn tmps R ds .returning W
  | [], _, W, _, hb, hB, h => h W hb hB
  | d :: ds, hi, W, hm, hb, hB, h => by
    obtain ⟨D, h1, h2, rfl, h4, h5⟩ := hm
    refine ⟨by simp, .inl ⟨D, _, rfl, run_takeDeferred h4, ?_⟩⟩
    refine leaves_marks ds D _ (h5.keep (fun k hk he => (World.putObj_heap_other (by omega)).trans he)) (hb.put (.deferred none) h4 rfl) (hB.trans (belowK_b (w := w) (Nat.le_refl _) W D _ _ h1 h4 rfl rfl)) h
end Go.Proofs.Ytemmflhofhngbaa
