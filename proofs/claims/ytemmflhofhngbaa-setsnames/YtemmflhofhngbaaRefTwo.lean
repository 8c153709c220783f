/- The reference's Not and Meet of the fewest spans. -/
import Derived.Test.YtemmflhofhngbaaM5
import Derived.Test.YtemmflhofhngbaaRefSpans
import Derived.Test.YtemmflhofhngbaaSetConcat
import Derived.BigRegion
namespace Go.Proofs.Ytemmflhofhngbaa
open Go.RowKit Go.Shelf
set_option linter.unusedVariables false
/-- One span more, behind a list that the call owns. -/
theorem append_oneP {w : World} {ops : Array Oper} {rest : List Oper} {o : Oper} {a : Act} {Q : Exit → Act → World → Prop} (hgd : o.guard = none) (s x : Operand)
    (ho : o.op = .call { callee := .builtin .append, args := #[s, x], argTypes := #[30, 30] }) (ht : o.type = 30) (lo : Nat) (v : Value) (zs : List (Int × Int)) (hs : a.eval s = v) (hz : zs.length ≤ 900000) (W : World) (y : Int × Int) (hW : w = W.alloc (.cells #[.int .i32 y.1, .int .i32 y.2] 28)) (hv : W.ownsRow lo 28 2 v zs.length (encP zs)) (hlo : lo ≤ W.heap.size) (n : Nat) (hn : n = W.heap.size) (hx : a.eval x = .slice (some ⟨n, 0, none⟩) 1 1)
    (h : ∀ v' w', w'.ownsRow lo 28 2 v' (zs ++ [y]).length (encP (zs ++ [y])) → Below lo W w' → wpList Try.prog ops Q rest (a.put o.dst v') w') : wpList Try.prog ops Q (o :: rest) a w := by
  subst hW
  subst hn
  have b := Blk.new W #[.int .i32 y.1, .int .i32 y.2] 28
  obtain ⟨v1, W1, hr, hw, hg⟩ := appendP_run (W.alloc (.cells #[.int .i32 y.1, .int .i32 y.2] 28)) lo v zs [y] (some ⟨W.heap.size, 0, none⟩) 1 (by omega) (by simp) (hv.alloc _) (fun _ => ⟨W.heap.size, 0, rfl, b.lt, fun j x hj => by
    match j, hj with
    | 0, hj => simp at hj; subst hj; exact ⟨b.cell 0, b.cell 1⟩
    | j + 1, hj => simp at hj⟩) (by simp; omega)
  refine Lib.wpList_append_run _ hgd s x 30 30 ho v (.slice (some ⟨W.heap.size, 0, none⟩) 1 1) hs hx v1 W1 (by rw [ht]; exact hr) (h v1 W1 hw ?_)
  exact ((Below.refl lo W).alloc hlo _).grown hg (by simp; omega) (fun k e => ((hv.alloc (.cells #[.int .i32 y.1, .int .i32 y.2] 28)).lt k e).1)
end Go.Proofs.Ytemmflhofhngbaa
