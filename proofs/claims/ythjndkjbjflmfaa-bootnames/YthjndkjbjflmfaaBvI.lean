/- A Params that was handed in. -/
import Derived.Test.YthjndkjbjflmfaaBvH
import Derived.Lib.SmallJoins
import Derived.OpenShut
import Derived.ChangeArms
namespace Go.Proofs.Ythjndkjbjflmfaa
open Go.RowKit Go.Shelf Go.WideShapes Go.ChangeShapes
set_option linter.unusedVariables false
theorem laidOut : laidOutB Try.prog = true := by kernel_rfl
theorem array7 {α : Type} {cs : Array α} (h : cs.size = 7) : ∃ c0 c1 c2 c3 c4 c5 c6, cs = #[c0, c1, c2, c3, c4, c5, c6] := by
  obtain ⟨l⟩ := cs
  match l, h with
  | [c0, c1, c2, c3, c4, c5, c6], _ => exact ⟨c0, c1, c2, c3, c4, c5, c6, rfl⟩
set_option maxRecDepth 100000 in
theorem open_par {H : Type} {enc : TypeId × Value → H} {W : World} {base : Nat} {spare : Nat → Bool} {held : Bool} {r : Reach} {b0 : Nat} {v : Value} {d : DataW H} {p : List MemPlace} (hv : Value.okWide Try.prog W r b0 26 v) (h : DataW.Trod enc Try.prog W base spare held 26 v d p) : ∃ pm : Pm, v = .agg (cellsP pm) := by
  obtain ⟨cs, rfl, hsz⟩ := okWide_struct Try.underlying26 hv
  obtain ⟨c0, c1, c2, c3, c4, c5, c6, rfl⟩ := array7 (hsz.trans (by kernel_rfl))
  obtain ⟨fuel, hf0⟩ := h
  obtain ⟨xs, n, _, _, hl, hlen, hf⟩ := DataW.trod_struct Try.underlying26 hf0
  have k3 : Try.prog.cellsOf 3 = 1 := by kernel_rfl
  have k21 : Try.prog.cellsOf 21 = 1 := by kernel_rfl
  have h0 := hf 0 _ rfl
  have h1 := hf 1 _ rfl
  have h2 := hf 2 _ rfl
  have h3 := hf 3 _ rfl
  have h4 := hf 4 _ rfl
  have h5 := hf 5 _ rfl
  have h6 := hf 6 _ rfl
  simp [k3, k21, Value.cells] at h0 h1 h2 h3 h4 h5 h6
  obtain ⟨a0, e0, -, -⟩ := DataW.trod_int (x := xs[0]'(by rw [hlen]; decide)) Try.underlying3 (by rw [h0]; exact List.getElem?_eq_getElem _)
  obtain ⟨a1, e1, -, -⟩ := DataW.trod_int (x := xs[1]'(by rw [hlen]; decide)) Try.underlying3 (by rw [h1]; exact List.getElem?_eq_getElem _)
  obtain ⟨a2, e2, -, -⟩ := DataW.trod_int (x := xs[2]'(by rw [hlen]; decide)) Try.underlying3 (by rw [h2]; exact List.getElem?_eq_getElem _)
  obtain ⟨a3, e3, -, -⟩ := DataW.trod_int (x := xs[3]'(by rw [hlen]; decide)) Try.underlying3 (by rw [h3]; exact List.getElem?_eq_getElem _)
  obtain ⟨a4, e4, -, -⟩ := DataW.trod_int (x := xs[4]'(by rw [hlen]; decide)) Try.underlying3 (by rw [h4]; exact List.getElem?_eq_getElem _)
  obtain ⟨a5, e5, -, -⟩ := DataW.trod_int (x := xs[5]'(by rw [hlen]; decide)) Try.underlying3 (by rw [h5]; exact List.getElem?_eq_getElem _)
  obtain ⟨a6, e6, -, -⟩ := DataW.trod_int (x := xs[6]'(by rw [hlen]; decide)) Try.underlying21 (by rw [h6]; exact List.getElem?_eq_getElem _)
  cases e0; cases e1; cases e2; cases e3; cases e4; cases e5; cases e6
  exact ⟨⟨a0, a1, a2, a3, a4, a5, a6⟩, rfl⟩
end Go.Proofs.Ythjndkjbjflmfaa
