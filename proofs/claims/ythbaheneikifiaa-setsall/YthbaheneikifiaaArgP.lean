/- A list of spans that was handed in: how it lies in memory, and how much it holds. -/
import Derived.Test.YthbaheneikifiaaRows
import Derived.Test.YthbaheneikifiaaSetRight
import Derived.ProofKit
import Derived.OpenShut
import Derived.ChangeOld
import Derived.Deep.SlicePairs
namespace Go.Proofs.Ythbaheneikifiaa
open Go.RowKit Go.Shelf Go.ChangeShapes Go.Deep
set_option linter.unusedVariables false
theorem laidOut : laidOutB Try.prog = true := by kernel_rfl
theorem bulk_pairs {H : Type} (D : Nat → DataW H) (n : Nat) : n ≤ Rows.uptoBulkAll ((List.range n).map D) := by
  have key : ∀ l : List (DataW H), l.length ≤ Rows.uptoBulkAll l := by
    intro l
    induction l with
    | nil => simp [Rows.uptoBulkAll]
    | cons d l ih =>
      have : 1 ≤ Rows.uptoBulk d := by
        unfold Rows.uptoBulk
        split <;> omega
      simp only [Rows.uptoBulkAll, List.length_cons]
      omega
  simpa using key ((List.range n).map D)
theorem fit_wf {n : Int} (h : (Lit.int .i32 n).wf = true) : -2147483648 ≤ n ∧ n ≤ 2147483647 := by
  simp [Lit.wf, IntKind.min, IntKind.max, IntKind.signed, IntKind.bits] at h
  omega
theorem arg_rowP {H : Type} {enc : TypeId × Value → H} {W : World} {a : Option Addr} {len cap : Nat} {d : DataW H} {p : List MemPlace}
    (h : DataW.Trod enc Try.prog W 0 (fun _ => true) true 65 (.slice a len cap) d p) : ∃ zs : List (Int × Int), len = zs.length ∧ RowP W a zs ∧ (∀ x ∈ zs, fitB x) ∧ zs.length ≤ Rows.uptoBulk d ∧ zs.length ≤ cap := by
  obtain ⟨fuel, hf⟩ := h
  rcases open_slice_pairs Try.underlying65 Try.underlying63 (by kernel_rfl) rfl rfl (by kernel_rfl) (by kernel_rfl) hf with ⟨hcs, hx⟩ | ⟨x, l, c, m, n, V0, V1, D0, D1, P0, P1, hcs, _, hl, hm, hmm, hx, hc⟩
  · simp [Value.cells] at hcs
    obtain ⟨rfl, rfl, rfl⟩ := hcs
    exact ⟨[], rfl, fun h => by simp at h, by simp, by simp, by simp⟩
  · simp [Value.cells] at hcs
    obtain ⟨rfl, rfl, rfl⟩ := hcs
    simp only [if_true] at hmm
    subst hmm
    have each : ∀ i, i < len → ∃ z : Int × Int, V0 i = .int .i32 z.1 ∧ V1 i = .int .i32 z.2 ∧ fitB z := fun i hi => by
      obtain ⟨_, _, t0, t1⟩ := hc i (by omega)
      obtain ⟨z0, e0, _, w0⟩ := DataW.trod_int Try.underlying21 t0
      obtain ⟨z1, e1, _, w1⟩ := DataW.trod_int Try.underlying21 t1
      simp at e0 e1
      exact ⟨(z0, z1), e0, e1, fit_wf w0, fit_wf w1⟩
    obtain ⟨Z, hZ⟩ := choose_lt each
    refine ⟨(List.range len).map Z, by simp, fun h0 => ?_, ?_, ?_, by simpa using hl⟩
    · simp at h0
      obtain ⟨b, off, spot⟩ := x
      have hc0 := (hc 0 (by omega)).1
      have hspot : spot = none := by simpa [Addr.add] using World.cell?_spot hc0
      subst hspot
      refine ⟨b, off, rfl, by have := cell_lt hc0; simpa [Addr.add] using this, fun j x hj => ?_⟩
      have hjl := (List.getElem?_eq_some_iff.1 hj).1
      simp at hjl
      simp [hjl] at hj
      subst hj
      have h1 := (hc j (by omega)).1
      have h2 := (hc j (by omega)).2.1
      rw [show (⟨b, off, none⟩ : Addr).add (j * 2) = ⟨b, off + j * 2, none⟩ by unfold Addr.add; split <;> simp_all, (hZ j hjl).1] at h1
      rw [show (⟨b, off, none⟩ : Addr).add (j * 2 + 1) = ⟨b, off + j * 2 + 1, none⟩ by unfold Addr.add; split <;> simp_all [Nat.add_assoc], (hZ j hjl).2.1] at h2
      exact ⟨h1, h2⟩
    · intro x hx
      obtain ⟨i, hi, rfl⟩ := List.mem_map.1 hx
      exact (hZ i (List.mem_range.1 hi)).2.2
    · have hd := congrArg Prod.fst hx
      simp only at hd
      rw [hd]
      have h1 := bulk_pairs (fun i => DataW.agg [D0 i, D1 i]) len
      simp only [Rows.uptoBulk, List.length_map, List.length_range]
      omega
end Go.Proofs.Ythbaheneikifiaa
