/- RulesJoins, second form: for any two texts, any table and any list of numbers (together of at most so many cells as the form says) the law answers true: of two texts behind one another the lists are both's, and rows printed one list at a time may stand in any order. Tied: nothing is said of the packages that the seat's copy leaves out. -/
import Derived.Test.YtjgfmobmilgapaaGreatDoorRows
import Derived.Test.YtjgfmobmilgapaaGreatDoorCards
import Derived.Test.YtjgfmobmilgapaaGreatDoorTie
import Derived.Test.YtjgfmobmilgapaaGreatDoorM20
import Derived.Test.YtjgfmobmilgapaaGreatDoorJnH
import Derived.Test.YtjgfmobmilgapaaGreatDoorM31
import Derived.Test.YtjgfmobmilgapaaGreatDoorRmE
import Derived.WalkKit
import Derived.ProofKit
import Derived.OpenShut
import Derived.ShutString
import Derived.LaidMore
import Derived.Lay
import Derived.LaidHandle
import Derived.Deep.DeepHandedRow
import Derived.Deep.DeepWitnessRowRef
import Derived.SevenTiedAt
import Derived.Stop.Joined
namespace Go.Proofs.YtjgfmobmilgapaaGreatDoor.rulesJoins
open Go.ChangeShapes Go.WideShapes Go.ChangeAt Go.RowKit
open Go.ChangeMaps (open_string shut_string)
set_option linter.unusedVariables false

theorem own : ownKnob Tryz.prog.godebug = none := by kernel_rfl

/-- The variables that are no handles. -/
def plain0 : List (String × DataW Unit) := Rows.rulesJoinsUptoRow.laid.filter fun x => x.2.handleName?.isNone
/-- A first world: the settled one, the handle's cell laid. -/
noncomputable def first0 (os : Os) : World :=
  let w0 := World.holding Tryz.prog os ⟨#[], #[], []⟩
  { w0 with heap := w0.heap.modify 4 fun
      | .cells _ t frozen => .cells #[.iface 186 (.agg #[.pointer (some ⟨12, 33, none⟩)])] t frozen
      | o => o }
/-- .. and the others laid. -/
noncomputable def first1 (os : Os) : World := (first0 os).layVars Tryz.prog plain0
theorem first1_os (os : Os) : (first1 os).os = os := World.layVars_os _ _ _
theorem met (os : Os) : laidMetH Tryz.prog Rows.rulesJoinsUptoRow.laid ((first1 os).forCall (fun _ _ => 0) ⟨#[], #[.string ByteArray.empty, .string ByteArray.empty, .agg #[.slice none 0 0, .slice none 0 0, .slice none 0 0, .slice none 0 0, .slice none 0 0, .slice none 0 0, .slice none 0 0, .slice none 0 0], .slice none 0 0], []⟩).memory := by
  have e1 : (plain0.filter fun x => (plain0.map (·.1)).contains x.1) = plain0 := List.filter_eq_self.2 fun x hx => List.contains_iff_mem.2 (List.mem_map.2 ⟨x, hx, rfl⟩)
  have e2 : (plain0.filter fun x => !(plain0.map (·.1)).contains x.1) = [] := List.filter_eq_nil_iff.2 fun x hx => by rw [List.contains_iff_mem.2 (List.mem_map.2 ⟨x, hx, rfl⟩)]; simp
  have h : laidMet Tryz.prog plain0 (first1 os) := laidMet_layVars (w0 := first0 os) (plain0.map (·.1)) [] (by rw [e1]; rfl) (by rw [e1]; kernel_rfl) (by rw [e1]; kernel_rfl) (by rw [e2]; exact LaidIn.none)
  exact laidMetH_of_parts (h.of_heap (by simp [World.memory, World.forCall, Input.heap])) (by kernel_rfl)

theorem reads (os : Os) {H : Type} (enc : TypeId × Value → H) : ∃ places, DataW.whole enc Tryz.prog ((first1 os).forCall (fun _ _ => 0) ⟨#[], #[.string ByteArray.empty, .string ByteArray.empty, .agg #[.slice none 0 0, .slice none 0 0, .slice none 0 0, .slice none 0 0, .slice none 0 0, .slice none 0 0, .slice none 0 0, .slice none 0 0], .slice none 0 0], []⟩).memory Tryz.f3.params.toList (Rows.OpenSpec.upto Rows.rulesJoinsSpec).vars false (#[.string ByteArray.empty, .string ByteArray.empty, .agg #[.slice none 0 0, .slice none 0 0, .slice none 0 0, .slice none 0 0, .slice none 0 0, .slice none 0 0, .slice none 0 0, .slice none 0 0], .slice none 0 0] : Array Value).toList 8 = some ([.lit (.string []), .lit (.string []), .agg [.nil, .nil, .nil, .nil, .nil, .nil, .nil, .nil], .nil], [], places) := ⟨[], by kernel_rfl⟩

set_option maxRecDepth 100000 in
theorem lifted (os : Os) (started : os.Started) (H : Type) (enc : TypeId × Value → H) (F : Stop.Interp) :
    ReturnsInHanded {} Tryz.checked os 3 .any ((Rows.OpenSpec.upto Rows.rulesJoinsSpec).preRow enc Tryz.prog Tryz.f3 Rows.rulesJoinsUptoRow.domain false Rows.rulesJoinsUptoRow.laid) (((Rows.OpenSpec.upto Rows.rulesJoinsSpec).at F).post enc Tryz.prog Tryz.f3 false true false false) := by
  obtain ⟨places, hx⟩ := reads os enc
  refine returnsInHanded_of_row (C := Tryz.checked) (s := Rows.OpenSpec.upto Rows.rulesJoinsSpec) own started (by kernel_rfl) Tryz.func3
    (witness_row_atRef (enc := enc) (C := Tryz.checked) false (first1 os) #[.string ByteArray.empty, .string ByteArray.empty, .agg #[.slice none 0 0, .slice none 0 0, .slice none 0 0, .slice none 0 0, .slice none 0 0, .slice none 0 0, .slice none 0 0, .slice none 0 0], .slice none 0 0] (first1_os os) (by kernel_rfl) (by kernel_rfl) (by kernel_rfl)
      (OpenSpec.preRow_of_cond 8 hx (by kernel_rfl) (fun k hk => by cases hk; kernel_rfl) (by kernel_rfl) (met os))) ?_
  intro W base args ds gs before hval0 hW _ hcond _ hL hS _
  have hval : ∀ (j : Nat) t v, Tryz.f3.params[j]? = some t → args[j]? = some v → Value.okWide Tryz.prog W .any base t v := hval0
  have hW' := hW
  obtain ⟨p, q, hA0, hV, rfl, hfz, hnd⟩ := hW
  have hA : DataW.TrodAll enc Tryz.prog W 0 (fun _ => true) true Tryz.f3.params.toList args.toList ds p := hA0
  rw [Tryz.params3] at hA hval
  obtain ⟨v0, vs0, d0, ds0, p0, q0, hargs, rfl, rfl, h0, r0⟩ := trodAll_cons hA
  obtain ⟨v1, vs1, d1, ds1, p1, q1, rfl, rfl, rfl, h1, r1⟩ := trodAll_cons r0
  obtain ⟨v2, vs2, d2, ds2, p2, q2, rfl, rfl, rfl, h2, r2⟩ := trodAll_cons r1
  obtain ⟨v3, vs3, d3, ds3, p3, q3, rfl, rfl, rfl, h3, r3⟩ := trodAll_cons r2
  obtain ⟨rfl, rfl, rfl⟩ := trodAll_nil r3
  obtain rfl : args = #[v0, v1, v2, v3] := by cases args; simp_all
  obtain ⟨rfl, rfl⟩ := trodVars_none hV
  obtain ⟨a0, rfl, rfl, rfl, w0⟩ := open_string Tryz.underlying9 (hval 0 9 v0 rfl rfl) h0
  obtain ⟨a1, rfl, rfl, rfl, w1⟩ := open_string Tryz.underlying9 (hval 1 9 v1 rfl rfl) h1
  obtain ⟨cs2, rfl, _⟩ := okWide_struct Tryz.underlying28 (hval 2 28 v2 rfl rfl)
  have k2 := h2
  have lt2 : ∀ x ∈ p2, x.block < W.heap.size := by obtain ⟨m, hm⟩ := k2; exact DataW.trod_lt m _ _ _ hm
  obtain ⟨a3, len3, cap3, rfl⟩ := okWide_slice Tryz.underlying29 (hval 3 29 v3 rfl rfl)
  have k3 := h3
  have lt3 : ∀ x ∈ p3, x.block < W.heap.size := by obtain ⟨m, hm⟩ := k3; exact DataW.trod_lt m _ _ _ hm
  obtain ⟨z3, w3, u3⟩ := arg_row Tryz.underlying29 Tryz.underlying3 (by kernel_rfl) h3
  clear hA0 hval0
  simp only [List.append_nil] at hW'
  have hk1 := of_decide_eq_true (hcond _ rfl)
  simp only [List.append_nil, Rows.uptoBulkAll] at hk1
  have e0 : Rows.uptoBulk (DataW.lit (.string a0.data.toList) : DataW H) = a0.size + 1 := bulk_str a0
  have b0 : a0.size ≤ 1048576 := by omega
  have e1 : Rows.uptoBulk (DataW.lit (.string a1.data.toList) : DataW H) = a1.size + 1 := bulk_str a1
  have b1 : a1.size ≤ 1048576 := by omega
  obtain ⟨T2, x20, x21, x22, x23, x24, x25, x26, x27, c20, c21, c22, c23, c24, c25, c26, c27, us2, rfl, tin2, tb2⟩ := arg_tab h2 (by omega)
  have b3 : len3 ≤ 1048576 := by have h1 := w3.1; have h2 := w3.2.1; omega
  obtain ⟨m, hE⟩ := env5_of hL (by kernel_rfl) rfl (List.mem_filter.2 ⟨List.mem_cons_of_mem _ (List.mem_cons_of_mem _ (List.mem_cons_of_mem _ (List.mem_cons_of_mem _ (List.mem_cons_of_mem _ (List.mem_cons_self))))), by kernel_rfl⟩) (List.mem_filter.2 ⟨List.mem_cons_of_mem _ (List.mem_cons_of_mem _ (List.mem_cons_of_mem _ (List.mem_cons_of_mem _ (List.mem_cons_of_mem _ (List.mem_cons_of_mem _ (List.mem_cons_self)))))), by kernel_rfl⟩) (List.mem_filter.2 ⟨List.mem_cons_of_mem _ (List.mem_cons_of_mem _ (List.mem_cons_of_mem _ (List.mem_cons_of_mem _ (List.mem_cons_of_mem _ (List.mem_cons_of_mem _ (List.mem_cons_of_mem _ (List.mem_cons_of_mem _ (List.mem_cons_of_mem _ (List.mem_cons_of_mem _ (List.mem_cons_self)))))))))), by kernel_rfl⟩) (List.mem_filter.2 ⟨List.mem_cons_of_mem _ (List.mem_cons_of_mem _ (List.mem_cons_of_mem _ (List.mem_cons_of_mem _ (List.mem_cons_of_mem _ (List.mem_cons_of_mem _ (List.mem_cons_of_mem _ (List.mem_cons_self))))))), by kernel_rfl⟩) hS
  have hR := envR_of hL (by kernel_rfl) rfl (List.mem_filter.2 ⟨List.mem_cons_self, by kernel_rfl⟩) (List.mem_filter.2 ⟨List.mem_cons_of_mem _ (List.mem_cons_self), by kernel_rfl⟩) (List.mem_filter.2 ⟨List.mem_cons_of_mem _ (List.mem_cons_of_mem _ (List.mem_cons_self)), by kernel_rfl⟩) (List.mem_filter.2 ⟨List.mem_cons_of_mem _ (List.mem_cons_of_mem _ (List.mem_cons_of_mem _ (List.mem_cons_self))), by kernel_rfl⟩) hE
  refine (joins_card a0 b0 a1 b1 T2 tb2 x20 x21 x22 x23 x24 x25 x26 x27 c20 c21 c22 c23 c24 c25 c26 c27 us2 a3 len3 cap3 z3 b3 m W ⟨hE, hR⟩ tin2 w3).mono fun e W' ⟨he, hg⟩ => ?_
  subst he
  exact ⟨_, rfl, _, _, _, [], _, [], hW', trodAll_mk1 (shut_bool Tryz.underlying4 _), (trodAll_cons_mk (shut_string Tryz.underlying9 w0) (trodAll_cons_mk (shut_string Tryz.underlying9 w1) (trodAll_cons_mk (Below.trod laidOutT (by kernel_rfl) (of_decide_eq_true (by kernel_rfl)) k2 hg lt2) (trodAll_cons_mk (Below.trod laidOutT (by kernel_rfl) (of_decide_eq_true (by kernel_rfl)) k3 hg lt3) trodAll_mk0)))), rfl, hg.frame _, fun h => by cases h⟩

theorem said : Rows.RulesJoinsUptoSaid :=
  OpenClaim.holds_of_cond 3 Tryz.f3 rfl rfl rfl rfl rfl rfl rfl ⟨rfl, rfl, rfl, rfl, rfl⟩ rfl rfl rfl rfl rfl (by kernel_rfl) Tryz.func3 (by kernel_rfl)
    (of_decide_eq_true (by kernel_rfl)) (by unfold Func.isWrapper; first | (rw [if_pos (by decide +kernel)]; kernel_rfl) | (rw [if_neg (by decide +kernel)]; exact ⟨rfl, rfl⟩))
    (fun os started H enc _ F => by rw [OpenClaim.pre_eq_preRow]; exact lifted os started H enc F)

theorem plain (f : FuncId) (fn : Func) (hf : Tryz.pinned.checked.prog.funcNamed "guise/guiselaw5.RulesJoins" = some f) (hfn : Tryz.pinned.checked.prog.funcs[f]? = some fn) :
    true = Tryz.pinned.checked.prog.looks [] ∧ ∀ (j : Nat) t, fn.params[j]? = some t → Tryz.pinned.checked.prog.wantsStandIn t = false := by
  obtain rfl : f = 3 := Option.some.inj ((show Tryz.prog.funcNamed "guise/guiselaw5.RulesJoins" = some 3 by kernel_rfl).symm.trans hf) |>.symm
  obtain rfl : fn = Tryz.f3 := (Option.some.inj (Tryz.func3.symm.trans hfn)).symm
  refine ⟨by kernel_rfl, fun j t ht => ?_⟩
  rw [Tryz.params3] at ht
  rcases j with _ | j
  · obtain rfl := Option.some.inj (show some 9 = some t from ht)
    kernel_rfl
  rcases j with _ | j
  · obtain rfl := Option.some.inj (show some 9 = some t from ht)
    kernel_rfl
  rcases j with _ | j
  · obtain rfl := Option.some.inj (show some 28 = some t from ht)
    kernel_rfl
  rcases j with _ | j
  · obtain rfl := Option.some.inj (show some 29 = some t from ht)
    kernel_rfl
  simp at ht

end Go.Proofs.YtjgfmobmilgapaaGreatDoor.rulesJoins
namespace Go.Proofs.YtjgfmobmilgapaaGreatDoor
theorem rulesJoins_upto_card : Rows.RulesJoinsUptoCardSaid :=
  Claim7.holds_tied_plain_at .later [] _ _ _ _ rulesJoins.said (fun _ h => by cases h) (by kernel_rfl) (fun _ h => by cases h) rulesJoinsUpto_row_tie rfl ⟨rfl, rfl⟩ (by kernel_rfl) rfl rulesJoins.plain (by kernel_rfl)
#print axioms rulesJoins_upto_card
end Go.Proofs.YtjgfmobmilgapaaGreatDoor
