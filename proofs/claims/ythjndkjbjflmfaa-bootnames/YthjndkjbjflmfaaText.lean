/- Text, told for every list of numbers: the bytes of the runes, or the refusal where one is none. -/
import Derived.Test.YthjndkjbjflmfaaVals
namespace Go.Proofs.Ythjndkjbjflmfaa
open Go.RowKit Go.Shelf
set_option linter.unusedVariables false

/-- Are all numbers runes? -/
def allRunes (zs : List Int) : Bool := zs.all (fun z => !(widthOf z == 0))
def runesTV (zs : List Int) : Value := if allRunes zs then .tuple #[.string (runesBytes zs), .int .i64 0] else .tuple #[.string ⟨#[]⟩, .int .i64 12]

set_option maxRecDepth 100000 in
set_option maxHeartbeats 2000000 in
theorem text_any (g o cap : Nat) (zs : List Int) (hz : zs.length ≤ 9223372036854775807) (w : World) (hc : ∀ j, j < zs.length → w.cell? ⟨g, o + j, none⟩ = some (.int .i32 (zs.getD j 0))) :
    Calls Try.prog 31 #[.slice (some ⟨g, o, none⟩) zs.length cap] w fun e w' => e = .returned (runesTV zs) ∧ w' = w := by
  have HC := hide hc
  have kc := run_convert_runes (P := Try.prog) w 59 9 21 ⟨g, o, none⟩ zs.length cap zs (Nat.le_refl _) Try.underlying59 Try.underlying21 Try.underlying9 (fun j hj => by
    rw [show (⟨g, o, none⟩ : Addr).add j = ⟨g, o + j, none⟩ by unfold Addr.add; split <;> simp_all]
    exact hc j hj)
  rw [List.take_length] at kc
  have HKC := hide kc
  clear hc kc
  go_enter Try.func31, Try.ntmps31
  go_wp2
  go_loop [8] (fun i => ∃ k : Nat, k ≤ zs.length ∧ i = .int .i64 k ∧ Hz (∀ j, j < k → widthOf (zs.getD j 0) ≠ 0)) (fun i => zs.length - (intOf i).toNat)
  case atStart => exact ⟨0, by omega, rfl, hide (fun j hj => by omega)⟩
  case round =>
    obtain ⟨k, hk, rfl, H⟩ := hrel
    by_cases hkn : k < zs.length
    · have hck := unhide HC k hkn
      have hk1 : (k : Int) < (zs.length : Int) := by omega
      have hmem : zs.getD k 0 ∈ zs := by rw [List.getD, List.getElem?_eq_getElem hkn]; exact List.getElem_mem hkn
      have HM := hide hmem
      clear hmem
      generalize hz : zs.getD k 0 = z at *
      have HZ := hide hz
      clear hz
      by_cases hw0 : widthOf z = 0
      · have hb : (widthOf z == 0) = true := by simp [hw0]
        have hv : runesTV zs = .tuple #[.string ⟨#[]⟩, .int .i64 12] := by
          unfold runesTV
          rw [if_neg]
          unfold allRunes
          intro h
          have := List.all_eq_true.1 h z (unhide HM)
          simp [hw0] at this
        have HV := hide hv
        clear hv hw0
        go_wp2_with (go_at_call 24; refine (width_any _ _).mono ?_; rintro e w' ⟨rfl, rfl⟩)
        go_ret2
        exact ⟨by rw [unhide HV]; rfl, rfl⟩
      · have hb : (widthOf z == 0) = false := by simp [hw0]
        go_wp2_with (go_at_call 24; refine (width_any _ _).mono ?_; rintro e w' ⟨rfl, rfl⟩)
        go_round
        case rel =>
          refine ⟨k + 1, by omega, by go_num, hide (fun j hj => ?_)⟩
          by_cases e : j = k
          · subst e; rw [unhide HZ]; exact hw0
          · exact unhide H j (by omega)
        case measure => simp [intOf]; omega
    · have hk1 : ¬ (k : Int) < (zs.length : Int) := by omega
      have hv : runesTV zs = .tuple #[.string (runesBytes zs), .int .i64 0] := by
        unfold runesTV
        rw [if_pos]
        unfold allRunes
        rw [List.all_eq_true]
        intro z hz
        obtain ⟨j, hj, rfl⟩ := List.getElem_of_mem hz
        have := unhide H j (by omega)
        rw [List.getD, List.getElem?_eq_getElem hj] at this
        simpa using this
      have HV := hide hv
      clear hv
      have kc := unhide HKC
      go_wp2
      go_ret2
      exact ⟨by rw [unhide HV]; rfl, rfl⟩
end Go.Proofs.Ythjndkjbjflmfaa
