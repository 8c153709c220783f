/- named: how many bytes the name has with which a text begins. -/
import Derived.Test.YtncmabmpkdmpfaaDoorScLeaf
import Derived.Test.YtncmabmpkdmpfaaDoorSeqMath
namespace Go.Proofs.YtncmabmpkdmpfaaDoor
open Go.RowKit Go.Shelf
set_option linter.unusedVariables false
theorem ret_i {k : IntKind} {a b : Int} (h : a = b) : Ending.returned (.int k a) = .returned (.int k b) := by rw [h]
theorem toList_nil (t : ByteArray) (h : t.size = 0) : t = ByteArray.empty := by
  apply ByteArray.ext
  apply Array.eq_empty_of_size_eq_zero
  exact h
theorem toList_ne (t : ByteArray) (h : 0 < t.size) : ¬ t.toList = [] := fun e => by
  have := congrArg List.length e
  rw [ByteArray.toList_eq, Array.length_toList] at this
  have h2 : t.data.size = 0 := this
  have h3 : t.size = t.data.size := rfl
  omega
set_option maxRecDepth 100000 in
set_option maxHeartbeats 2000000 in
theorem named_any (t : ByteArray) (ht : t.size ≤ maxLen) (w : World) : Calls Tryd.prog 25 #[.string t] w fun e w' => e = .returned (.int .i64 (nameLen t)) ∧ w' = w := by
  unfold maxLen at ht
  by_cases h0 : t.size = 0
  · obtain rfl := toList_nil t h0
    go_enter Tryd.func25, Tryd.ntmps25
    go_wp2
    go_ret
    exact ⟨rfl, rfl⟩
  · have hp : 0 < t.size := by omega
    have hb0 := bt_get t 0 hp
    have hne := toList_ne t hp
    have hne' : (t.toList == []) = false := by simpa using hne
    cases hsm : smallB (bt t 0) with
    | false =>
      have hv : nameLen t = 0 := by unfold nameLen; rw [if_pos (.inr hsm)]
      rw [hb0] at hsm
      clear hb0
      go_enter Tryd.func25, Tryd.ntmps25
      go_wp2_with (go_at_call 45; refine (isSmall_any _ _).mono ?_; rintro e w' ⟨rfl, rfl⟩)
      go_ret
      exact ⟨ret_i (by rw [hv]; rfl), rfl⟩
    | true =>
      have hv : nameLen t = scanTo (fun n => inNB (bt t n)) (min t.size 32) 1 := by unfold nameLen; rw [if_neg (fun q => q.elim h0 (fun q2 => by rw [hsm] at q2; cases q2))]
      rw [hb0] at hsm
      clear hb0
      have HV := hide hv
      clear hv
      go_enter Tryd.func25, Tryd.ntmps25
      go_wp2_with (go_at_call 45; refine (isSmall_any _ _).mono ?_; rintro e w' ⟨rfl, rfl⟩)
      go_loop [3] (fun i => ∃ k : Nat, 1 ≤ k ∧ k ≤ min t.size 32 ∧ i = .int .i64 k ∧ Hz (nameLen t = scanTo (fun n => inNB (bt t n)) (min t.size 32) k)) (fun i => t.size - (intOf i).toNat)
      case atStart => exact ⟨1, by omega, by omega, rfl, HV⟩
      case round =>
        obtain ⟨k, hk1, hk2, rfl, HK⟩ := hrel
        clear hne hne' hsm HV
        by_cases hkt : k < t.size
        · have hkt' : (k : Int) < (t.size : Int) := by omega
          have hi2 : ((k : Nat) : Int).toNat = k := by omega
          have hbk := bt_get t k hkt
          by_cases hk32 : k < 32
          · have hk32' : (k : Int) < 32 := by omega
            cases hin : inNB (bt t k) with
            | true =>
              have HN := hide (scanTo_go (p := fun n => inNB (bt t n)) (hi := min t.size 32) (n := k) (by omega) hin)
              rw [hbk] at hin
              clear hbk
              go_wp2_with (go_at_call 52; refine (inName_any _ _).mono ?_; rintro e w' ⟨rfl, rfl⟩)
              go_round
              case rel => exact ⟨k + 1, by omega, by omega, by go_num, hide ((unhide HK).trans (unhide HN))⟩
              case measure => simp [intOf]; omega
            | false =>
              have HN := hide (scanTo_no (p := fun n => inNB (bt t n)) (hi := min t.size 32) (n := k) hin)
              rw [hbk] at hin
              clear hbk
              go_wp2_with (go_at_call 52; refine (inName_any _ _).mono ?_; rintro e w' ⟨rfl, rfl⟩)
              go_ret
              exact ⟨ret_i (by rw [unhide HK, unhide HN]), rfl⟩
          · have hk32' : ¬ (k : Int) < 32 := by omega
            have HN := hide (scanTo_end (p := fun n => inNB (bt t n)) (hi := min t.size 32) (n := k) (by omega))
            clear hbk
            go_wp2_with (go_at_call 52; refine (inName_any _ _).mono ?_; rintro e w' ⟨rfl, rfl⟩)
            go_ret
            exact ⟨ret_i (by rw [unhide HK, unhide HN]), rfl⟩
        · have hkt' : ¬ (k : Int) < (t.size : Int) := by omega
          have HN := hide (scanTo_end (p := fun n => inNB (bt t n)) (hi := min t.size 32) (n := k) (by omega))
          go_wp2_with (go_at_call 52; refine (inName_any _ _).mono ?_; rintro e w' ⟨rfl, rfl⟩)
          go_ret
          exact ⟨ret_i (by rw [unhide HK, unhide HN]), rfl⟩
end Go.Proofs.YtncmabmpkdmpfaaDoor
