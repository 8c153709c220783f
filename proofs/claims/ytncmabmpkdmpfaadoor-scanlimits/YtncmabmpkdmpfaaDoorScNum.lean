/- number: the number with which a text begins. -/
import Derived.Test.YtncmabmpkdmpfaaDoorScName
namespace Go.Proofs.YtncmabmpkdmpfaaDoor
open Go.RowKit Go.Shelf
set_option linter.unusedVariables false
theorem ret_ii {a b c d : Int} (h : a = c) (h2 : b = d) : Ending.returned (.tuple #[.int .i64 a, .int .i64 b]) = .returned (.tuple #[.int .i64 c, .int .i64 d]) := by rw [h, h2]
set_option maxRecDepth 100000 in
set_option maxHeartbeats 2000000 in
theorem number_any (t : ByteArray) (ht : t.size ≤ 4611686018427387904) (hp : 0 < t.size) (hd : digB (bt t 0) = true) (w : World) : Calls Tryd.prog 48 #[.string t] w fun e w' => e = .returned (.tuple #[.int .i64 (numV t).1, .int .i64 (numV t).2]) ∧ w' = w := by
  have hb0 := bt_get t 0 hp
  have hd0 := digB_iff.1 hd
  have HV : Hz (numV t = numGo t (bt t 0 - 48) 1) := hide rfl
  rw [hb0] at HV hd0
  clear hb0 hd
  have hd1 : (48 : Int) ≤ (t[0].toNat : Int) := by omega
  have hd2 : (t[0].toNat : Int) ≤ 57 := by omega
  go_enter Tryd.func48, Tryd.ntmps48
  go_wp2
  go_loop [4, 5] (fun x i => ∃ v k : Nat, 1 ≤ k ∧ k ≤ t.size ∧ v ≤ 65535 ∧ x = .int .i64 v ∧ i = .int .i64 k ∧ Hz (numV t = numGo t v k)) (fun _ i => t.size - (intOf i).toNat)
  case atStart => exact ⟨t[0].toNat - 48, 1, by omega, by omega, by omega, by go_num, rfl, HV⟩
  case round =>
    obtain ⟨v, k, hk1, hk2, hv, rfl, rfl, HK⟩ := hrel
    clear HV hd0 hd1 hd2
    by_cases hkt : k < t.size
    · have hkt' : (k : Int) < (t.size : Int) := by omega
      have hi2 : ((k : Nat) : Int).toNat = k := by omega
      have hbk := bt_get t k hkt
      cases hdg : digB (bt t k) with
      | true =>
        have hdk := digB_iff.1 hdg
        by_cases hv0 : 0 < v
        · have hv0' : (0 : Int) < (v : Int) := by omega
          by_cases hm : v * 10 + (bt t k - 48) ≤ 65535
          · have HN := hide (numGo_go hkt hdg hv0 hm)
            rw [hbk] at hdg hdk HN hm
            clear hbk
            have hc1 : (48 : Int) ≤ (t[k].toNat : Int) := by omega
            have hc2 : (t[k].toNat : Int) ≤ 57 := by omega
            have hm' : ¬ (65535 : Int) < (v : Int) * 10 + ((t[k].toNat : Int) - 48) := by omega
            go_wp2_with (go_at_call 46; refine (isDigit_any _ _).mono ?_; rintro e w' ⟨rfl, rfl⟩)
            go_round
            case rel => exact ⟨v * 10 + (t[k].toNat - 48), k + 1, by omega, by omega, hm, by go_num, by go_num, hide ((unhide HK).trans (unhide HN))⟩
            case measure => simp [intOf]; omega
          · have HN := hide (numGo_stop (t := t) (v := v) (n := k) (fun q => hm q.2.2.2))
            rw [hbk] at hdg hdk hm
            clear hbk
            have hc1 : (48 : Int) ≤ (t[k].toNat : Int) := by omega
            have hc2 : (t[k].toNat : Int) ≤ 57 := by omega
            have hm' : (65535 : Int) < (v : Int) * 10 + ((t[k].toNat : Int) - 48) := by omega
            go_wp2_with (go_at_call 46; refine (isDigit_any _ _).mono ?_; rintro e w' ⟨rfl, rfl⟩)
            go_ret2
            exact ⟨by rw [show numV t = (v, k) from (unhide HK).trans (unhide HN)]; rfl, rfl⟩
        · have hv0' : ¬ (0 : Int) < (v : Int) := by omega
          have HN := hide (numGo_stop (t := t) (v := v) (n := k) (fun q => hv0 q.2.2.1))
          rw [hbk] at hdg
          clear hbk hdk
          go_wp2_with (go_at_call 46; refine (isDigit_any _ _).mono ?_; rintro e w' ⟨rfl, rfl⟩)
          go_ret2
          exact ⟨by rw [show numV t = (v, k) from (unhide HK).trans (unhide HN)]; rfl, rfl⟩
      | false =>
        have HN := hide (numGo_stop (t := t) (v := v) (n := k) (fun q => by rw [hdg] at q; cases q.2.1))
        rw [hbk] at hdg
        clear hbk
        go_wp2_with (go_at_call 46; refine (isDigit_any _ _).mono ?_; rintro e w' ⟨rfl, rfl⟩)
        go_ret2
        exact ⟨by rw [show numV t = (v, k) from (unhide HK).trans (unhide HN)]; rfl, rfl⟩
    · have hkt' : ¬ (k : Int) < (t.size : Int) := by omega
      have HN := hide (numGo_stop (t := t) (v := v) (n := k) (fun q => hkt q.1))
      go_wp2_with (go_at_call 46; refine (isDigit_any _ _).mono ?_; rintro e w' ⟨rfl, rfl⟩)
      go_ret2
      exact ⟨by rw [show numV t = (v, k) from (unhide HK).trans (unhide HN)]; rfl, rfl⟩
end Go.Proofs.YtncmabmpkdmpfaaDoor
