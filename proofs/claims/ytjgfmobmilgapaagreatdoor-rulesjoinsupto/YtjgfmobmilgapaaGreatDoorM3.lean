/- Texts of this claim, one behind the other. -/
import Derived.Test.YtjgfmobmilgapaaGreatDoorM2
import Derived.Test.YtjgfmobmilgapaaGreatDoorM1
import Derived.Test.YtjgfmobmilgapaaGreatDoorShA
import Derived.RangeFuncNested
/- The small functions of scan. -/
namespace Go.Proofs.YtjgfmobmilgapaaGreatDoor
open Go.RowKit Go.Shelf
set_option linter.unusedVariables false
theorem ret_b {a b : Bool} (h : a = b) : Ending.returned (.bool a) = .returned (.bool b) := by rw [h]
theorem isBlank_any (c : Nat) (w : World) : Calls Tryz.prog 102 #[.int .u8 (c : Int)] w fun e w' => e = .returned (.bool (blankB c)) ∧ w' = w := by
  go_enter Tryz.func102, Tryz.ntmps102
  go_wp2
  all_goals (go_ret; refine ⟨ret_b ?_, rfl⟩; first | (unfold blankB; rw [Bool.eq_iff_iff]; simp; omega) | (unfold blankB; simp_all))
theorem isSmall_any (c : Nat) (w : World) : Calls Tryz.prog 67 #[.int .u8 (c : Int)] w fun e w' => e = .returned (.bool (smallB c)) ∧ w' = w := by
  go_enter Tryz.func67, Tryz.ntmps67
  go_wp2
  all_goals (go_ret; refine ⟨ret_b ?_, rfl⟩; first | (unfold smallB; rw [Bool.eq_iff_iff]; simp; omega) | (unfold smallB; simp_all))
theorem isDigit_any (c : Nat) (w : World) : Calls Tryz.prog 68 #[.int .u8 (c : Int)] w fun e w' => e = .returned (.bool (digB c)) ∧ w' = w := by
  go_enter Tryz.func68, Tryz.ntmps68
  go_wp2
  all_goals (go_ret; refine ⟨ret_b ?_, rfl⟩; first | (unfold digB; rw [Bool.eq_iff_iff]; simp; omega) | (unfold digB; simp_all))
theorem inName_any (c : Nat) (w : World) : Calls Tryz.prog 105 #[.int .u8 (c : Int)] w fun e w' => e = .returned (.bool (inNB c)) ∧ w' = w := by
  go_enter Tryz.func105, Tryz.ntmps105
  go_wp2_with (first | (go_at_call 67; refine (isSmall_any c _).mono ?_; rintro e w' ⟨rfl, rfl⟩) | (go_at_call 68; refine (isDigit_any c _).mono ?_; rintro e w' ⟨rfl, rfl⟩))
  all_goals (go_ret; refine ⟨ret_b ?_, rfl⟩; first | (unfold inNB; rw [Bool.eq_iff_iff]; simp; omega) | (unfold inNB; simp_all; done) | (unfold inNB; simp_all; rw [Bool.eq_iff_iff]; simp; omega))
theorem sticks_any (c : Nat) (w : World) : Calls Tryz.prog 74 #[.int .u8 (c : Int)] w fun e w' => e = .returned (.bool (stkB c)) ∧ w' = w := by
  go_enter Tryz.func74, Tryz.ntmps74
  go_wp2_with (go_at_call 105; refine (inName_any c _).mono ?_; rintro e w' ⟨rfl, rfl⟩)
  all_goals (go_ret; refine ⟨ret_b ?_, rfl⟩; first | (unfold stkB; rw [Bool.eq_iff_iff]; simp; omega) | (unfold stkB; simp_all; done) | (unfold stkB; simp_all; rw [Bool.eq_iff_iff]; simp; omega))
end Go.Proofs.YtjgfmobmilgapaaGreatDoor
namespace Go.Proofs.YtjgfmobmilgapaaGreatDoor
open Go.Lib (decode_at)
set_option linter.unusedVariables false

theorem bt_get (t : ByteArray) (k : Nat) (h : k < t.size) : bt t k = (t[k]'h).toNat := by unfold bt; rw [get_lt t k h]; rfl

end Go.Proofs.YtjgfmobmilgapaaGreatDoor
namespace Go.Proofs.YtjgfmobmilgapaaGreatDoor
open Go.RowKit Go.Shelf
set_option linter.unusedVariables false
theorem ret_i {k : IntKind} {a b : Int} (h : a = b) : Ending.returned (.int k a) = .returned (.int k b) := by rw [h]
theorem toList_nil (t : ByteArray) (h : t.size = 0) : t = ByteArray.empty := by
  apply ByteArray.ext
  apply Array.eq_empty_of_size_eq_zero
  exact h
theorem toList_ne (t : ByteArray) (h : 0 < t.size) : ¬ t.toList = [] := fun e => by
  have := congrArg List.length e
  rw [ByteArray.toList_eq, Array.length_toList] at this
  have h2 : t.data.size = 0 := this
  have h3 : t.size = t.data.size := rfl
  omega
set_option maxRecDepth 100000 in
set_option maxHeartbeats 2000000 in
theorem named_any (t : ByteArray) (ht : t.size ≤ maxLen) (w : World) : Calls Tryz.prog 70 #[.string t] w fun e w' => e = .returned (.int .i64 (nameLen t)) ∧ w' = w := by
  unfold maxLen at ht
  by_cases h0 : t.size = 0
  · obtain rfl := toList_nil t h0
    go_enter Tryz.func70, Tryz.ntmps70
    go_wp2
    go_ret
    exact ⟨rfl, rfl⟩
  · have hp : 0 < t.size := by omega
    have hb0 := bt_get t 0 hp
    have hne := toList_ne t hp
    have hne' : (t.toList == []) = false := by simpa using hne
    cases hsm : smallB (bt t 0) with
    | false =>
      have hv : nameLen t = 0 := by unfold nameLen; rw [if_pos (.inr hsm)]
      rw [hb0] at hsm
      clear hb0
      go_enter Tryz.func70, Tryz.ntmps70
      go_wp2_with (go_at_call 67; refine (isSmall_any _ _).mono ?_; rintro e w' ⟨rfl, rfl⟩)
      go_ret
      exact ⟨ret_i (by rw [hv]; rfl), rfl⟩
    | true =>
      have hv : nameLen t = scanTo (fun n => inNB (bt t n)) (min t.size 32) 1 := by unfold nameLen; rw [if_neg (fun q => q.elim h0 (fun q2 => by rw [hsm] at q2; cases q2))]
      rw [hb0] at hsm
      clear hb0
      have HV := hide hv
      clear hv
      go_enter Tryz.func70, Tryz.ntmps70
      go_wp2_with (go_at_call 67; refine (isSmall_any _ _).mono ?_; rintro e w' ⟨rfl, rfl⟩)
      go_loop [3] (fun i => ∃ k : Nat, 1 ≤ k ∧ k ≤ min t.size 32 ∧ i = .int .i64 k ∧ Hz (nameLen t = scanTo (fun n => inNB (bt t n)) (min t.size 32) k)) (fun i => t.size - (intOf i).toNat)
      case atStart => exact ⟨1, by omega, by omega, rfl, HV⟩
      case round =>
        obtain ⟨k, hk1, hk2, rfl, HK⟩ := hrel
        clear hne hne' hsm HV
        by_cases hkt : k < t.size
        · have hkt' : (k : Int) < (t.size : Int) := by omega
          have hi2 : ((k : Nat) : Int).toNat = k := by omega
          have hbk := bt_get t k hkt
          by_cases hk32 : k < 32
          · have hk32' : (k : Int) < 32 := by omega
            cases hin : inNB (bt t k) with
            | true =>
              have HN := hide (scanTo_go (p := fun n => inNB (bt t n)) (hi := min t.size 32) (n := k) (by omega) hin)
              rw [hbk] at hin
              clear hbk
              go_wp2_with (go_at_call 105; refine (inName_any _ _).mono ?_; rintro e w' ⟨rfl, rfl⟩)
              go_round
              case rel => exact ⟨k + 1, by omega, by omega, by go_num, hide ((unhide HK).trans (unhide HN))⟩
              case measure => simp [intOf]; omega
            | false =>
              have HN := hide (scanTo_no (p := fun n => inNB (bt t n)) (hi := min t.size 32) (n := k) hin)
              rw [hbk] at hin
              clear hbk
              go_wp2_with (go_at_call 105; refine (inName_any _ _).mono ?_; rintro e w' ⟨rfl, rfl⟩)
              go_ret
              exact ⟨ret_i (by rw [unhide HK, unhide HN]), rfl⟩
          · have hk32' : ¬ (k : Int) < 32 := by omega
            have HN := hide (scanTo_end (p := fun n => inNB (bt t n)) (hi := min t.size 32) (n := k) (by omega))
            clear hbk
            go_wp2_with (go_at_call 105; refine (inName_any _ _).mono ?_; rintro e w' ⟨rfl, rfl⟩)
            go_ret
            exact ⟨ret_i (by rw [unhide HK, unhide HN]), rfl⟩
        · have hkt' : ¬ (k : Int) < (t.size : Int) := by omega
          have HN := hide (scanTo_end (p := fun n => inNB (bt t n)) (hi := min t.size 32) (n := k) (by omega))
          go_wp2_with (go_at_call 105; refine (inName_any _ _).mono ?_; rintro e w' ⟨rfl, rfl⟩)
          go_ret
          exact ⟨ret_i (by rw [unhide HK, unhide HN]), rfl⟩
set_option maxRecDepth 100000 in
set_option maxHeartbeats 2000000 in
theorem number_any (t : ByteArray) (ht : t.size ≤ 4611686018427387904) (hp : 0 < t.size) (hd : digB (bt t 0) = true) (w : World) : Calls Tryz.prog 71 #[.string t] w fun e w' => e = .returned (.tuple #[.int .i64 (numV t).1, .int .i64 (numV t).2]) ∧ w' = w := by
  have hb0 := bt_get t 0 hp
  have hd0 := digB_iff.1 hd
  have HV : Hz (numV t = numGo t (bt t 0 - 48) 1) := hide rfl
  rw [hb0] at HV hd0
  clear hb0 hd
  have hd1 : (48 : Int) ≤ (t[0].toNat : Int) := by omega
  have hd2 : (t[0].toNat : Int) ≤ 57 := by omega
  go_enter Tryz.func71, Tryz.ntmps71
  go_wp2
  go_loop [4, 5] (fun x i => ∃ v k : Nat, 1 ≤ k ∧ k ≤ t.size ∧ v ≤ 65535 ∧ x = .int .i64 v ∧ i = .int .i64 k ∧ Hz (numV t = numGo t v k)) (fun _ i => t.size - (intOf i).toNat)
  case atStart => exact ⟨t[0].toNat - 48, 1, by omega, by omega, by omega, by go_num, rfl, HV⟩
  case round =>
    obtain ⟨v, k, hk1, hk2, hv, rfl, rfl, HK⟩ := hrel
    clear HV hd0 hd1 hd2
    by_cases hkt : k < t.size
    · have hkt' : (k : Int) < (t.size : Int) := by omega
      have hi2 : ((k : Nat) : Int).toNat = k := by omega
      have hbk := bt_get t k hkt
      cases hdg : digB (bt t k) with
      | true =>
        have hdk := digB_iff.1 hdg
        by_cases hv0 : 0 < v
        · have hv0' : (0 : Int) < (v : Int) := by omega
          by_cases hm : v * 10 + (bt t k - 48) ≤ 65535
          · have HN := hide (numGo_go hkt hdg hv0 hm)
            rw [hbk] at hdg hdk HN hm
            clear hbk
            have hc1 : (48 : Int) ≤ (t[k].toNat : Int) := by omega
            have hc2 : (t[k].toNat : Int) ≤ 57 := by omega
            have hm' : ¬ (65535 : Int) < (v : Int) * 10 + ((t[k].toNat : Int) - 48) := by omega
            go_wp2_with (go_at_call 68; refine (isDigit_any _ _).mono ?_; rintro e w' ⟨rfl, rfl⟩)
            go_round
            case rel => exact ⟨v * 10 + (t[k].toNat - 48), k + 1, by omega, by omega, hm, by go_num, by go_num, hide ((unhide HK).trans (unhide HN))⟩
            case measure => simp [intOf]; omega
          · have HN := hide (numGo_stop (t := t) (v := v) (n := k) (fun q => hm q.2.2.2))
            rw [hbk] at hdg hdk hm
            clear hbk
            have hc1 : (48 : Int) ≤ (t[k].toNat : Int) := by omega
            have hc2 : (t[k].toNat : Int) ≤ 57 := by omega
            have hm' : (65535 : Int) < (v : Int) * 10 + ((t[k].toNat : Int) - 48) := by omega
            go_wp2_with (go_at_call 68; refine (isDigit_any _ _).mono ?_; rintro e w' ⟨rfl, rfl⟩)
            go_ret2
            exact ⟨by rw [show numV t = (v, k) from (unhide HK).trans (unhide HN)]; rfl, rfl⟩
        · have hv0' : ¬ (0 : Int) < (v : Int) := by omega
          have HN := hide (numGo_stop (t := t) (v := v) (n := k) (fun q => hv0 q.2.2.1))
          rw [hbk] at hdg
          clear hbk hdk
          go_wp2_with (go_at_call 68; refine (isDigit_any _ _).mono ?_; rintro e w' ⟨rfl, rfl⟩)
          go_ret2
          exact ⟨by rw [show numV t = (v, k) from (unhide HK).trans (unhide HN)]; rfl, rfl⟩
      | false =>
        have HN := hide (numGo_stop (t := t) (v := v) (n := k) (fun q => by rw [hdg] at q; cases q.2.1))
        rw [hbk] at hdg
        clear hbk
        go_wp2_with (go_at_call 68; refine (isDigit_any _ _).mono ?_; rintro e w' ⟨rfl, rfl⟩)
        go_ret2
        exact ⟨by rw [show numV t = (v, k) from (unhide HK).trans (unhide HN)]; rfl, rfl⟩
    · have hkt' : ¬ (k : Int) < (t.size : Int) := by omega
      have HN := hide (numGo_stop (t := t) (v := v) (n := k) (fun q => hkt q.1))
      go_wp2_with (go_at_call 68; refine (isDigit_any _ _).mono ?_; rintro e w' ⟨rfl, rfl⟩)
      go_ret2
      exact ⟨by rw [show numV t = (v, k) from (unhide HK).trans (unhide HN)]; rfl, rfl⟩
theorem hasPrefix_sh (s p : ByteArray) (w : World) : Calls Tryz.prog 104 #[.string s, .string p] w fun e w' => e = .returned (.bool (Lib.hasPrefix s.data.toList p.data.toList)) ∧ w' = w := Any.strings_HasPrefix lay99 s p w
theorem indexByte_sh (s : ByteArray) (c : Int) (w : World) : Calls Tryz.prog 106 #[.string s, .int .u8 c] w fun e w' => e = .returned (.int .i64 (Lib.indexByte s.data.toList c.toNat.toUInt8)) ∧ w' = w := Any.strings_IndexByte lay137 s c w
def dotsB (t : ByteArray) : Bool := Lib.hasPrefix t.data.toList [46, 46]
def sgnV (t : ByteArray) : Nat × Nat × Bool :=
  if bt t 0 = 123 then (4, 1, true) else if bt t 0 = 125 then (5, 1, true) else if bt t 0 = 59 then (6, 1, true) else if bt t 0 = 61 then (7, 1, true) else if bt t 0 = 43 then (8, 1, true)
  else if bt t 0 = 46 then (if dotsB t = true then (9, 2, true) else (0, 1, false)) else (0, 0, false)
abbrev tup3 (x : Nat × Nat × Bool) : Value := .tuple #[.int .i64 x.1, .int .i64 x.2.1, .bool x.2.2]
theorem tup3_of {x y : Nat × Nat × Bool} (h : x = y) : Ending.returned (tup3 x) = .returned (tup3 y) := by rw [h]
set_option maxRecDepth 100000 in
set_option maxHeartbeats 2000000 in
theorem sign_any (t : ByteArray) (hp : 0 < t.size) (w : World) : Calls Tryz.prog 69 #[.string t] w fun e w' => e = .returned (tup3 (sgnV t)) ∧ w' = w := by
  have hb0 := bt_get t 0 hp
  unfold sgnV
  rw [hb0]
  clear hb0
  go_enter Tryz.func69, Tryz.ntmps69
  go_wp2_with (go_at_call 104; refine (hasPrefix_sh t ⟨#[46, 46]⟩ _).mono ?_; rintro e w' ⟨rfl, rfl⟩; rw [show Lib.hasPrefix t.data.toList (ByteArray.mk #[46, 46]).data.toList = dotsB t from rfl])
  all_goals go_ret3
  all_goals refine ⟨tup3_of (x := (_, _, _)) ?_, rfl⟩
  all_goals simp only [beq_iff_eq, beq_eq_false_iff_ne, ne_eq] at *
  all_goals (repeat' split) <;> first | rfl | (exfalso; omega) | (exfalso; simp_all; done)
def hexI (c : Nat) : Int := if 48 ≤ c ∧ c ≤ 57 then (c : Int) - 48 else if 65 ≤ c ∧ c ≤ 70 then (c : Int) - 55 else -1
theorem hexI_eq : ∀ c, c < 256 → Lib.indexByte [48, 49, 50, 51, 52, 53, 54, 55, 56, 57, 65, 66, 67, 68, 69, 70] c.toUInt8 = hexI c := by decide +kernel
theorem hexI_le (c : Nat) : -1 ≤ hexI c ∧ hexI c ≤ 15 := by unfold hexI; split <;> (try split) <;> omega
def numdF (t : ByteArray) : Nat → Nat → Nat → Nat × Nat
  | 0, v, n => (v, n)
  | f + 1, v, n => if n < t.size ∧ (n < 6 ∨ bt t 2 ≠ 48) ∧ 0 ≤ hexI (bt t n) ∧ v * 16 + (hexI (bt t n)).toNat ≤ 1114111 then numdF t f (v * 16 + (hexI (bt t n)).toNat) (n + 1) else (v, n)
def numdGo (t : ByteArray) (v n : Nat) : Nat × Nat := numdF t (t.size - n) v n
theorem numdGo_go {t : ByteArray} {v n : Nat} (h : n < t.size ∧ (n < 6 ∨ bt t 2 ≠ 48) ∧ 0 ≤ hexI (bt t n) ∧ v * 16 + (hexI (bt t n)).toNat ≤ 1114111) : numdGo t v n = numdGo t (v * 16 + (hexI (bt t n)).toNat) (n + 1) := by
  unfold numdGo
  obtain ⟨f, hf⟩ : ∃ f, t.size - n = f + 1 := ⟨t.size - n - 1, by omega⟩
  rw [hf, show t.size - (n + 1) = f by omega, numdF, if_pos h]
theorem numdGo_stop {t : ByteArray} {v n : Nat} (h : ¬ (n < t.size ∧ (n < 6 ∨ bt t 2 ≠ 48) ∧ 0 ≤ hexI (bt t n) ∧ v * 16 + (hexI (bt t n)).toNat ≤ 1114111)) : numdGo t v n = (v, n) := by
  unfold numdGo
  cases t.size - n with
  | zero => rfl
  | succ f => rw [numdF, if_neg h]
def numdV (t : ByteArray) : Nat × Nat × Bool :=
  if t.size < 2 ∨ bt t 1 ≠ 43 then (0, 1, false) else if (numdGo t 0 2).2 < 6 ∨ widthOf (numdGo t 0 2).1 = 0 then (0, (numdGo t 0 2).2, false) else ((numdGo t 0 2).1, (numdGo t 0 2).2, true)
abbrev tupR (x : Nat × Nat × Bool) : Value := .tuple #[.int .i32 x.1, .int .i64 x.2.1, .bool x.2.2]
set_option maxRecDepth 100000 in
set_option maxHeartbeats 4000000 in
theorem numbered_no (t : ByteArray) (ht : t.size ≤ 4611686018427387904) (h : t.size < 2 ∨ bt t 1 ≠ 43) (w : World) : Calls Tryz.prog 72 #[.string t] w fun e w' => e = .returned (tupR (numdV t)) ∧ w' = w := by
  have hv : numdV t = (0, 1, false) := by unfold numdV; rw [if_pos h]
  rw [hv]
  clear hv
  by_cases h2 : t.size < 2
  · have h2' : (t.size : Int) < 2 := by omega
    go_enter Tryz.func72, Tryz.ntmps72
    go_wp2
    go_ret3
    exact ⟨rfl, rfl⟩
  · have h2' : ¬ (t.size : Int) < 2 := by omega
    have hb1 := bt_get t 1 (by omega)
    have h3 : (((t[1]'(by omega)).toNat : Int) != 43) = true := by rw [bne_iff_ne]; omega
    have h4 : (1 : Int) < (t.size : Int) := by omega
    clear hb1
    go_enter Tryz.func72, Tryz.ntmps72
    go_wp2
    go_ret3
    exact ⟨rfl, rfl⟩
theorem hex_sh (c : Nat) (hc : c < 256) (w : World) : Calls Tryz.prog 106 #[.string ⟨#[48, 49, 50, 51, 52, 53, 54, 55, 56, 57, 65, 66, 67, 68, 69, 70]⟩, .int .u8 (c : Int)] w fun e w' => e = .returned (.int .i64 (hexI c)) ∧ w' = w :=
  (indexByte_sh ⟨#[48, 49, 50, 51, 52, 53, 54, 55, 56, 57, 65, 66, 67, 68, 69, 70]⟩ c w).mono fun e w' ⟨h1, h2⟩ => ⟨by rw [h1, ← hexI_eq c hc]; rfl, h2⟩
set_option maxRecDepth 100000 in
set_option maxHeartbeats 8000000 in
theorem numbered_yes (t : ByteArray) (ht : t.size ≤ 4611686018427387904) (hno : ¬ (t.size < 2 ∨ bt t 1 ≠ 43)) (w : World) : Calls Tryz.prog 72 #[.string t] w fun e w' => e = .returned (tupR (numdV t)) ∧ w' = w := by
  have h2 : 2 ≤ t.size := by omega
  have h43 : bt t 1 = 43 := by omega
  have h1s : 1 < t.size := h2
  have hb1 := bt_get t 1 h1s
  have h2' : ¬ (t.size : Int) < 2 := by omega
  have h3 : (((t[1]'h1s).toNat : Int) != 43) = false := by rw [← hb1, h43]; rfl
  have h4 : (1 : Int) < (t.size : Int) := by omega
  have HNO := hide hno
  clear hb1 h43 hno
  go_enter Tryz.func72, Tryz.ntmps72
  go_wp2
  go_loop [5, 6, 7] (fun x i _ => ∃ v k : Nat, 2 ≤ k ∧ k ≤ t.size ∧ v ≤ 1114111 ∧ x = .int .i64 v ∧ i = .int .i64 k ∧ Hz (numdGo t 0 2 = numdGo t v k)) (fun _ i _ => t.size - (intOf i).toNat)
  case atStart => exact ⟨0, 2, by omega, by omega, by omega, rfl, rfl, hide rfl⟩
  case round =>
    obtain ⟨v, k, hk1, hk2, hv, rfl, rfl, HK⟩ := hrel
    have hno := unhide HNO
    clear h3
    have hvb : (v : Int) ≤ 1114111 := by omega
    by_cases hkt : k < t.size
    · have hkt' : (k : Int) < (t.size : Int) := by omega
      have hi2 : ((k : Nat) : Int).toNat = k := by omega
      have hbk := bt_get t k hkt
      have h2s : 2 < t.size := Nat.lt_of_le_of_lt hk1 hkt
      have h2t : (2 : Int) < (t.size : Int) := by omega
      have hb2 := bt_get t 2 h2s
      by_cases hz : k < 6 ∨ bt t 2 ≠ 48
      · have hgd : (k : Int) < 6 ∨ (¬ (k : Int) < 6 ∧ (((t[2]'h2s).toNat : Int) != 48) = true) := by
          rcases hz with hz | hz
          · exact .inl (by omega)
          · by_cases h6 : k < 6
            · exact .inl (by omega)
            · exact .inr ⟨by omega, by rw [bne_iff_ne]; omega⟩
        by_cases hd0 : 0 ≤ hexI (bt t k)
        · obtain ⟨d, hd⟩ : ∃ d : Nat, hexI (bt t k) = d := ⟨(hexI (bt t k)).toNat, by omega⟩
          have hd15 := (hexI_le (bt t k)).2
          have hdn : (hexI (bt t k)).toNat = d := by omega
          have hd16 : (d : Int) ≤ 15 := by omega
          have hd00 : ¬ (d : Int) < 0 := by omega
          by_cases hm : v * 16 + d ≤ 1114111
          · have HN : Hz (numdGo t v k = numdGo t (v * 16 + d) (k + 1)) := hide (by rw [numdGo_go ⟨hkt, hz, hd0, by rw [hdn]; exact hm⟩, hdn])
            rw [hbk] at hd
            have hm' : ¬ (1114111 : Int) < (v : Int) * 16 + (d : Int) := by omega
            clear hbk hd0 hdn hb2 hz hd15
            rcases hgd with h6 | ⟨h6, hz2⟩
            all_goals
              go_wp2_with (first | (go_at_call 106; refine (hex_sh _ (UInt8.toNat_lt _) _).mono ?_; rintro e w' ⟨rfl, rfl⟩) | (go_at_call 107; refine (width_any _ _).mono ?_; rintro e w' ⟨rfl, rfl⟩))
              go_round
              case rel => exact ⟨v * 16 + d, k + 1, by omega, by omega, hm, by go_num, by go_num, hide ((unhide HK).trans (unhide HN))⟩
              case measure => simp [intOf]; omega
          · have hst := numdGo_stop (t := t) (v := v) (n := k) (fun q => hm (by have := q.2.2.2; rw [hdn] at this; exact this))
            rw [hbk] at hd
            have hm' : (1114111 : Int) < (v : Int) * 16 + (d : Int) := by omega
            clear hbk hd0 hdn hb2 hz hd15
            rcases hgd with h6 | ⟨h6, hz2⟩
            · have hE : numdGo t 0 2 = (v, k) := (unhide HK).trans hst
              have HE := hide hE
              clear hE
              have hk6 : k < 6 := by omega
              have hk6' : (k : Int) < 6 := by omega
              have hres : numdV t = (0, k, false) := by unfold numdV; rw [if_neg hno, unhide HE, if_pos (.inl hk6)]
              have HRES := hide hres
              clear hres hno
              go_wp2_with (first | (go_at_call 106; refine (hex_sh _ (UInt8.toNat_lt _) _).mono ?_; rintro e w' ⟨rfl, rfl⟩) | (go_at_call 107; refine (width_any _ _).mono ?_; rintro e w' ⟨rfl, rfl⟩))
              go_ret3
              exact ⟨by rw [unhide HRES]; rfl, rfl⟩
            · have hE : numdGo t 0 2 = (v, k) := (unhide HK).trans hst
              have HE := hide hE
              clear hE
              have hk6 : ¬ k < 6 := by omega
              have hk6' : ¬ (k : Int) < 6 := by omega
              by_cases hw0 : widthOf v = 0
              · have hres : numdV t = (0, k, false) := by unfold numdV; rw [if_neg hno, unhide HE, if_pos (.inr hw0)]
                have HRES := hide hres
                clear hres hno
                have hw1 : (widthOf v == 0) = true := by simpa using hw0
                clear hw0
                go_wp2_with (first | (go_at_call 106; refine (hex_sh _ (UInt8.toNat_lt _) _).mono ?_; rintro e w' ⟨rfl, rfl⟩) | (go_at_call 107; refine (width_any _ _).mono ?_; rintro e w' ⟨rfl, rfl⟩))
                go_ret3
                exact ⟨by rw [unhide HRES]; rfl, rfl⟩
              · have hres : numdV t = (v, k, true) := by unfold numdV; rw [if_neg hno, unhide HE, if_neg (by simp only [not_or]; exact ⟨hk6, hw0⟩)]
                have HRES := hide hres
                clear hres hno
                have hw1 : (widthOf v == 0) = false := by simpa using hw0
                clear hw0
                go_wp2_with (first | (go_at_call 106; refine (hex_sh _ (UInt8.toNat_lt _) _).mono ?_; rintro e w' ⟨rfl, rfl⟩) | (go_at_call 107; refine (width_any _ _).mono ?_; rintro e w' ⟨rfl, rfl⟩))
                go_ret3
                exact ⟨by rw [unhide HRES]; rfl, rfl⟩
        · have hst := numdGo_stop (t := t) (v := v) (n := k) (fun q => hd0 q.2.2.1)
          have hdm : hexI (bt t k) = -1 := by have := hexI_le (bt t k); omega
          rw [hbk] at hdm
          clear hbk hb2 hz hd0
          rcases hgd with h6 | ⟨h6, hz2⟩
          · have hE : numdGo t 0 2 = (v, k) := (unhide HK).trans hst
            have HE := hide hE
            clear hE
            have hk6 : k < 6 := by omega
            have hk6' : (k : Int) < 6 := by omega
            have hres : numdV t = (0, k, false) := by unfold numdV; rw [if_neg hno, unhide HE, if_pos (.inl hk6)]
            have HRES := hide hres
            clear hres hno
            go_wp2_with (first | (go_at_call 106; refine (hex_sh _ (UInt8.toNat_lt _) _).mono ?_; rintro e w' ⟨rfl, rfl⟩) | (go_at_call 107; refine (width_any _ _).mono ?_; rintro e w' ⟨rfl, rfl⟩))
            go_ret3
            exact ⟨by rw [unhide HRES]; rfl, rfl⟩
          · have hE : numdGo t 0 2 = (v, k) := (unhide HK).trans hst
            have HE := hide hE
            clear hE
            have hk6 : ¬ k < 6 := by omega
            have hk6' : ¬ (k : Int) < 6 := by omega
            by_cases hw0 : widthOf v = 0
            · have hres : numdV t = (0, k, false) := by unfold numdV; rw [if_neg hno, unhide HE, if_pos (.inr hw0)]
              have HRES := hide hres
              clear hres hno
              have hw1 : (widthOf v == 0) = true := by simpa using hw0
              clear hw0
              go_wp2_with (first | (go_at_call 106; refine (hex_sh _ (UInt8.toNat_lt _) _).mono ?_; rintro e w' ⟨rfl, rfl⟩) | (go_at_call 107; refine (width_any _ _).mono ?_; rintro e w' ⟨rfl, rfl⟩))
              go_ret3
              exact ⟨by rw [unhide HRES]; rfl, rfl⟩
            · have hres : numdV t = (v, k, true) := by unfold numdV; rw [if_neg hno, unhide HE, if_neg (by simp only [not_or]; exact ⟨hk6, hw0⟩)]
              have HRES := hide hres
              clear hres hno
              have hw1 : (widthOf v == 0) = false := by simpa using hw0
              clear hw0
              go_wp2_with (first | (go_at_call 106; refine (hex_sh _ (UInt8.toNat_lt _) _).mono ?_; rintro e w' ⟨rfl, rfl⟩) | (go_at_call 107; refine (width_any _ _).mono ?_; rintro e w' ⟨rfl, rfl⟩))
              go_ret3
              exact ⟨by rw [unhide HRES]; rfl, rfl⟩
      · have hst := numdGo_stop (t := t) (v := v) (n := k) (fun q => hz q.2.1)
        have h6 : ¬ (k : Int) < 6 := by omega
        have hz2 : (((t[2]'h2s).toNat : Int) != 48) = false := by
          rw [← hb2, show bt t 2 = 48 by omega]; rfl
        clear hbk hb2 hz
        have hE : numdGo t 0 2 = (v, k) := (unhide HK).trans hst
        have HE := hide hE
        clear hE
        have hk6 : ¬ k < 6 := by omega
        have hk6' : ¬ (k : Int) < 6 := by omega
        by_cases hw0 : widthOf v = 0
        · have hres : numdV t = (0, k, false) := by unfold numdV; rw [if_neg hno, unhide HE, if_pos (.inr hw0)]
          have HRES := hide hres
          clear hres hno
          have hw1 : (widthOf v == 0) = true := by simpa using hw0
          clear hw0
          go_wp2_with (first | (go_at_call 106; refine (hex_sh _ (UInt8.toNat_lt _) _).mono ?_; rintro e w' ⟨rfl, rfl⟩) | (go_at_call 107; refine (width_any _ _).mono ?_; rintro e w' ⟨rfl, rfl⟩))
          go_ret3
          exact ⟨by rw [unhide HRES]; rfl, rfl⟩
        · have hres : numdV t = (v, k, true) := by unfold numdV; rw [if_neg hno, unhide HE, if_neg (by simp only [not_or]; exact ⟨hk6, hw0⟩)]
          have HRES := hide hres
          clear hres hno
          have hw1 : (widthOf v == 0) = false := by simpa using hw0
          clear hw0
          go_wp2_with (first | (go_at_call 106; refine (hex_sh _ (UInt8.toNat_lt _) _).mono ?_; rintro e w' ⟨rfl, rfl⟩) | (go_at_call 107; refine (width_any _ _).mono ?_; rintro e w' ⟨rfl, rfl⟩))
          go_ret3
          exact ⟨by rw [unhide HRES]; rfl, rfl⟩
    · have hkt' : ¬ (k : Int) < (t.size : Int) := by omega
      have hst := numdGo_stop (t := t) (v := v) (n := k) (fun q => hkt q.1)
      have hE : numdGo t 0 2 = (v, k) := (unhide HK).trans hst
      have HE := hide hE
      clear hE
      by_cases hk6 : k < 6
      · have hk6' : (k : Int) < 6 := by omega
        have hres : numdV t = (0, k, false) := by unfold numdV; rw [if_neg hno, unhide HE, if_pos (.inl hk6)]
        have HRES := hide hres
        clear hres hno
        go_wp2_with (first | (go_at_call 106; refine (hex_sh _ (UInt8.toNat_lt _) _).mono ?_; rintro e w' ⟨rfl, rfl⟩) | (go_at_call 107; refine (width_any _ _).mono ?_; rintro e w' ⟨rfl, rfl⟩))
        go_ret3
        exact ⟨by rw [unhide HRES]; rfl, rfl⟩
      · have hk6' : ¬ (k : Int) < 6 := by omega
        by_cases hw0 : widthOf v = 0
        · have hres : numdV t = (0, k, false) := by unfold numdV; rw [if_neg hno, unhide HE, if_pos (.inr hw0)]
          have HRES := hide hres
          clear hres hno
          have hw1 : (widthOf v == 0) = true := by simpa using hw0
          clear hw0
          go_wp2_with (first | (go_at_call 106; refine (hex_sh _ (UInt8.toNat_lt _) _).mono ?_; rintro e w' ⟨rfl, rfl⟩) | (go_at_call 107; refine (width_any _ _).mono ?_; rintro e w' ⟨rfl, rfl⟩))
          go_ret3
          exact ⟨by rw [unhide HRES]; rfl, rfl⟩
        · have hres : numdV t = (v, k, true) := by unfold numdV; rw [if_neg hno, unhide HE, if_neg (by simp only [not_or]; exact ⟨hk6, hw0⟩)]
          have HRES := hide hres
          clear hres hno
          have hw1 : (widthOf v == 0) = false := by simpa using hw0
          clear hw0
          go_wp2_with (first | (go_at_call 106; refine (hex_sh _ (UInt8.toNat_lt _) _).mono ?_; rintro e w' ⟨rfl, rfl⟩) | (go_at_call 107; refine (width_any _ _).mono ?_; rintro e w' ⟨rfl, rfl⟩))
          go_ret3
          exact ⟨by rw [unhide HRES]; rfl, rfl⟩
theorem numbered_any (t : ByteArray) (ht : t.size ≤ 4611686018427387904) (w : World) : Calls Tryz.prog 72 #[.string t] w fun e w' => e = .returned (tupR (numdV t)) ∧ w' = w := by
  by_cases h : t.size < 2 ∨ bt t 1 ≠ 43
  · exact numbered_no t ht h w
  · exact numbered_yes t ht h w
def wholeB (t : ByteArray) : Bool := decide (0 < t.size) && !badB t 0
set_option maxHeartbeats 1000000 in
theorem whole_any (t : ByteArray) (ht : t.size ≤ maxLen) (w : World) : Calls Tryz.prog 108 #[.string t] w fun e w' => e = .returned (.bool (wholeB t)) ∧ Below w.heap.size w w' := by
  by_cases hp : 0 < t.size
  · have hv : wholeB t = !badB t 0 := by unfold wholeB; simp [hp]
    rw [hv]
    clear hv
    go_enter Tryz.func108, Tryz.ntmps108
    go_wp2_with fail
    refine (first_any t ht _).mono ?_
    rintro e w1 ⟨rfl, hb⟩
    rw [firstV_pos hp]
    have x2 := (Blk.new w1 (spotCells (spotV t 0)) 177).cell 2
    have HB := hide (hb.alloc hb.size (.cells (spotCells (spotV t 0)) 177))
    simp only [spotCells] at x2
    clear hb
    go_wp2
    go_ret
    exact ⟨rfl, unhide HB⟩
  · have hv : wholeB t = false := by unfold wholeB; simp [hp]
    rw [hv]
    clear hv
    go_enter Tryz.func108, Tryz.ntmps108
    go_wp2_with fail
    refine (first_any t ht _).mono ?_
    rintro e w1 ⟨rfl, hb⟩
    rw [firstV_neg hp]
    have HB := hide (hb.alloc hb.size (.cells #[.int .i32 0, .int .i64 0, .bool false] 177))
    clear hb
    go_wp2
    go_ret
    exact ⟨rfl, unhide HB⟩
abbrev tailA : ByteArray := ⟨#[128, 128, 128]⟩
abbrev tailB : ByteArray := ⟨#[160, 128, 128]⟩
def begB (t : ByteArray) : Bool := decide (t.size < wd (t ++ tailA) 0) || decide (t.size < wd (t ++ tailB) 0)
theorem size_tail (t : ByteArray) : (t ++ tailA).size = t.size + 3 ∧ (t ++ tailB).size = t.size + 3 := by
  rw [ByteArray.size_append, ByteArray.size_append]; exact ⟨rfl, rfl⟩
theorem tails_0 (w : World) : (Instr.index 225 (.agg #[.string tailA, .string tailB]) (.int .i64 0)).run Tryz.prog w = .ok (.string tailA) w := by kernel_rfl
theorem tails_1 (w : World) : (Instr.index 225 (.agg #[.string tailA, .string tailB]) (.int .i64 1)).run Tryz.prog w = .ok (.string tailB) w := by kernel_rfl
set_option maxRecDepth 100000 in
set_option maxHeartbeats 4000000 in
theorem begins_any (t : ByteArray) (ht : t.size ≤ 4611686018427387904) (w : World) : Calls Tryz.prog 127 #[.string t] w fun e w' => e = .returned (.bool (begB t)) ∧ Below w.heap.size w w' := by
  obtain ⟨z1, z2⟩ := size_tail t
  have hA : (t ++ tailA).size ≤ maxLen := by unfold maxLen; omega
  have hB : (t ++ tailB).size ≤ maxLen := by unfold maxLen; omega
  obtain ⟨nA, hnA⟩ : ∃ nA, nA = wd (t ++ tailA) 0 := ⟨_, rfl⟩
  obtain ⟨nB, hnB⟩ : ∃ nB, nB = wd (t ++ tailB) 0 := ⟨_, rfl⟩
  have hbv : begB t = (decide (t.size < nA) || decide (t.size < nB)) := by unfold begB; rw [hnA, hnB]
  have HBV := hide hbv
  have HNA := hide hnA
  have HNB := hide hnB
  clear hnA hnB hbv
  have vA := firstV_pos (s := t ++ tailA) (by omega)
  have vB := firstV_pos (s := t ++ tailB) (by omega)
  have HA := hide hA
  have HB := hide hB
  have hsz : t.size + 3 ≤ maxLen := by unfold maxLen; omega
  have hx0 := tails_0
  have hx1 := tails_1
  clear z1 z2 hA hB
  go_enter Tryz.func127, Tryz.ntmps127
  go_wp2_with fail
  refine wp_loop_rounds 3 ?_
  rw [rounds_succ]
  go_wp2_with fail
  refine (first_any (t ++ tailA) (unhide HA) _).mono ?_
  rintro e w1 ⟨rfl, hb⟩
  rw [vA]
  have x1 : (w1.alloc (.cells (spotCells (spotV (t ++ tailA) 0)) 177)).cell? ⟨w1.heap.size, 1, none⟩ = some (.int .i64 (nA : Int)) := by rw [unhide HNA]; exact (Blk.new w1 (spotCells (spotV (t ++ tailA) 0)) 177).cell 1
  have HWA := hide (hb.alloc hb.size (.cells (spotCells (spotV (t ++ tailA) 0)) 177))
  dsimp only [spotCells] at x1
  clear hb
  by_cases hA : t.size < nA
  · have hv : begB t = true := by rw [unhide HBV]; simp [hA]
    have HV := hide hv
    have hA' : (t.size : Int) < (nA : Int) := by omega
    clear hv hA
    go_wp2_with fail
    go_ret
    exact ⟨by rw [unhide HV]; rfl, unhide HWA⟩
  have hA' : ¬ (t.size : Int) < (nA : Int) := by omega
  go_wp2_with fail
  rw [rounds_succ]
  go_wp2_with fail
  clear x1 hA'
  refine (first_any (t ++ tailB) (unhide HB) _).mono ?_
  rintro e w2 ⟨rfl, hb⟩
  rw [vB]
  have x1 : (w2.alloc (.cells (spotCells (spotV (t ++ tailB) 0)) 177)).cell? ⟨w2.heap.size, 1, none⟩ = some (.int .i64 (nB : Int)) := by rw [unhide HNB]; exact (Blk.new w2 (spotCells (spotV (t ++ tailB) 0)) 177).cell 1
  have hq := (unhide HWA).trans (hb.mono (unhide HWA).size)
  have HWB := hide (hq.alloc hq.size (.cells (spotCells (spotV (t ++ tailB) 0)) 177))
  clear hq
  dsimp only [spotCells] at x1
  clear hb
  by_cases hB : t.size < nB
  · have hv : begB t = true := by rw [unhide HBV]; simp [hB]
    have HV := hide hv
    have hB' : (t.size : Int) < (nB : Int) := by omega
    clear hv hB hA
    go_wp2_with fail
    go_ret
    exact ⟨by rw [unhide HV]; rfl, unhide HWB⟩
  have hv : begB t = false := by rw [unhide HBV]; simp [hA, hB]
  have HV := hide hv
  have hB' : ¬ (t.size : Int) < (nB : Int) := by omega
  clear hv hB hA
  go_wp2_with fail
  rw [rounds_succ]
  go_wp2
  go_ret
  exact ⟨by rw [unhide HV]; rfl, unhide HWB⟩
def begLen (t : ByteArray) : Nat := scanTo (fun n => begB (t.extract 0 (n + 1))) t.size 0
set_option maxRecDepth 100000 in
set_option maxHeartbeats 4000000 in
theorem begun_text (t : ByteArray) (ht : t.size ≤ 4611686018427387904) (w : World) : Calls Tryz.prog 109 #[.string t] w fun e w' => e = .returned (.int .i64 (begLen t)) ∧ Below w.heap.size w w' := by
  go_enter Tryz.func109, Tryz.ntmps109
  go_wp2
  go_loopw [3] (fun i wr => ∃ k : Nat, k ≤ t.size ∧ i = .int .i64 k ∧ Hz (begLen t = scanTo (fun n => begB (t.extract 0 (n + 1))) t.size k) ∧ Hz (Below w.heap.size w wr)) (fun i _ => t.size - (intOf i).toNat)
  case atStart => exact ⟨0, by omega, rfl, hide rfl, hide (Below.refl _ _)⟩
  case round =>
    obtain ⟨k, hk, rfl, HK, HW⟩ := hrel
    by_cases hkt : k < t.size
    · have hkt' : (k : Int) < (t.size : Int) := by omega
      have hi1 : (k : Int) + 1 ≤ (t.size : Int) := by omega
      have hi2 : ((k : Int) + 1).toNat = k + 1 := by omega
      cases hbg : begB (t.extract 0 (k + 1)) with
      | true =>
        have HN := hide (scanTo_go (p := fun n => begB (t.extract 0 (n + 1))) (hi := t.size) (n := k) hkt hbg)
        go_wp2_with fail
        refine (begins_any (t.extract 0 (k + 1)) (by rw [ByteArray.size_extract]; omega) _).mono ?_
        rintro e w1 ⟨rfl, hb⟩
        have HW1 := hide ((unhide HW).trans (hb.mono (unhide HW).size))
        clear hb
        rw [hbg]
        go_wp2_with fail
        go_roundw
        case rel => exact ⟨k + 1, by omega, by go_num, hide ((unhide HK).trans (unhide HN)), HW1⟩
        case measure => simp [intOf]; omega
      | false =>
        have HN := hide (scanTo_no (p := fun n => begB (t.extract 0 (n + 1))) (hi := t.size) (n := k) hbg)
        go_wp2_with fail
        refine (begins_any (t.extract 0 (k + 1)) (by rw [ByteArray.size_extract]; omega) _).mono ?_
        rintro e w1 ⟨rfl, hb⟩
        have HW1 := hide ((unhide HW).trans (hb.mono (unhide HW).size))
        clear hb
        rw [hbg]
        go_wp2_with fail
        go_ret
        exact ⟨ret_i (by rw [unhide HK, unhide HN]), unhide HW1⟩
    · have hkt' : ¬ (k : Int) < (t.size : Int) := by omega
      have HN := hide (scanTo_end (p := fun n => begB (t.extract 0 (n + 1))) (hi := t.size) (n := k) hkt)
      go_wp2_with fail
      go_ret
      exact ⟨ret_i (by rw [unhide HK, unhide HN]), unhide HW⟩
theorem below_put {B l : Nat} (W : World) (hl : B ≤ l) (o : Obj) : Below B W (W.putObj l o) := ⟨rfl, rfl, rfl, by simp, fun k hk => World.putObj_heap_other (by omega)⟩
end Go.Proofs.YtjgfmobmilgapaaGreatDoor
