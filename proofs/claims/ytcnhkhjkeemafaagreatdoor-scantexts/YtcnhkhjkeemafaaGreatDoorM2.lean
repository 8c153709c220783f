/- Texts of this claim, one behind the other. -/
import Derived.Test.YtcnhkhjkeemafaaGreatDoorM1
import Derived.Test.YtcnhkhjkeemafaaGreatDoorShA
import Derived.RangeFuncNested
import Derived.Lib.QuietBelow
import Derived.BigQuiet
import Derived.ArgAppend
import Derived.Laws.Rows
import Derived.RegionTactic
/- named: how many bytes the name has with which a text begins. -/
namespace Go.Proofs.YtcnhkhjkeemafaaGreatDoor
open Go.RowKit Go.Shelf
set_option linter.unusedVariables false
theorem ret_i {k : IntKind} {a b : Int} (h : a = b) : Ending.returned (.int k a) = .returned (.int k b) := by rw [h]
theorem toList_nil (t : ByteArray) (h : t.size = 0) : t = ByteArray.empty := by
  apply ByteArray.ext
  apply Array.eq_empty_of_size_eq_zero
  exact h
theorem toList_ne (t : ByteArray) (h : 0 < t.size) : ¬ t.toList = [] := fun e => by
  have := congrArg List.length e
  rw [ByteArray.toList_eq, Array.length_toList] at this
  have h2 : t.data.size = 0 := this
  have h3 : t.size = t.data.size := rfl
  omega
set_option maxRecDepth 100000 in
set_option maxHeartbeats 2000000 in
theorem named_any (t : ByteArray) (ht : t.size ≤ maxLen) (w : World) : Calls Tryz.prog 22 #[.string t] w fun e w' => e = .returned (.int .i64 (nameLen t)) ∧ w' = w := by
  unfold maxLen at ht
  by_cases h0 : t.size = 0
  · obtain rfl := toList_nil t h0
    go_enter Tryz.func22, Tryz.ntmps22
    go_wp2
    go_ret
    exact ⟨rfl, rfl⟩
  · have hp : 0 < t.size := by omega
    have hb0 := bt_get t 0 hp
    have hne := toList_ne t hp
    have hne' : (t.toList == []) = false := by simpa using hne
    cases hsm : smallB (bt t 0) with
    | false =>
      have hv : nameLen t = 0 := by unfold nameLen; rw [if_pos (.inr hsm)]
      rw [hb0] at hsm
      clear hb0
      go_enter Tryz.func22, Tryz.ntmps22
      go_wp2_with (go_at_call 41; refine (isSmall_any _ _).mono ?_; rintro e w' ⟨rfl, rfl⟩)
      go_ret
      exact ⟨ret_i (by rw [hv]; rfl), rfl⟩
    | true =>
      have hv : nameLen t = scanTo (fun n => inNB (bt t n)) (min t.size 32) 1 := by unfold nameLen; rw [if_neg (fun q => q.elim h0 (fun q2 => by rw [hsm] at q2; cases q2))]
      rw [hb0] at hsm
      clear hb0
      have HV := hide hv
      clear hv
      go_enter Tryz.func22, Tryz.ntmps22
      go_wp2_with (go_at_call 41; refine (isSmall_any _ _).mono ?_; rintro e w' ⟨rfl, rfl⟩)
      go_loop [3] (fun i => ∃ k : Nat, 1 ≤ k ∧ k ≤ min t.size 32 ∧ i = .int .i64 k ∧ Hz (nameLen t = scanTo (fun n => inNB (bt t n)) (min t.size 32) k)) (fun i => t.size - (intOf i).toNat)
      case atStart => exact ⟨1, by omega, by omega, rfl, HV⟩
      case round =>
        obtain ⟨k, hk1, hk2, rfl, HK⟩ := hrel
        clear hne hne' hsm HV
        by_cases hkt : k < t.size
        · have hkt' : (k : Int) < (t.size : Int) := by omega
          have hi2 : ((k : Nat) : Int).toNat = k := by omega
          have hbk := bt_get t k hkt
          by_cases hk32 : k < 32
          · have hk32' : (k : Int) < 32 := by omega
            cases hin : inNB (bt t k) with
            | true =>
              have HN := hide (scanTo_go (p := fun n => inNB (bt t n)) (hi := min t.size 32) (n := k) (by omega) hin)
              rw [hbk] at hin
              clear hbk
              go_wp2_with (go_at_call 42; refine (inName_any _ _).mono ?_; rintro e w' ⟨rfl, rfl⟩)
              go_round
              case rel => exact ⟨k + 1, by omega, by omega, by go_num, hide ((unhide HK).trans (unhide HN))⟩
              case measure => simp [intOf]; omega
            | false =>
              have HN := hide (scanTo_no (p := fun n => inNB (bt t n)) (hi := min t.size 32) (n := k) hin)
              rw [hbk] at hin
              clear hbk
              go_wp2_with (go_at_call 42; refine (inName_any _ _).mono ?_; rintro e w' ⟨rfl, rfl⟩)
              go_ret
              exact ⟨ret_i (by rw [unhide HK, unhide HN]), rfl⟩
          · have hk32' : ¬ (k : Int) < 32 := by omega
            have HN := hide (scanTo_end (p := fun n => inNB (bt t n)) (hi := min t.size 32) (n := k) (by omega))
            clear hbk
            go_wp2_with (go_at_call 42; refine (inName_any _ _).mono ?_; rintro e w' ⟨rfl, rfl⟩)
            go_ret
            exact ⟨ret_i (by rw [unhide HK, unhide HN]), rfl⟩
        · have hkt' : ¬ (k : Int) < (t.size : Int) := by omega
          have HN := hide (scanTo_end (p := fun n => inNB (bt t n)) (hi := min t.size 32) (n := k) (by omega))
          go_wp2_with (go_at_call 42; refine (inName_any _ _).mono ?_; rintro e w' ⟨rfl, rfl⟩)
          go_ret
          exact ⟨ret_i (by rw [unhide HK, unhide HN]), rfl⟩
end Go.Proofs.YtcnhkhjkeemafaaGreatDoor
/- number: the number with which a text begins. -/
namespace Go.Proofs.YtcnhkhjkeemafaaGreatDoor
open Go.RowKit Go.Shelf
set_option linter.unusedVariables false
theorem ret_ii {a b c d : Int} (h : a = c) (h2 : b = d) : Ending.returned (.tuple #[.int .i64 a, .int .i64 b]) = .returned (.tuple #[.int .i64 c, .int .i64 d]) := by rw [h, h2]
set_option maxRecDepth 100000 in
set_option maxHeartbeats 2000000 in
theorem number_any (t : ByteArray) (ht : t.size ≤ 4611686018427387904) (hp : 0 < t.size) (hd : digB (bt t 0) = true) (w : World) : Calls Tryz.prog 48 #[.string t] w fun e w' => e = .returned (.tuple #[.int .i64 (numV t).1, .int .i64 (numV t).2]) ∧ w' = w := by
  have hb0 := bt_get t 0 hp
  have hd0 := digB_iff.1 hd
  have HV : Hz (numV t = numGo t (bt t 0 - 48) 1) := hide rfl
  rw [hb0] at HV hd0
  clear hb0 hd
  have hd1 : (48 : Int) ≤ (t[0].toNat : Int) := by omega
  have hd2 : (t[0].toNat : Int) ≤ 57 := by omega
  go_enter Tryz.func48, Tryz.ntmps48
  go_wp2
  go_loop [4, 5] (fun x i => ∃ v k : Nat, 1 ≤ k ∧ k ≤ t.size ∧ v ≤ 65535 ∧ x = .int .i64 v ∧ i = .int .i64 k ∧ Hz (numV t = numGo t v k)) (fun _ i => t.size - (intOf i).toNat)
  case atStart => exact ⟨t[0].toNat - 48, 1, by omega, by omega, by omega, by go_num, rfl, HV⟩
  case round =>
    obtain ⟨v, k, hk1, hk2, hv, rfl, rfl, HK⟩ := hrel
    clear HV hd0 hd1 hd2
    by_cases hkt : k < t.size
    · have hkt' : (k : Int) < (t.size : Int) := by omega
      have hi2 : ((k : Nat) : Int).toNat = k := by omega
      have hbk := bt_get t k hkt
      cases hdg : digB (bt t k) with
      | true =>
        have hdk := digB_iff.1 hdg
        by_cases hv0 : 0 < v
        · have hv0' : (0 : Int) < (v : Int) := by omega
          by_cases hm : v * 10 + (bt t k - 48) ≤ 65535
          · have HN := hide (numGo_go hkt hdg hv0 hm)
            rw [hbk] at hdg hdk HN hm
            clear hbk
            have hc1 : (48 : Int) ≤ (t[k].toNat : Int) := by omega
            have hc2 : (t[k].toNat : Int) ≤ 57 := by omega
            have hm' : ¬ (65535 : Int) < (v : Int) * 10 + ((t[k].toNat : Int) - 48) := by omega
            go_wp2_with (go_at_call 46; refine (isDigit_any _ _).mono ?_; rintro e w' ⟨rfl, rfl⟩)
            go_round
            case rel => exact ⟨v * 10 + (t[k].toNat - 48), k + 1, by omega, by omega, hm, by go_num, by go_num, hide ((unhide HK).trans (unhide HN))⟩
            case measure => simp [intOf]; omega
          · have HN := hide (numGo_stop (t := t) (v := v) (n := k) (fun q => hm q.2.2.2))
            rw [hbk] at hdg hdk hm
            clear hbk
            have hc1 : (48 : Int) ≤ (t[k].toNat : Int) := by omega
            have hc2 : (t[k].toNat : Int) ≤ 57 := by omega
            have hm' : (65535 : Int) < (v : Int) * 10 + ((t[k].toNat : Int) - 48) := by omega
            go_wp2_with (go_at_call 46; refine (isDigit_any _ _).mono ?_; rintro e w' ⟨rfl, rfl⟩)
            go_ret2
            exact ⟨by rw [show numV t = (v, k) from (unhide HK).trans (unhide HN)]; rfl, rfl⟩
        · have hv0' : ¬ (0 : Int) < (v : Int) := by omega
          have HN := hide (numGo_stop (t := t) (v := v) (n := k) (fun q => hv0 q.2.2.1))
          rw [hbk] at hdg
          clear hbk hdk
          go_wp2_with (go_at_call 46; refine (isDigit_any _ _).mono ?_; rintro e w' ⟨rfl, rfl⟩)
          go_ret2
          exact ⟨by rw [show numV t = (v, k) from (unhide HK).trans (unhide HN)]; rfl, rfl⟩
      | false =>
        have HN := hide (numGo_stop (t := t) (v := v) (n := k) (fun q => by rw [hdg] at q; cases q.2.1))
        rw [hbk] at hdg
        clear hbk
        go_wp2_with (go_at_call 46; refine (isDigit_any _ _).mono ?_; rintro e w' ⟨rfl, rfl⟩)
        go_ret2
        exact ⟨by rw [show numV t = (v, k) from (unhide HK).trans (unhide HN)]; rfl, rfl⟩
    · have hkt' : ¬ (k : Int) < (t.size : Int) := by omega
      have HN := hide (numGo_stop (t := t) (v := v) (n := k) (fun q => hkt q.1))
      go_wp2_with (go_at_call 46; refine (isDigit_any _ _).mono ?_; rintro e w' ⟨rfl, rfl⟩)
      go_ret2
      exact ⟨by rw [show numV t = (v, k) from (unhide HK).trans (unhide HN)]; rfl, rfl⟩
end Go.Proofs.YtcnhkhjkeemafaaGreatDoor
/- sign and numbered: the sign with which a text begins; the rune with U+. -/
namespace Go.Proofs.YtcnhkhjkeemafaaGreatDoor
open Go.RowKit Go.Shelf
set_option linter.unusedVariables false
theorem hasPrefix_sh (s p : ByteArray) (w : World) : Calls Tryz.prog 39 #[.string s, .string p] w fun e w' => e = .returned (.bool (Lib.hasPrefix s.data.toList p.data.toList)) ∧ w' = w := Any.strings_HasPrefix lay99 s p w
theorem indexByte_sh (s : ByteArray) (c : Int) (w : World) : Calls Tryz.prog 80 #[.string s, .int .u8 c] w fun e w' => e = .returned (.int .i64 (Lib.indexByte s.data.toList c.toNat.toUInt8)) ∧ w' = w := Any.strings_IndexByte lay137 s c w
/-- Does a text begin with two points? -/
def dotsB (t : ByteArray) : Bool := Lib.hasPrefix t.data.toList [46, 46]
/-- A sign's kind, its bytes, whether it is one. -/
def sgnV (t : ByteArray) : Nat × Nat × Bool :=
  if bt t 0 = 123 then (4, 1, true) else if bt t 0 = 125 then (5, 1, true) else if bt t 0 = 59 then (6, 1, true) else if bt t 0 = 61 then (7, 1, true) else if bt t 0 = 43 then (8, 1, true)
  else if bt t 0 = 46 then (if dotsB t = true then (9, 2, true) else (0, 1, false)) else (0, 0, false)
abbrev tup3 (x : Nat × Nat × Bool) : Value := .tuple #[.int .i64 x.1, .int .i64 x.2.1, .bool x.2.2]
theorem tup3_of {x y : Nat × Nat × Bool} (h : x = y) : Ending.returned (tup3 x) = .returned (tup3 y) := by rw [h]
set_option maxRecDepth 100000 in
set_option maxHeartbeats 2000000 in
theorem sign_any (t : ByteArray) (hp : 0 < t.size) (w : World) : Calls Tryz.prog 47 #[.string t] w fun e w' => e = .returned (tup3 (sgnV t)) ∧ w' = w := by
  have hb0 := bt_get t 0 hp
  unfold sgnV
  rw [hb0]
  clear hb0
  go_enter Tryz.func47, Tryz.ntmps47
  go_wp2_with (go_at_call 39; refine (hasPrefix_sh t ⟨#[46, 46]⟩ _).mono ?_; rintro e w' ⟨rfl, rfl⟩; rw [show Lib.hasPrefix t.data.toList (ByteArray.mk #[46, 46]).data.toList = dotsB t from rfl])
  all_goals go_ret3
  all_goals refine ⟨tup3_of (x := (_, _, _)) ?_, rfl⟩
  all_goals simp only [beq_iff_eq, beq_eq_false_iff_ne, ne_eq] at *
  all_goals (repeat' split) <;> first | rfl | (exfalso; omega) | (exfalso; simp_all; done)
/-- A hexadecimal digit's value, -1 of no digit. -/
def hexI (c : Nat) : Int := if 48 ≤ c ∧ c ≤ 57 then (c : Int) - 48 else if 65 ≤ c ∧ c ≤ 70 then (c : Int) - 55 else -1
theorem hexI_eq : ∀ c, c < 256 → Lib.indexByte [48, 49, 50, 51, 52, 53, 54, 55, 56, 57, 65, 66, 67, 68, 69, 70] c.toUInt8 = hexI c := by decide +kernel
theorem hexI_le (c : Nat) : -1 ≤ hexI c ∧ hexI c ≤ 15 := by unfold hexI; split <;> (try split) <;> omega
/-- A value and its bytes: from a value and a place on. -/
def numdF (t : ByteArray) : Nat → Nat → Nat → Nat × Nat
  | 0, v, n => (v, n)
  | f + 1, v, n => if n < t.size ∧ (n < 6 ∨ bt t 2 ≠ 48) ∧ 0 ≤ hexI (bt t n) ∧ v * 16 + (hexI (bt t n)).toNat ≤ 1114111 then numdF t f (v * 16 + (hexI (bt t n)).toNat) (n + 1) else (v, n)
def numdGo (t : ByteArray) (v n : Nat) : Nat × Nat := numdF t (t.size - n) v n
theorem numdGo_go {t : ByteArray} {v n : Nat} (h : n < t.size ∧ (n < 6 ∨ bt t 2 ≠ 48) ∧ 0 ≤ hexI (bt t n) ∧ v * 16 + (hexI (bt t n)).toNat ≤ 1114111) : numdGo t v n = numdGo t (v * 16 + (hexI (bt t n)).toNat) (n + 1) := by
  unfold numdGo
  obtain ⟨f, hf⟩ : ∃ f, t.size - n = f + 1 := ⟨t.size - n - 1, by omega⟩
  rw [hf, show t.size - (n + 1) = f by omega, numdF, if_pos h]
theorem numdGo_stop {t : ByteArray} {v n : Nat} (h : ¬ (n < t.size ∧ (n < 6 ∨ bt t 2 ≠ 48) ∧ 0 ≤ hexI (bt t n) ∧ v * 16 + (hexI (bt t n)).toNat ≤ 1114111)) : numdGo t v n = (v, n) := by
  unfold numdGo
  cases t.size - n with
  | zero => rfl
  | succ f => rw [numdF, if_neg h]
def numdV (t : ByteArray) : Nat × Nat × Bool :=
  if t.size < 2 ∨ bt t 1 ≠ 43 then (0, 1, false) else if (numdGo t 0 2).2 < 6 ∨ widthOf (numdGo t 0 2).1 = 0 then (0, (numdGo t 0 2).2, false) else ((numdGo t 0 2).1, (numdGo t 0 2).2, true)
abbrev tupR (x : Nat × Nat × Bool) : Value := .tuple #[.int .i32 x.1, .int .i64 x.2.1, .bool x.2.2]
theorem tupR_of {x y : Nat × Nat × Bool} (h : x = y) : Ending.returned (tupR x) = .returned (tupR y) := by rw [h]
set_option maxRecDepth 100000 in
set_option maxHeartbeats 4000000 in
theorem numbered_no (t : ByteArray) (ht : t.size ≤ 4611686018427387904) (h : t.size < 2 ∨ bt t 1 ≠ 43) (w : World) : Calls Tryz.prog 49 #[.string t] w fun e w' => e = .returned (tupR (numdV t)) ∧ w' = w := by
  have hv : numdV t = (0, 1, false) := by unfold numdV; rw [if_pos h]
  rw [hv]
  clear hv
  by_cases h2 : t.size < 2
  · have h2' : (t.size : Int) < 2 := by omega
    go_enter Tryz.func49, Tryz.ntmps49
    go_wp2
    go_ret3
    exact ⟨rfl, rfl⟩
  · have h2' : ¬ (t.size : Int) < 2 := by omega
    have hb1 := bt_get t 1 (by omega)
    have h3 : (((t[1]'(by omega)).toNat : Int) != 43) = true := by rw [bne_iff_ne]; omega
    have h4 : (1 : Int) < (t.size : Int) := by omega
    clear hb1
    go_enter Tryz.func49, Tryz.ntmps49
    go_wp2
    go_ret3
    exact ⟨rfl, rfl⟩
theorem hex_sh (c : Nat) (hc : c < 256) (w : World) : Calls Tryz.prog 80 #[.string ⟨#[48, 49, 50, 51, 52, 53, 54, 55, 56, 57, 65, 66, 67, 68, 69, 70]⟩, .int .u8 (c : Int)] w fun e w' => e = .returned (.int .i64 (hexI c)) ∧ w' = w :=
  (indexByte_sh ⟨#[48, 49, 50, 51, 52, 53, 54, 55, 56, 57, 65, 66, 67, 68, 69, 70]⟩ c w).mono fun e w' ⟨h1, h2⟩ => ⟨by rw [h1, ← hexI_eq c hc]; rfl, h2⟩
end Go.Proofs.YtcnhkhjkeemafaaGreatDoor
/- numbered: the rune with U+. -/
namespace Go.Proofs.YtcnhkhjkeemafaaGreatDoor
open Go.RowKit Go.Shelf
set_option linter.unusedVariables false
set_option maxRecDepth 100000 in
set_option maxHeartbeats 8000000 in
theorem numbered_yes (t : ByteArray) (ht : t.size ≤ 4611686018427387904) (hno : ¬ (t.size < 2 ∨ bt t 1 ≠ 43)) (w : World) : Calls Tryz.prog 49 #[.string t] w fun e w' => e = .returned (tupR (numdV t)) ∧ w' = w := by
  have h2 : 2 ≤ t.size := by omega
  have h43 : bt t 1 = 43 := by omega
  have h1s : 1 < t.size := h2
  have hb1 := bt_get t 1 h1s
  have h2' : ¬ (t.size : Int) < 2 := by omega
  have h3 : (((t[1]'h1s).toNat : Int) != 43) = false := by rw [← hb1, h43]; rfl
  have h4 : (1 : Int) < (t.size : Int) := by omega
  have HNO := hide hno
  clear hb1 h43 hno
  go_enter Tryz.func49, Tryz.ntmps49
  go_wp2
  go_loop [5, 6, 7] (fun x i _ => ∃ v k : Nat, 2 ≤ k ∧ k ≤ t.size ∧ v ≤ 1114111 ∧ x = .int .i64 v ∧ i = .int .i64 k ∧ Hz (numdGo t 0 2 = numdGo t v k)) (fun _ i _ => t.size - (intOf i).toNat)
  case atStart => exact ⟨0, 2, by omega, by omega, by omega, rfl, rfl, hide rfl⟩
  case round =>
    obtain ⟨v, k, hk1, hk2, hv, rfl, rfl, HK⟩ := hrel
    have hno := unhide HNO
    clear h3
    have hvb : (v : Int) ≤ 1114111 := by omega
    by_cases hkt : k < t.size
    · have hkt' : (k : Int) < (t.size : Int) := by omega
      have hi2 : ((k : Nat) : Int).toNat = k := by omega
      have hbk := bt_get t k hkt
      have h2s : 2 < t.size := Nat.lt_of_le_of_lt hk1 hkt
      have h2t : (2 : Int) < (t.size : Int) := by omega
      have hb2 := bt_get t 2 h2s
      by_cases hz : k < 6 ∨ bt t 2 ≠ 48
      · have hgd : (k : Int) < 6 ∨ (¬ (k : Int) < 6 ∧ (((t[2]'h2s).toNat : Int) != 48) = true) := by
          rcases hz with hz | hz
          · exact .inl (by omega)
          · by_cases h6 : k < 6
            · exact .inl (by omega)
            · exact .inr ⟨by omega, by rw [bne_iff_ne]; omega⟩
        by_cases hd0 : 0 ≤ hexI (bt t k)
        · obtain ⟨d, hd⟩ : ∃ d : Nat, hexI (bt t k) = d := ⟨(hexI (bt t k)).toNat, by omega⟩
          have hd15 := (hexI_le (bt t k)).2
          have hdn : (hexI (bt t k)).toNat = d := by omega
          have hd16 : (d : Int) ≤ 15 := by omega
          have hd00 : ¬ (d : Int) < 0 := by omega
          by_cases hm : v * 16 + d ≤ 1114111
          · have HN : Hz (numdGo t v k = numdGo t (v * 16 + d) (k + 1)) := hide (by rw [numdGo_go ⟨hkt, hz, hd0, by rw [hdn]; exact hm⟩, hdn])
            rw [hbk] at hd
            have hm' : ¬ (1114111 : Int) < (v : Int) * 16 + (d : Int) := by omega
            clear hbk hd0 hdn hb2 hz hd15
            rcases hgd with h6 | ⟨h6, hz2⟩
            all_goals
              go_wp2_with (first | (go_at_call 80; refine (hex_sh _ (UInt8.toNat_lt _) _).mono ?_; rintro e w' ⟨rfl, rfl⟩) | (go_at_call 17; refine (width_any _ _).mono ?_; rintro e w' ⟨rfl, rfl⟩))
              go_round
              case rel => exact ⟨v * 16 + d, k + 1, by omega, by omega, hm, by go_num, by go_num, hide ((unhide HK).trans (unhide HN))⟩
              case measure => simp [intOf]; omega
          · have hst := numdGo_stop (t := t) (v := v) (n := k) (fun q => hm (by have := q.2.2.2; rw [hdn] at this; exact this))
            rw [hbk] at hd
            have hm' : (1114111 : Int) < (v : Int) * 16 + (d : Int) := by omega
            clear hbk hd0 hdn hb2 hz hd15
            rcases hgd with h6 | ⟨h6, hz2⟩
            · have hE : numdGo t 0 2 = (v, k) := (unhide HK).trans hst
              have HE := hide hE
              clear hE
              have hk6 : k < 6 := by omega
              have hk6' : (k : Int) < 6 := by omega
              have hres : numdV t = (0, k, false) := by unfold numdV; rw [if_neg hno, unhide HE, if_pos (.inl hk6)]
              have HRES := hide hres
              clear hres hno
              go_wp2_with (first | (go_at_call 80; refine (hex_sh _ (UInt8.toNat_lt _) _).mono ?_; rintro e w' ⟨rfl, rfl⟩) | (go_at_call 17; refine (width_any _ _).mono ?_; rintro e w' ⟨rfl, rfl⟩))
              go_ret3
              exact ⟨by rw [unhide HRES]; rfl, rfl⟩
            · have hE : numdGo t 0 2 = (v, k) := (unhide HK).trans hst
              have HE := hide hE
              clear hE
              have hk6 : ¬ k < 6 := by omega
              have hk6' : ¬ (k : Int) < 6 := by omega
              by_cases hw0 : widthOf v = 0
              · have hres : numdV t = (0, k, false) := by unfold numdV; rw [if_neg hno, unhide HE, if_pos (.inr hw0)]
                have HRES := hide hres
                clear hres hno
                have hw1 : (widthOf v == 0) = true := by simpa using hw0
                clear hw0
                go_wp2_with (first | (go_at_call 80; refine (hex_sh _ (UInt8.toNat_lt _) _).mono ?_; rintro e w' ⟨rfl, rfl⟩) | (go_at_call 17; refine (width_any _ _).mono ?_; rintro e w' ⟨rfl, rfl⟩))
                go_ret3
                exact ⟨by rw [unhide HRES]; rfl, rfl⟩
              · have hres : numdV t = (v, k, true) := by unfold numdV; rw [if_neg hno, unhide HE, if_neg (by simp only [not_or]; exact ⟨hk6, hw0⟩)]
                have HRES := hide hres
                clear hres hno
                have hw1 : (widthOf v == 0) = false := by simpa using hw0
                clear hw0
                go_wp2_with (first | (go_at_call 80; refine (hex_sh _ (UInt8.toNat_lt _) _).mono ?_; rintro e w' ⟨rfl, rfl⟩) | (go_at_call 17; refine (width_any _ _).mono ?_; rintro e w' ⟨rfl, rfl⟩))
                go_ret3
                exact ⟨by rw [unhide HRES]; rfl, rfl⟩
        · have hst := numdGo_stop (t := t) (v := v) (n := k) (fun q => hd0 q.2.2.1)
          have hdm : hexI (bt t k) = -1 := by have := hexI_le (bt t k); omega
          rw [hbk] at hdm
          clear hbk hb2 hz hd0
          rcases hgd with h6 | ⟨h6, hz2⟩
          · have hE : numdGo t 0 2 = (v, k) := (unhide HK).trans hst
            have HE := hide hE
            clear hE
            have hk6 : k < 6 := by omega
            have hk6' : (k : Int) < 6 := by omega
            have hres : numdV t = (0, k, false) := by unfold numdV; rw [if_neg hno, unhide HE, if_pos (.inl hk6)]
            have HRES := hide hres
            clear hres hno
            go_wp2_with (first | (go_at_call 80; refine (hex_sh _ (UInt8.toNat_lt _) _).mono ?_; rintro e w' ⟨rfl, rfl⟩) | (go_at_call 17; refine (width_any _ _).mono ?_; rintro e w' ⟨rfl, rfl⟩))
            go_ret3
            exact ⟨by rw [unhide HRES]; rfl, rfl⟩
          · have hE : numdGo t 0 2 = (v, k) := (unhide HK).trans hst
            have HE := hide hE
            clear hE
            have hk6 : ¬ k < 6 := by omega
            have hk6' : ¬ (k : Int) < 6 := by omega
            by_cases hw0 : widthOf v = 0
            · have hres : numdV t = (0, k, false) := by unfold numdV; rw [if_neg hno, unhide HE, if_pos (.inr hw0)]
              have HRES := hide hres
              clear hres hno
              have hw1 : (widthOf v == 0) = true := by simpa using hw0
              clear hw0
              go_wp2_with (first | (go_at_call 80; refine (hex_sh _ (UInt8.toNat_lt _) _).mono ?_; rintro e w' ⟨rfl, rfl⟩) | (go_at_call 17; refine (width_any _ _).mono ?_; rintro e w' ⟨rfl, rfl⟩))
              go_ret3
              exact ⟨by rw [unhide HRES]; rfl, rfl⟩
            · have hres : numdV t = (v, k, true) := by unfold numdV; rw [if_neg hno, unhide HE, if_neg (by simp only [not_or]; exact ⟨hk6, hw0⟩)]
              have HRES := hide hres
              clear hres hno
              have hw1 : (widthOf v == 0) = false := by simpa using hw0
              clear hw0
              go_wp2_with (first | (go_at_call 80; refine (hex_sh _ (UInt8.toNat_lt _) _).mono ?_; rintro e w' ⟨rfl, rfl⟩) | (go_at_call 17; refine (width_any _ _).mono ?_; rintro e w' ⟨rfl, rfl⟩))
              go_ret3
              exact ⟨by rw [unhide HRES]; rfl, rfl⟩
      · have hst := numdGo_stop (t := t) (v := v) (n := k) (fun q => hz q.2.1)
        have h6 : ¬ (k : Int) < 6 := by omega
        have hz2 : (((t[2]'h2s).toNat : Int) != 48) = false := by
          rw [← hb2, show bt t 2 = 48 by omega]; rfl
        clear hbk hb2 hz
        have hE : numdGo t 0 2 = (v, k) := (unhide HK).trans hst
        have HE := hide hE
        clear hE
        have hk6 : ¬ k < 6 := by omega
        have hk6' : ¬ (k : Int) < 6 := by omega
        by_cases hw0 : widthOf v = 0
        · have hres : numdV t = (0, k, false) := by unfold numdV; rw [if_neg hno, unhide HE, if_pos (.inr hw0)]
          have HRES := hide hres
          clear hres hno
          have hw1 : (widthOf v == 0) = true := by simpa using hw0
          clear hw0
          go_wp2_with (first | (go_at_call 80; refine (hex_sh _ (UInt8.toNat_lt _) _).mono ?_; rintro e w' ⟨rfl, rfl⟩) | (go_at_call 17; refine (width_any _ _).mono ?_; rintro e w' ⟨rfl, rfl⟩))
          go_ret3
          exact ⟨by rw [unhide HRES]; rfl, rfl⟩
        · have hres : numdV t = (v, k, true) := by unfold numdV; rw [if_neg hno, unhide HE, if_neg (by simp only [not_or]; exact ⟨hk6, hw0⟩)]
          have HRES := hide hres
          clear hres hno
          have hw1 : (widthOf v == 0) = false := by simpa using hw0
          clear hw0
          go_wp2_with (first | (go_at_call 80; refine (hex_sh _ (UInt8.toNat_lt _) _).mono ?_; rintro e w' ⟨rfl, rfl⟩) | (go_at_call 17; refine (width_any _ _).mono ?_; rintro e w' ⟨rfl, rfl⟩))
          go_ret3
          exact ⟨by rw [unhide HRES]; rfl, rfl⟩
    · have hkt' : ¬ (k : Int) < (t.size : Int) := by omega
      have hst := numdGo_stop (t := t) (v := v) (n := k) (fun q => hkt q.1)
      have hE : numdGo t 0 2 = (v, k) := (unhide HK).trans hst
      have HE := hide hE
      clear hE
      by_cases hk6 : k < 6
      · have hk6' : (k : Int) < 6 := by omega
        have hres : numdV t = (0, k, false) := by unfold numdV; rw [if_neg hno, unhide HE, if_pos (.inl hk6)]
        have HRES := hide hres
        clear hres hno
        go_wp2_with (first | (go_at_call 80; refine (hex_sh _ (UInt8.toNat_lt _) _).mono ?_; rintro e w' ⟨rfl, rfl⟩) | (go_at_call 17; refine (width_any _ _).mono ?_; rintro e w' ⟨rfl, rfl⟩))
        go_ret3
        exact ⟨by rw [unhide HRES]; rfl, rfl⟩
      · have hk6' : ¬ (k : Int) < 6 := by omega
        by_cases hw0 : widthOf v = 0
        · have hres : numdV t = (0, k, false) := by unfold numdV; rw [if_neg hno, unhide HE, if_pos (.inr hw0)]
          have HRES := hide hres
          clear hres hno
          have hw1 : (widthOf v == 0) = true := by simpa using hw0
          clear hw0
          go_wp2_with (first | (go_at_call 80; refine (hex_sh _ (UInt8.toNat_lt _) _).mono ?_; rintro e w' ⟨rfl, rfl⟩) | (go_at_call 17; refine (width_any _ _).mono ?_; rintro e w' ⟨rfl, rfl⟩))
          go_ret3
          exact ⟨by rw [unhide HRES]; rfl, rfl⟩
        · have hres : numdV t = (v, k, true) := by unfold numdV; rw [if_neg hno, unhide HE, if_neg (by simp only [not_or]; exact ⟨hk6, hw0⟩)]
          have HRES := hide hres
          clear hres hno
          have hw1 : (widthOf v == 0) = false := by simpa using hw0
          clear hw0
          go_wp2_with (first | (go_at_call 80; refine (hex_sh _ (UInt8.toNat_lt _) _).mono ?_; rintro e w' ⟨rfl, rfl⟩) | (go_at_call 17; refine (width_any _ _).mono ?_; rintro e w' ⟨rfl, rfl⟩))
          go_ret3
          exact ⟨by rw [unhide HRES]; rfl, rfl⟩
theorem numbered_any (t : ByteArray) (ht : t.size ≤ 4611686018427387904) (w : World) : Calls Tryz.prog 49 #[.string t] w fun e w' => e = .returned (tupR (numdV t)) ∧ w' = w := by
  by_cases h : t.size < 2 ∨ bt t 1 ≠ 43
  · exact numbered_no t ht h w
  · exact numbered_yes t ht h w
end Go.Proofs.YtcnhkhjkeemafaaGreatDoor
/- whole, begins, begun: how a rune begins. -/
namespace Go.Proofs.YtcnhkhjkeemafaaGreatDoor
open Go.RowKit Go.Shelf
set_option linter.unusedVariables false
/-- Does a text begin with a whole rune? -/
def wholeB (t : ByteArray) : Bool := decide (0 < t.size) && !badB t 0
set_option maxHeartbeats 1000000 in
theorem whole_any (t : ByteArray) (ht : t.size ≤ maxLen) (w : World) : Calls Tryz.prog 81 #[.string t] w fun e w' => e = .returned (.bool (wholeB t)) ∧ Below w.heap.size w w' := by
  by_cases hp : 0 < t.size
  · have hv : wholeB t = !badB t 0 := by unfold wholeB; simp [hp]
    rw [hv]
    clear hv
    go_enter Tryz.func81, Tryz.ntmps81
    go_wp2_with fail
    refine (first_any t ht _).mono ?_
    rintro e w1 ⟨rfl, hb⟩
    rw [firstV_pos hp]
    have x2 := (Blk.new w1 (spotCells (spotV t 0)) 110).cell 2
    have HB := hide (hb.alloc hb.size (.cells (spotCells (spotV t 0)) 110))
    simp only [spotCells] at x2
    clear hb
    go_wp2
    go_ret
    exact ⟨rfl, unhide HB⟩
  · have hv : wholeB t = false := by unfold wholeB; simp [hp]
    rw [hv]
    clear hv
    go_enter Tryz.func81, Tryz.ntmps81
    go_wp2_with fail
    refine (first_any t ht _).mono ?_
    rintro e w1 ⟨rfl, hb⟩
    rw [firstV_neg hp]
    have HB := hide (hb.alloc hb.size (.cells #[.int .i32 0, .int .i64 0, .bool false] 110))
    clear hb
    go_wp2
    go_ret
    exact ⟨rfl, unhide HB⟩
abbrev tailA : ByteArray := ⟨#[128, 128, 128]⟩
abbrev tailB : ByteArray := ⟨#[160, 128, 128]⟩
/-- May a rune of more bytes begin so? -/
def begB (t : ByteArray) : Bool := decide (t.size < wd (t ++ tailA) 0) || decide (t.size < wd (t ++ tailB) 0)
theorem size_tail (t : ByteArray) : (t ++ tailA).size = t.size + 3 ∧ (t ++ tailB).size = t.size + 3 := by
  rw [ByteArray.size_append, ByteArray.size_append]; exact ⟨rfl, rfl⟩
theorem tails_0 (w : World) : (Instr.index 142 (.agg #[.string tailA, .string tailB]) (.int .i64 0)).run Tryz.prog w = .ok (.string tailA) w := by kernel_rfl
theorem tails_1 (w : World) : (Instr.index 142 (.agg #[.string tailA, .string tailB]) (.int .i64 1)).run Tryz.prog w = .ok (.string tailB) w := by kernel_rfl
set_option maxRecDepth 100000 in
set_option maxHeartbeats 4000000 in
theorem begins_any (t : ByteArray) (ht : t.size ≤ 4611686018427387904) (w : World) : Calls Tryz.prog 100 #[.string t] w fun e w' => e = .returned (.bool (begB t)) ∧ Below w.heap.size w w' := by
  obtain ⟨z1, z2⟩ := size_tail t
  have hA : (t ++ tailA).size ≤ maxLen := by unfold maxLen; omega
  have hB : (t ++ tailB).size ≤ maxLen := by unfold maxLen; omega
  obtain ⟨nA, hnA⟩ : ∃ nA, nA = wd (t ++ tailA) 0 := ⟨_, rfl⟩
  obtain ⟨nB, hnB⟩ : ∃ nB, nB = wd (t ++ tailB) 0 := ⟨_, rfl⟩
  have hbv : begB t = (decide (t.size < nA) || decide (t.size < nB)) := by unfold begB; rw [hnA, hnB]
  have HBV := hide hbv
  have HNA := hide hnA
  have HNB := hide hnB
  clear hnA hnB hbv
  have vA := firstV_pos (s := t ++ tailA) (by omega)
  have vB := firstV_pos (s := t ++ tailB) (by omega)
  have HA := hide hA
  have HB := hide hB
  have hsz : t.size + 3 ≤ maxLen := by unfold maxLen; omega
  have hx0 := tails_0
  have hx1 := tails_1
  clear z1 z2 hA hB
  go_enter Tryz.func100, Tryz.ntmps100
  go_wp2_with fail
  refine wp_loop_rounds 3 ?_
  rw [rounds_succ]
  go_wp2_with fail
  refine (first_any (t ++ tailA) (unhide HA) _).mono ?_
  rintro e w1 ⟨rfl, hb⟩
  rw [vA]
  have x1 : (w1.alloc (.cells (spotCells (spotV (t ++ tailA) 0)) 110)).cell? ⟨w1.heap.size, 1, none⟩ = some (.int .i64 (nA : Int)) := by rw [unhide HNA]; exact (Blk.new w1 (spotCells (spotV (t ++ tailA) 0)) 110).cell 1
  have HWA := hide (hb.alloc hb.size (.cells (spotCells (spotV (t ++ tailA) 0)) 110))
  dsimp only [spotCells] at x1
  clear hb
  by_cases hA : t.size < nA
  · have hv : begB t = true := by rw [unhide HBV]; simp [hA]
    have HV := hide hv
    have hA' : (t.size : Int) < (nA : Int) := by omega
    clear hv hA
    go_wp2_with fail
    go_ret
    exact ⟨by rw [unhide HV]; rfl, unhide HWA⟩
  have hA' : ¬ (t.size : Int) < (nA : Int) := by omega
  go_wp2_with fail
  rw [rounds_succ]
  go_wp2_with fail
  clear x1 hA'
  refine (first_any (t ++ tailB) (unhide HB) _).mono ?_
  rintro e w2 ⟨rfl, hb⟩
  rw [vB]
  have x1 : (w2.alloc (.cells (spotCells (spotV (t ++ tailB) 0)) 110)).cell? ⟨w2.heap.size, 1, none⟩ = some (.int .i64 (nB : Int)) := by rw [unhide HNB]; exact (Blk.new w2 (spotCells (spotV (t ++ tailB) 0)) 110).cell 1
  have hq := (unhide HWA).trans (hb.mono (unhide HWA).size)
  have HWB := hide (hq.alloc hq.size (.cells (spotCells (spotV (t ++ tailB) 0)) 110))
  clear hq
  dsimp only [spotCells] at x1
  clear hb
  by_cases hB : t.size < nB
  · have hv : begB t = true := by rw [unhide HBV]; simp [hB]
    have HV := hide hv
    have hB' : (t.size : Int) < (nB : Int) := by omega
    clear hv hB hA
    go_wp2_with fail
    go_ret
    exact ⟨by rw [unhide HV]; rfl, unhide HWB⟩
  have hv : begB t = false := by rw [unhide HBV]; simp [hA, hB]
  have HV := hide hv
  have hB' : ¬ (t.size : Int) < (nB : Int) := by omega
  clear hv hB hA
  go_wp2_with fail
  rw [rounds_succ]
  go_wp2
  go_ret
  exact ⟨by rw [unhide HV]; rfl, unhide HWB⟩
/-- How many bytes of a text may yet become a rune's. -/
def begLen (t : ByteArray) : Nat := scanTo (fun n => begB (t.extract 0 (n + 1))) t.size 0
set_option maxRecDepth 100000 in
set_option maxHeartbeats 4000000 in
theorem begun_text (t : ByteArray) (ht : t.size ≤ 4611686018427387904) (w : World) : Calls Tryz.prog 82 #[.string t] w fun e w' => e = .returned (.int .i64 (begLen t)) ∧ Below w.heap.size w w' := by
  go_enter Tryz.func82, Tryz.ntmps82
  go_wp2
  go_loopw [3] (fun i wr => ∃ k : Nat, k ≤ t.size ∧ i = .int .i64 k ∧ Hz (begLen t = scanTo (fun n => begB (t.extract 0 (n + 1))) t.size k) ∧ Hz (Below w.heap.size w wr)) (fun i _ => t.size - (intOf i).toNat)
  case atStart => exact ⟨0, by omega, rfl, hide rfl, hide (Below.refl _ _)⟩
  case round =>
    obtain ⟨k, hk, rfl, HK, HW⟩ := hrel
    by_cases hkt : k < t.size
    · have hkt' : (k : Int) < (t.size : Int) := by omega
      have hi1 : (k : Int) + 1 ≤ (t.size : Int) := by omega
      have hi2 : ((k : Int) + 1).toNat = k + 1 := by omega
      cases hbg : begB (t.extract 0 (k + 1)) with
      | true =>
        have HN := hide (scanTo_go (p := fun n => begB (t.extract 0 (n + 1))) (hi := t.size) (n := k) hkt hbg)
        go_wp2_with fail
        refine (begins_any (t.extract 0 (k + 1)) (by rw [ByteArray.size_extract]; omega) _).mono ?_
        rintro e w1 ⟨rfl, hb⟩
        have HW1 := hide ((unhide HW).trans (hb.mono (unhide HW).size))
        clear hb
        rw [hbg]
        go_wp2_with fail
        go_roundw
        case rel => exact ⟨k + 1, by omega, by go_num, hide ((unhide HK).trans (unhide HN)), HW1⟩
        case measure => simp [intOf]; omega
      | false =>
        have HN := hide (scanTo_no (p := fun n => begB (t.extract 0 (n + 1))) (hi := t.size) (n := k) hbg)
        go_wp2_with fail
        refine (begins_any (t.extract 0 (k + 1)) (by rw [ByteArray.size_extract]; omega) _).mono ?_
        rintro e w1 ⟨rfl, hb⟩
        have HW1 := hide ((unhide HW).trans (hb.mono (unhide HW).size))
        clear hb
        rw [hbg]
        go_wp2_with fail
        go_ret
        exact ⟨ret_i (by rw [unhide HK, unhide HN]), unhide HW1⟩
    · have hkt' : ¬ (k : Int) < (t.size : Int) := by omega
      have HN := hide (scanTo_end (p := fun n => begB (t.extract 0 (n + 1))) (hi := t.size) (n := k) hkt)
      go_wp2_with fail
      go_ret
      exact ⟨ret_i (by rw [unhide HK, unhide HN]), unhide HW⟩
end Go.Proofs.YtcnhkhjkeemafaaGreatDoor
/- A range over a function that may hold ranges of its own: the caller's state speaks of blocks older than the call alone; a round leaves all that is newer as it is. -/
namespace Go.Proofs.YtcnhkhjkeemafaaGreatDoor
open Go.RowKit Go.Shelf
set_option linter.unusedVariables false
/-- All blocks from B on are as they were. -/
structure Above (B : Nat) (W W' : World) : Prop where
  size : W.heap.size ≤ W'.heap.size
  same : ∀ k, B ≤ k → k < W.heap.size → W'.heap[k]? = W.heap[k]?
theorem Above.refl (B : Nat) (W : World) : Above B W W := ⟨Nat.le_refl _, fun _ _ _ => rfl⟩
theorem Above.trans {B : Nat} {X Y Z : World} (h : Above B X Y) (k : Above B Y Z) : Above B X Z := ⟨Nat.le_trans h.size k.size, fun i hB hi => (k.same i hB (by have := h.size; omega)).trans (h.same i hB hi)⟩
theorem Above.mono {B B' : Nat} {X Y : World} (h : Above B X Y) (hB : B ≤ B') : Above B' X Y := ⟨h.size, fun i hi hk => h.same i (by omega) hk⟩
theorem Above.below {B : Nat} {X Y : World} (h : Below X.heap.size X Y) : Above B X Y := ⟨h.size, fun k _ hk => h.block k hk⟩
theorem Above.alloc {B : Nat} {X Y : World} (h : Above B X Y) (o : Obj) : Above B X (Y.alloc o) := h.trans ⟨by simp, fun k _ hk => Below.heap_alloc Y o k hk⟩
theorem Above.set {B b i : Nat} {X Y : World} (h : Above B X Y) (hb : b < B) (v : Value) : Above B X (Y.setCell ⟨b, i, none⟩ v) := h.trans ⟨(KeepsWalks.setCell Y _ v).size, fun k hk _ => Below.heap_setCell Y ⟨b, i, none⟩ v k (by show k ≠ b; omega)⟩
theorem Above.put {B l : Nat} {X Y : World} (h : Above B X Y) (hl : l < B) (o : Obj) : Above B X (Y.putObj l o) := h.trans ⟨by simp, fun k hk _ => World.putObj_heap_other (by omega)⟩
theorem Above.drew {B : Nat} {X Y : World} (h : Above B X Y) : Above B X Y.drew := ⟨h.size, h.same⟩
theorem below_put {B l : Nat} (W : World) (hl : B ≤ l) (o : Obj) : Below B W (W.putObj l o) := ⟨rfl, rfl, rfl, by simp, fun k hk => World.putObj_heap_other (by omega)⟩
/-- What speaks of blocks below B alone. -/
def Old {β : Type} (B : Nat) (I : β → World → Prop) : Prop := ∀ s X Y, I s X → Below B X Y → I s Y
theorem Old.mono {β : Type} {B B' : Nat} {I : β → World → Prop} (h : Old B I) (hB : B ≤ B') : Old B' I := fun s X Y hs hb => h s X Y hs (hb.mono hB)
/-- The word of an iterator. -/
def SeqDeep {α : Type} (F : Fence) (n : Nat) (P : Program) (g : Nat) (lb : Array Value) (encs : α → Array Value) (Kp : World → World → Prop) (S Sp : List α → Prop) (Nx : List α → α → Prop) (w : World) : Prop :=
  ∀ (l : Nat) (J Jx : List α → World → Prop) (W : World), Below w.heap.size w W → Old W.heap.size J → Old W.heap.size Jx →
    (∀ pre x W1, J pre W1 → Nx pre x → W.heap.size ≤ W1.heap.size → YieldAt F (n - 1) P l (encs x) W1 fun e W' => Above W.heap.size W1 W' ∧
      ((e = .returned (.bool true) ∧ J (pre ++ [x]) W' ∧ Kp W1 W') ∨ (e = .returned (.bool false) ∧ Jx (pre ++ [x]) W'))) →
    J [] W → CallsIn F n P g (#[.func (.yield l) #[] #[]] ++ lb) W fun e W' => (∃ v, e = .returned v) ∧ ((∃ xs, S xs ∧ J xs W') ∨ (∃ pre, Sp pre ∧ Jx pre W'))
/-- How a round may be left. -/
def deepPost {α : Type} (B : Nat) (Kp : World → World → Prop) (I : List α → World → Prop) (Ix : Code → List α → World → Prop) (xs : List α) (W : World) : Exit → Act → World → Prop
  | .normal, _, W' => Above B W W' ∧ Kp W W' ∧ I xs W'
  | .ret, _, W' => Above B W W' ∧ Ix .ret xs W'
  | .exit id, _, W' => Above B W W' ∧ Ix (.exit id) xs W'
  | .goto t, _, W' => Above B W W' ∧ Ix (.goto t) xs W'
  | .panic _, _, _ => False
  | .outgrown, _, _ => False
section
variable {F : Fence} {n : Nat} {P : Program}
/-- The end of a round: the record says how. -/
theorem end_round {l D : Nat} {r : Loop} {Wr W3 : World} {B : Nat} (hl : Wr.heap[l]? = some (.loop r)) (hD : Wr.heap[D]? = some (.deferred (some []))) (hlD : l ≠ D) (hBl : B ≤ l) (hBD : B ≤ D) (h : Above B Wr W3) (jump : Option Code) :
    (Instr.endRound l jump).run P W3 = .ok (.bool jump.isNone) (W3.putObj l (.loop { r with state := if jump.isNone then .ready else .done, pending := jump })) ∧
    (W3.putObj l (.loop { r with state := if jump.isNone then .ready else .done, pending := jump })).heap[l]? = some (.loop { r with state := if jump.isNone then .ready else .done, pending := jump }) ∧
    (W3.putObj l (.loop { r with state := if jump.isNone then .ready else .done, pending := jump })).heap[D]? = some (.deferred (some [])) := by
  have h1 := (h.same l hBl (Array.getElem?_eq_some_iff.1 hl).1).trans hl
  have h2 := (h.same D hBD (Array.getElem?_eq_some_iff.1 hD).1).trans hD
  exact ⟨run_endRound jump h1, World.putObj_heap_same (Array.getElem?_eq_some_iff.1 h1).1, (World.putObj_heap_other (Ne.symm hlD)).trans h2⟩
/-- The record of the loop and the block for its rounds' calls. -/
def Booked (B : Nat) (st : LoopState) (pe : Option Code) (r : Loop) (W : World) : Prop := W.heap[B + 1]? = some (.loop { r with state := st, pending := pe }) ∧ W.heap[B]? = some (.deferred (some []))
theorem Booked.below {B : Nat} {st : LoopState} {pe : Option Code} {r : Loop} {X Y : World} (h : Booked B st pe r X) (hb : Below (B + 2) X Y) : Booked B st pe r Y := ⟨(hb.block _ (by omega)).trans h.1, (hb.block _ (by omega)).trans h.2⟩
theorem range_deep {α : Type} {g : Operand} {ps : Array Tmp} {assign body : Code} {Q : Exit → Act → World → Prop} {a : Act} {w : World}
    (hro : F.round = none) (h1 : 1 ≤ n) {gf : Nat} {lb : Array Value} (hg : a.eval g = .func (.func gf) #[] lb) (hFg : F.fn gf) (eg : ∀ args w, (callFunc gf args).run P w = .ok (.enter gf args) w)
    {encs : α → Array Value} {Kp : World → World → Prop} {S Sp : List α → Prop} {Nx : List α → α → Prop} {w0 : World} (hseq : SeqDeep F (n - 1) P gf lb encs Kp S Sp Nx w0)
    (hKt : ∀ {A B C : World}, Kp A B → Kp B C → Kp A C) (hKb : ∀ (W : World) (l : Nat) (o : Obj), w.heap.size ≤ l → Kp W (W.putObj l o)) (hb0 : Below w0.heap.size w0 w) (hps : ∀ x, (encs x).size = ps.size)
    (I : List α → World → Prop) (Ix : Code → List α → World → Prop) (hI : Old w.heap.size I) (hIx : ∀ c, Old w.heap.size (Ix c)) (h0 : I [] w)
    (hround : ∀ (pre : List α) (x : α) (W : World), I pre W → Nx pre x → w.heap.size + 2 ≤ W.heap.size →
      assign.wpIn (F.inRound (w.heap.size + 1)) (n - 1 - 1) P (Exit.then (fun a' Wa => Above w.heap.size W Wa ∧ Kp W Wa ∧ I pre Wa ∧
        (∀ Wr, Wa.grownBy Wr (some (w.heap.size + 1)) → Wr.heap.size = Wa.heap.size → I pre Wr → body.wpIn (F.inRound (w.heap.size + 1)) (n - 1 - 1) P (deepPost w.heap.size Kp I Ix (pre ++ [x]) Wr) a' Wr)) (fun _ _ _ => False))
        { tmps := (ps.zip (encs x)).foldl (fun t (p, v) => t.setIfInBounds p v) a.tmps, defers := [] } W)
    (hdone : ∀ (D : Nat) (xs : List α) (W : World), w.heap.size ≤ D → S xs → I xs W → W.heap[D]? = some (.deferred (some [])) → Q .normal { a with defers := { target := .collected D, args := #[] } :: a.defers } W)
    (hstop : ∀ (D : Nat) (c : Code) (pre : List α) (W : World), w.heap.size ≤ D → Sp pre → Ix c pre W → W.heap[D]? = some (.deferred (some [])) → c.wpIn F n P Q { a with defers := { target := .collected D, args := #[] } :: a.defers } W) :
    (Code.rangeFunc g ps assign body).wpIn F n P Q a w := by
  refine wpIn_rangeFunc fun fn hfn => ?_
  rw [hro]
  obtain ⟨r, hr⟩ : ∃ r : Loop, r = { state := .ready, pending := none, fn, tmps := a.tmps, params := ps, assign, body, defers := w.heap.size } := ⟨_, rfl⟩
  have r1 : r.state = .ready := by rw [hr]
  have r2 : r.pending = none := by rw [hr]
  obtain ⟨W1, hW1⟩ : ∃ W1, W1 = (w.alloc (.deferred (some []))).alloc (.loop r) := ⟨_, rfl⟩
  have hsz : W1.heap.size = w.heap.size + 2 := by rw [hW1]; simp
  have hbw : Below w.heap.size w W1 := by rw [hW1]; exact ((Below.refl _ w).alloc (Nat.le_refl _) _).alloc (by simp) _
  have hre : { r with state := .ready, pending := none } = r := by rw [hr]
  have hbk : Booked w.heap.size .ready none r W1 := by
    refine ⟨?_, ?_⟩
    · rw [hre, hW1]
      have := World.alloc_heap_new (w.alloc (.deferred (some []))) (.loop r)
      rwa [World.size_alloc] at this
    · rw [hW1]
      exact (Below.heap_alloc _ _ _ (by simp)).trans (World.alloc_heap_new w _)
  refine ⟨w.heap.size + 1, [{ target := .collected w.heap.size, args := #[] }], W1, { target := .fn (.func gf) lb, args := #[.func (.yield (w.heap.size + 1)) #[] #[]] }, W1, gf, #[.func (.yield (w.heap.size + 1)) #[] #[]] ++ lb, W1, ?_, ?_, ?_, ?_, fun _ => h1, ?_⟩
  · rw [hW1, hr]
    exact run_enterLoop_outer _ _ _ _ _
  · simp only [resolve, hg]
    simp [go_sem]
  · intro f' hf'
    simp [Target.leads] at hf'
    subst hf'
    exact hFg
  · simp [invoke, go_sem, eg]
  · refine (hseq (w.heap.size + 1) (fun pre W => I pre W ∧ Booked w.heap.size .ready none r W) (fun pre W => ∃ c, Ix c pre W ∧ Booked w.heap.size .done (some c) r W) W1 (hb0.trans (hbw.mono hb0.size))
      (fun s X Y hs hb => ⟨hI s X Y hs.1 (hb.mono (by omega)), hs.2.below (by rw [← hsz]; exact hb)⟩)
      (fun s X Y hs hb => by obtain ⟨c, h1, h2⟩ := hs; exact ⟨c, hIx c s X Y h1 (hb.mono (by omega)), h2.below (by rw [← hsz]; exact hb)⟩) ?_ ⟨hI [] w W1 h0 hbw, hbk⟩).mono ?_
    · rintro pre x W ⟨hi, hl, hd⟩ hlen hge
      rw [hre] at hl
      have hy := run_yield (P := P) (args := encs x) hl (by rw [hr]; exact hps x)
      refine ⟨r.fn, _, r.assign, r.body, hy, roundIn_of_wpIn (by rw [hr]; exact hfn) ?_⟩
      rw [show r.params = ps by rw [hr], show r.tmps = a.tmps by rw [hr], show r.assign = assign by rw [hr], show r.body = body by rw [hr]]
      refine wpIn_mono (hround pre x W hi hlen (by omega)) ?_
      intro e a' Wa hp
      cases e with
      | normal =>
        obtain ⟨hab, hkp, hia, hgo⟩ := hp
        have hl' := (hab.same _ (by omega) (Array.getElem?_eq_some_iff.1 hl).1).trans hl
        have hd' := (hab.same _ (Nat.le_refl _) (Array.getElem?_eq_some_iff.1 hd).1).trans hd
        refine ⟨_, run_beginRound hl' r1, ?_⟩
        have hgw := grownBy_putObj' Wa (w.heap.size + 1) (.loop { r with state := .busy })
        obtain ⟨Wr, hWr⟩ : ∃ Wr, Wr = Wa.putObj (w.heap.size + 1) (.loop { r with state := .busy }) := ⟨_, rfl⟩
        rw [← hWr] at hgw ⊢
        have hlr : Wr.heap[w.heap.size + 1]? = some (.loop { r with state := .busy }) := by rw [hWr]; exact World.putObj_heap_same (Array.getElem?_eq_some_iff.1 hl').1
        have hdr : Wr.heap[w.heap.size]? = some (.deferred (some [])) := by rw [hWr]; exact (World.putObj_heap_other (by omega)).trans hd'
        have hkr : Kp Wa Wr := by rw [hWr]; exact hKb _ _ _ (by omega)
        have har : Above W1.heap.size W Wr := by rw [hWr]; exact (hab.mono (by omega)).put (by omega) _
        have hir : I pre Wr := hI _ _ _ hia (by rw [hWr]; exact below_put Wa (by omega) _)
        refine wpIn_mono (hgo Wr hgw (by rw [hWr]; simp) hir) ?_
        intro e a3 W3 hp
        have fin : ∀ jump : Option Code, Above w.heap.size Wr W3 → (Instr.endRound (w.heap.size + 1) jump).run P W3 = .ok (.bool jump.isNone) (W3.putObj (w.heap.size + 1) (.loop { r with state := if jump.isNone then .ready else .done, pending := jump })) ∧ Booked w.heap.size (if jump.isNone then .ready else .done) jump r (W3.putObj (w.heap.size + 1) (.loop { r with state := if jump.isNone then .ready else .done, pending := jump })) ∧ Above W1.heap.size W (W3.putObj (w.heap.size + 1) (.loop { r with state := if jump.isNone then .ready else .done, pending := jump })) := fun jump h => by
          have q := end_round (P := P) hlr hdr (by omega) (by omega) (Nat.le_refl _) h jump
          exact ⟨q.1, ⟨q.2.1, q.2.2⟩, (har.trans (h.mono (by omega))).put (by omega) _⟩
        cases e with
        | normal =>
          obtain ⟨p1, p2, p3⟩ := hp
          obtain ⟨q1, q2, q3⟩ := fin none p1
          exact ⟨_, _, q1, q3, .inl ⟨rfl, ⟨hI _ _ _ p3 (below_put W3 (by omega) _), q2⟩, hKt hkp (hKt hkr (hKt p2 (hKb _ _ _ (by omega))))⟩⟩
        | ret =>
          obtain ⟨p1, p3⟩ := hp
          obtain ⟨q1, q2, q3⟩ := fin (some .ret) p1
          exact ⟨_, _, q1, q3, .inr ⟨rfl, .ret, hIx _ _ _ _ p3 (below_put W3 (by omega) _), q2⟩⟩
        | exit id =>
          obtain ⟨p1, p3⟩ := hp
          obtain ⟨q1, q2, q3⟩ := fin (some (.exit id)) p1
          exact ⟨_, _, q1, q3, .inr ⟨rfl, .exit id, hIx _ _ _ _ p3 (below_put W3 (by omega) _), q2⟩⟩
        | goto t =>
          obtain ⟨p1, p3⟩ := hp
          obtain ⟨q1, q2, q3⟩ := fin (some (.goto t)) p1
          exact ⟨_, _, q1, q3, .inr ⟨rfl, .goto t, hIx _ _ _ _ p3 (below_put W3 (by omega) _), q2⟩⟩
        | panic ch => exact hp.elim
        | outgrown => exact hp.elim
      | ret => exact hp.elim
      | exit id => exact hp.elim
      | goto t => exact hp.elim
      | panic ch => exact hp.elim
      | outgrown => exact hp.elim
    · rintro e W2 ⟨⟨v, rfl⟩, (⟨xs, hS, hi, hb⟩ | ⟨pre, hSp, c, hi, hb⟩)⟩
      · exact ⟨none, _, run_endLoop (P := P) hb.1 (by simp), hdone _ xs _ (Nat.le_refl _) hS (hI _ _ _ hi (below_put W2 (by omega) _)) ((World.putObj_heap_other (by omega)).trans hb.2)⟩
      · exact ⟨some c, _, run_endLoop (P := P) hb.1 (by simp), hstop _ c pre _ (Nat.le_refl _) hSp (hIx c _ _ _ hi (below_put W2 (by omega) _)) ((World.putObj_heap_other (by omega)).trans hb.2)⟩
end
end Go.Proofs.YtcnhkhjkeemafaaGreatDoor
/- quoted: the rune between two quotes. -/
namespace Go.Proofs.YtcnhkhjkeemafaaGreatDoor
open Go.RowKit Go.Shelf
set_option linter.unusedVariables false
/-- The text behind its first byte. -/
def tl1 (t : ByteArray) : ByteArray := t.extract 1 t.size
/-- The rune, its bytes with both quotes, whether it is one. -/
def quoV (t : ByteArray) : Nat × Nat × Bool :=
  if (tl1 t).size = 0 then (0, t.size, false) else if rn (tl1 t) 0 < 32 ∨ rn (tl1 t) 0 = 39 ∨ rn (tl1 t) 0 = 127 then (0, 1, false) else if wholeB (tl1 t) = false then (0, 1 + begLen (tl1 t), false)
  else if ¬ wd (tl1 t) 0 < (tl1 t).size then (0, t.size, false) else if rn (tl1 t) (wd (tl1 t) 0) = 39 then (rn (tl1 t) 0, wd (tl1 t) 0 + 2, true) else (0, 1 + wd (tl1 t) 0, false)
theorem tl1_size (t : ByteArray) : (tl1 t).size = t.size - 1 := by unfold tl1; rw [ByteArray.size_extract]; omega
theorem tupR_mk {a n : Nat} {i : Int} {b : Bool} (h : i = n) : Ending.returned (.tuple #[.int .i32 (a : Int), .int .i64 i, .bool b]) = .returned (tupR (a, n, b)) := by subst h; rfl
set_option maxRecDepth 100000 in
set_option maxHeartbeats 4000000 in
theorem quoted_any (t : ByteArray) (ht : t.size ≤ 4611686018427387904) (hp : 0 < t.size) (w : World) : Calls Tryz.prog 50 #[.string t] w fun e w' => e = .returned (tupR (quoV t)) ∧ Below w.heap.size w w' := by
  have hz := tl1_size t
  have h1t : (1 : Int) ≤ (t.size : Int) := by omega
  obtain ⟨u, hu⟩ : ∃ u, u = tl1 t := ⟨_, rfl⟩
  have hue : t.extract 1 t.size = u := by rw [hu]; rfl
  have hq : quoV t = if u.size = 0 then (0, t.size, false) else if rn u 0 < 32 ∨ rn u 0 = 39 ∨ rn u 0 = 127 then (0, 1, false) else if wholeB u = false then (0, 1 + begLen u, false) else if ¬ wd u 0 < u.size then (0, t.size, false) else if rn u (wd u 0) = 39 then (rn u 0, wd u 0 + 2, true) else (0, 1 + wd u 0, false) := by unfold quoV; rw [hu]
  rw [← hu] at hz
  clear hu
  have HQ := hide hq
  have HZ := hide hz
  clear hq hz
  go_enter Tryz.func50, Tryz.ntmps50
  go_wp2_with fail
  refine wp_loop_rounds 3 ?_
  rw [rounds_succ]
  by_cases h0 : 0 < u.size
  · have hnx : ∀ ty, (Instr.next (.pointer (some ⟨w.heap.size, 0, none⟩)) true ty).run Tryz.prog (w.iter u 0) = _ := fun ty => run_next_any w u 0 ty h0
    have hr := (at_told u 0)
    obtain ⟨x, hx⟩ : ∃ x, x = rn u 0 := ⟨_, rfl⟩
    obtain ⟨d, hd⟩ : ∃ d, d = wd u 0 := ⟨_, rfl⟩
    have hdr := wd_room u 0 h0
    have hdp := wd_pos u 0
    rw [← hd] at hdr hdp
    rw [show (Utf8.decode u 0).1 = x from hx.symm, show 0 + (Utf8.decode u 0).2 = d by rw [Nat.zero_add]; exact hd.symm] at hnx
    have hq := unhide HQ
    rw [← hx, ← hd, if_neg (by omega)] at hq
    clear HQ
    by_cases hlow : x < 32 ∨ x = 39 ∨ x = 127
    · rw [if_pos hlow] at hq
      have HQ := hide hq
      clear hq hr hd hx
      have hb : Below w.heap.size w (w.iter u d) := (Below.refl _ w).alloc (Nat.le_refl _) _
      have HB := hide hb
      clear hb
      rcases hlow with h | h | h
      · have h' : (x : Int) < 32 := by omega
        clear h
        go_wp2_with fail
        go_ret3
        exact ⟨by rw [unhide HQ]; rfl, unhide HB⟩
      · have h' : ¬ (x : Int) < 32 := by omega
        have h'' : ((x : Int) == 39) = true := by rw [beq_iff_eq]; omega
        clear h
        go_wp2_with fail
        go_ret3
        exact ⟨by rw [unhide HQ]; rfl, unhide HB⟩
      · have h' : ¬ (x : Int) < 32 := by omega
        have h'' : ((x : Int) == 39) = false := by rw [beq_eq_false_iff_ne]; omega
        have h3 : ((x : Int) == 127) = true := by rw [beq_iff_eq]; omega
        clear h
        go_wp2_with fail
        go_ret3
        exact ⟨by rw [unhide HQ]; rfl, unhide HB⟩
    · rw [if_neg hlow] at hq
      have h1 : ¬ (x : Int) < 32 := by omega
      have h2 : ((x : Int) == 39) = false := by rw [beq_eq_false_iff_ne]; omega
      have h3 : ((x : Int) == 127) = false := by rw [beq_eq_false_iff_ne]; omega
      clear hlow
      have HQ := hide hq
      clear hq hr
      have hu1 : u.size ≤ maxLen := by have := unhide HZ; unfold maxLen; omega
      have hu2 : u.size ≤ 4611686018427387904 := by have := unhide HZ; omega
      have hb : Below w.heap.size w (w.iter u d) := (Below.refl _ w).alloc (Nat.le_refl _) _
      have hit : (w.iter u d).heap[w.heap.size]? = some (.stringIter u d) := World.alloc_heap_new w _
      have hsz : (w.iter u d).heap.size = w.heap.size + 1 := World.size_alloc w _
      have HB := hide hb
      have HIT := hide hit
      have HSZ := hide hsz
      have HX := hide hx
      have HD := hide hd
      clear hb hit hsz hx hd
      go_wp2_with fail
      refine (whole_any u hu1 _).mono ?_
      rintro e w1 ⟨rfl, hb1⟩
      have HB1 := hide ((unhide HB).trans (hb1.mono (unhide HB).size))
      have HIT1 : Hz (w1.heap[w.heap.size]? = some (.stringIter u d)) := hide ((hb1.block _ (by rw [unhide HSZ]; omega)).trans (unhide HIT))
      clear hb1 HB HIT HSZ hnx
      cases hwh : wholeB u with
      | false =>
        have hq := unhide HQ
        rw [if_pos hwh] at hq
        have HQ2 := hide hq
        clear hq HQ hwh
        go_wp2_with fail
        refine (begun_text u hu2 _).mono ?_
        rintro e w2 ⟨rfl, hb2⟩
        have HB2 := hide ((unhide HB1).trans (hb2.mono (unhide HB1).size))
        have hbl : begLen u ≤ u.size := (scanTo_le _ (Nat.zero_le _)).2
        have hbl' : (begLen u : Int) ≤ 4611686018427387904 := by omega
        clear hb2
        go_wp2_with fail
        go_ret3
        exact ⟨by rw [unhide HQ2]; go_num, unhide HB2⟩
      | true =>
        have hq := unhide HQ
        rw [if_neg (by rw [hwh]; decide)] at hq
        clear HQ hwh
        have HQ := hide hq
        clear hq
        go_wp2_with fail
        rw [rounds_succ]
        by_cases hdu : d < u.size
        · have hnx : ∀ ty, (Instr.next (.pointer (some ⟨w.heap.size, 0, none⟩)) true ty).run Tryz.prog w1 = _ := fun ty => Lib.run_next_any_at w1 w.heap.size u d ty (unhide HIT1) hdu
          obtain ⟨y, hy⟩ : ∃ y, y = rn u d := ⟨_, rfl⟩
          rw [show (Utf8.decode u d).1 = y from hy.symm] at hnx
          have hq := unhide HQ
          rw [if_neg (by omega), ← hy] at hq
          have hB2 : Below w.heap.size w (w1.iterAt w.heap.size u (d + (Utf8.decode u d).2)) := (unhide HB1).trans (below_put w1 (Nat.le_refl _) _)
          have HB2 := hide hB2
          have hd0 : (0 : Int) < (d : Int) := by omega
          have hdb : (d : Int) ≤ 4611686018427387904 := by omega
          clear HQ hy hB2
          by_cases h39 : y = 39
          · rw [if_pos h39] at hq
            have HQ2 := hide hq
            have h' : ((y : Int) == 39) = true := by rw [beq_iff_eq]; omega
            clear hq h39
            go_wp2_with fail
            go_ret3
            exact ⟨by rw [unhide HQ2]; exact tupR_mk (by omega), unhide HB2⟩
          · rw [if_neg h39] at hq
            have HQ2 := hide hq
            have h' : ((y : Int) == 39) = false := by rw [beq_eq_false_iff_ne]; omega
            clear hq h39
            go_wp2_with fail
            go_ret3
            exact ⟨by rw [unhide HQ2]; exact tupR_mk (a := 0) (by omega), unhide HB2⟩
        · have hnx : ∀ ty, (Instr.next (.pointer (some ⟨w.heap.size, 0, none⟩)) true ty).run Tryz.prog w1 = _ := fun ty => Lib.run_next_end_at w1 w.heap.size u d ty (unhide HIT1) hdu
          have hq := unhide HQ
          rw [if_pos (by omega)] at hq
          have HQ2 := hide hq
          clear hq HQ
          go_wp2_with fail
          go_ret3
          exact ⟨by rw [unhide HQ2]; rfl, unhide HB1⟩
  · have hu0 : u.size = 0 := by omega
    have hnx : ∀ ty, (Instr.next (.pointer (some ⟨w.heap.size, 0, none⟩)) true ty).run Tryz.prog (w.iter u 0) = _ := fun ty => run_next_end w u 0 ty h0
    have hq := unhide HQ
    rw [if_pos hu0] at hq
    have HQ2 := hide hq
    have hb : Below w.heap.size w (w.iter u 0) := (Below.refl _ w).alloc (Nat.le_refl _) _
    have HB := hide hb
    clear hq hb HQ hu0
    go_wp2_with fail
    go_ret3
    exact ⟨by rw [unhide HQ2]; rfl, unhide HB⟩
end Go.Proofs.YtcnhkhjkeemafaaGreatDoor
/- remark: a remark's bytes, or what stands ahead of what is wrong in it. -/
namespace Go.Proofs.YtcnhkhjkeemafaaGreatDoor
open Go.RowKit Go.Shelf
set_option linter.unusedVariables false
theorem cut_sh (s sep : ByteArray) (m : Int) (w : World) (hs : s.size < 4294967281) (hm : w.cell? ⟨0, 0, none⟩ = some (.int .i64 m)) :
    Calls Tryz.prog 97 #[.string s, .string sep] w fun e w' => e = .returned (.tuple #[.string ⟨(Lib.cut s.data.toList sep.data.toList).1.toArray⟩, .string ⟨(Lib.cut s.data.toList sep.data.toList).2.1.toArray⟩, .bool (Lib.cut s.data.toList sep.data.toList).2.2]) ∧ ∃ n, w' = w.drewN n := Any.strings_Cut lay145 s sep m w hs hm
/-- Where the first line ends. -/
def nlAt (t : ByteArray) : Nat := scanTo (fun n => !decide (bt t n = 10)) t.size 0
theorem nlAt_le (t : ByteArray) : nlAt t ≤ t.size := (scanTo_le _ (Nat.zero_le _)).2
theorem scanTo_all {p : Nat → Bool} {hi m : Nat} : ∀ k n, m = n + k → m ≤ hi → (∀ j, n ≤ j → j < m → p j = true) → scanTo p hi n = scanTo p hi m
  | 0, n, h, _, _ => by rw [h]; rfl
  | k + 1, n, h, hm, hp => by
    rw [scanTo_go (by omega) (hp n (Nat.le_refl _) (by omega))]
    exact scanTo_all k (n + 1) (by omega) hm (fun j h1 h2 => hp j (by omega) h2)
theorem bt_list (t : ByteArray) (k : Nat) (h : k < t.size) : t.data.toList[k]? = some (t.get! k) := by
  rw [get_lt t k h]; simp
theorem cut_nl (t : ByteArray) : (⟨(Lib.cut t.data.toList [10]).1.toArray⟩ : ByteArray) = t.extract 0 (nlAt t) := by
  have hx := Lib.index_one t.data.toList 10
  have hlen : t.data.toList.length = t.size := Array.length_toList
  unfold Lib.cut
  rw [hx]
  by_cases h : 0 ≤ Lib.indexByte t.data.toList 10
  · obtain ⟨o, ho⟩ : ∃ o : Nat, Lib.indexByte t.data.toList 10 = o := ⟨(Lib.indexByte t.data.toList 10).toNat, by omega⟩
    obtain ⟨h1, h2⟩ := Lib.indexByte_some ho
    have hos : o < t.size := by rw [← hlen]; exact (List.getElem?_eq_some_iff.1 h1).1
    have e : nlAt t = o := by
      unfold nlAt
      rw [scanTo_all (m := o) o 0 (by omega) (by omega) (fun j _ hj => ?_), scanTo_no ?_]
      · rw [bt_list t o hos] at h1
        have : t.get! o = 10 := Option.some.inj h1
        unfold bt
        rw [this]; rfl
      · have := h2 j hj
        rw [bt_list t j (by omega)] at this
        have hn : t.get! j ≠ 10 := fun e => this (by rw [e])
        have : ¬ bt t j = 10 := fun e => hn (UInt8.toNat.inj (by unfold bt at e; rw [e]; rfl))
        simp [this]
    rw [if_pos h, ho, e]
    apply ByteArray.ext
    rw [ByteArray.data_extract]
    apply Array.toList_inj.1
    simp [Array.toList_extract, List.extract]
  · have hn : Lib.indexByte t.data.toList 10 = -1 := by have := Lib.indexByte_ge t.data.toList 10; omega
    have h2 := Lib.indexByte_none hn
    have e : nlAt t = t.size := by
      unfold nlAt
      rw [scanTo_all (m := t.size) t.size 0 (by omega) (by omega) (fun j _ hj => ?_), scanTo_end (by omega)]
      have := h2 j
      rw [bt_list t j hj] at this
      have hn : t.get! j ≠ 10 := fun e => this (by rw [e])
      have : ¬ bt t j = 10 := fun e => hn (UInt8.toNat.inj (by unfold bt at e; rw [e]; rfl))
      simp [this]
    rw [if_neg h, e, ByteArray.extract_zero_size]
/-- The first bad spot. -/
def badOf (s : ByteArray) : Option Nat := (starts s).find? (badB s)
theorem validV_some {s : ByteArray} {x : Nat} (h : badOf s = some x) : ∃ y : Nat, validV s = .tuple #[.agg #[.int .i64 x, .int .i64 y], .bool false] := by
  obtain ⟨hb, q, r, e, hq⟩ := List.find?_eq_some_iff_append.1 h
  refine ⟨q.length, ?_⟩
  unfold validV
  rw [e, validFrom_some s x r hb q 0 (fun i hi => by simpa using hq i hi), Nat.zero_add]
theorem validV_none {s : ByteArray} (h : badOf s = none) : validV s = .tuple #[.agg #[.int .i64 0, .int .i64 0], .bool true] := by
  unfold validV
  exact validFrom_none s _ 0 (fun i hi => by simpa using List.find?_eq_none.1 h i hi)
/-- The remark's bytes, and whether it is right. -/
def remV (t : ByteArray) : Nat × Bool :=
  match badOf (t.extract 0 (nlAt t)) with
  | none => ((t.extract 0 (nlAt t)).size, true)
  | some x => (x + begLen ((t.extract 0 (nlAt t)).extract x (t.extract 0 (nlAt t)).size), false)
abbrev tupB (x : Nat × Bool) : Value := .tuple #[.int .i64 x.1, .bool x.2]
theorem tupB_mk {n : Nat} {i : Int} {b : Bool} (h : i = n) : Ending.returned (.tuple #[.int .i64 i, .bool b]) = .returned (tupB (n, b)) := by subst h; rfl
theorem wrap_i64 {n : Int} (h1 : -9223372036854775808 ≤ n) (h2 : n ≤ 9223372036854775807) : IntKind.i64.wrap n = n := by
  simp [IntKind.wrap, IntKind.bits, IntKind.signed]
  omega
end Go.Proofs.YtcnhkhjkeemafaaGreatDoor
/- The reference's own Sequence, told for every text: the width and the rune of the decoding, or nothing where it is bad. -/
namespace Go.Proofs.YtcnhkhjkeemafaaGreatDoor
open Go.RowKit Go.Shelf
set_option linter.unusedVariables false

/-- A bound for the rune's bits. -/
def bndOf (k : Nat) : Nat := if k = 1 then 32 else if k = 2 then 2048 else if k = 3 then 131072 else 8388608
theorem bnd_step (k A c : Nat) (h1 : 1 ≤ k) (h4 : k < 4) (hA : A < bndOf k) : A < 33554432 ∧ A * 64 + c % 64 < bndOf (k + 1) := by
  have : k = 1 ∨ k = 2 ∨ k = 3 := by omega
  rcases this with rfl | rfl | rfl <;> simp [bndOf] at hA ⊢ <;> omega
theorem step_bits (A c : Nat) (hA : A < 33554432) : bits BinOp.or IntKind.i32 (wrap32 (↑A * 64)) (↑c % 64) = ((A * 64 + c % 64 : Nat) : Int) := by
  rw [show wrap32 ((A : Int) * 64) = (A : Int) * 64 by unfold wrap32; omega]
  have h := i32_or6 ((A : Int) * 64) ((c : Int) % 64) (by omega) (by omega) (by omega) (by omega) (by omega)
  rw [h]
  omega

theorem and7 (b : Nat) (h : b < 256) : bits BinOp.and IntKind.u8 (b : Int) 7 = (b : Int) % 8 := by
  have e := u8_and_nat b 7 h (by omega)
  rw [show ((7 : Nat) : Int) = 7 from rfl] at e
  rw [e, show (7 : Nat) = 2 ^ 3 - 1 from rfl, Nat.and_two_pow_sub_one_eq_mod]
  omega

end Go.Proofs.YtcnhkhjkeemafaaGreatDoor
/- The reference's Sequence once more: leading bytes of four, and all texts together. -/
namespace Go.Proofs.YtcnhkhjkeemafaaGreatDoor
open Go.RowKit Go.Shelf
set_option linter.unusedVariables false

end Go.Proofs.YtcnhkhjkeemafaaGreatDoor
/- The reference's own list of spots, told for every text that is not too great: a new list, spot by spot, the decoding's. -/
namespace Go.Proofs.YtcnhkhjkeemafaaGreatDoor
open Go.RowKit Go.Shelf
set_option linter.unusedVariables false

/-- The cells of the reference's spot at i. -/
def refCells (s : ByteArray) (i : Nat) : List Value := [.int .i32 (rn s i), .int .i64 i, .int .i64 (wd s i), .bool (decide (rn s i = 65533 ∧ wd s i = 1))]
theorem seqV_at (s : ByteArray) (i : Nat) (h : i < s.size) : seqV (s.extract i s.size) = if rn s i = 65533 ∧ wd s i = 1 then (0, 0) else ((wd s i : Int), (rn s i : Int)) := by
  unfold seqV
  have e : (s.extract i s.size).size ≠ 0 := by rw [ByteArray.size_extract]; omega
  simp only [rn, wd, decode_suffix s i 0 (Nat.le_of_lt h), Nat.add_zero, e, false_or]

theorem own_lt {W : World} {base : Nat} {e : TypeId} {size : Nat} {v : Value} {n : Nat} {xs : List Value} (h : W.ownsRow base e size v n xs) : ∀ g, v.ownBlock = some g → base ≤ g ∧ g < W.heap.size := by
  intro g hg
  rcases h.2 with ⟨rfl, _⟩ | ⟨g', cap, cur, rfl, hb, hh, _⟩
  · cases hg
  · cases hg
    exact ⟨hb, (Array.getElem?_eq_some_iff.1 hh).1⟩
theorem new_cells (W : World) (c0 c1 c2 c3 : Value) (t : TypeId) : ∀ j u, [c0, c1, c2, c3][j]? = some u → (W.alloc (.cells #[c0, c1, c2, c3] t)).cell? ((⟨W.heap.size, 0, none⟩ : Addr).add j) = some u := by
  intro j u hj
  have := (Blk.new W #[c0, c1, c2, c3] t).cell j
  rw [show (⟨W.heap.size, 0, none⟩ : Addr).add j = ⟨W.heap.size, j, none⟩ by unfold Addr.add; split <;> simp_all, this, ← hj]
  simp

end Go.Proofs.YtcnhkhjkeemafaaGreatDoor
/- Plain facts: the numbers of the spots' first bytes are just the bounds below the end; the last spot is what Last answers; how a list of spots lies in memory. -/
namespace Go.Proofs.YtcnhkhjkeemafaaGreatDoor
open Go.RowKit Go.Shelf
set_option linter.unusedVariables false

theorem startsFrom_ge (s : ByteArray) : ∀ f i p, p ∈ startsFrom s f i → i ≤ p ∧ p < s.size
  | 0, i, p, h => by simp [startsFrom] at h
  | f + 1, i, p, h => by
    unfold startsFrom at h
    split at h
    · rename_i hi
      rcases List.mem_cons.1 h with rfl | h
      · exact ⟨Nat.le_refl _, hi⟩
      · have := startsFrom_ge s f _ p h
        exact ⟨by omega, this.2⟩
    · cases h

/-- Within a sequence there is no bound. -/
theorem bd_within (s : ByteArray) (i p : Nat) (h1 : i < p) (h2 : p < i + wd s i) : bdB s p = false := by
  have h4 := wd_four s i
  rw [← Bool.not_eq_true, bd_iff]
  intro h
  have := h (p - i) (by omega) (by omega) (by omega)
  rw [show p - (p - i) = i by omega] at this
  omega

theorem mem_startsFrom (s : ByteArray) : ∀ f i, s.size ≤ i + f → bdB s i = true → ∀ p, i ≤ p → p < s.size → (p ∈ startsFrom s f i ↔ bdB s p = true)
  | 0, i, hf, hb, p, h1, h2 => by omega
  | f + 1, i, hf, hb, p, h1, h2 => by
    have hi : i < s.size := by omega
    have hw := wd_pos s i
    rw [startsFrom_cons s f i hi, List.mem_cons]
    by_cases e : p = i
    · subst e; simp [hb]
    · by_cases hlt : p < i + wd s i
      · rw [bd_within s i p (by omega) hlt]
        constructor
        · rintro (h | h)
          · exact absurd h e
          · have := startsFrom_ge s f _ p h; omega
        · intro h; cases h
      · have := mem_startsFrom s f (i + wd s i) (by omega) (bd_step s i hb hi) p (by omega) h2
        rw [this]
        simp [e]
theorem mem_starts (s : ByteArray) (p : Nat) (h : p < s.size) : p ∈ starts s ↔ bdB s p = true := mem_startsFrom s s.size 0 (by omega) (bd_zero s) p (Nat.zero_le _) h

theorem last_startsFrom (s : ByteArray) : ∀ f i, s.size ≤ i + f → i < s.size → bdB s i = true → ∃ p, (startsFrom s f i).getLast? = some p ∧ p < s.size ∧ p + wd s p = s.size ∧ bdB s p = true
  | 0, i, hf, h, hb => by omega
  | f + 1, i, hf, hi, hb => by
    have hw := wd_pos s i
    have hr := wd_room s i hi
    rw [startsFrom_cons s f i hi]
    by_cases h : i + wd s i < s.size
    · obtain ⟨p, hp, h1, h2, h3⟩ := last_startsFrom s f (i + wd s i) (by omega) h (bd_step s i hb hi)
      refine ⟨p, ?_, h1, h2, h3⟩
      rw [List.getLast?_cons, hp]
      rfl
    · rw [startsFrom_end s f _ h]
      exact ⟨i, rfl, hi, by omega, hb⟩

theorem lastS_at (s : ByteArray) (p : Nat) (hp : p < s.size) (hw : p + wd s p = s.size) (hb : bdB s p = true) : lastS s = spotV s p := by
  have h1 := wd_pos s p
  have h4 := wd_four s p
  by_cases hbad : rn s p = 65533 ∧ wd s p = 1
  · have hall : ∀ m, m < 5 → 1 ≤ m → goodEnd s m = false := fun m hm hm1 => by
      unfold goodEnd
      refine decide_eq_false ?_
      rintro ⟨hle, hwm, hg⟩
      by_cases e : m = 1
      · subst e
        rw [show s.size - 1 = p by omega] at hg
        exact hg hbad
      · have := (bd_iff s p).1 hb (m - 1) (by omega) (by omega) (by omega)
        rw [show p - (m - 1) = s.size - m by omega] at this
        omega
    rw [lastS_none s hall]
    have e1 := hbad.1
    have e2 := hbad.2
    unfold spotV
    rw [decide_eq_true hbad, e1, e2]
    rfl
  · have hk : goodEnd s (wd s p) = true := by
      unfold goodEnd
      refine decide_eq_true ?_
      rw [show s.size - wd s p = p by omega]
      exact ⟨by omega, rfl, hbad⟩
    have := lastS_hit s (wd s p) h1 h4 hk (fun m hm hm1 => by
      unfold goodEnd
      refine decide_eq_false ?_
      rintro ⟨hle, hwm, hg⟩
      have hc := wd_cont s p (wd s p - m) (by omega) (by omega)
      rw [show p + (wd s p - m) = s.size - m by omega] at hc
      by_cases e : m = 1
      · have := (at_told s (s.size - m)).one (by show wd s (s.size - m) = 1; omega)
        rcases this with ⟨h, _⟩ | ⟨_, h⟩
        · exact hg ⟨h, by omega⟩
        · omega
      · have := wd_lead s (s.size - m) (by omega)
        omega)
    rw [this, show s.size - wd s p = p by omega]

theorem last_spot (s : ByteArray) (h : 0 < s.size) : ∃ p, (starts s).getLast? = some p ∧ p < s.size ∧ lastS s = spotV s p := by
  obtain ⟨p, h1, h2, h3, h4⟩ := last_startsFrom s s.size 0 (by omega) h (bd_zero s)
  exact ⟨p, h1, h2, lastS_at s p h2 h3 h4⟩

/-- A list of things of four cells each: the cell number j of the thing number i. -/
theorem flat4 {α : Type} (f : α → List Value) (hf : ∀ x, (f x).length = 4) : ∀ (l : List α) (i j : Nat) (x : α), l[i]? = some x → j < 4 → (l.flatMap f)[4 * i + j]? = (f x)[j]?
  | [], i, j, x, h, _ => by simp at h
  | y :: l, 0, j, x, h, hj => by
    simp at h
    subst h
    rw [List.flatMap_cons, List.getElem?_append_left (by rw [hf]; omega), Nat.mul_zero, Nat.zero_add]
  | y :: l, i + 1, j, x, h, hj => by
    simp at h
    rw [List.flatMap_cons, List.getElem?_append_right (by rw [hf]; omega), hf, show 4 * (i + 1) + j - 4 = 4 * i + j by omega]
    exact flat4 f hf l i j x h hj

/-- How a list of spots lies in memory. -/
theorem row_cells {W : World} {base : Nat} {e : TypeId} {v : Value} {l : List Nat} {s : ByteArray} (h : W.ownsRow base e 4 v l.length (l.flatMap (refCells s))) (hne : 0 < l.length) :
    ∃ g cap, v = .slice (some ⟨g, 0, none⟩) l.length cap ∧ base ≤ g ∧ g < W.heap.size ∧ l.length ≤ cap ∧ (∀ i x, l[i]? = some x → ∀ j, j < 4 → W.cell? ⟨g, 4 * i + j, none⟩ = (refCells s x)[j]?) := by
  rcases h.2 with ⟨rfl, h0⟩ | ⟨g, cap, cur, rfl, hb, hh, hc, hm, hsz, ht⟩
  · omega
  · refine ⟨g, cap, rfl, hb, (Array.getElem?_eq_some_iff.1 hh).1, hc, fun i x hx j hj => ?_⟩
    have hil : i < l.length := (List.getElem?_eq_some_iff.1 hx).1
    rw [← flat4 (refCells s) (fun _ => rfl) l i j x hx hj, ← ht, List.getElem?_take, if_pos (by omega)]
    simp [World.cell?, hh]
end Go.Proofs.YtcnhkhjkeemafaaGreatDoor
/- remark, its walk. -/
namespace Go.Proofs.YtcnhkhjkeemafaaGreatDoor
open Go.RowKit Go.Shelf
set_option linter.unusedVariables false
set_option maxRecDepth 100000 in
set_option maxHeartbeats 4000000 in
theorem remark_any (t : ByteArray) (ht : t.size < 4294967281) (m : Int) (w : World) (hm : w.cell? ⟨0, 0, none⟩ = some (.int .i64 m)) : Calls Tryz.prog 79 #[.string t] w fun e w' => e = .returned (tupB (remV t)) ∧ Below w.heap.size w w' := by
  obtain ⟨l, hl⟩ : ∃ l, l = t.extract 0 (nlAt t) := ⟨_, rfl⟩
  have hls : l.size ≤ t.size := by rw [hl, ByteArray.size_extract]; omega
  have hlm : l.size ≤ maxLen := by unfold maxLen; omega
  have hrv : remV t = match badOf l with | none => (l.size, true) | some x => (x + begLen (l.extract x l.size), false) := by subst hl; unfold remV; cases badOf (t.extract 0 (nlAt t)) <;> rfl
  have hcn := cut_nl t
  rw [← hl] at hcn
  have HRV := hide hrv
  have HCN := hide hcn
  have HLM := hide hlm
  have hll : (l.size : Int) ≤ 4294967281 := by omega
  clear hl hrv hcn hlm
  go_enter Tryz.func79, Tryz.ntmps79
  go_wp2_with fail
  refine (cut_sh t ⟨#[10]⟩ m _ ht hm).mono ?_
  rintro e w1 ⟨rfl, nq, rfl⟩
  have hb0 : Below w.heap.size w (w.drewN nq) := ⟨rfl, rfl, rfl, Nat.le_refl _, fun _ _ => rfl⟩
  rw [show (⟨(Lib.cut t.data.toList (ByteArray.mk #[10]).data.toList).1.toArray⟩ : ByteArray) = l from unhide HCN]
  generalize (⟨(Lib.cut t.data.toList (ByteArray.mk #[10]).data.toList).2.1.toArray⟩ : ByteArray) = c1
  generalize (Lib.cut t.data.toList (ByteArray.mk #[10]).data.toList).2.2 = c2
  have HB0 := hide hb0
  clear hb0
  generalize w.drewN nq = w1 at *
  go_wp2_with fail
  refine (valid_any l (unhide HLM) _).mono ?_
  rintro e w2 ⟨rfl, hb⟩
  have HB1 := hide ((unhide HB0).trans (hb.mono (unhide HB0).size))
  clear hb HB0
  cases hbd : badOf l with
  | none =>
    rw [validV_none hbd]
    have hrv := unhide HRV
    rw [hbd] at hrv
    have HR := hide hrv
    have HB2 := hide ((unhide HB1).alloc (unhide HB1).size (.cells #[.int .i64 0, .int .i64 0] 128))
    clear hrv HRV HB1
    go_wp2_with fail
    go_ret2
    exact ⟨by rw [unhide HR]; rfl, unhide HB2⟩
  | some x =>
    obtain ⟨y, hy⟩ := validV_some hbd
    rw [hy]
    have hrv := unhide HRV
    rw [hbd] at hrv
    have HR := hide hrv
    have hxs : x < l.size := (startsFrom_ge l l.size 0 x (List.mem_of_find?_eq_some hbd)).2
    have hx1 : (x : Int) ≤ (l.size : Int) := by omega
    have hx3 : (x : Int) ≤ 4294967281 := by omega
    have hx2 : ((x : Nat) : Int).toNat = x := by omega
    have hq := (unhide HB1).alloc (unhide HB1).size (.cells #[.int .i64 x, .int .i64 y] 128)
    have hblk := Blk.new w2 #[.int .i64 x, .int .i64 y] 128
    have HB2 := hide hq
    have HBLK := hide hblk
    have hbl : begLen (l.extract x l.size) ≤ (l.extract x l.size).size := (scanTo_le _ (Nat.zero_le _)).2
    have hbz : (l.extract x l.size).size = l.size - x := by rw [ByteArray.size_extract]; omega
    have hbz2 : (begLen (l.extract x l.size) : Int) ≤ 4294967281 := by omega
    have hbz3 : (l.extract x l.size).size ≤ 4611686018427387904 := by omega
    clear hrv HRV HB1 hy hbd hq hblk hbz hbl
    go_wp2_with fail
    generalize w2.alloc (.cells #[.int .i64 x, .int .i64 y] 128) = w3 at *
    have k0 := cell_regrown (show w3.cell? ⟨w2.heap.size, 0, none⟩ = some (.int .i64 (x : Int)) from (unhide HBLK).cell 0)
    refine wp_region_quiet_below (by kernel_rfl) (by kernel_rfl) ?_
    repeat (quiet_step (exact Calls.regrown_of (begun_text (l.extract x l.size) hbz3 _)))
    refine wpQuiet_nil ?_
    intro _ hw'
    obtain ⟨⟨dq, osq⟩, hw''⟩ := hw'
    subst hw''
    have HB3 := hide ((unhide HB2).trans ((below_regrown w3 dq osq).mono (unhide HB2).size))
    go_wp2_with fail
    go_ret2
    exact ⟨by rw [unhide HR]; exact tupB_mk (by rw [wrap_i64 (by omega) (by omega)]; omega), unhide HB3⟩
end Go.Proofs.YtcnhkhjkeemafaaGreatDoor
/- gap: blanks and remarks. -/
namespace Go.Proofs.YtcnhkhjkeemafaaGreatDoor
open Go.RowKit Go.Shelf
set_option linter.unusedVariables false
theorem remV_cases (t : ByteArray) : (badOf (t.extract 0 (nlAt t)) = none ∧ remV t = (nlAt t, true)) ∨ ∃ x, badOf (t.extract 0 (nlAt t)) = some x ∧ remV t = (x + begLen ((t.extract 0 (nlAt t)).extract x (t.extract 0 (nlAt t)).size), false) := by
  have hz : (t.extract 0 (nlAt t)).size = nlAt t := by rw [ByteArray.size_extract]; have := nlAt_le t; omega
  unfold remV
  cases h : badOf (t.extract 0 (nlAt t)) with
  | none => exact .inl ⟨rfl, by rw [hz]⟩
  | some x => exact .inr ⟨x, rfl, rfl⟩
theorem remV_le (t : ByteArray) : (remV t).1 ≤ t.size := by
  have hz : (t.extract 0 (nlAt t)).size = nlAt t := by rw [ByteArray.size_extract]; have := nlAt_le t; omega
  have hn := nlAt_le t
  rcases remV_cases t with ⟨_, e⟩ | ⟨x, hx, e⟩
  · rw [e]; exact hn
  · rw [e]
    show x + _ ≤ t.size
    generalize t.extract 0 (nlAt t) = l at *
    have h1 := (startsFrom_ge _ _ 0 x (List.mem_of_find?_eq_some hx)).2
    have h2 : begLen (l.extract x l.size) ≤ (l.extract x l.size).size := (scanTo_le _ (Nat.zero_le _)).2
    have h3 : (l.extract x l.size).size = l.size - x := by rw [ByteArray.size_extract]; omega
    omega
theorem remV_pos (t : ByteArray) (h : 0 < t.size) (h0 : bt t 0 ≠ 10) (hok : (remV t).2 = true) : 1 ≤ (remV t).1 := by
  rcases remV_cases t with ⟨_, e⟩ | ⟨x, hx, e⟩
  · rw [e]
    show 1 ≤ nlAt t
    unfold nlAt
    rw [scanTo_go h (by simp [h0])]
    exact (scanTo_le _ (by omega)).1
  · rw [e] at hok; cases hok
/-- Blanks and remarks: where they end, from a place on. -/
def gapGo (t : ByteArray) : Nat → Nat → Nat × Bool
  | 0, n => (t.size, true)
  | f + 1, n =>
    if n < t.size then
      if blankB (bt t n) = true then gapGo t f (n + 1)
      else if bt t n = 35 then (if (remV (t.extract n t.size)).2 = true then gapGo t f (n + (remV (t.extract n t.size)).1) else (n + (remV (t.extract n t.size)).1, false))
      else (n, true)
    else (t.size, true)
def gapV (t : ByteArray) : Nat × Bool := gapGo t t.size 0
set_option maxRecDepth 100000 in
set_option maxHeartbeats 4000000 in
theorem gap_any (t : ByteArray) (ht : t.size < 4294967281) (m : Int) (w : World) (hm : w.cell? ⟨0, 0, none⟩ = some (.int .i64 m)) (hg : 0 < w.heap.size) : Calls Tryz.prog 43 #[.string t] w fun e w' => e = .returned (tupB (gapV t)) ∧ Below w.heap.size w w' := by
  have HM := hide hm
  clear hm
  have htb : (t.size : Int) ≤ 4294967281 := by omega
  go_enter Tryz.func43, Tryz.ntmps43
  go_wp2
  go_loopw [4, 5, 6, 12, 19] (fun i _ _ _ _ wr => ∃ k f : Nat, k ≤ t.size ∧ t.size ≤ k + f ∧ i = .int .i64 k ∧ Hz (gapV t = gapGo t f k) ∧ Hz (Below w.heap.size w wr)) (fun i _ _ _ _ _ => t.size - (intOf i).toNat)
  case atStart => exact ⟨0, t.size, by omega, by omega, rfl, hide rfl, hide (Below.refl _ _)⟩
  case round =>
    obtain ⟨k, f, hk, hf, rfl, HK, HW⟩ := hrel
    by_cases hkt : k < t.size
    · obtain ⟨f, rfl⟩ : ∃ g, f = g + 1 := ⟨f - 1, by omega⟩
      have hkt' : (k : Int) < (t.size : Int) := by omega
      have hkb : (k : Int) ≤ 4294967281 := by omega
      have hi2 : ((k : Nat) : Int).toNat = k := by omega
      have hbk := bt_get t k hkt
      have hgo := unhide HK
      rw [gapGo, if_pos hkt] at hgo
      cases hbl : blankB (bt t k) with
      | true =>
        rw [if_pos hbl] at hgo
        have HG := hide hgo
        rw [hbk] at hbl
        clear hbk hgo HK
        go_wp2_with fail
        refine (isBlank_any _ _).mono ?_
        rintro e w' ⟨rfl, rfl⟩
        rw [hbl]
        go_wp2_with fail
        go_roundw
        case rel => exact ⟨k + 1, f, by omega, by omega, by go_num, HG, HW⟩
        case measure => simp [intOf]; omega
      | false =>
        rw [if_neg (by rw [hbl]; decide)] at hgo
        by_cases h35 : bt t k = 35
        · rw [if_pos h35] at hgo
          have hbk0 : bt (t.extract k t.size) 0 = 35 := by
            unfold bt at h35 ⊢
            rw [get_suffix t k 0 (by omega), Nat.add_zero]
            exact h35
          have hsz : (t.extract k t.size).size = t.size - k := by rw [ByteArray.size_extract]; omega
          obtain ⟨u, hu⟩ : ∃ u, u = t.extract k t.size := ⟨_, rfl⟩
          rw [← hu] at hgo hbk0 hsz
          have hrl := remV_le u
          have hrp := remV_pos u (by omega) (by omega)
          have HM2 : ∀ wr, Below w.heap.size w wr → wr.cell? ⟨0, 0, none⟩ = some (.int .i64 m) := fun wr hb => (hb.cell (p := ⟨0, 0, none⟩) hg).trans (unhide HM)
          have hrem := remark_any u (by omega) m wr (HM2 wr (unhide HW))
          obtain ⟨rn1, rok, hrv⟩ : ∃ a b, remV u = (a, b) := ⟨_, _, rfl⟩
          rw [hrv] at hgo hrl hrp hrem
          have hrb : (rn1 : Int) ≤ 4294967281 := by have h : rn1 ≤ u.size := hrl; omega
          have hrl' : rn1 ≤ u.size := hrl
          have hrp' : rok = true → 1 ≤ rn1 := hrp
          have hc35 : (((t[k]'hkt).toNat : Int) == 35) = true := by rw [← hbk, h35]; rfl
          have hue : t.extract k t.size = u := hu.symm
          have HREM := hide hrem
          have HGO := hide hgo
          rw [hbk] at hbl
          clear hbk hgo HK h35 hbk0 hu hrl hrp hrem HM2
          go_wp2_with fail
          refine (isBlank_any _ _).mono ?_
          rintro e w' ⟨rfl, rfl⟩
          rw [hbl]
          go_wp2_with fail
          refine (unhide HREM).mono ?_
          rintro e w2 ⟨rfl, hb⟩
          have HW2 := hide ((unhide HW).trans (hb.mono (unhide HW).size))
          clear hb
          cases rok with
          | true =>
            have hgo := unhide HGO
            have HG : Hz (gapV t = gapGo t f (k + rn1)) := hide (by rw [hgo]; rfl)
            have h1 := hrp' rfl
            clear hgo HGO hrp'
            go_wp2_with fail
            go_roundw
            case rel => exact ⟨k + rn1, f, by omega, by omega, by go_num, HG, HW2⟩
            case measure => simp [intOf]; omega
          | false =>
            have HG : Hz (gapV t = (k + rn1, false)) := hide (by rw [unhide HGO]; rfl)
            clear HGO hrp'
            go_wp2_with fail
            go_ret2
            exact ⟨by rw [unhide HG]; exact tupB_mk (by omega), unhide HW2⟩
        · rw [if_neg h35] at hgo
          have HG := hide hgo
          have hc35 : (((t[k]'hkt).toNat : Int) == 35) = false := by rw [beq_eq_false_iff_ne, ← hbk]; omega
          rw [hbk] at hbl
          clear hbk hgo HK h35
          go_wp2_with fail
          refine (isBlank_any _ _).mono ?_
          rintro e w' ⟨rfl, rfl⟩
          rw [hbl]
          go_wp2_with fail
          go_ret2
          exact ⟨by rw [unhide HG]; rfl, unhide HW⟩
    · have hkt' : ¬ (k : Int) < (t.size : Int) := by omega
      have HG : Hz (gapV t = (t.size, true)) := hide (by
        rw [unhide HK]
        cases f with
        | zero => rfl
        | succ f => rw [gapGo, if_neg hkt])
      go_wp2_with fail
      go_ret2
      exact ⟨by rw [unhide HG]; rfl, unhide HW⟩
end Go.Proofs.YtcnhkhjkeemafaaGreatDoor
/- A list of values in memory that may begin inside its block: how it lies, and what an append, or a cut at its front, makes of it. -/
namespace Go.Proofs.YtcnhkhjkeemafaaGreatDoor
open Go.RowKit Go.Shelf
set_option linter.unusedVariables false

/-- A list of one-cell values, in a block of type E that is not below lo; it may begin inside the block. -/
def SlAt (W : World) (lo : Nat) (E : TypeId) (v : Value) (us : List Value) : Prop :=
  (v = .slice none 0 0 ∧ us = []) ∨ ∃ g o cap cur, v = .slice (some ⟨g, o, none⟩) us.length cap ∧ lo ≤ g ∧ Blk W g cur E ∧ us.length ≤ cap ∧ cap ≤ maxLen ∧ o + cap ≤ cur.size ∧ ∀ j u, us[j]? = some u → cur[o + j]? = some u

theorem SlAt.nil (W : World) (lo : Nat) (E : TypeId) : SlAt W lo E (.slice none 0 0) [] := .inl ⟨rfl, rfl⟩
theorem SlAt.kept {W W' : World} {row : Option Nat} {lo : Nat} {E : TypeId} {v : Value} {us : List Value} (h : SlAt W lo E v us) (hg : W.grownBy W' row) (hne : v.ownBlock = none ∨ v.ownBlock ≠ row) : SlAt W' lo E v us := by
  rcases h with h | ⟨g, o, cap, cur, rfl, hl, hb, h1, h2, h3, h4⟩
  · exact .inl h
  · refine .inr ⟨g, o, cap, cur, rfl, hl, hb.kept hg ?_, h1, h2, h3, h4⟩
    rcases hne with hne | hne
    · simp [Value.ownBlock] at hne
    · simpa [Value.ownBlock] using hne
theorem SlAt.alloc {W : World} {lo : Nat} {E : TypeId} {v : Value} {us : List Value} (h : SlAt W lo E v us) (o : Obj) : SlAt (W.alloc o) lo E v us :=
  h.kept (World.grownBy_alloc W o none) (by cases hv : v.ownBlock <;> simp)
theorem SlAt.drew {W : World} {lo : Nat} {E : TypeId} {v : Value} {us : List Value} (h : SlAt W lo E v us) : SlAt W.drew lo E v us := h
/-- Its block is no block of another type. -/
theorem SlAt.not_row {W : World} {lo : Nat} {E t : TypeId} {v : Value} {us : List Value} {B : Nat} {cs : Array Value} (h : SlAt W lo E v us) (hb : Blk W B cs t) (hne : t ≠ E) : v.ownBlock = none ∨ v.ownBlock ≠ some B := by
  rcases h with ⟨rfl, _⟩ | ⟨g, o, cap, cur, rfl, hl, hg, _⟩
  · exact .inl rfl
  · refine .inr fun e => ?_
    obtain rfl : g = B := by simpa [Value.ownBlock] using e
    have := (show W.heap[g]? = _ from hg).symm.trans hb
    simp at this
    exact hne this.2.symm
theorem SlAt.blk_ne {W : World} {lo : Nat} {E t : TypeId} {v : Value} {us : List Value} {B : Nat} {cs : Array Value} (h : SlAt W lo E v us) (hb : Blk W B cs t) (hne : t ≠ E) : some B ≠ v.ownBlock := by
  rcases h.not_row hb hne with e | e
  · rw [e]; simp
  · exact fun x => e x.symm
theorem SlAt.set {W : World} {lo : Nat} {E t : TypeId} {v : Value} {us : List Value} {B i : Nat} {cs : Array Value} (h : SlAt W lo E v us) (hb : Blk W B cs t) (hne : t ≠ E) (u : Value) : SlAt (W.setCell ⟨B, i, none⟩ u) lo E v us :=
  h.kept (row := some B) ⟨rfl, rfl, rfl, by simp, fun k _ hk => Below.heap_setCell _ _ _ k (fun e => hk (by rw [e]))⟩ (h.not_row hb hne)
theorem SlAt.lt {W : World} {lo : Nat} {E : TypeId} {v : Value} {us : List Value} (h : SlAt W lo E v us) : ∀ g, v.ownBlock = some g → lo ≤ g ∧ g < W.heap.size := by
  rcases h with ⟨rfl, _⟩ | ⟨g, o, cap, cur, rfl, hl, hg, _⟩
  · simp [Value.ownBlock]
  · intro g' e
    obtain rfl : g = g' := by simpa [Value.ownBlock] using e
    exact ⟨hl, hg.lt⟩
theorem SlAt.form {W : World} {lo : Nat} {E : TypeId} {v : Value} {us : List Value} (h : SlAt W lo E v us) (h0 : 0 < us.length) :
    ∃ g o cap, v = .slice (some ⟨g, o, none⟩) us.length cap ∧ us.length ≤ cap ∧ cap ≤ maxLen ∧ ∀ j u, us[j]? = some u → W.cell? ⟨g, o + j, none⟩ = some u := by
  rcases h with ⟨rfl, rfl⟩ | ⟨g, o, cap, cur, rfl, hl, hg, h1, h2, h3, h4⟩
  · simp at h0
  · exact ⟨g, o, cap, rfl, h1, h2, fun j u hj => (hg.cell _).trans (h4 j u hj)⟩
/-- The first one is cut off. -/
theorem SlAt.tail {W : World} {lo : Nat} {E : TypeId} {g o n cap : Nat} {u : Value} {us : List Value} (h : SlAt W lo E (.slice (some ⟨g, o, none⟩) n cap) (u :: us)) : SlAt W lo E (.slice (some ⟨g, o + 1, none⟩) us.length (cap - 1)) us := by
  rcases h with ⟨h, _⟩ | ⟨g', o', cap', cur, e, hl, hg, h1, h2, h3, h4⟩
  · cases h
  · cases e
    simp only [List.length_cons] at h1
    refine .inr ⟨g, o + 1, cap - 1, cur, rfl, hl, hg, by omega, by omega, by omega, fun j x hj => ?_⟩
    have := h4 (j + 1) x (by simpa using hj)
    rwa [show o + 1 + j = o + (j + 1) by omega]
theorem slAt_own {W : World} {lo : Nat} {E : TypeId} {v : Value} {n : Nat} {us : List Value} (h : W.ownsRow lo E 1 v n us) : SlAt W lo E v us := by
  have hn := h.1
  rw [Nat.mul_one] at hn
  rcases h.2 with ⟨rfl, h0⟩ | ⟨g, cap, cur, rfl, hb, hg, h1, h2, h3, h4⟩
  · exact .inl ⟨rfl, List.eq_nil_of_length_eq_zero (by omega)⟩
  · refine .inr ⟨g, 0, cap, cur, by rw [hn], hb, hg, by omega, h2, by omega, fun j u hj => ?_⟩
    have hl := (List.getElem?_eq_some_iff.1 hj).1
    rw [← h4, List.getElem?_take, if_pos (by omega)] at hj
    simpa using hj

theorem apart_symm' {a b : Option Nat} (h : a = none ∨ a ≠ b) : b = none ∨ b ≠ a := by
  cases b with
  | none => exact .inl rfl
  | some x =>
    refine .inr fun e => ?_
    rcases h with h | h
    · rw [h] at e; cases e
    · exact h e.symm
theorem grown_setCell' (W : World) (a : Addr) (v : Value) : W.grownBy (W.setCell a v) (some a.block) :=
  ⟨rfl, rfl, rfl, by simp, fun k _ hk => Below.heap_setCell _ _ _ k (fun e => hk (by rw [e]))⟩

theorem add_none' (g o j : Nat) : (⟨g, o, none⟩ : Addr).add j = ⟨g, o + j, none⟩ := by unfold Addr.add; split <;> simp_all

/-- What a frame holds in a slot. -/
def slotAt : List Value → Nat → Value
  | [], _ => undef
  | v :: _, 0 => v
  | _ :: L, k + 1 => slotAt L k
theorem mk_act {ds : List Deferred} {L : List Value} {G : (Nat → Value) → List Value} (h : L = G (slotAt L)) : ∃ U, ({ tmps := L.toArray, defers := ds } : Act) = { tmps := (G U).toArray, defers := ds } := ⟨_, by rw [← h]⟩
/-- One value more. -/
theorem run_append_sl {P : Program} (W : World) (lo : Nat) (t ty e : TypeId) (i : TypeInfo) (z : Value) (bytes : Nat) (ht : P.underlying t = some (.slice e)) (hi : P.info? e = some i) (hz : i.zero = some z)
    (hsize : i.size = 1) (hby : i.bytes = bytes) (hzs : z.cells.size = 1) (v : Value) (us : List Value) (h : SlAt W lo e v us) (ad : Addr) (c : Nat) (u : Value) (hu : W.cell? ad = some u) (h1 : u.oneCell' = true)
    (h63 : us.length + 1 ≤ maxLen) (hbytes : (us.length + 1) * bytes ≤ 140737488355328) (hlo : lo ≤ W.heap.size) :
    ∃ g o cap W', (Builtin.append_ #[t, t] ty #[v, .slice (some ad) 1 c]).run P W = .ok (.slice (some ⟨g, o, none⟩) (us.length + 1) cap) W' ∧ SlAt W' lo e (.slice (some ⟨g, o, none⟩) (us.length + 1) cap) (us ++ [u]) ∧ W.grownBy W' v.ownBlock ∧ (v.ownBlock = some g ∨ W.heap.size ≤ g) := by
  have hnews : ∀ j x, [u][j]? = some x → W.cell? (ad.add j) = some x := by
    intro j x hj
    obtain ⟨b, off, sp⟩ := ad
    have hs := World.cell?_spot hu
    simp only at hs
    subst hs
    rw [add_none']
    have : j = 0 := by have := (List.getElem?_eq_some_iff.1 hj).1; simpa using this
    subst this
    simp at hj
    rw [← hj]
    exact hu
  have fin : ∀ v' W', W'.ownsRow W.heap.size e 1 v' (us.length + 1) (us ++ [u]) → ∃ g o cap, v' = .slice (some ⟨g, o, none⟩) (us.length + 1) cap ∧ SlAt W' lo e v' (us ++ [u]) ∧ W.heap.size ≤ g := by
    intro v' W' r1
    have hs := slAt_own r1
    rcases r1.2 with ⟨_, h0⟩ | ⟨g, cap, cur, rfl, hb, hg, q1, q2, q3, q4⟩
    · omega
    · refine ⟨g, 0, cap, rfl, ?_, hb⟩
      rcases hs with ⟨e, _⟩ | ⟨g', o', cap', cur', e, hl, rest⟩
      · cases e
      · exact .inr ⟨g', o', cap', cur', e, by omega, rest⟩
  rcases h with ⟨rfl, rfl⟩ | ⟨g, o, cap, cur, rfl, hl, hb, k1, k2, k3, k4⟩
  · obtain ⟨v', w', hr, r1, r2, _⟩ := run_append_own (P := P) W W.heap.size t ty e i z 1 bytes ht hi hz hsize hby hzs (by omega) (.slice none 0 0) 0 [] (World.ownsRow_nil W _ e 1) ad 1 c [u] (by simp) hnews (by simpa using h1) (by simpa using h63) (by simpa using hbytes) (Nat.le_refl _)
    obtain ⟨g, o, cap, rfl, hsl, hge⟩ := fin v' w' (by simpa using r1)
    exact ⟨g, o, cap, w', hr, hsl, r2, .inr hge⟩
  · have holds : ∀ j x, us[j]? = some x → W.cell? ((⟨g, o, none⟩ : Addr).add j) = some x := fun j x hj => by
      rw [add_none']
      exact (hb.cell _).trans (k4 j x hj)
    by_cases hroom : us.length + 1 ≤ cap
    · have hr := run_append_room_cells (P := P) W t ty e i ht hi g o us.length cap ad 1 c [u] (by simp [hsize]) hnews (by simpa using h1) hroom
        (fun j hj => by
          simp at hj
          subst hj
          rw [hsize, Nat.mul_one, Nat.add_zero, hb.cell, Array.getElem?_eq_getElem (by omega)]
          rfl)
        (fun j hj => hb.frozen _)
      rw [hsize, Nat.mul_one] at hr
      refine ⟨g, o, cap, _, hr, .inr ⟨g, o, cap, cur.setIfInBounds (o + us.length) u, by simp, hl, hb.set _ u, by simpa using hroom, k2, by simpa using k3, fun j x hj => ?_⟩, ?_, .inl rfl⟩
      · by_cases hj' : j < us.length
        · rw [List.getElem?_append_left hj'] at hj
          rw [Array.getElem?_setIfInBounds_ne (by omega)]
          exact k4 j x hj
        · have hlt := (List.getElem?_eq_some_iff.1 hj).1
          simp at hlt
          have e : j = us.length := by omega
          subst e
          simp at hj
          rw [Array.getElem?_setIfInBounds_self_of_lt (by omega), hj]
      · exact ⟨rfl, rfl, rfl, by simp [World.setCells], fun k _ hk => Below.heap_setCell _ _ _ k (fun e => hk (by rw [e]; rfl))⟩
    · obtain ⟨v', w', hr, r1, r2⟩ := run_append_arg_grows (P := P) W t ty e i z 1 bytes ht hi hz hsize hby hzs (by omega) ⟨g, o, none⟩ us.length cap us (by simp) holds ad 1 c [u] (by simp) hnews (by omega) h63 hbytes
      obtain ⟨g', o', cap', rfl, hsl, hge⟩ := fin v' w' r1
      exact ⟨g', o', cap', w', hr, hsl, ⟨r2.os, r2.tape, r2.output, r2.size, fun k hk _ => r2.block k hk (by simp)⟩, .inr hge⟩

section
variable {P : Program} (w : World)
/-- .. at the operation. -/
theorem wp_append_sl {o : Oper} {a : Act} {K : Act → World → Prop} {Q : Exit → Act → World → Prop} (s x : Operand) (t : TypeId)
    (ho : o.op = .call { callee := .builtin .append, args := #[s, x], argTypes := #[t, t] }) (lo : Nat) (e : TypeId) (i : TypeInfo) (z : Value) (bytes : Nat) (ht : P.underlying t = some (.slice e)) (hi : P.info? e = some i) (hz : i.zero = some z)
    (hsize : i.size = 1) (hby : i.bytes = bytes) (hzs : z.cells.size = 1) (v : Value) (us : List Value) (hs : a.eval s = v) (hsl : SlAt w lo e v us) (ad : Addr) (c : Nat) (u : Value) (hx : a.eval x = .slice (some ad) 1 c) (hu : w.cell? ad = some u) (h1 : u.oneCell' = true)
    (h63 : us.length + 1 ≤ maxLen) (hbytes : (us.length + 1) * bytes ≤ 140737488355328) (hlo : lo ≤ w.heap.size)
    (h : ∀ g o' cap w', SlAt w' lo e (.slice (some ⟨g, o', none⟩) (us.length + 1) cap) (us ++ [u]) → w.grownBy w' v.ownBlock → (v.ownBlock = some g ∨ w.heap.size ≤ g) → K (a.put o.dst (.slice (some ⟨g, o', none⟩) (us.length + 1) cap)) w') : o.wp P a w K Q := by
  obtain ⟨g, o', cap, w', hr, h2, h3, h4⟩ := run_append_sl (P := P) w lo t o.type e i z bytes ht hi hz hsize hby hzs v us hsl ad c u hu h1 h63 hbytes hlo
  unfold Oper.wp execOp
  simp only [ho, resolve, invoke, builtin, Sem.run_bind, Sem.run_pure, Result.andThen_ok, List.map_toArray, List.map_cons, List.map_nil, hs, hx, hr]
  exact h g o' cap w' h2 h3 h4
theorem wpList_append_sl {ops : Array Oper} {rest : List Oper} {o : Oper} {a : Act} {Q : Exit → Act → World → Prop} (hgd : o.guard = none) (s x : Operand) (t : TypeId)
    (ho : o.op = .call { callee := .builtin .append, args := #[s, x], argTypes := #[t, t] }) (lo : Nat) (e : TypeId) (i : TypeInfo) (z : Value) (bytes : Nat) (ht : P.underlying t = some (.slice e)) (hi : P.info? e = some i) (hz : i.zero = some z)
    (hsize : i.size = 1) (hby : i.bytes = bytes) (hzs : z.cells.size = 1) (v : Value) (us : List Value) (hs : a.eval s = v) (hsl : SlAt w lo e v us) (ad : Addr) (c : Nat) (u : Value) (hx : a.eval x = .slice (some ad) 1 c) (hu : w.cell? ad = some u) (h1 : u.oneCell' = true)
    (h63 : us.length + 1 ≤ maxLen) (hbytes : (us.length + 1) * bytes ≤ 140737488355328) (hlo : lo ≤ w.heap.size)
    (h : ∀ g o' cap w', SlAt w' lo e (.slice (some ⟨g, o', none⟩) (us.length + 1) cap) (us ++ [u]) → w.grownBy w' v.ownBlock → (v.ownBlock = some g ∨ w.heap.size ≤ g) → wpList P ops Q rest (a.put o.dst (.slice (some ⟨g, o', none⟩) (us.length + 1) cap)) w') : wpList P ops Q (o :: rest) a w :=
  wpList_plain hgd fun _ hK => wp_append_sl w s x t ho lo e i z bytes ht hi hz hsize hby hzs v us hs hsl ad c u hx hu h1 h63 hbytes hlo fun g o' cap w' h2 h3 h4 => hK _ _ (h g o' cap w' h2 h3 h4)
theorem step_append_sl {ops : Array Oper} {o : Oper} {a : Act} {K : Act → World → Prop} {Q : Exit → Act → World → Prop} {E : Prop} (hgd : o.guard = none) (s x : Operand) (t : TypeId)
    (ho : o.op = .call { callee := .builtin .append, args := #[s, x], argTypes := #[t, t] }) (lo : Nat) (e : TypeId) (i : TypeInfo) (z : Value) (bytes : Nat) (ht : P.underlying t = some (.slice e)) (hi : P.info? e = some i) (hz : i.zero = some z)
    (hsize : i.size = 1) (hby : i.bytes = bytes) (hzs : z.cells.size = 1) (v : Value) (us : List Value) (hs : a.eval s = v) (hsl : SlAt w lo e v us) (ad : Addr) (c : Nat) (u : Value) (hx : a.eval x = .slice (some ad) 1 c) (hu : w.cell? ad = some u) (h1 : u.oneCell' = true)
    (h63 : us.length + 1 ≤ maxLen) (hbytes : (us.length + 1) * bytes ≤ 140737488355328) (hlo : lo ≤ w.heap.size)
    (h : ∀ g o' cap w', SlAt w' lo e (.slice (some ⟨g, o', none⟩) (us.length + 1) cap) (us ++ [u]) → w.grownBy w' v.ownBlock → (v.ownBlock = some g ∨ w.heap.size ≤ g) → K (a.put o.dst (.slice (some ⟨g, o', none⟩) (us.length + 1) cap)) w') :
    if Region.wanted o (yielded ops a.tmps) = true then Oper.wp P o a w K Q else E := by
  have hw : Region.wanted o (yielded ops a.tmps) = true := by simp [Region.wanted, hgd]
  rw [if_pos hw]
  exact wp_append_sl w s x t ho lo e i z bytes ht hi hz hsize hby hzs v us hs hsl ad c u hx hu h1 h63 hbytes hlo h
/-- Nothing laid behind nothing. -/
theorem step_append_zero {ops : Array Oper} {o : Oper} {a : Act} {K : Act → World → Prop} {Q : Exit → Act → World → Prop} {E : Prop} (hgd : o.guard = none) (s x : Operand) (t : TypeId)
    (ho : o.op = .call { callee := .builtin .append, args := #[s, x], argTypes := #[t, t] }) (e : TypeId) (i : TypeInfo) (ht : P.underlying t = some (.slice e)) (hi : P.info? e = some i) (hs : a.eval s = .slice none 0 0) (b : Option Addr) (n c : Nat) (hn : n = 0) (hx : a.eval x = .slice b n c)
    (h : K (a.put o.dst (.slice none 0 0)) w) : if Region.wanted o (yielded ops a.tmps) = true then Oper.wp P o a w K Q else E := by
  have hw : Region.wanted o (yielded ops a.tmps) = true := by simp [Region.wanted, hgd]
  rw [if_pos hw]
  subst hn
  have hr : (Builtin.append_ #[t, t] o.type #[.slice none 0 0, .slice b 0 c]).run P w = .ok (.slice none 0 0) w := by
    cases b <;> simp [Builtin.append_, run_underlying ht, sizeOf, typeInfo, hi, Builtin.lenOf, Builtin.firstCells, loadCells, loadCellsFrom]
  unfold Oper.wp execOp
  simp only [ho, resolve, invoke, builtin, Sem.run_bind, Sem.run_pure, Result.andThen_ok, List.map_toArray, List.map_cons, List.map_nil, hs, hx, hr]
  exact h
end
end Go.Proofs.YtcnhkhjkeemafaaGreatDoor
