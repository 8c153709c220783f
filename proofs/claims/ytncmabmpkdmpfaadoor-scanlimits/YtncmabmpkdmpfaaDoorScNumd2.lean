/- numbered: the rune with U+. -/
import Derived.Test.YtncmabmpkdmpfaaDoorScNumd
namespace Go.Proofs.YtncmabmpkdmpfaaDoor
open Go.RowKit Go.Shelf
set_option linter.unusedVariables false
set_option maxRecDepth 100000 in
set_option maxHeartbeats 8000000 in
theorem numbered_yes (t : ByteArray) (ht : t.size ≤ 4611686018427387904) (hno : ¬ (t.size < 2 ∨ bt t 1 ≠ 43)) (w : World) : Calls Tryd.prog 49 #[.string t] w fun e w' => e = .returned (tupR (numdV t)) ∧ w' = w := by
  have h2 : 2 ≤ t.size := by omega
  have h43 : bt t 1 = 43 := by omega
  have h1s : 1 < t.size := h2
  have hb1 := bt_get t 1 h1s
  have h2' : ¬ (t.size : Int) < 2 := by omega
  have h3 : (((t[1]'h1s).toNat : Int) != 43) = false := by rw [← hb1, h43]; rfl
  have h4 : (1 : Int) < (t.size : Int) := by omega
  have HNO := hide hno
  clear hb1 h43 hno
  go_enter Tryd.func49, Tryd.ntmps49
  go_wp2
  go_loop [5, 6, 7] (fun x i _ => ∃ v k : Nat, 2 ≤ k ∧ k ≤ t.size ∧ v ≤ 1114111 ∧ x = .int .i64 v ∧ i = .int .i64 k ∧ Hz (numdGo t 0 2 = numdGo t v k)) (fun _ i _ => t.size - (intOf i).toNat)
  case atStart => exact ⟨0, 2, by omega, by omega, by omega, rfl, rfl, hide rfl⟩
  case round =>
    obtain ⟨v, k, hk1, hk2, hv, rfl, rfl, HK⟩ := hrel
    have hno := unhide HNO
    clear h3
    have hvb : (v : Int) ≤ 1114111 := by omega
    by_cases hkt : k < t.size
    · have hkt' : (k : Int) < (t.size : Int) := by omega
      have hi2 : ((k : Nat) : Int).toNat = k := by omega
      have hbk := bt_get t k hkt
      have h2s : 2 < t.size := Nat.lt_of_le_of_lt hk1 hkt
      have h2t : (2 : Int) < (t.size : Int) := by omega
      have hb2 := bt_get t 2 h2s
      by_cases hz : k < 6 ∨ bt t 2 ≠ 48
      · have hgd : (k : Int) < 6 ∨ (¬ (k : Int) < 6 ∧ (((t[2]'h2s).toNat : Int) != 48) = true) := by
          rcases hz with hz | hz
          · exact .inl (by omega)
          · by_cases h6 : k < 6
            · exact .inl (by omega)
            · exact .inr ⟨by omega, by rw [bne_iff_ne]; omega⟩
        by_cases hd0 : 0 ≤ hexI (bt t k)
        · obtain ⟨d, hd⟩ : ∃ d : Nat, hexI (bt t k) = d := ⟨(hexI (bt t k)).toNat, by omega⟩
          have hd15 := (hexI_le (bt t k)).2
          have hdn : (hexI (bt t k)).toNat = d := by omega
          have hd16 : (d : Int) ≤ 15 := by omega
          have hd00 : ¬ (d : Int) < 0 := by omega
          by_cases hm : v * 16 + d ≤ 1114111
          · have HN : Hz (numdGo t v k = numdGo t (v * 16 + d) (k + 1)) := hide (by rw [numdGo_go ⟨hkt, hz, hd0, by rw [hdn]; exact hm⟩, hdn])
            rw [hbk] at hd
            have hm' : ¬ (1114111 : Int) < (v : Int) * 16 + (d : Int) := by omega
            clear hbk hd0 hdn hb2 hz hd15
            rcases hgd with h6 | ⟨h6, hz2⟩
            all_goals
              go_wp2_with (first | (go_at_call 71; refine (hex_sh _ (UInt8.toNat_lt _) _).mono ?_; rintro e w' ⟨rfl, rfl⟩) | (go_at_call 20; refine (width_any _ _).mono ?_; rintro e w' ⟨rfl, rfl⟩))
              go_round
              case rel => exact ⟨v * 16 + d, k + 1, by omega, by omega, hm, by go_num, by go_num, hide ((unhide HK).trans (unhide HN))⟩
              case measure => simp [intOf]; omega
          · have hst := numdGo_stop (t := t) (v := v) (n := k) (fun q => hm (by have := q.2.2.2; rw [hdn] at this; exact this))
            rw [hbk] at hd
            have hm' : (1114111 : Int) < (v : Int) * 16 + (d : Int) := by omega
            clear hbk hd0 hdn hb2 hz hd15
            rcases hgd with h6 | ⟨h6, hz2⟩
            · have hE : numdGo t 0 2 = (v, k) := (unhide HK).trans hst
              have HE := hide hE
              clear hE
              have hk6 : k < 6 := by omega
              have hk6' : (k : Int) < 6 := by omega
              have hres : numdV t = (0, k, false) := by unfold numdV; rw [if_neg hno, unhide HE, if_pos (.inl hk6)]
              have HRES := hide hres
              clear hres hno
              go_wp2_with (first | (go_at_call 71; refine (hex_sh _ (UInt8.toNat_lt _) _).mono ?_; rintro e w' ⟨rfl, rfl⟩) | (go_at_call 20; refine (width_any _ _).mono ?_; rintro e w' ⟨rfl, rfl⟩))
              go_ret3
              exact ⟨by rw [unhide HRES]; rfl, rfl⟩
            · have hE : numdGo t 0 2 = (v, k) := (unhide HK).trans hst
              have HE := hide hE
              clear hE
              have hk6 : ¬ k < 6 := by omega
              have hk6' : ¬ (k : Int) < 6 := by omega
              by_cases hw0 : widthOf v = 0
              · have hres : numdV t = (0, k, false) := by unfold numdV; rw [if_neg hno, unhide HE, if_pos (.inr hw0)]
                have HRES := hide hres
                clear hres hno
                have hw1 : (widthOf v == 0) = true := by simpa using hw0
                clear hw0
                go_wp2_with (first | (go_at_call 71; refine (hex_sh _ (UInt8.toNat_lt _) _).mono ?_; rintro e w' ⟨rfl, rfl⟩) | (go_at_call 20; refine (width_any _ _).mono ?_; rintro e w' ⟨rfl, rfl⟩))
                go_ret3
                exact ⟨by rw [unhide HRES]; rfl, rfl⟩
              · have hres : numdV t = (v, k, true) := by unfold numdV; rw [if_neg hno, unhide HE, if_neg (by simp only [not_or]; exact ⟨hk6, hw0⟩)]
                have HRES := hide hres
                clear hres hno
                have hw1 : (widthOf v == 0) = false := by simpa using hw0
                clear hw0
                go_wp2_with (first | (go_at_call 71; refine (hex_sh _ (UInt8.toNat_lt _) _).mono ?_; rintro e w' ⟨rfl, rfl⟩) | (go_at_call 20; refine (width_any _ _).mono ?_; rintro e w' ⟨rfl, rfl⟩))
                go_ret3
                exact ⟨by rw [unhide HRES]; rfl, rfl⟩
        · have hst := numdGo_stop (t := t) (v := v) (n := k) (fun q => hd0 q.2.2.1)
          have hdm : hexI (bt t k) = -1 := by have := hexI_le (bt t k); omega
          rw [hbk] at hdm
          clear hbk hb2 hz hd0
          rcases hgd with h6 | ⟨h6, hz2⟩
          · have hE : numdGo t 0 2 = (v, k) := (unhide HK).trans hst
            have HE := hide hE
            clear hE
            have hk6 : k < 6 := by omega
            have hk6' : (k : Int) < 6 := by omega
            have hres : numdV t = (0, k, false) := by unfold numdV; rw [if_neg hno, unhide HE, if_pos (.inl hk6)]
            have HRES := hide hres
            clear hres hno
            go_wp2_with (first | (go_at_call 71; refine (hex_sh _ (UInt8.toNat_lt _) _).mono ?_; rintro e w' ⟨rfl, rfl⟩) | (go_at_call 20; refine (width_any _ _).mono ?_; rintro e w' ⟨rfl, rfl⟩))
            go_ret3
            exact ⟨by rw [unhide HRES]; rfl, rfl⟩
          · have hE : numdGo t 0 2 = (v, k) := (unhide HK).trans hst
            have HE := hide hE
            clear hE
            have hk6 : ¬ k < 6 := by omega
            have hk6' : ¬ (k : Int) < 6 := by omega
            by_cases hw0 : widthOf v = 0
            · have hres : numdV t = (0, k, false) := by unfold numdV; rw [if_neg hno, unhide HE, if_pos (.inr hw0)]
              have HRES := hide hres
              clear hres hno
              have hw1 : (widthOf v == 0) = true := by simpa using hw0
              clear hw0
              go_wp2_with (first | (go_at_call 71; refine (hex_sh _ (UInt8.toNat_lt _) _).mono ?_; rintro e w' ⟨rfl, rfl⟩) | (go_at_call 20; refine (width_any _ _).mono ?_; rintro e w' ⟨rfl, rfl⟩))
              go_ret3
              exact ⟨by rw [unhide HRES]; rfl, rfl⟩
            · have hres : numdV t = (v, k, true) := by unfold numdV; rw [if_neg hno, unhide HE, if_neg (by simp only [not_or]; exact ⟨hk6, hw0⟩)]
              have HRES := hide hres
              clear hres hno
              have hw1 : (widthOf v == 0) = false := by simpa using hw0
              clear hw0
              go_wp2_with (first | (go_at_call 71; refine (hex_sh _ (UInt8.toNat_lt _) _).mono ?_; rintro e w' ⟨rfl, rfl⟩) | (go_at_call 20; refine (width_any _ _).mono ?_; rintro e w' ⟨rfl, rfl⟩))
              go_ret3
              exact ⟨by rw [unhide HRES]; rfl, rfl⟩
      · have hst := numdGo_stop (t := t) (v := v) (n := k) (fun q => hz q.2.1)
        have h6 : ¬ (k : Int) < 6 := by omega
        have hz2 : (((t[2]'h2s).toNat : Int) != 48) = false := by
          rw [← hb2, show bt t 2 = 48 by omega]; rfl
        clear hbk hb2 hz
        have hE : numdGo t 0 2 = (v, k) := (unhide HK).trans hst
        have HE := hide hE
        clear hE
        have hk6 : ¬ k < 6 := by omega
        have hk6' : ¬ (k : Int) < 6 := by omega
        by_cases hw0 : widthOf v = 0
        · have hres : numdV t = (0, k, false) := by unfold numdV; rw [if_neg hno, unhide HE, if_pos (.inr hw0)]
          have HRES := hide hres
          clear hres hno
          have hw1 : (widthOf v == 0) = true := by simpa using hw0
          clear hw0
          go_wp2_with (first | (go_at_call 71; refine (hex_sh _ (UInt8.toNat_lt _) _).mono ?_; rintro e w' ⟨rfl, rfl⟩) | (go_at_call 20; refine (width_any _ _).mono ?_; rintro e w' ⟨rfl, rfl⟩))
          go_ret3
          exact ⟨by rw [unhide HRES]; rfl, rfl⟩
        · have hres : numdV t = (v, k, true) := by unfold numdV; rw [if_neg hno, unhide HE, if_neg (by simp only [not_or]; exact ⟨hk6, hw0⟩)]
          have HRES := hide hres
          clear hres hno
          have hw1 : (widthOf v == 0) = false := by simpa using hw0
          clear hw0
          go_wp2_with (first | (go_at_call 71; refine (hex_sh _ (UInt8.toNat_lt _) _).mono ?_; rintro e w' ⟨rfl, rfl⟩) | (go_at_call 20; refine (width_any _ _).mono ?_; rintro e w' ⟨rfl, rfl⟩))
          go_ret3
          exact ⟨by rw [unhide HRES]; rfl, rfl⟩
    · have hkt' : ¬ (k : Int) < (t.size : Int) := by omega
      have hst := numdGo_stop (t := t) (v := v) (n := k) (fun q => hkt q.1)
      have hE : numdGo t 0 2 = (v, k) := (unhide HK).trans hst
      have HE := hide hE
      clear hE
      by_cases hk6 : k < 6
      · have hk6' : (k : Int) < 6 := by omega
        have hres : numdV t = (0, k, false) := by unfold numdV; rw [if_neg hno, unhide HE, if_pos (.inl hk6)]
        have HRES := hide hres
        clear hres hno
        go_wp2_with (first | (go_at_call 71; refine (hex_sh _ (UInt8.toNat_lt _) _).mono ?_; rintro e w' ⟨rfl, rfl⟩) | (go_at_call 20; refine (width_any _ _).mono ?_; rintro e w' ⟨rfl, rfl⟩))
        go_ret3
        exact ⟨by rw [unhide HRES]; rfl, rfl⟩
      · have hk6' : ¬ (k : Int) < 6 := by omega
        by_cases hw0 : widthOf v = 0
        · have hres : numdV t = (0, k, false) := by unfold numdV; rw [if_neg hno, unhide HE, if_pos (.inr hw0)]
          have HRES := hide hres
          clear hres hno
          have hw1 : (widthOf v == 0) = true := by simpa using hw0
          clear hw0
          go_wp2_with (first | (go_at_call 71; refine (hex_sh _ (UInt8.toNat_lt _) _).mono ?_; rintro e w' ⟨rfl, rfl⟩) | (go_at_call 20; refine (width_any _ _).mono ?_; rintro e w' ⟨rfl, rfl⟩))
          go_ret3
          exact ⟨by rw [unhide HRES]; rfl, rfl⟩
        · have hres : numdV t = (v, k, true) := by unfold numdV; rw [if_neg hno, unhide HE, if_neg (by simp only [not_or]; exact ⟨hk6, hw0⟩)]
          have HRES := hide hres
          clear hres hno
          have hw1 : (widthOf v == 0) = false := by simpa using hw0
          clear hw0
          go_wp2_with (first | (go_at_call 71; refine (hex_sh _ (UInt8.toNat_lt _) _).mono ?_; rintro e w' ⟨rfl, rfl⟩) | (go_at_call 20; refine (width_any _ _).mono ?_; rintro e w' ⟨rfl, rfl⟩))
          go_ret3
          exact ⟨by rw [unhide HRES]; rfl, rfl⟩
theorem numbered_any (t : ByteArray) (ht : t.size ≤ 4611686018427387904) (w : World) : Calls Tryd.prog 49 #[.string t] w fun e w' => e = .returned (tupR (numdV t)) ∧ w' = w := by
  by_cases h : t.size < 2 ∨ bt t 1 ≠ 43
  · exact numbered_no t ht h w
  · exact numbered_yes t ht h w
end Go.Proofs.YtncmabmpkdmpfaaDoor
