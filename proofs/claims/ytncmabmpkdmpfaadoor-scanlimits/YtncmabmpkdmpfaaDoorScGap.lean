/- gap: blanks and remarks. -/
import Derived.Test.YtncmabmpkdmpfaaDoorScRem2
namespace Go.Proofs.YtncmabmpkdmpfaaDoor
open Go.RowKit Go.Shelf
set_option linter.unusedVariables false
theorem remV_cases (t : ByteArray) : (badOf (t.extract 0 (nlAt t)) = none ∧ remV t = (nlAt t, true)) ∨ ∃ x, badOf (t.extract 0 (nlAt t)) = some x ∧ remV t = (x + begLen ((t.extract 0 (nlAt t)).extract x (t.extract 0 (nlAt t)).size), false) := by
  have hz : (t.extract 0 (nlAt t)).size = nlAt t := by rw [ByteArray.size_extract]; have := nlAt_le t; omega
  unfold remV
  cases h : badOf (t.extract 0 (nlAt t)) with
  | none => exact .inl ⟨rfl, by rw [hz]⟩
  | some x => exact .inr ⟨x, rfl, rfl⟩
theorem remV_le (t : ByteArray) : (remV t).1 ≤ t.size := by
  have hz : (t.extract 0 (nlAt t)).size = nlAt t := by rw [ByteArray.size_extract]; have := nlAt_le t; omega
  have hn := nlAt_le t
  rcases remV_cases t with ⟨_, e⟩ | ⟨x, hx, e⟩
  · rw [e]; exact hn
  · rw [e]
    show x + _ ≤ t.size
    generalize t.extract 0 (nlAt t) = l at *
    have h1 := (startsFrom_ge _ _ 0 x (List.mem_of_find?_eq_some hx)).2
    have h2 : begLen (l.extract x l.size) ≤ (l.extract x l.size).size := (scanTo_le _ (Nat.zero_le _)).2
    have h3 : (l.extract x l.size).size = l.size - x := by rw [ByteArray.size_extract]; omega
    omega
theorem remV_pos (t : ByteArray) (h : 0 < t.size) (h0 : bt t 0 ≠ 10) (hok : (remV t).2 = true) : 1 ≤ (remV t).1 := by
  rcases remV_cases t with ⟨_, e⟩ | ⟨x, hx, e⟩
  · rw [e]
    show 1 ≤ nlAt t
    unfold nlAt
    rw [scanTo_go h (by simp [h0])]
    exact (scanTo_le _ (by omega)).1
  · rw [e] at hok; cases hok
/-- Blanks and remarks: where they end, from a place on. -/
def gapGo (t : ByteArray) : Nat → Nat → Nat × Bool
  | 0, n => (t.size, true)
  | f + 1, n =>
    if n < t.size then
      if blankB (bt t n) = true then gapGo t f (n + 1)
      else if bt t n = 35 then (if (remV (t.extract n t.size)).2 = true then gapGo t f (n + (remV (t.extract n t.size)).1) else (n + (remV (t.extract n t.size)).1, false))
      else (n, true)
    else (t.size, true)
def gapV (t : ByteArray) : Nat × Bool := gapGo t t.size 0
set_option maxRecDepth 100000 in
set_option maxHeartbeats 4000000 in
theorem gap_any (t : ByteArray) (ht : t.size < 4294967281) (m : Int) (w : World) (hm : w.cell? ⟨0, 0, none⟩ = some (.int .i64 m)) (hg : 0 < w.heap.size) : Calls Tryd.prog 42 #[.string t] w fun e w' => e = .returned (tupB (gapV t)) ∧ Below w.heap.size w w' := by
  have HM := hide hm
  clear hm
  have htb : (t.size : Int) ≤ 4294967281 := by omega
  go_enter Tryd.func42, Tryd.ntmps42
  go_wp2
  go_loopw [4, 5, 6, 12, 19] (fun i _ _ _ _ wr => ∃ k f : Nat, k ≤ t.size ∧ t.size ≤ k + f ∧ i = .int .i64 k ∧ Hz (gapV t = gapGo t f k) ∧ Hz (Below w.heap.size w wr)) (fun i _ _ _ _ _ => t.size - (intOf i).toNat)
  case atStart => exact ⟨0, t.size, by omega, by omega, rfl, hide rfl, hide (Below.refl _ _)⟩
  case round =>
    obtain ⟨k, f, hk, hf, rfl, HK, HW⟩ := hrel
    by_cases hkt : k < t.size
    · obtain ⟨f, rfl⟩ : ∃ g, f = g + 1 := ⟨f - 1, by omega⟩
      have hkt' : (k : Int) < (t.size : Int) := by omega
      have hkb : (k : Int) ≤ 4294967281 := by omega
      have hi2 : ((k : Nat) : Int).toNat = k := by omega
      have hbk := bt_get t k hkt
      have hgo := unhide HK
      rw [gapGo, if_pos hkt] at hgo
      cases hbl : blankB (bt t k) with
      | true =>
        rw [if_pos hbl] at hgo
        have HG := hide hgo
        rw [hbk] at hbl
        clear hbk hgo HK
        go_wp2_with fail
        refine (isBlank_any _ _).mono ?_
        rintro e w' ⟨rfl, rfl⟩
        rw [hbl]
        go_wp2_with fail
        go_roundw
        case rel => exact ⟨k + 1, f, by omega, by omega, by go_num, HG, HW⟩
        case measure => simp [intOf]; omega
      | false =>
        rw [if_neg (by rw [hbl]; decide)] at hgo
        by_cases h35 : bt t k = 35
        · rw [if_pos h35] at hgo
          have hbk0 : bt (t.extract k t.size) 0 = 35 := by
            unfold bt at h35 ⊢
            rw [get_suffix t k 0 (by omega), Nat.add_zero]
            exact h35
          have hsz : (t.extract k t.size).size = t.size - k := by rw [ByteArray.size_extract]; omega
          obtain ⟨u, hu⟩ : ∃ u, u = t.extract k t.size := ⟨_, rfl⟩
          rw [← hu] at hgo hbk0 hsz
          have hrl := remV_le u
          have hrp := remV_pos u (by omega) (by omega)
          have HM2 : ∀ wr, Below w.heap.size w wr → wr.cell? ⟨0, 0, none⟩ = some (.int .i64 m) := fun wr hb => (hb.cell (p := ⟨0, 0, none⟩) hg).trans (unhide HM)
          have hrem := remark_any u (by omega) m wr (HM2 wr (unhide HW))
          obtain ⟨rn1, rok, hrv⟩ : ∃ a b, remV u = (a, b) := ⟨_, _, rfl⟩
          rw [hrv] at hgo hrl hrp hrem
          have hrb : (rn1 : Int) ≤ 4294967281 := by have h : rn1 ≤ u.size := hrl; omega
          have hrl' : rn1 ≤ u.size := hrl
          have hrp' : rok = true → 1 ≤ rn1 := hrp
          have hc35 : (((t[k]'hkt).toNat : Int) == 35) = true := by rw [← hbk, h35]; rfl
          have hue : t.extract k t.size = u := hu.symm
          have HREM := hide hrem
          have HGO := hide hgo
          rw [hbk] at hbl
          clear hbk hgo HK h35 hbk0 hu hrl hrp hrem HM2
          go_wp2_with fail
          refine (isBlank_any _ _).mono ?_
          rintro e w' ⟨rfl, rfl⟩
          rw [hbl]
          go_wp2_with fail
          refine (unhide HREM).mono ?_
          rintro e w2 ⟨rfl, hb⟩
          have HW2 := hide ((unhide HW).trans (hb.mono (unhide HW).size))
          clear hb
          cases rok with
          | true =>
            have hgo := unhide HGO
            have HG : Hz (gapV t = gapGo t f (k + rn1)) := hide (by rw [hgo]; rfl)
            have h1 := hrp' rfl
            clear hgo HGO hrp'
            go_wp2_with fail
            go_roundw
            case rel => exact ⟨k + rn1, f, by omega, by omega, by go_num, HG, HW2⟩
            case measure => simp [intOf]; omega
          | false =>
            have HG : Hz (gapV t = (k + rn1, false)) := hide (by rw [unhide HGO]; rfl)
            clear HGO hrp'
            go_wp2_with fail
            go_ret2
            exact ⟨by rw [unhide HG]; exact tupB_mk (by omega), unhide HW2⟩
        · rw [if_neg h35] at hgo
          have HG := hide hgo
          have hc35 : (((t[k]'hkt).toNat : Int) == 35) = false := by rw [beq_eq_false_iff_ne, ← hbk]; omega
          rw [hbk] at hbl
          clear hbk hgo HK h35
          go_wp2_with fail
          refine (isBlank_any _ _).mono ?_
          rintro e w' ⟨rfl, rfl⟩
          rw [hbl]
          go_wp2_with fail
          go_ret2
          exact ⟨by rw [unhide HG]; rfl, unhide HW⟩
    · have hkt' : ¬ (k : Int) < (t.size : Int) := by omega
      have HG : Hz (gapV t = (t.size, true)) := hide (by
        rw [unhide HK]
        cases f with
        | zero => rfl
        | succ f => rw [gapGo, if_neg hkt])
      go_wp2_with fail
      go_ret2
      exact ⟨by rw [unhide HG]; rfl, unhide HW⟩
end Go.Proofs.YtncmabmpkdmpfaaDoor
