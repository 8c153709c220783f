/- In of a set. -/
import Derived.Test.YtnphbjhikapoeaaSetBelow
namespace Go.Proofs.Ytnphbjhikapoeaa
open Go.RowKit Go.Shelf
set_option linter.unusedVariables false

/-- Is r in the set of these spans? -/
def memB (zs : List (Int × Int)) (r : Int) : Bool := zs.any (fun x => decide (x.1 ≤ r ∧ r ≤ x.2)) && runeB r
theorem mem_cut {zs : List (Int × Int)} (h : Spread zs) {r : Int} {k : Nat} (hc : Cut (fun x => x.2) zs r k) : zs.any (fun x => decide (x.1 ≤ r ∧ r ≤ x.2)) = match zs[k]? with
    | some x => decide (x.1 ≤ r)
    | none => false := by
  obtain ⟨h1, h2, h3⟩ := hc
  cases hk : zs[k]? with
  | none =>
    rw [List.any_eq_false]
    intro x hx
    obtain ⟨i, hi, rfl⟩ := List.mem_iff_getElem.1 hx
    have hkl := List.getElem?_eq_none_iff.1 hk
    have : zs[i].2 < r := h2 i _ (by omega) (List.getElem?_eq_getElem hi)
    simp; omega
  | some y =>
    have hy : r ≤ y.2 := h3 k y (Nat.le_refl _) hk
    by_cases hl : y.1 ≤ r
    · show _ = decide (y.1 ≤ r)
      rw [decide_eq_true hl, List.any_eq_true]
      exact ⟨y, List.mem_of_getElem? hk, decide_eq_true ⟨hl, hy⟩⟩
    · show _ = decide (y.1 ≤ r)
      rw [decide_eq_false hl, List.any_eq_false]
      intro x hx
      obtain ⟨i, hi, rfl⟩ := List.mem_iff_getElem.1 hx
      have hxe := List.getElem?_eq_getElem hi
      by_cases h4 : i < k
      · have : zs[i].2 < r := h2 i _ h4 hxe
        simp; omega
      · by_cases h5 : i = k
        · subst h5
          rw [hxe] at hk
          cases hk
          simp; omega
        · have := h.lt k i y zs[i] (by omega) hk hxe
          have := (h.ends y (List.mem_of_getElem? hk)).2
          simp; omega

set_option maxRecDepth 100000 in
set_option maxHeartbeats 4000000 in
theorem in_any (B : Nat) (zs : List (Int × Int)) (r : Int) (w : World) (hs : SetAt w B zs) :
    Calls Try.prog 36 #[.pointer (some ⟨B, 0, none⟩), .int .i32 r] w fun e w' => e = .returned (.bool (memB zs r)) ∧ Below w.heap.size w w' := by
  obtain ⟨⟨a, ca, b, cb, hb0, hp, ha⟩, hsp, hl⟩ := hs
  have d0 := hb0.cell 0
  have HQ := hide (fun w hr => search_his a ca zs (by omega) r (fun i j x y => hsp.his i j x y) w hr)
  have HP := hide hp
  have HBk := hide hb0
  have HS := hide hsp
  have hwr := width_rune r
  clear hp ha hsp hb0
  go_enter Try.func36, Try.ntmps36
  go_wp2_with fail
  refine (unhide HQ _ (unhide HP)).mono ?_
  rintro e w2 ⟨k, bb, rfl, hcut, hb⟩
  have HB := hide hb
  have hmc := mem_cut (unhide HS) hcut
  have e0 := ((unhide HBk).below hb (unhide HBk).lt).cell 0
  have HP2 := hide ((unhide HP).below hb)
  have hk := hcut.1
  have HV : Hid (memB zs r = (match zs[k]? with | some x => decide (x.1 ≤ r) | none => false && runeB r)) ∨ True := .inr trivial
  clear hb hcut HV
  by_cases hkn : k < zs.length
  · obtain ⟨x, hx⟩ : ∃ x, zs[k]? = some x := ⟨_, List.getElem?_eq_getElem hkn⟩
    obtain ⟨g, o, rfl, hg, hc⟩ := unhide HP2 (by omega)
    have c0 := (hc k x hx).1
    have c1 := (hc k x hx).2
    rw [hx] at hmc
    have hk1 : (k : Int) < (zs.length : Int) := by omega
    have hk2 : ((k : Nat) : Int).toNat = k := by omega
    obtain ⟨lo, hi⟩ := x
    simp only at c0 c1 hmc
    clear hc hx
    by_cases hlr : lo ≤ r
    · have HV : Hid (memB zs r = runeB r) := hide (by unfold memB; rw [hmc, decide_eq_true hlr]; rfl)
      cases hru : runeB r with
      | true =>
        rw [hru] at HV hwr
        have hw0 : (widthOf r == 0) = false := hwr
        have hw1 : (widthOf r != 0) = true := by unfold bne; rw [hw0]; rfl
        clear hmc hwr hru
        go_wp2_with (go_at_call 62; refine (width_any _ _).mono ?_; rintro e w' ⟨rfl, rfl⟩)
        go_ret
        exact ⟨by rw [unhide HV]; rfl, unhide HB⟩
      | false =>
        rw [hru] at HV hwr
        have hw0 : (widthOf r == 0) = true := hwr
        have hw1 : (widthOf r != 0) = false := by unfold bne; rw [hw0]; rfl
        clear hmc hwr hru
        go_wp2_with (go_at_call 62; refine (width_any _ _).mono ?_; rintro e w' ⟨rfl, rfl⟩)
        go_ret
        exact ⟨by rw [unhide HV]; rfl, unhide HB⟩
    · have HV : Hid (memB zs r = false) := hide (by unfold memB; rw [hmc, decide_eq_false hlr]; rfl)
      clear hmc hwr
      go_wp2_with (go_at_call 62; refine (width_any _ _).mono ?_; rintro e w' ⟨rfl, rfl⟩)
      go_ret
      exact ⟨by rw [unhide HV]; rfl, unhide HB⟩
  · have hk1 : ¬ (k : Int) < (zs.length : Int) := by omega
    rw [List.getElem?_eq_none (by omega)] at hmc
    have HV : Hid (memB zs r = false) := hide (by unfold memB; rw [hmc]; rfl)
    clear hmc hwr
    go_wp2
    go_ret
    exact ⟨by rw [unhide HV]; rfl, unhide HB⟩
end Go.Proofs.Ytnphbjhikapoeaa
