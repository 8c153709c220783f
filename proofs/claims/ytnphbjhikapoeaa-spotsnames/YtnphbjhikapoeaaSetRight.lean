/- Right, of the sets and of their reference, told for every list of spans. -/
import Derived.Test.YtnphbjhikapoeaaSetLeaf
import Derived.Test.YtnphbjhikapoeaaSl
import Derived.Deep.QuietTactic
import Derived.BigQuiet
namespace Go.Proofs.Ytnphbjhikapoeaa
open Go.RowKit Go.Shelf
set_option linter.unusedVariables false

theorem below_drewN {B : Nat} {a w : World} (h : Below B a w) (n : Nat) : Below B a (w.drewN n) := h.trans ⟨rfl, rfl, rfl, Nat.le_refl _, fun _ _ => rfl⟩
/-- A list of spans as it lies in a world. -/
def RowP (W : World) (a : Option Addr) (zs : List (Int × Int)) : Prop := 0 < zs.length → ∃ g o, a = some ⟨g, o, none⟩ ∧ g < W.heap.size ∧ ∀ j x, zs[j]? = some x → W.cell? ⟨g, o + j * 2, none⟩ = some (.int .i32 x.1) ∧ W.cell? ⟨g, o + j * 2 + 1, none⟩ = some (.int .i32 x.2)
theorem RowP.below {W W' : World} {a : Option Addr} {zs : List (Int × Int)} (h : RowP W a zs) (hb : Below W.heap.size W W') : RowP W' a zs := fun h0 => by
  obtain ⟨g, o, ha, hg, hc⟩ := h h0
  have := hb.size
  exact ⟨g, o, ha, by omega, fun j x hj => ⟨(hb.cell (p := ⟨g, o + j * 2, none⟩) hg).trans (hc j x hj).1, (hb.cell (p := ⟨g, o + j * 2 + 1, none⟩) hg).trans (hc j x hj).2⟩⟩

/-- Why row j may not stand; 0: it may. -/
def badRow (zs : List (Int × Int)) (j : Nat) : Int :=
  if wrongOf (zs.getD j (0, 0)) ≠ 0 then wrongOf (zs.getD j (0, 0)) else if 0 < j ∧ (zs.getD j (0, 0)).1 ≤ (zs.getD (j - 1) (0, 0)).2 then 13 else 0
/-- What Right answers. -/
def rightV (zs : List (Int × Int)) : Value := match (List.range zs.length).find? (fun j => badRow zs j != 0) with
  | some j => .tuple #[.int .i64 j, .int .i64 (badRow zs j)]
  | none => .tuple #[.int .i64 0, .int .i64 0]
theorem rightV_bad (zs : List (Int × Int)) (k : Nat) (hk : k < zs.length) (h0 : ∀ i, i < k → badRow zs i = 0) (h1 : badRow zs k ≠ 0) : rightV zs = .tuple #[.int .i64 k, .int .i64 (badRow zs k)] := by
  have : (List.range zs.length).find? (fun j => badRow zs j != 0) = some k := by
    rw [List.find?_range_eq_some]
    exact ⟨by simpa using h1, by simpa using hk, fun j hj => by simp [h0 j hj]⟩
  unfold rightV
  rw [this]
theorem rightV_ok (zs : List (Int × Int)) (h0 : ∀ i, i < zs.length → badRow zs i = 0) : rightV zs = .tuple #[.int .i64 0, .int .i64 0] := by
  have : (List.range zs.length).find? (fun j => badRow zs j != 0) = none := by
    rw [List.find?_eq_none]
    intro j hj
    simp [h0 j (by simpa using hj)]
  unfold rightV
  rw [this]

set_option maxRecDepth 100000 in
set_option maxHeartbeats 4000000 in
theorem right_any (a : Option Addr) (cap : Nat) (zs : List (Int × Int)) (hz : zs.length ≤ 1073741824) (w : World) (hr : RowP w a zs) :
    Calls Try.prog 35 #[.slice a zs.length cap] w fun e w' => e = .returned (rightV zs) ∧ Below w.heap.size w w' := by
  have HR := hide hr
  have hzi : (zs.length : Int) ≤ 1073741824 := by omega
  clear hr
  go_enter Try.func35, Try.ntmps35
  go_wp2
  go_loopw [8] (fun i wr => ∃ k : Nat, i = .int .i64 k ∧ k ≤ zs.length ∧ Hid (∀ i, i < k → badRow zs i = 0) ∧ Hid (Below w.heap.size w wr)) (fun i _ => zs.length - (intOf i).toNat)
  case atStart => exact ⟨0, rfl, by omega, hide (fun i hi => by omega), hide (Below.refl _ _)⟩
  case round =>
    obtain ⟨k, rfl, hk, HZ, HB⟩ := hrel
    by_cases hkn : k < zs.length
    · have hk1 : (k : Int) < (zs.length : Int) := by omega
      have hk2 : ((k : Nat) : Int).toNat = k := by omega
      obtain ⟨x, hx⟩ : ∃ x, zs[k]? = some x := ⟨_, List.getElem?_eq_getElem hkn⟩
      have hgd : zs.getD k (0, 0) = x := by simp [List.getD, hx]
      obtain ⟨g, o, rfl, hg, hc⟩ := unhide HR (by omega)
      have c0 := ((unhide HB).cell (p := ⟨g, o + k * 2, none⟩) hg).trans (hc k x hx).1
      have c1 := ((unhide HB).cell (p := ⟨g, o + k * 2 + 1, none⟩) hg).trans (hc k x hx).2
      have HN := hide (fun w => noRunes_any x w)
      have HFa := hide (fun w => falling_any x w)
      obtain ⟨lo, hi⟩ := x
      simp only at c0 c1
      have b1 := Blk.new wr #[.int .i32 lo, .int .i32 hi] 63
      have q0 := b1.cell 0
      have q1 := b1.cell 1
      have HB1 := hide ((unhide HB).alloc (unhide HB).size (.cells #[.int .i32 lo, .int .i32 hi] 63))
      have HBl := hide b1
      clear b1
      cases he : endsB (lo, hi) with
      | false =>
        have HBR : Hid (badRow zs k = 12) := hide (by unfold badRow wrongOf; rw [hgd]; simp [he])
        have HV := hide (rightV_bad zs k hkn (unhide HZ) (by rw [unhide HBR]; decide))
        rw [he] at HN
        clear he hgd hc
        go_wp2_with fail
        refine (unhide HN _).mono ?_
        rintro e w2 ⟨rfl, hb⟩
        have HB2 := hide ((unhide HB1).trans (hb.mono (unhide HB1).size))
        clear hb
        go_wp2
        go_ret2
        exact ⟨by rw [unhide HV, unhide HBR]; rfl, unhide HB2⟩
      | true =>
        rw [he] at HN
        by_cases hfl : hi < lo
        · have HBR : Hid (badRow zs k = 11) := hide (by unfold badRow wrongOf; rw [hgd]; simp [he, hfl])
          have HV := hide (rightV_bad zs k hkn (unhide HZ) (by rw [unhide HBR]; decide))
          have hfd : decide (hi < lo) = true := decide_eq_true hfl
          clear he hgd hc
          go_wp2_with fail
          refine (unhide HN _).mono ?_
          rintro e w2 ⟨rfl, hb⟩
          have HB2 := hide ((unhide HB1).trans (hb.mono (unhide HB1).size))
          have b2 := (unhide HBl).below hb (unhide HBl).lt
          have r0 := b2.cell 0
          have r1 := b2.cell 1
          clear hb b2
          go_wp2_with fail
          refine (unhide HFa _).mono ?_
          rintro e w3 ⟨rfl, hb⟩
          have HB3 := hide ((unhide HB2).trans (hb.mono (unhide HB2).size))
          clear hb
          simp only [hfd]
          go_wp2
          go_ret2
          exact ⟨by rw [unhide HV, unhide HBR]; rfl, unhide HB3⟩
        · have hfd : decide (hi < lo) = false := decide_eq_false hfl
          have hw : wrongOf (lo, hi) = 0 := by unfold wrongOf; simp [he, hfl]
          by_cases hk0 : k = 0
          · subst hk0
            simp only [Nat.zero_mul, Nat.add_zero] at c0 c1
            have HBR : Hid (badRow zs 0 = 0) := hide (by unfold badRow; rw [hgd, if_neg (by simp [hw])]; simp)
            clear he hgd hc hw
            go_wp2_with fail
            refine (unhide HN _).mono ?_
            rintro e w2 ⟨rfl, hb⟩
            have HB2 := hide ((unhide HB1).trans (hb.mono (unhide HB1).size))
            have b2 := (unhide HBl).below hb (unhide HBl).lt
            have r0 := b2.cell 0
            have r1 := b2.cell 1
            clear hb
            go_wp2_with fail
            refine (unhide HFa _).mono ?_
            rintro e w3 ⟨rfl, hb⟩
            have HB3 := hide ((unhide HB2).trans (hb.mono (unhide HB2).size))
            clear hb b2
            simp only [hfd]
            go_wp2
            go_quiet (fail)
            go_wp2
            go_roundw
            case rel => exact ⟨1, rfl, by omega, hide (fun i hi => (show i = 0 by omega) ▸ unhide HBR), hide (below_drewN (unhide HB3) _)⟩
            case measure => simp [intOf]; omega
          · obtain ⟨m, rfl⟩ : ∃ m, k = m + 1 := ⟨k - 1, by omega⟩
            obtain ⟨y, hy⟩ : ∃ y, zs[m]? = some y := ⟨_, List.getElem?_eq_getElem (by omega)⟩
            have hgy : zs.getD m (0, 0) = y := by simp [List.getD, hy]
            have hcy := (hc m y hy).2
            obtain ⟨plo, phi⟩ := y
            simp only at hcy
            have hbr : badRow zs (m + 1) = if lo ≤ phi then 13 else 0 := by
              unfold badRow
              rw [hgd, if_neg (by simp [hw]), Nat.add_sub_cancel, hgy]
              simp
            have HBR := hide hbr
            have hlt := (unhide HB).size
            have hm1 : (m : Int) < (zs.length : Int) := by omega
            have hm2 : ((m : Nat) : Int).toNat = m := by omega
            have hm3 : (m : Int) + 1 < (zs.length : Int) := by omega
            have hm4 : ((m : Int) + 1).toNat = m + 1 := by omega
            have hm5 : (m : Int) ≤ 1073741824 := by omega
            have HCY := hide hcy
            clear he hgd hc hw hbr hgy hy hcy
            go_wp2_with fail
            refine (unhide HN _).mono ?_
            rintro e w2 ⟨rfl, hb⟩
            have HB2 := hide ((unhide HB1).trans (hb.mono (unhide HB1).size))
            have b2 := (unhide HBl).below hb (unhide HBl).lt
            have r0 := b2.cell 0
            have r1 := b2.cell 1
            clear hb
            go_wp2_with fail
            refine (unhide HFa _).mono ?_
            rintro e w3 ⟨rfl, hb⟩
            have HB3 := hide ((unhide HB2).trans (hb.mono (unhide HB2).size))
            have b3 := b2.below hb b2.lt
            have s0 := b3.cell 0
            have d2 := ((unhide HB3).cell (p := ⟨g, o + m * 2 + 1, none⟩) hg).trans (unhide HCY)
            clear hb b2 b3 r0 r1 q0 q1
            simp only [hfd]
            by_cases hle : lo ≤ phi
            · have HV := hide (rightV_bad zs (m + 1) hkn (unhide HZ) (by rw [unhide HBR, if_pos hle]; decide))
              have HB13 : Hid (badRow zs (m + 1) = 13) := hide (by rw [unhide HBR, if_pos hle])
              go_wp2
              go_quiet (fail)
              go_wp2
              go_ret2
              exact ⟨by rw [unhide HV, unhide HB13]; rfl, below_drewN (unhide HB3) _⟩
            · have HB0 : Hid (badRow zs (m + 1) = 0) := hide (by rw [unhide HBR, if_neg hle])
              go_wp2
              go_quiet (fail)
              go_wp2
              go_roundw
              case rel => exact ⟨m + 1 + 1, by go_num, by omega, hide (fun i hi => by
                by_cases e : i = m + 1
                · subst e; exact unhide HB0
                · exact unhide HZ i (by omega)), hide (below_drewN (unhide HB3) _)⟩
              case measure => simp [intOf]; omega
    · have hk1 : ¬ (k : Int) < (zs.length : Int) := by omega
      obtain rfl : k = zs.length := by omega
      have HV := hide (rightV_ok zs (unhide HZ))
      go_wp2
      go_ret2
      exact ⟨by rw [unhide HV]; rfl, unhide HB⟩
end Go.Proofs.Ytnphbjhikapoeaa
