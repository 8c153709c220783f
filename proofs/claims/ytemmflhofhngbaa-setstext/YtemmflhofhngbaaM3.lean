/- Texts of this claim, one behind the other. -/
import Derived.Test.YtemmflhofhngbaaSetLeaf
import Derived.Test.YtemmflhofhngbaaSl
import Derived.Deep.QuietTactic
import Derived.BigQuiet
/- Right, of the sets and of their reference, told for every list of spans. -/
namespace Go.Proofs.Ytemmflhofhngbaa
open Go.RowKit Go.Shelf
set_option linter.unusedVariables false

theorem below_drewN {B : Nat} {a w : World} (h : Below B a w) (n : Nat) : Below B a (w.drewN n) := h.trans ⟨rfl, rfl, rfl, Nat.le_refl _, fun _ _ => rfl⟩
/-- A list of spans as it lies in a world. -/
def RowP (W : World) (a : Option Addr) (zs : List (Int × Int)) : Prop := 0 < zs.length → ∃ g o, a = some ⟨g, o, none⟩ ∧ g < W.heap.size ∧ ∀ j x, zs[j]? = some x → W.cell? ⟨g, o + j * 2, none⟩ = some (.int .i32 x.1) ∧ W.cell? ⟨g, o + j * 2 + 1, none⟩ = some (.int .i32 x.2)
theorem RowP.below {W W' : World} {a : Option Addr} {zs : List (Int × Int)} (h : RowP W a zs) (hb : Below W.heap.size W W') : RowP W' a zs := fun h0 => by
  obtain ⟨g, o, ha, hg, hc⟩ := h h0
  have := hb.size
  exact ⟨g, o, ha, by omega, fun j x hj => ⟨(hb.cell (p := ⟨g, o + j * 2, none⟩) hg).trans (hc j x hj).1, (hb.cell (p := ⟨g, o + j * 2 + 1, none⟩) hg).trans (hc j x hj).2⟩⟩

/-- Why row j may not stand; 0: it may. -/
def badRow (zs : List (Int × Int)) (j : Nat) : Int :=
  if wrongOf (zs.getD j (0, 0)) ≠ 0 then wrongOf (zs.getD j (0, 0)) else if 0 < j ∧ (zs.getD j (0, 0)).1 ≤ (zs.getD (j - 1) (0, 0)).2 then 13 else 0
/-- What Right answers. -/
def rightV (zs : List (Int × Int)) : Value := match (List.range zs.length).find? (fun j => badRow zs j != 0) with
  | some j => .tuple #[.int .i64 j, .int .i64 (badRow zs j)]
  | none => .tuple #[.int .i64 0, .int .i64 0]
theorem rightV_bad (zs : List (Int × Int)) (k : Nat) (hk : k < zs.length) (h0 : ∀ i, i < k → badRow zs i = 0) (h1 : badRow zs k ≠ 0) : rightV zs = .tuple #[.int .i64 k, .int .i64 (badRow zs k)] := by
  have : (List.range zs.length).find? (fun j => badRow zs j != 0) = some k := by
    rw [List.find?_range_eq_some]
    exact ⟨by simpa using h1, by simpa using hk, fun j hj => by simp [h0 j hj]⟩
  unfold rightV
  rw [this]
theorem rightV_ok (zs : List (Int × Int)) (h0 : ∀ i, i < zs.length → badRow zs i = 0) : rightV zs = .tuple #[.int .i64 0, .int .i64 0] := by
  have : (List.range zs.length).find? (fun j => badRow zs j != 0) = none := by
    rw [List.find?_eq_none]
    intro j hj
    simp [h0 j (by simpa using hj)]
  unfold rightV
  rw [this]

set_option maxRecDepth 100000 in
set_option maxHeartbeats 4000000 in
theorem right_any (a : Option Addr) (cap : Nat) (zs : List (Int × Int)) (hz : zs.length ≤ 1073741824) (w : World) (hr : RowP w a zs) :
    Calls Try.prog 20 #[.slice a zs.length cap] w fun e w' => e = .returned (rightV zs) ∧ Below w.heap.size w w' := by
  have HR := hide hr
  have hzi : (zs.length : Int) ≤ 1073741824 := by omega
  clear hr
  go_enter Try.func20, Try.ntmps20
  go_wp2
  go_loopw [8] (fun i wr => ∃ k : Nat, i = .int .i64 k ∧ k ≤ zs.length ∧ Hz (∀ i, i < k → badRow zs i = 0) ∧ Hz (Below w.heap.size w wr)) (fun i _ => zs.length - (intOf i).toNat)
  case atStart => exact ⟨0, rfl, by omega, hide (fun i hi => by omega), hide (Below.refl _ _)⟩
  case round =>
    obtain ⟨k, rfl, hk, HZ, HB⟩ := hrel
    by_cases hkn : k < zs.length
    · have hk1 : (k : Int) < (zs.length : Int) := by omega
      have hk2 : ((k : Nat) : Int).toNat = k := by omega
      obtain ⟨x, hx⟩ : ∃ x, zs[k]? = some x := ⟨_, List.getElem?_eq_getElem hkn⟩
      have hgd : zs.getD k (0, 0) = x := by simp [List.getD, hx]
      obtain ⟨g, o, rfl, hg, hc⟩ := unhide HR (by omega)
      have c0 := ((unhide HB).cell (p := ⟨g, o + k * 2, none⟩) hg).trans (hc k x hx).1
      have c1 := ((unhide HB).cell (p := ⟨g, o + k * 2 + 1, none⟩) hg).trans (hc k x hx).2
      have HN := hide (fun w => noRunes_any x w)
      have HFa := hide (fun w => falling_any x w)
      obtain ⟨lo, hi⟩ := x
      simp only at c0 c1
      have b1 := Blk.new wr #[.int .i32 lo, .int .i32 hi] 28
      have q0 := b1.cell 0
      have q1 := b1.cell 1
      have HB1 := hide ((unhide HB).alloc (unhide HB).size (.cells #[.int .i32 lo, .int .i32 hi] 28))
      have HBl := hide b1
      clear b1
      cases he : endsB (lo, hi) with
      | false =>
        have HBR : Hz (badRow zs k = 12) := hide (by unfold badRow wrongOf; rw [hgd]; simp [he])
        have HV := hide (rightV_bad zs k hkn (unhide HZ) (by rw [unhide HBR]; decide))
        rw [he] at HN
        clear he hgd hc
        go_wp2_with fail
        refine (unhide HN _).mono ?_
        rintro e w2 ⟨rfl, hb⟩
        have HB2 := hide ((unhide HB1).trans (hb.mono (unhide HB1).size))
        clear hb
        go_wp2
        go_ret2
        exact ⟨by rw [unhide HV, unhide HBR]; rfl, unhide HB2⟩
      | true =>
        rw [he] at HN
        by_cases hfl : hi < lo
        · have HBR : Hz (badRow zs k = 11) := hide (by unfold badRow wrongOf; rw [hgd]; simp [he, hfl])
          have HV := hide (rightV_bad zs k hkn (unhide HZ) (by rw [unhide HBR]; decide))
          have hfd : decide (hi < lo) = true := decide_eq_true hfl
          clear he hgd hc
          go_wp2_with fail
          refine (unhide HN _).mono ?_
          rintro e w2 ⟨rfl, hb⟩
          have HB2 := hide ((unhide HB1).trans (hb.mono (unhide HB1).size))
          have b2 := (unhide HBl).below hb (unhide HBl).lt
          have r0 := b2.cell 0
          have r1 := b2.cell 1
          clear hb b2
          go_wp2_with fail
          refine (unhide HFa _).mono ?_
          rintro e w3 ⟨rfl, hb⟩
          have HB3 := hide ((unhide HB2).trans (hb.mono (unhide HB2).size))
          clear hb
          simp only [hfd]
          go_wp2
          go_ret2
          exact ⟨by rw [unhide HV, unhide HBR]; rfl, unhide HB3⟩
        · have hfd : decide (hi < lo) = false := decide_eq_false hfl
          have hw : wrongOf (lo, hi) = 0 := by unfold wrongOf; simp [he, hfl]
          by_cases hk0 : k = 0
          · subst hk0
            simp only [Nat.zero_mul, Nat.add_zero] at c0 c1
            have HBR : Hz (badRow zs 0 = 0) := hide (by unfold badRow; rw [hgd, if_neg (by simp [hw])]; simp)
            clear he hgd hc hw
            go_wp2_with fail
            refine (unhide HN _).mono ?_
            rintro e w2 ⟨rfl, hb⟩
            have HB2 := hide ((unhide HB1).trans (hb.mono (unhide HB1).size))
            have b2 := (unhide HBl).below hb (unhide HBl).lt
            have r0 := b2.cell 0
            have r1 := b2.cell 1
            clear hb
            go_wp2_with fail
            refine (unhide HFa _).mono ?_
            rintro e w3 ⟨rfl, hb⟩
            have HB3 := hide ((unhide HB2).trans (hb.mono (unhide HB2).size))
            clear hb b2
            simp only [hfd]
            go_wp2
            go_quiet (fail)
            go_wp2
            go_roundw
            case rel => exact ⟨1, rfl, by omega, hide (fun i hi => (show i = 0 by omega) ▸ unhide HBR), hide (below_drewN (unhide HB3) _)⟩
            case measure => simp [intOf]; omega
          · obtain ⟨m, rfl⟩ : ∃ m, k = m + 1 := ⟨k - 1, by omega⟩
            obtain ⟨y, hy⟩ : ∃ y, zs[m]? = some y := ⟨_, List.getElem?_eq_getElem (by omega)⟩
            have hgy : zs.getD m (0, 0) = y := by simp [List.getD, hy]
            have hcy := (hc m y hy).2
            obtain ⟨plo, phi⟩ := y
            simp only at hcy
            have hbr : badRow zs (m + 1) = if lo ≤ phi then 13 else 0 := by
              unfold badRow
              rw [hgd, if_neg (by simp [hw]), Nat.add_sub_cancel, hgy]
              simp
            have HBR := hide hbr
            have hlt := (unhide HB).size
            have hm1 : (m : Int) < (zs.length : Int) := by omega
            have hm2 : ((m : Nat) : Int).toNat = m := by omega
            have hm3 : (m : Int) + 1 < (zs.length : Int) := by omega
            have hm4 : ((m : Int) + 1).toNat = m + 1 := by omega
            have hm5 : (m : Int) ≤ 1073741824 := by omega
            have HCY := hide hcy
            clear he hgd hc hw hbr hgy hy hcy
            go_wp2_with fail
            refine (unhide HN _).mono ?_
            rintro e w2 ⟨rfl, hb⟩
            have HB2 := hide ((unhide HB1).trans (hb.mono (unhide HB1).size))
            have b2 := (unhide HBl).below hb (unhide HBl).lt
            have r0 := b2.cell 0
            have r1 := b2.cell 1
            clear hb
            go_wp2_with fail
            refine (unhide HFa _).mono ?_
            rintro e w3 ⟨rfl, hb⟩
            have HB3 := hide ((unhide HB2).trans (hb.mono (unhide HB2).size))
            have b3 := b2.below hb b2.lt
            have s0 := b3.cell 0
            have d2 := ((unhide HB3).cell (p := ⟨g, o + m * 2 + 1, none⟩) hg).trans (unhide HCY)
            clear hb b2 b3 r0 r1 q0 q1
            simp only [hfd]
            by_cases hle : lo ≤ phi
            · have HV := hide (rightV_bad zs (m + 1) hkn (unhide HZ) (by rw [unhide HBR, if_pos hle]; decide))
              have HB13 : Hz (badRow zs (m + 1) = 13) := hide (by rw [unhide HBR, if_pos hle])
              go_wp2
              go_quiet (fail)
              go_wp2
              go_ret2
              exact ⟨by rw [unhide HV, unhide HB13]; rfl, below_drewN (unhide HB3) _⟩
            · have HB0 : Hz (badRow zs (m + 1) = 0) := hide (by rw [unhide HBR, if_neg hle])
              go_wp2
              go_quiet (fail)
              go_wp2
              go_roundw
              case rel => exact ⟨m + 1 + 1, by go_num, by omega, hide (fun i hi => by
                by_cases e : i = m + 1
                · subst e; exact unhide HB0
                · exact unhide HZ i (by omega)), hide (below_drewN (unhide HB3) _)⟩
              case measure => simp [intOf]; omega
    · have hk1 : ¬ (k : Int) < (zs.length : Int) := by omega
      obtain rfl : k = zs.length := by omega
      have HV := hide (rightV_ok zs (unhide HZ))
      go_wp2
      go_ret2
      exact ⟨by rw [unhide HV]; rfl, unhide HB⟩
end Go.Proofs.Ytemmflhofhngbaa
/- slices.IndexFunc and ContainsFunc over a list of spans, by the two functions that Of hands them. -/
namespace Go.Proofs.Ytemmflhofhngbaa
open Go.RowKit Go.Shelf
set_option linter.unusedVariables false

/-- The first place at which p holds, or -1. -/
def firstAt (p : Int × Int → Bool) (zs : List (Int × Int)) : Int := match (List.range zs.length).find? (fun j => p (zs.getD j (0, 0))) with
  | some j => (j : Int)
  | none => -1
theorem firstAt_hit (p : Int × Int → Bool) (zs : List (Int × Int)) (k : Nat) (hk : k < zs.length) (h0 : ∀ i, i < k → p (zs.getD i (0, 0)) = false) (h1 : p (zs.getD k (0, 0)) = true) : firstAt p zs = k := by
  have : (List.range zs.length).find? (fun j => p (zs.getD j (0, 0))) = some k := by
    rw [List.find?_range_eq_some]
    exact ⟨h1, List.mem_range.2 hk, fun j hj => by simp only [h0 j hj]; rfl⟩
  unfold firstAt
  rw [this]
theorem firstAt_none (p : Int × Int → Bool) (zs : List (Int × Int)) (h0 : ∀ i, i < zs.length → p (zs.getD i (0, 0)) = false) : firstAt p zs = -1 := by
  have : (List.range zs.length).find? (fun j => p (zs.getD j (0, 0))) = none := by
    rw [List.find?_range_eq_none]
    intro j hj
    simp only [h0 j hj]; rfl
  unfold firstAt
  rw [this]
theorem firstAt_any (p : Int × Int → Bool) (zs : List (Int × Int)) : decide (0 ≤ firstAt p zs) = zs.any p := by
  cases h : zs.any p with
  | true =>
    unfold firstAt
    cases hf : (List.range zs.length).find? (fun j => p (zs.getD j (0, 0))) with
    | some j => simp
    | none =>
      exfalso
      rw [List.find?_range_eq_none] at hf
      obtain ⟨x, hx, hp⟩ := List.any_eq_true.1 h
      obtain ⟨i, hi, rfl⟩ := List.mem_iff_getElem.1 hx
      have := hf i hi
      simp [List.getD, hi, hp] at this
  | false =>
    rw [firstAt_none p zs]
    · decide
    · intro i hi
      have := List.any_eq_false.1 h zs[i] (List.getElem_mem hi)
      simpa [List.getD, hi] using this

set_option maxRecDepth 100000 in
set_option maxHeartbeats 4000000 in
theorem index_noRunes (a : Option Addr) (cap : Nat) (zs : List (Int × Int)) (hz : zs.length ≤ 1073741824) (w : World) (hr : RowP w a zs) :
    Calls Try.prog 56 #[.slice a zs.length cap, .func (.func 29) #[] #[]] w fun e w' => e = .returned (.int .i64 (firstAt (fun x => !endsB x) zs)) ∧ Below w.heap.size w w' := by
  have HR := hide hr
  have hzi : (zs.length : Int) ≤ 1073741824 := by omega
  clear hr
  go_enter Try.func56, Try.ntmps56
  go_wp2
  go_loopw [8] (fun i wr => ∃ k : Nat, i = .int .i64 k ∧ k ≤ zs.length ∧ Hz (∀ i, i < k → (fun x => !endsB x) (zs.getD i (0, 0)) = false) ∧ Hz (Below w.heap.size w wr)) (fun i _ => zs.length - (intOf i).toNat)
  case atStart => exact ⟨0, rfl, by omega, hide (fun i hi => by omega), hide (Below.refl _ _)⟩
  case round =>
    obtain ⟨k, rfl, hk, HZ, HB⟩ := hrel
    by_cases hkn : k < zs.length
    · have hk1 : (k : Int) < (zs.length : Int) := by omega
      have hk2 : ((k : Nat) : Int).toNat = k := by omega
      obtain ⟨x, hx⟩ : ∃ x, zs[k]? = some x := ⟨_, List.getElem?_eq_getElem hkn⟩
      have hgd : zs.getD k (0, 0) = x := by simp [List.getD, hx]
      obtain ⟨g, o, rfl, hg, hc⟩ := unhide HR (by omega)
      have c0 := ((unhide HB).cell (p := ⟨g, o + k * 2, none⟩) hg).trans (hc k x hx).1
      have c1 := ((unhide HB).cell (p := ⟨g, o + k * 2 + 1, none⟩) hg).trans (hc k x hx).2
      have HN := hide (fun w => noRunes_any x w)
      have HH := hide (fun h => firstAt_hit (fun x => !endsB x) zs k hkn (unhide HZ) h)
      rw [hgd] at HH
      have HG := hide hgd
      clear hc hx hgd
      cases hp : (!endsB x) with
      | true =>
        have HH1 := hide (unhide HH hp)
        rw [hp] at HN
        obtain ⟨lo, hi⟩ := x
        simp only at c0 c1
        clear hp
        go_wp2_with fail
        refine (unhide HN _).mono ?_
        rintro e w2 ⟨rfl, hb⟩
        have HB2 := hide ((unhide HB).trans (hb.mono (unhide HB).size))
        clear hb
        go_wp2
        go_ret
        exact ⟨by rw [unhide HH1]; rfl, unhide HB2⟩
      | false =>
        have HZ1 : Hz (∀ i, i < k + 1 → (fun x => !endsB x) (zs.getD i (0, 0)) = false) := hide (fun i hi => by
          by_cases e : i = k
          · subst e; rw [unhide HG]; exact hp
          · exact unhide HZ i (by omega))
        rw [hp] at HN
        obtain ⟨lo, hi⟩ := x
        simp only at c0 c1
        clear hp
        go_wp2_with fail
        refine (unhide HN _).mono ?_
        rintro e w2 ⟨rfl, hb⟩
        have HB2 := hide ((unhide HB).trans (hb.mono (unhide HB).size))
        clear hb
        go_wp2
        refine ⟨⟨k + 1, by simp, by omega, HZ1, HB2⟩, ?_⟩
        simp [intOf]; omega
    · have hk1 : ¬ (k : Int) < (zs.length : Int) := by omega
      obtain rfl : k = zs.length := by omega
      have HV := hide (firstAt_none (fun x => !endsB x) zs (unhide HZ))
      go_wp2
      go_ret
      exact ⟨by rw [unhide HV]; rfl, unhide HB⟩

set_option maxRecDepth 100000 in
theorem contains_noRunes (a : Option Addr) (cap : Nat) (zs : List (Int × Int)) (hz : zs.length ≤ 1073741824) (w : World) (hr : RowP w a zs) :
    Calls Try.prog 28 #[.slice a zs.length cap, .func (.func 29) #[] #[]] w fun e w' => e = .returned (.bool (zs.any (fun x => !endsB x))) ∧ Below w.heap.size w w' := by
  have HI := hide (index_noRunes a cap zs hz w hr)
  have HA := hide (firstAt_any (fun x => !endsB x) zs)
  clear hr
  generalize zs.any (fun x => !endsB x) = r at HA ⊢
  generalize firstAt (fun x => !endsB x) zs = i at HI HA
  go_enter Try.func28, Try.ntmps28
  go_wp2_with fail
  refine (unhide HI).mono ?_
  rintro e w2 ⟨rfl, hb⟩
  have HB := hide hb
  clear hb
  go_wp2
  go_ret
  exact ⟨by rw [← unhide HA]; rfl, unhide HB⟩

set_option maxRecDepth 100000 in
set_option maxHeartbeats 4000000 in
theorem index_falling (a : Option Addr) (cap : Nat) (zs : List (Int × Int)) (hz : zs.length ≤ 1073741824) (w : World) (hr : RowP w a zs) :
    Calls Try.prog 56 #[.slice a zs.length cap, .func (.func 30) #[] #[]] w fun e w' => e = .returned (.int .i64 (firstAt (fun x => decide (x.2 < x.1)) zs)) ∧ Below w.heap.size w w' := by
  have HR := hide hr
  have hzi : (zs.length : Int) ≤ 1073741824 := by omega
  clear hr
  go_enter Try.func56, Try.ntmps56
  go_wp2
  go_loopw [8] (fun i wr => ∃ k : Nat, i = .int .i64 k ∧ k ≤ zs.length ∧ Hz (∀ i, i < k → (fun x => decide (x.2 < x.1)) (zs.getD i (0, 0)) = false) ∧ Hz (Below w.heap.size w wr)) (fun i _ => zs.length - (intOf i).toNat)
  case atStart => exact ⟨0, rfl, by omega, hide (fun i hi => by omega), hide (Below.refl _ _)⟩
  case round =>
    obtain ⟨k, rfl, hk, HZ, HB⟩ := hrel
    by_cases hkn : k < zs.length
    · have hk1 : (k : Int) < (zs.length : Int) := by omega
      have hk2 : ((k : Nat) : Int).toNat = k := by omega
      obtain ⟨x, hx⟩ : ∃ x, zs[k]? = some x := ⟨_, List.getElem?_eq_getElem hkn⟩
      have hgd : zs.getD k (0, 0) = x := by simp [List.getD, hx]
      obtain ⟨g, o, rfl, hg, hc⟩ := unhide HR (by omega)
      have c0 := ((unhide HB).cell (p := ⟨g, o + k * 2, none⟩) hg).trans (hc k x hx).1
      have c1 := ((unhide HB).cell (p := ⟨g, o + k * 2 + 1, none⟩) hg).trans (hc k x hx).2
      have HN := hide (fun w => falling_any x w)
      have HH := hide (fun h => firstAt_hit (fun x => decide (x.2 < x.1)) zs k hkn (unhide HZ) h)
      rw [hgd] at HH
      have HG := hide hgd
      clear hc hx hgd
      cases hp : (decide (x.2 < x.1)) with
      | true =>
        have HH1 := hide (unhide HH hp)
        rw [hp] at HN
        obtain ⟨lo, hi⟩ := x
        simp only at c0 c1
        clear hp
        go_wp2_with fail
        refine (unhide HN _).mono ?_
        rintro e w2 ⟨rfl, hb⟩
        have HB2 := hide ((unhide HB).trans (hb.mono (unhide HB).size))
        clear hb
        go_wp2
        go_ret
        exact ⟨by rw [unhide HH1]; rfl, unhide HB2⟩
      | false =>
        have HZ1 : Hz (∀ i, i < k + 1 → (fun x => decide (x.2 < x.1)) (zs.getD i (0, 0)) = false) := hide (fun i hi => by
          by_cases e : i = k
          · subst e; rw [unhide HG]; exact hp
          · exact unhide HZ i (by omega))
        rw [hp] at HN
        obtain ⟨lo, hi⟩ := x
        simp only at c0 c1
        clear hp
        go_wp2_with fail
        refine (unhide HN _).mono ?_
        rintro e w2 ⟨rfl, hb⟩
        have HB2 := hide ((unhide HB).trans (hb.mono (unhide HB).size))
        clear hb
        go_wp2
        refine ⟨⟨k + 1, by simp, by omega, HZ1, HB2⟩, ?_⟩
        simp [intOf]; omega
    · have hk1 : ¬ (k : Int) < (zs.length : Int) := by omega
      obtain rfl : k = zs.length := by omega
      have HV := hide (firstAt_none (fun x => decide (x.2 < x.1)) zs (unhide HZ))
      go_wp2
      go_ret
      exact ⟨by rw [unhide HV]; rfl, unhide HB⟩

set_option maxRecDepth 100000 in
theorem contains_falling (a : Option Addr) (cap : Nat) (zs : List (Int × Int)) (hz : zs.length ≤ 1073741824) (w : World) (hr : RowP w a zs) :
    Calls Try.prog 28 #[.slice a zs.length cap, .func (.func 30) #[] #[]] w fun e w' => e = .returned (.bool (zs.any (fun x => decide (x.2 < x.1)))) ∧ Below w.heap.size w w' := by
  have HI := hide (index_falling a cap zs hz w hr)
  have HA := hide (firstAt_any (fun x => decide (x.2 < x.1)) zs)
  clear hr
  generalize zs.any (fun x => decide (x.2 < x.1)) = r at HA ⊢
  generalize firstAt (fun x => decide (x.2 < x.1)) zs = i at HI HA
  go_enter Try.func28, Try.ntmps28
  go_wp2_with fail
  refine (unhide HI).mono ?_
  rintro e w2 ⟨rfl, hb⟩
  have HB := hide hb
  clear hb
  go_wp2
  go_ret
  exact ⟨by rw [← unhide HA]; rfl, unhide HB⟩

end Go.Proofs.Ytemmflhofhngbaa
/- cmp.Compare at runes, and the three comparisons that the sets hand to the library. -/
namespace Go.Proofs.Ytemmflhofhngbaa
open Go.RowKit Go.Shelf
set_option linter.unusedVariables false

def cmpOf (a b : Int) : Int := if a < b then -1 else if b < a then 1 else 0
theorem nan_any (a : Int) (w : World) : Calls Try.prog 59 #[.int .i32 a] w fun e w' => e = .returned (.bool false) ∧ w' = w := by
  go_enter Try.func59, Try.ntmps59
  go_wp2
  go_ret
  exact ⟨rfl, rfl⟩
theorem compare_any (a b : Int) (w : World) : Calls Try.prog 34 #[.int .i32 a, .int .i32 b] w fun e w' => e = .returned (.int .i64 (cmpOf a b)) ∧ w' = w := by
  have HA := hide (nan_any a w)
  have HB := hide (nan_any b w)
  by_cases h1 : a < b
  · have h : cmpOf a b = -1 := by unfold cmpOf; rw [if_pos h1]
    rw [h]
    clear h
    go_enter Try.func34, Try.ntmps34
    go_wp2_with fail
    refine (unhide HA).mono ?_
    rintro e w2 ⟨rfl, rfl⟩
    go_wp2_with fail
    refine (unhide HB).mono ?_
    rintro e w2 ⟨rfl, rfl⟩
    go_wp2
    go_ret
    exact ⟨rfl, rfl⟩
  · by_cases h2 : b < a
    · have h : cmpOf a b = 1 := by unfold cmpOf; rw [if_neg h1, if_pos h2]
      rw [h]
      clear h
      go_enter Try.func34, Try.ntmps34
      go_wp2_with fail
      refine (unhide HA).mono ?_
      rintro e w2 ⟨rfl, rfl⟩
      go_wp2_with fail
      refine (unhide HB).mono ?_
      rintro e w2 ⟨rfl, rfl⟩
      go_wp2
      go_ret
      exact ⟨rfl, rfl⟩
    · have h : cmpOf a b = 0 := by unfold cmpOf; rw [if_neg h1, if_neg h2]
      rw [h]
      clear h
      go_enter Try.func34, Try.ntmps34
      go_wp2_with fail
      refine (unhide HA).mono ?_
      rintro e w2 ⟨rfl, rfl⟩
      go_wp2_with fail
      refine (unhide HB).mono ?_
      rintro e w2 ⟨rfl, rfl⟩
      go_wp2
      go_ret
      exact ⟨rfl, rfl⟩

theorem of1_any (x y : Int × Int) (w : World) : Calls Try.prog 33 #[spanV x, spanV y] w fun e w' => e = .returned (.int .i64 (cmpOf x.1 y.1)) ∧ Below w.heap.size w w' := by
  have HC := hide (fun w => compare_any x.1 y.1 w)
  obtain ⟨lo, hi⟩ := x
  obtain ⟨mo, mi⟩ := y
  simp only at HC
  go_enter Try.func33, Try.ntmps33
  go_wp2_with fail
  refine (unhide HC _).mono ?_
  rintro e w2 ⟨rfl, rfl⟩
  go_wp2
  go_ret
  exact ⟨rfl, ((Below.refl _ w).alloc (Nat.le_refl _) _).alloc (by simp) _⟩
theorem in1_any (x : Int × Int) (r : Int) (w : World) : Calls Try.prog 50 #[spanV x, .int .i32 r] w fun e w' => e = .returned (.int .i64 (cmpOf x.2 r)) ∧ Below w.heap.size w w' := by
  have HC := hide (fun w => compare_any x.2 r w)
  obtain ⟨lo, hi⟩ := x
  simp only at HC
  go_enter Try.func50, Try.ntmps50
  go_wp2_with fail
  refine (unhide HC _).mono ?_
  rintro e w2 ⟨rfl, rfl⟩
  go_wp2
  go_ret
  exact ⟨rfl, (Below.refl _ w).alloc (Nat.le_refl _) _⟩
theorem below1_any (x : Int × Int) (r : Int) (w : World) : Calls Try.prog 48 #[spanV x, .int .i32 r] w fun e w' => e = .returned (.int .i64 (cmpOf x.1 r)) ∧ Below w.heap.size w w' := by
  have HC := hide (fun w => compare_any x.1 r w)
  obtain ⟨lo, hi⟩ := x
  simp only at HC
  go_enter Try.func48, Try.ntmps48
  go_wp2_with fail
  refine (unhide HC _).mono ?_
  rintro e w2 ⟨rfl, rfl⟩
  go_wp2
  go_ret
  exact ⟨rfl, (Below.refl _ w).alloc (Nat.le_refl _) _⟩

end Go.Proofs.Ytemmflhofhngbaa
/- slices.BinarySearchFunc over a list of spans, by the two comparisons of In and Below. -/
namespace Go.Proofs.Ytemmflhofhngbaa
open Go.RowKit Go.Shelf
set_option linter.unusedVariables false

/-- The first k lie below r by the key, the others don't. -/
def Cut (key : Int × Int → Int) (zs : List (Int × Int)) (r : Int) (k : Nat) : Prop := k ≤ zs.length ∧ (∀ j x, j < k → zs[j]? = some x → key x < r) ∧ (∀ j x, k ≤ j → zs[j]? = some x → r ≤ key x)
theorem cmp_lt {a b : Int} (h : a < b) : cmpOf a b = -1 := by unfold cmpOf; rw [if_pos h]
theorem cmp_eq (a : Int) : cmpOf a a = 0 := by unfold cmpOf; simp
theorem cmp_gt {a b : Int} (h : b < a) : cmpOf a b = 1 := by unfold cmpOf; rw [if_neg (by omega), if_pos h]

set_option maxRecDepth 100000 in
set_option maxHeartbeats 4000000 in
theorem search_his (p : Option Addr) (cap : Nat) (zs : List (Int × Int)) (hz : zs.length ≤ 1073741824) (r : Int) (hs : ∀ (i j : Nat) (x y : Int × Int), i < j → zs[i]? = some x → zs[j]? = some y → x.2 < y.2) (w : World) (hr : RowP w p zs) :
    Calls Try.prog 47 #[.slice p zs.length cap, .int .i32 r, .func (.func 50) #[] #[]] w fun e w' => ∃ (k : Nat) (b : Bool), e = .returned (.tuple #[.int .i64 k, .bool b]) ∧ Cut (fun x => x.2) zs r k ∧ Below w.heap.size w w' := by
  have HR := hide hr
  have HS := hide hs
  have hzi : (zs.length : Int) ≤ 1073741824 := by omega
  clear hr hs
  go_enter Try.func47, Try.ntmps47
  go_wp2
  go_loopw [9, 10] (fun i j wr => ∃ a b : Nat, a ≤ b ∧ b ≤ zs.length ∧ i = .int .i64 a ∧ j = .int .i64 b ∧ Hz (∀ j x, j < a → zs[j]? = some x → x.2 < r) ∧ Hz (∀ j x, b ≤ j → zs[j]? = some x → r ≤ x.2) ∧ Hz (Below w.heap.size w wr)) (fun i j _ => (intOf j).toNat - (intOf i).toNat)
  case atStart => exact ⟨0, zs.length, by omega, Nat.le_refl _, rfl, rfl, hide (fun j x hj => by omega), hide (fun j x hj hx => by have := (List.getElem?_eq_some_iff.1 hx).1; omega), hide (Below.refl _ _)⟩
  case round =>
    obtain ⟨a, b, hab, hb, rfl, rfl, H1, H2, HB⟩ := hrel
    by_cases hlt : a < b
    · have h1 : (a : Int) < (b : Int) := by omega
      obtain ⟨x, hx⟩ : ∃ x, zs[(a + b) / 2]? = some x := ⟨_, List.getElem?_eq_getElem (by omega)⟩
      obtain ⟨g, o, rfl, hg, hc⟩ := unhide HR (by omega)
      have c0 := ((unhide HB).cell (p := ⟨g, o + (a + b) / 2 * 2, none⟩) hg).trans (hc _ x hx).1
      have c1 := ((unhide HB).cell (p := ⟨g, o + (a + b) / 2 * 2 + 1, none⟩) hg).trans (hc _ x hx).2
      have HN := hide (fun w => in1_any x r w)
      have HX := hide hx
      clear hx hc
      by_cases hxn : x.2 < r
      · rw [cmp_lt hxn] at HN
        have H1' : Hz (∀ j y, j < (a + b) / 2 + 1 → zs[j]? = some y → y.2 < r) := hide (fun j y hj hy => by
          by_cases e : j = (a + b) / 2
          · subst e; rw [unhide HX] at hy; cases hy; exact hxn
          · have := unhide HS j ((a + b) / 2) y x (by omega) hy (unhide HX); omega)
        clear hxn
        obtain ⟨lo, hi⟩ := x
        simp only at c0 c1
        go_wp2_with fail
        refine (unhide HN _).mono ?_
        rintro e w2 ⟨rfl, hb2⟩
        have HB2 := hide ((unhide HB).trans (hb2.mono (unhide HB).size))
        clear hb2
        go_wp2
        go_roundw
        case rel =>
          refine ⟨(a + b) / 2 + 1, b, by omega, hb, ?_, rfl, H1', H2, HB2⟩
          congr 1
        case measure => simp [intOf]; omega
      · have H2' : Hz (∀ j y, (a + b) / 2 ≤ j → zs[j]? = some y → r ≤ y.2) := hide (fun j y hj hy => by
          by_cases e : j = (a + b) / 2
          · subst e; rw [unhide HX] at hy; cases hy; omega
          · have := unhide HS ((a + b) / 2) j x y (by omega) (unhide HX) hy; omega)
        have hq : 0 ≤ cmpOf x.2 r := by unfold cmpOf; rw [if_neg hxn]; split <;> omega
        generalize cmpOf x.2 r = q at HN hq
        have hq1 : ¬ q < 0 := by omega
        clear hxn
        obtain ⟨lo, hi⟩ := x
        simp only at c0 c1
        go_wp2_with fail
        refine (unhide HN _).mono ?_
        rintro e w2 ⟨rfl, hb2⟩
        have HB2 := hide ((unhide HB).trans (hb2.mono (unhide HB).size))
        clear hb2
        go_wp2
        go_roundw
        case rel =>
          refine ⟨a, (a + b) / 2, by omega, by omega, rfl, ?_, H1, H2', HB2⟩
          congr 1
        case measure => simp [intOf]; omega
    · have h1 : ¬ (a : Int) < (b : Int) := by omega
      obtain rfl : a = b := by omega
      have HK : Hz (Cut (fun x => x.2) zs r a) := hide ⟨hb, unhide H1, unhide H2⟩
      by_cases hal : a < zs.length
      · obtain ⟨x, hx⟩ : ∃ x, zs[a]? = some x := ⟨_, List.getElem?_eq_getElem hal⟩
        obtain ⟨g, o, rfl, hg, hc⟩ := unhide HR (by omega)
        have c0 := ((unhide HB).cell (p := ⟨g, o + a * 2, none⟩) hg).trans (hc _ x hx).1
        have c1 := ((unhide HB).cell (p := ⟨g, o + a * 2 + 1, none⟩) hg).trans (hc _ x hx).2
        have HN := hide (fun w => in1_any x r w)
        have h2 : (a : Int) < (zs.length : Int) := by omega
        have h3 : ((a : Nat) : Int).toNat = a := by omega
        clear hx hc
        generalize cmpOf x.2 r = q at HN
        obtain ⟨lo, hi⟩ := x
        simp only at c0 c1
        go_wp2_with fail
        refine (unhide HN _).mono ?_
        rintro e w2 ⟨rfl, hb2⟩
        have HB2 := hide ((unhide HB).trans (hb2.mono (unhide HB).size))
        clear hb2
        by_cases hq : q = 0
        · subst hq
          go_wp2
          go_ret2
          first | exact ⟨a, _, rfl, unhide HK, unhide HB2⟩ | exact ⟨unhide HK, unhide HB2⟩
        · have hqe : (q == 0) = false := beq_eq_false_iff_ne.2 hq
          go_wp2
          go_ret2
          first | exact ⟨a, _, rfl, unhide HK, unhide HB2⟩ | exact ⟨unhide HK, unhide HB2⟩
      · have h2 : ¬ (a : Int) < (zs.length : Int) := by omega
        go_wp2
        go_ret2
        first | exact ⟨a, _, rfl, unhide HK, unhide HB⟩ | exact ⟨unhide HK, unhide HB⟩ | exact ⟨a, rfl, unhide HK, unhide HB⟩ | exact ⟨a, ⟨_, rfl⟩, unhide HK, unhide HB⟩ | exact ⟨a, false, rfl, unhide HK, unhide HB⟩ | exact ⟨a, by simp; exact ⟨unhide HK, unhide HB⟩⟩

set_option maxRecDepth 100000 in
set_option maxHeartbeats 4000000 in
theorem search_los (p : Option Addr) (cap : Nat) (zs : List (Int × Int)) (hz : zs.length ≤ 1073741824) (r : Int) (hs : ∀ (i j : Nat) (x y : Int × Int), i < j → zs[i]? = some x → zs[j]? = some y → x.1 < y.1) (w : World) (hr : RowP w p zs) :
    Calls Try.prog 47 #[.slice p zs.length cap, .int .i32 r, .func (.func 48) #[] #[]] w fun e w' => ∃ (k : Nat) (b : Bool), e = .returned (.tuple #[.int .i64 k, .bool b]) ∧ Cut (fun x => x.1) zs r k ∧ Below w.heap.size w w' := by
  have HR := hide hr
  have HS := hide hs
  have hzi : (zs.length : Int) ≤ 1073741824 := by omega
  clear hr hs
  go_enter Try.func47, Try.ntmps47
  go_wp2
  go_loopw [9, 10] (fun i j wr => ∃ a b : Nat, a ≤ b ∧ b ≤ zs.length ∧ i = .int .i64 a ∧ j = .int .i64 b ∧ Hz (∀ j x, j < a → zs[j]? = some x → x.1 < r) ∧ Hz (∀ j x, b ≤ j → zs[j]? = some x → r ≤ x.1) ∧ Hz (Below w.heap.size w wr)) (fun i j _ => (intOf j).toNat - (intOf i).toNat)
  case atStart => exact ⟨0, zs.length, by omega, Nat.le_refl _, rfl, rfl, hide (fun j x hj => by omega), hide (fun j x hj hx => by have := (List.getElem?_eq_some_iff.1 hx).1; omega), hide (Below.refl _ _)⟩
  case round =>
    obtain ⟨a, b, hab, hb, rfl, rfl, H1, H2, HB⟩ := hrel
    by_cases hlt : a < b
    · have h1 : (a : Int) < (b : Int) := by omega
      obtain ⟨x, hx⟩ : ∃ x, zs[(a + b) / 2]? = some x := ⟨_, List.getElem?_eq_getElem (by omega)⟩
      obtain ⟨g, o, rfl, hg, hc⟩ := unhide HR (by omega)
      have c0 := ((unhide HB).cell (p := ⟨g, o + (a + b) / 2 * 2, none⟩) hg).trans (hc _ x hx).1
      have c1 := ((unhide HB).cell (p := ⟨g, o + (a + b) / 2 * 2 + 1, none⟩) hg).trans (hc _ x hx).2
      have HN := hide (fun w => below1_any x r w)
      have HX := hide hx
      clear hx hc
      by_cases hxn : x.1 < r
      · rw [cmp_lt hxn] at HN
        have H1' : Hz (∀ j y, j < (a + b) / 2 + 1 → zs[j]? = some y → y.1 < r) := hide (fun j y hj hy => by
          by_cases e : j = (a + b) / 2
          · subst e; rw [unhide HX] at hy; cases hy; exact hxn
          · have := unhide HS j ((a + b) / 2) y x (by omega) hy (unhide HX); omega)
        clear hxn
        obtain ⟨lo, hi⟩ := x
        simp only at c0 c1
        go_wp2_with fail
        refine (unhide HN _).mono ?_
        rintro e w2 ⟨rfl, hb2⟩
        have HB2 := hide ((unhide HB).trans (hb2.mono (unhide HB).size))
        clear hb2
        go_wp2
        go_roundw
        case rel =>
          refine ⟨(a + b) / 2 + 1, b, by omega, hb, ?_, rfl, H1', H2, HB2⟩
          congr 1
        case measure => simp [intOf]; omega
      · have H2' : Hz (∀ j y, (a + b) / 2 ≤ j → zs[j]? = some y → r ≤ y.1) := hide (fun j y hj hy => by
          by_cases e : j = (a + b) / 2
          · subst e; rw [unhide HX] at hy; cases hy; omega
          · have := unhide HS ((a + b) / 2) j x y (by omega) (unhide HX) hy; omega)
        have hq : 0 ≤ cmpOf x.1 r := by unfold cmpOf; rw [if_neg hxn]; split <;> omega
        generalize cmpOf x.1 r = q at HN hq
        have hq1 : ¬ q < 0 := by omega
        clear hxn
        obtain ⟨lo, hi⟩ := x
        simp only at c0 c1
        go_wp2_with fail
        refine (unhide HN _).mono ?_
        rintro e w2 ⟨rfl, hb2⟩
        have HB2 := hide ((unhide HB).trans (hb2.mono (unhide HB).size))
        clear hb2
        go_wp2
        go_roundw
        case rel =>
          refine ⟨a, (a + b) / 2, by omega, by omega, rfl, ?_, H1, H2', HB2⟩
          congr 1
        case measure => simp [intOf]; omega
    · have h1 : ¬ (a : Int) < (b : Int) := by omega
      obtain rfl : a = b := by omega
      have HK : Hz (Cut (fun x => x.1) zs r a) := hide ⟨hb, unhide H1, unhide H2⟩
      by_cases hal : a < zs.length
      · obtain ⟨x, hx⟩ : ∃ x, zs[a]? = some x := ⟨_, List.getElem?_eq_getElem hal⟩
        obtain ⟨g, o, rfl, hg, hc⟩ := unhide HR (by omega)
        have c0 := ((unhide HB).cell (p := ⟨g, o + a * 2, none⟩) hg).trans (hc _ x hx).1
        have c1 := ((unhide HB).cell (p := ⟨g, o + a * 2 + 1, none⟩) hg).trans (hc _ x hx).2
        have HN := hide (fun w => below1_any x r w)
        have h2 : (a : Int) < (zs.length : Int) := by omega
        have h3 : ((a : Nat) : Int).toNat = a := by omega
        clear hx hc
        generalize cmpOf x.1 r = q at HN
        obtain ⟨lo, hi⟩ := x
        simp only at c0 c1
        go_wp2_with fail
        refine (unhide HN _).mono ?_
        rintro e w2 ⟨rfl, hb2⟩
        have HB2 := hide ((unhide HB).trans (hb2.mono (unhide HB).size))
        clear hb2
        by_cases hq : q = 0
        · subst hq
          go_wp2
          go_ret2
          first | exact ⟨a, _, rfl, unhide HK, unhide HB2⟩ | exact ⟨unhide HK, unhide HB2⟩
        · have hqe : (q == 0) = false := beq_eq_false_iff_ne.2 hq
          go_wp2
          go_ret2
          first | exact ⟨a, _, rfl, unhide HK, unhide HB2⟩ | exact ⟨unhide HK, unhide HB2⟩
      · have h2 : ¬ (a : Int) < (zs.length : Int) := by omega
        go_wp2
        go_ret2
        first | exact ⟨a, _, rfl, unhide HK, unhide HB⟩ | exact ⟨unhide HK, unhide HB⟩ | exact ⟨a, rfl, unhide HK, unhide HB⟩ | exact ⟨a, ⟨_, rfl⟩, unhide HK, unhide HB⟩ | exact ⟨a, false, rfl, unhide HK, unhide HB⟩ | exact ⟨a, by simp; exact ⟨unhide HK, unhide HB⟩⟩

end Go.Proofs.Ytemmflhofhngbaa
/- A set as it lies in memory; Below, Size and In of it. -/
namespace Go.Proofs.Ytemmflhofhngbaa
open Go.RowKit Go.Shelf
set_option linter.unusedVariables false

def spanSize (x : Int × Int) : Int := rankOf x.2 + 1 - rankOf x.1
def total : List (Int × Int) → Int
  | [] => 0
  | x :: zs => spanSize x + total zs
/-- Right spans, rising, no two of which touch. -/
structure Spread (zs : List (Int × Int)) : Prop where
  ends : ∀ x ∈ zs, endsB x = true ∧ x.1 ≤ x.2
  apart : ∀ (i j : Nat) (x y : Int × Int), i < j → zs[i]? = some x → zs[j]? = some y → rankOf x.2 + 1 < rankOf y.1
theorem runeB_iff {n : Int} (h : runeB n = true) : 0 ≤ n ∧ n ≤ 1114111 ∧ (n < 55296 ∨ 57343 < n) := by
  unfold runeB at h
  exact of_decide_eq_true h
theorem endsB_iff {x : Int × Int} (h : endsB x = true) : (0 ≤ x.1 ∧ x.1 ≤ 1114111 ∧ (x.1 < 55296 ∨ 57343 < x.1)) ∧ (0 ≤ x.2 ∧ x.2 ≤ 1114111 ∧ (x.2 < 55296 ∨ 57343 < x.2)) := by
  unfold endsB at h
  rw [Bool.and_eq_true] at h
  exact ⟨runeB_iff h.1, runeB_iff h.2⟩
theorem rank_lt {a b : Int} (ha : a < 55296 ∨ 57343 < a) (hb : b < 55296 ∨ 57343 < b) : rankOf a < rankOf b ↔ a < b := by
  unfold rankOf
  split <;> split <;> (try split) <;> (try split) <;> omega
theorem Spread.lt {zs : List (Int × Int)} (h : Spread zs) (i j : Nat) (x y : Int × Int) (hij : i < j) (hx : zs[i]? = some x) (hy : zs[j]? = some y) : x.2 < y.1 := by
  have a := endsB_iff (h.ends x (List.mem_of_getElem? hx)).1
  have b := endsB_iff (h.ends y (List.mem_of_getElem? hy)).1
  have := h.apart i j x y hij hx hy
  exact (rank_lt a.2.2.2 b.1.2.2).1 (by omega)
theorem Spread.los {zs : List (Int × Int)} (h : Spread zs) (i j : Nat) (x y : Int × Int) (hij : i < j) (hx : zs[i]? = some x) (hy : zs[j]? = some y) : x.1 < y.1 := by
  have := h.lt i j x y hij hx hy
  have := (h.ends x (List.mem_of_getElem? hx)).2
  omega
theorem Spread.his {zs : List (Int × Int)} (h : Spread zs) (i j : Nat) (x y : Int × Int) (hij : i < j) (hx : zs[i]? = some x) (hy : zs[j]? = some y) : x.2 < y.2 := by
  have := h.lt i j x y hij hx hy
  have := (h.ends y (List.mem_of_getElem? hy)).2
  omega
theorem rank_range {a : Int} (h0 : 0 ≤ a) (h1 : a ≤ 1114111) : 0 ≤ rankOf a ∧ rankOf a ≤ 1112063 := by
  unfold rankOf
  split <;> (try split) <;> omega
/-- What lies ahead of each span. -/
def RowA (W : World) (a : Option Addr) (zs : List (Int × Int)) : Prop := 0 < zs.length → ∃ g o, a = some ⟨g, o, none⟩ ∧ g < W.heap.size ∧ ∀ j, j < zs.length → W.cell? ⟨g, o + j, none⟩ = some (.int .i64 (total (zs.take j)))
theorem RowA.below {W W' : World} {a : Option Addr} {zs : List (Int × Int)} (h : RowA W a zs) (hb : Below W.heap.size W W') : RowA W' a zs := fun h0 => by
  obtain ⟨g, o, ha, hg, hc⟩ := h h0
  have := hb.size
  exact ⟨g, o, ha, by omega, fun j hj => (hb.cell (p := ⟨g, o + j, none⟩) hg).trans (hc j hj)⟩
theorem total_bound {zs : List (Int × Int)} (h : ∀ x ∈ zs, endsB x = true ∧ x.1 ≤ x.2) : 0 ≤ total zs ∧ total zs ≤ 1112064 * zs.length := by
  induction zs with
  | nil => simp [total]
  | cons x zs ih =>
    have := ih fun y hy => h y (List.mem_cons_of_mem _ hy)
    have hx := h x List.mem_cons_self
    have e := endsB_iff hx.1
    have r1 := rank_range e.1.1 e.1.2.1
    have r2 := rank_range e.2.1 e.2.2.1
    have := (rank_lt e.2.2.2 e.1.2.2)
    simp only [total, spanSize, List.length_cons]
    omega
/-- How many runes of the set lie below r, where the first k spans begin below it. -/
def belowK (zs : List (Int × Int)) (r : Int) : Nat → Int
  | 0 => 0
  | k + 1 => total (zs.take k) + min (rankOf r) (rankOf (zs.getD k (0, 0)).2 + 1) - rankOf (zs.getD k (0, 0)).1
theorem total_snoc (zs : List (Int × Int)) (x : Int × Int) : total (zs ++ [x]) = total zs + spanSize x := by
  induction zs with
  | nil => simp [total]
  | cons y zs ih => simp only [List.cons_append, total, ih]; omega
theorem belowK_all {zs : List (Int × Int)} (h : Spread zs) : belowK zs 1114112 zs.length = total zs := by
  rcases List.eq_nil_or_concat zs with rfl | ⟨ys, x, rfl⟩
  · rfl
  · have hx := h.ends x (by simp)
    have e := endsB_iff hx.1
    have r2 := rank_range e.2.1 e.2.2.1
    have hr : rankOf 1114112 = 1112064 := by decide
    rw [List.concat_eq_append, List.length_append, List.length_singleton, total_snoc]
    show total ((ys ++ [x]).take ys.length) + min (rankOf 1114112) (rankOf ((ys ++ [x]).getD ys.length (0, 0)).2 + 1) - rankOf ((ys ++ [x]).getD ys.length (0, 0)).1 = _
    have hg : (ys ++ [x]).getD ys.length (0, 0) = x := by simp [List.getD]
    rw [List.take_left' rfl, hg, hr]
    unfold spanSize
    omega
structure SetAt (W : World) (B : Nat) (zs : List (Int × Int)) : Prop where
  form : ∃ a ca b cb, Blk W B #[.slice a zs.length ca, .slice b zs.length cb] 66 ∧ RowP W a zs ∧ RowA W b zs
  spread : Spread zs
  len : zs.length ≤ 1112064
theorem SetAt.below {W W' : World} {B : Nat} {zs : List (Int × Int)} (h : SetAt W B zs) (hb : Below W.heap.size W W') : SetAt W' B zs := by
  obtain ⟨⟨a, ca, b, cb, h1, h2, h3⟩, hs, hl⟩ := h
  exact ⟨⟨a, ca, b, cb, h1.below hb h1.lt, h2.below hb, h3.below hb⟩, hs, hl⟩

set_option maxRecDepth 100000 in
set_option maxHeartbeats 4000000 in
theorem below_any (B : Nat) (zs : List (Int × Int)) (r : Int) (h0 : -2147483648 ≤ r) (h1 : r ≤ 2147483647) (w : World) (hs : SetAt w B zs) :
    Calls Try.prog 18 #[.pointer (some ⟨B, 0, none⟩), .int .i32 r] w fun e w' => ∃ k, e = .returned (.int .i64 (belowK zs r k)) ∧ Cut (fun x => x.1) zs r k ∧ Below w.heap.size w w' := by
  obtain ⟨⟨a, ca, b, cb, hb0, hp, ha⟩, hsp, hl⟩ := hs
  have d0 := hb0.cell 0
  have HQ := hide (fun w hr => search_los a ca zs (by omega) r (fun i j x y => hsp.los i j x y) w hr)
  have HP := hide hp
  have HA := hide ha
  have HBk := hide hb0
  have HS := hide hsp
  clear hp ha hsp hb0
  go_enter Try.func18, Try.ntmps18
  go_wp2_with fail
  refine (unhide HQ _ (unhide HP)).mono ?_
  rintro e w2 ⟨k, bb, rfl, hcut, hb⟩
  have HB := hide hb
  have HC := hide hcut
  have e0 := ((unhide HBk).below hb (unhide HBk).lt).cell 0
  have e1 := ((unhide HBk).below hb (unhide HBk).lt).cell 1
  have HP2 := hide ((unhide HP).below hb)
  have HA2 := hide ((unhide HA).below hb)
  have hk := hcut.1
  clear hb hcut
  cases k with
  | zero =>
    go_wp2
    go_ret
    exact ⟨0, rfl, unhide HC, unhide HB⟩
  | succ m =>
    obtain ⟨x, hx⟩ : ∃ x, zs[m]? = some x := ⟨_, List.getElem?_eq_getElem (by omega)⟩
    obtain ⟨g, o, rfl, hg, hc⟩ := unhide HP2 (by omega)
    obtain ⟨g', o', rfl, hg', hc'⟩ := unhide HA2 (by omega)
    have c0 := (hc m x hx).1
    have c1 := (hc m x hx).2
    have c2 := hc' m (by omega)
    have hgd : zs.getD m (0, 0) = x := by simp [List.getD, hx]
    have hex := (unhide HS).ends x (List.mem_of_getElem? hx)
    have hee := endsB_iff hex.1
    have r1 := rank_range hee.1.1 hee.1.2.1
    have r2 := rank_range hee.2.1 hee.2.2.1
    have htb := total_bound (zs := zs.take m) (fun y hy => (unhide HS).ends y (List.mem_of_mem_take hy))
    have hlt : (zs.take m).length ≤ 1112064 := by rw [List.length_take]; omega
    have HV : Hz (belowK zs r (m + 1) = total (zs.take m) + min (rankOf r) (rankOf x.2 + 1) - rankOf x.1) := hide (by show total (zs.take m) + min (rankOf r) (rankOf (zs.getD m (0, 0)).2 + 1) - rankOf (zs.getD m (0, 0)).1 = _; rw [hgd])
    have hrr : -2147483648 ≤ rankOf r ∧ rankOf r ≤ 2147483647 := by unfold rankOf; split <;> (try split) <;> omega
    have hlo : 0 ≤ x.1 ∧ x.1 ≤ 1114111 := ⟨hee.1.1, hee.1.2.1⟩
    have hhi : 0 ≤ x.2 ∧ x.2 ≤ 1114111 := ⟨hee.2.1, hee.2.2.1⟩
    generalize total (zs.take m) = tt at c2 htb HV
    have htt : 0 ≤ tt ∧ tt ≤ 1236686340096 := by have := htb.1; have := htb.2; omega
    clear hc hc' hgd hex hee htb hx
    obtain ⟨lo, hi⟩ := x
    simp only at c0 c1 HV r1 r2 hlo hhi
    have hm1 : ((m + 1 : Nat) : Int) - 1 = (m : Int) := by omega
    have hm2 : ((m : Nat) : Int).toNat = m := by omega
    have hm3 : (m : Int) < (zs.length : Int) := by omega
    have b1 := Blk.new w2 #[.int .i32 lo, .int .i32 hi] 28
    have q0 := b1.cell 0
    have q1 := b1.cell 1
    have HB1 := hide ((unhide HB).alloc (unhide HB).size (.cells #[.int .i32 lo, .int .i32 hi] 28))
    have f1 : (w2.alloc (.cells #[.int .i32 lo, .int .i32 hi] 28)).cell? ⟨B, 1, none⟩ = some (.slice (some ⟨g', o', none⟩) zs.length cb) := (((Below.refl _ w2).alloc (Nat.le_refl _) _).cell (p := ⟨B, 1, none⟩) ((unhide HBk).below (unhide HB) (unhide HBk).lt).lt).trans e1
    have f2 := (((Below.refl _ w2).alloc (Nat.le_refl _) (.cells #[.int .i32 lo, .int .i32 hi] 28)).cell (p := ⟨g', o' + m, none⟩) hg').trans c2
    clear b1
    go_wp2_with fail
    clear e0 e1 c0 c1 c2 d0 HP HA HP2 HA2 hg hg' HBk HS HQ HB
    go_quiet ((go_at_call 37; exact Calls.quiet_of_same (rank_any _ (by omega) (by omega) _)))
    go_wp2
    all_goals
      go_ret
      first
        | exact ⟨m + 1, by rw [unhide HV, show min (rankOf r) (rankOf hi + 1) = rankOf hi + 1 by omega]; rfl, unhide HC, below_drewN (unhide HB1) _⟩
        | exact ⟨m + 1, by rw [unhide HV, show min (rankOf r) (rankOf hi + 1) = rankOf r by omega]; rfl, unhide HC, below_drewN (unhide HB1) _⟩

set_option maxRecDepth 100000 in
theorem size_any (B : Nat) (zs : List (Int × Int)) (w : World) (hs : SetAt w B zs) :
    Calls Try.prog 10 #[.pointer (some ⟨B, 0, none⟩)] w fun e w' => e = .returned (.int .i64 (total zs)) ∧ Below w.heap.size w w' := by
  have HS := hide hs.spread
  have HQ := hide (below_any B zs 1114112 (by decide) (by decide) w hs)
  have HT : Hz (∀ k, Cut (fun x => x.1) zs 1114112 k → belowK zs 1114112 k = total zs) := hide (fun k hk => by
    have hkl : k = zs.length := by
      by_cases e : k = zs.length
      · exact e
      · have h1 := hk.1
        obtain ⟨x, hx⟩ : ∃ x, zs[k]? = some x := ⟨_, List.getElem?_eq_getElem (by omega)⟩
        have : (1114112 : Int) ≤ x.1 := hk.2.2 k x (Nat.le_refl _) hx
        have := (endsB_iff ((unhide HS).ends x (List.mem_of_getElem? hx)).1).1.2.1
        omega
    subst hkl
    exact belowK_all (unhide HS))
  clear hs
  go_enter Try.func10, Try.ntmps10
  go_wp2_with fail
  refine (unhide HQ).mono ?_
  rintro e w2 ⟨k, rfl, hc, hb⟩
  rw [unhide HT k hc]
  have HB := hide hb
  clear hb hc
  go_wp2
  go_ret
  exact ⟨rfl, unhide HB⟩
end Go.Proofs.Ytemmflhofhngbaa
/- In of a set. -/
namespace Go.Proofs.Ytemmflhofhngbaa
open Go.RowKit Go.Shelf
set_option linter.unusedVariables false

/-- Is r in the set of these spans? -/
def memB (zs : List (Int × Int)) (r : Int) : Bool := zs.any (fun x => decide (x.1 ≤ r ∧ r ≤ x.2)) && runeB r
theorem mem_cut {zs : List (Int × Int)} (h : Spread zs) {r : Int} {k : Nat} (hc : Cut (fun x => x.2) zs r k) : zs.any (fun x => decide (x.1 ≤ r ∧ r ≤ x.2)) = match zs[k]? with
    | some x => decide (x.1 ≤ r)
    | none => false := by
  obtain ⟨h1, h2, h3⟩ := hc
  cases hk : zs[k]? with
  | none =>
    rw [List.any_eq_false]
    intro x hx
    obtain ⟨i, hi, rfl⟩ := List.mem_iff_getElem.1 hx
    have hkl := List.getElem?_eq_none_iff.1 hk
    have : zs[i].2 < r := h2 i _ (by omega) (List.getElem?_eq_getElem hi)
    simp; omega
  | some y =>
    have hy : r ≤ y.2 := h3 k y (Nat.le_refl _) hk
    by_cases hl : y.1 ≤ r
    · show _ = decide (y.1 ≤ r)
      rw [decide_eq_true hl, List.any_eq_true]
      exact ⟨y, List.mem_of_getElem? hk, decide_eq_true ⟨hl, hy⟩⟩
    · show _ = decide (y.1 ≤ r)
      rw [decide_eq_false hl, List.any_eq_false]
      intro x hx
      obtain ⟨i, hi, rfl⟩ := List.mem_iff_getElem.1 hx
      have hxe := List.getElem?_eq_getElem hi
      by_cases h4 : i < k
      · have : zs[i].2 < r := h2 i _ h4 hxe
        simp; omega
      · by_cases h5 : i = k
        · subst h5
          rw [hxe] at hk
          cases hk
          simp; omega
        · have := h.lt k i y zs[i] (by omega) hk hxe
          have := (h.ends y (List.mem_of_getElem? hk)).2
          simp; omega

set_option maxRecDepth 100000 in
set_option maxHeartbeats 4000000 in
theorem in_any (B : Nat) (zs : List (Int × Int)) (r : Int) (w : World) (hs : SetAt w B zs) :
    Calls Try.prog 21 #[.pointer (some ⟨B, 0, none⟩), .int .i32 r] w fun e w' => e = .returned (.bool (memB zs r)) ∧ Below w.heap.size w w' := by
  obtain ⟨⟨a, ca, b, cb, hb0, hp, ha⟩, hsp, hl⟩ := hs
  have d0 := hb0.cell 0
  have HQ := hide (fun w hr => search_his a ca zs (by omega) r (fun i j x y => hsp.his i j x y) w hr)
  have HP := hide hp
  have HBk := hide hb0
  have HS := hide hsp
  have hwr := width_rune r
  clear hp ha hsp hb0
  go_enter Try.func21, Try.ntmps21
  go_wp2_with fail
  refine (unhide HQ _ (unhide HP)).mono ?_
  rintro e w2 ⟨k, bb, rfl, hcut, hb⟩
  have HB := hide hb
  have hmc := mem_cut (unhide HS) hcut
  have e0 := ((unhide HBk).below hb (unhide HBk).lt).cell 0
  have HP2 := hide ((unhide HP).below hb)
  have hk := hcut.1
  have HV : Hz (memB zs r = (match zs[k]? with | some x => decide (x.1 ≤ r) | none => false && runeB r)) ∨ True := .inr trivial
  clear hb hcut HV
  by_cases hkn : k < zs.length
  · obtain ⟨x, hx⟩ : ∃ x, zs[k]? = some x := ⟨_, List.getElem?_eq_getElem hkn⟩
    obtain ⟨g, o, rfl, hg, hc⟩ := unhide HP2 (by omega)
    have c0 := (hc k x hx).1
    have c1 := (hc k x hx).2
    rw [hx] at hmc
    have hk1 : (k : Int) < (zs.length : Int) := by omega
    have hk2 : ((k : Nat) : Int).toNat = k := by omega
    obtain ⟨lo, hi⟩ := x
    simp only at c0 c1 hmc
    clear hc hx
    by_cases hlr : lo ≤ r
    · have HV : Hz (memB zs r = runeB r) := hide (by unfold memB; rw [hmc, decide_eq_true hlr]; rfl)
      cases hru : runeB r with
      | true =>
        rw [hru] at HV hwr
        have hw0 : (widthOf r == 0) = false := hwr
        have hw1 : (widthOf r != 0) = true := by unfold bne; rw [hw0]; rfl
        clear hmc hwr hru
        go_wp2_with (go_at_call 40; refine (width_any _ _).mono ?_; rintro e w' ⟨rfl, rfl⟩)
        go_ret
        exact ⟨by rw [unhide HV]; rfl, unhide HB⟩
      | false =>
        rw [hru] at HV hwr
        have hw0 : (widthOf r == 0) = true := hwr
        have hw1 : (widthOf r != 0) = false := by unfold bne; rw [hw0]; rfl
        clear hmc hwr hru
        go_wp2_with (go_at_call 40; refine (width_any _ _).mono ?_; rintro e w' ⟨rfl, rfl⟩)
        go_ret
        exact ⟨by rw [unhide HV]; rfl, unhide HB⟩
    · have HV : Hz (memB zs r = false) := hide (by unfold memB; rw [hmc, decide_eq_false hlr]; rfl)
      clear hmc hwr
      go_wp2_with (go_at_call 40; refine (width_any _ _).mono ?_; rintro e w' ⟨rfl, rfl⟩)
      go_ret
      exact ⟨by rw [unhide HV]; rfl, unhide HB⟩
  · have hk1 : ¬ (k : Int) < (zs.length : Int) := by omega
    rw [List.getElem?_eq_none (by omega)] at hmc
    have HV : Hz (memB zs r = false) := hide (by unfold memB; rw [hmc]; rfl)
    clear hmc hwr
    go_wp2
    go_ret
    exact ⟨by rw [unhide HV]; rfl, unhide HB⟩
end Go.Proofs.Ytemmflhofhngbaa
/- Spans laid one behind the other are the fewest; the fewest are one list. -/
namespace Go.Proofs.Ytemmflhofhngbaa
open Go.RowKit Go.Shelf
set_option linter.unusedVariables false
/-- What lay makes of a set's spans and one more. -/
def layL (zs : List (Int × Int)) (x : Int × Int) : List (Int × Int) :=
  match zs.getLast? with
  | some y => if rankOf x.1 ≤ rankOf y.2 + 1 then zs.dropLast ++ [(y.1, max y.2 x.2)] else zs ++ [x]
  | none => [x]
theorem layL_nil (x : Int × Int) : layL [] x = [x] := rfl
theorem layL_touch (ys : List (Int × Int)) (y x : Int × Int) (h : rankOf x.1 ≤ rankOf y.2 + 1) : layL (ys ++ [y]) x = ys ++ [(y.1, max y.2 x.2)] := by
  unfold layL
  rw [List.getLast?_concat, List.dropLast_concat]
  simp only [if_pos h]
theorem layL_apart (ys : List (Int × Int)) (y x : Int × Int) (h : ¬ rankOf x.1 ≤ rankOf y.2 + 1) : layL (ys ++ [y]) x = ys ++ [y] ++ [x] := by
  unfold layL
  rw [List.getLast?_concat]
  simp only [if_neg h]
theorem get_snoc {ys : List (Int × Int)} {y x : Int × Int} {i : Nat} (h : (ys ++ [y])[i]? = some x) : (i < ys.length ∧ ys[i]? = some x) ∨ (i = ys.length ∧ x = y) := by
  rcases Nat.lt_trichotomy i ys.length with a | a | a
  · rw [List.getElem?_append_left a] at h; exact .inl ⟨a, h⟩
  · subst a; simp at h; exact .inr ⟨rfl, h.symm⟩
  · rw [List.getElem?_append_right (by omega)] at h
    have := (List.getElem?_eq_some_iff.1 h).1
    simp at this; omega
theorem Spread.init {ys : List (Int × Int)} {y : Int × Int} (h : Spread (ys ++ [y])) : Spread ys where
  ends x hx := h.ends x (by simp [hx])
  apart i j x z hij hx hz := by
    have hi := (List.getElem?_eq_some_iff.1 hx).1
    have hj := (List.getElem?_eq_some_iff.1 hz).1
    exact h.apart i j x z hij (by rw [List.getElem?_append_left hi]; exact hx) (by rw [List.getElem?_append_left hj]; exact hz)
theorem Spread.last {ys : List (Int × Int)} {y : Int × Int} (h : Spread (ys ++ [y])) (x : Int × Int) (hx : x ∈ ys) : rankOf x.2 + 1 < rankOf y.1 := by
  obtain ⟨i, hi, rfl⟩ := List.mem_iff_getElem.1 hx
  exact h.apart i ys.length _ _ hi (by rw [List.getElem?_append_left hi, List.getElem?_eq_getElem hi]) (by simp)
theorem Spread.snoc {ys : List (Int × Int)} {y : Int × Int} (h : Spread ys) (he : endsB y = true) (hy : y.1 ≤ y.2) (ha : ∀ x ∈ ys, rankOf x.2 + 1 < rankOf y.1) : Spread (ys ++ [y]) where
  ends x hx := by
    rcases List.mem_append.1 hx with a | a
    · exact h.ends x a
    · simp at a; subst a; exact ⟨he, hy⟩
  apart i j x z hij hx hz := by
    rcases get_snoc hz with ⟨a, b⟩ | ⟨a, b⟩
    · rcases get_snoc hx with ⟨c, d⟩ | ⟨c, d⟩
      · exact h.apart i j x z hij d b
      · omega
    · rcases get_snoc hx with ⟨c, d⟩ | ⟨c, d⟩
      · subst b; exact ha x (List.mem_of_getElem? d)
      · omega
theorem rank_le {a b : Int} (ha : a < 55296 ∨ 57343 < a) (hb : b < 55296 ∨ 57343 < b) : rankOf a ≤ rankOf b ↔ a ≤ b := by
  have := rank_lt hb ha
  omega
theorem endsB_mk {x : Int × Int} (h1 : runeB x.1 = true) (h2 : runeB x.2 = true) : endsB x = true := by unfold endsB; rw [h1, h2]; rfl
theorem endsB_parts {x : Int × Int} (h : endsB x = true) : runeB x.1 = true ∧ runeB x.2 = true := by unfold endsB at h; rwa [Bool.and_eq_true] at h
theorem layL_spread {zs : List (Int × Int)} {x : Int × Int} (h : Spread zs) (he : endsB x = true) (hx : x.1 ≤ x.2) (hl : ∀ y ∈ zs, y.1 ≤ x.1) : Spread (layL zs x) := by
  rcases List.eq_nil_or_concat zs with rfl | ⟨ys, y, rfl⟩
  · rw [layL_nil]
    exact Spread.snoc (ys := []) ⟨fun x h => by simp at h, fun i j x y _ h => by simp at h⟩ he hx (fun x h => by simp at h)
  · rw [List.concat_eq_append] at *
    have hy := h.ends y (by simp)
    by_cases t : rankOf x.1 ≤ rankOf y.2 + 1
    · rw [layL_touch _ _ _ t]
      refine Spread.snoc h.init ?_ (by show y.1 ≤ max y.2 x.2; have := hy.2; omega) (fun z hz => h.last z hz)
      refine endsB_mk (endsB_parts hy.1).1 ?_
      show runeB (max y.2 x.2) = true
      rcases Int.le_total y.2 x.2 with a | a
      · rw [Int.max_eq_right a]; exact (endsB_parts he).2
      · rw [Int.max_eq_left a]; exact (endsB_parts hy.1).2
    · rw [layL_apart _ _ _ t]
      refine Spread.snoc h he hx (fun z hz => ?_)
      rcases List.mem_append.1 hz with a | a
      · have h1 := h.last z a
        have h2 := endsB_iff hy.1
        have h3 := (rank_le h2.1.2.2 h2.2.2.2).2 hy.2
        omega
      · simp at a; subst a; omega
theorem memB_append (xs ys : List (Int × Int)) (r : Int) : memB (xs ++ ys) r = (memB xs r || memB ys r) := by
  unfold memB
  rw [List.any_append, Bool.and_or_distrib_right]
theorem memB_iff (zs : List (Int × Int)) (r : Int) : memB zs r = true ↔ (∃ x ∈ zs, x.1 ≤ r ∧ r ≤ x.2) ∧ runeB r = true := by
  unfold memB
  simp
theorem layL_mem {zs : List (Int × Int)} {x : Int × Int} (h : Spread zs) (he : endsB x = true) (hx : x.1 ≤ x.2) (hl : ∀ y ∈ zs, y.1 ≤ x.1) (r : Int) : memB (layL zs x) r = (memB zs r || memB [x] r) := by
  rcases List.eq_nil_or_concat zs with rfl | ⟨ys, y, rfl⟩
  · rw [layL_nil]; simp [memB]
  · rw [List.concat_eq_append] at *
    have hy := h.ends y (by simp)
    by_cases t : rankOf x.1 ≤ rankOf y.2 + 1
    · rw [layL_touch _ _ _ t, memB_append, memB_append, Bool.or_assoc]
      congr 1
      have h1 := endsB_iff hy.1
      have h2 := endsB_iff he
      have h3 := hl y (by simp)
      rw [Bool.eq_iff_iff, Bool.or_eq_true, memB_iff, memB_iff, memB_iff]
      simp only [List.mem_singleton, exists_eq_left]
      constructor
      · rintro ⟨⟨a, b⟩, c⟩
        have d := runeB_iff c
        by_cases e : r ≤ y.2
        · exact .inl ⟨⟨a, e⟩, c⟩
        · have f := (rank_lt h1.2.2.2 d.2.2).2 (by omega)
          have g := (rank_le h2.1.2.2 d.2.2).1 (by omega)
          exact .inr ⟨⟨g, by omega⟩, c⟩
      · rintro (⟨⟨a, b⟩, c⟩ | ⟨⟨a, b⟩, c⟩)
        · exact ⟨⟨a, by omega⟩, c⟩
        · exact ⟨⟨by omega, by omega⟩, c⟩
    · rw [layL_apart _ _ _ t, memB_append]
theorem layL_length (zs : List (Int × Int)) (x : Int × Int) : (layL zs x).length ≤ zs.length + 1 := by
  rcases List.eq_nil_or_concat zs with rfl | ⟨ys, y, rfl⟩
  · rw [layL_nil]; simp
  · rw [List.concat_eq_append]
    by_cases t : rankOf x.1 ≤ rankOf y.2 + 1
    · rw [layL_touch _ _ _ t]; simp
    · rw [layL_apart _ _ _ t]; simp
theorem layL_fst (zs : List (Int × Int)) (x z : Int × Int) (h : z ∈ layL zs x) : (∃ y ∈ zs, z.1 = y.1) ∨ z.1 = x.1 := by
  rcases List.eq_nil_or_concat zs with rfl | ⟨ys, y, rfl⟩
  · rw [layL_nil] at h; simp at h; subst h; exact .inr rfl
  · rw [List.concat_eq_append] at *
    by_cases t : rankOf x.1 ≤ rankOf y.2 + 1
    · rw [layL_touch _ _ _ t] at h
      rcases List.mem_append.1 h with a | a
      · exact .inl ⟨z, by simp [a], rfl⟩
      · simp at a; subst a; exact .inl ⟨y, by simp, rfl⟩
    · rw [layL_apart _ _ _ t] at h
      rcases List.mem_append.1 h with a | a
      · exact .inl ⟨z, a, rfl⟩
      · simp at a; subst a; exact .inr rfl
/-- Spans laid one behind the other. -/
def layAll (l : List (Int × Int)) : List (Int × Int) := l.foldl layL []
theorem layAll_snoc (l : List (Int × Int)) (x : Int × Int) : layAll (l ++ [x]) = layL (layAll l) x := by simp [layAll]
/-- Right spans. -/
def RightL (l : List (Int × Int)) : Prop := ∀ x ∈ l, endsB x = true ∧ x.1 ≤ x.2
/-- They begin rising. -/
def RisingL (l : List (Int × Int)) : Prop := ∀ (i j : Nat) (x y : Int × Int), i < j → l[i]? = some x → l[j]? = some y → x.1 ≤ y.1
theorem RisingL.init {ys : List (Int × Int)} {y : Int × Int} (h : RisingL (ys ++ [y])) : RisingL ys := fun i j x z hij hx hz => by
  have hi := (List.getElem?_eq_some_iff.1 hx).1
  have hj := (List.getElem?_eq_some_iff.1 hz).1
  exact h i j x z hij (by rw [List.getElem?_append_left hi]; exact hx) (by rw [List.getElem?_append_left hj]; exact hz)
theorem layAll_all (n : Nat) : ∀ (l : List (Int × Int)), l.length = n → RightL l → RisingL l → Spread (layAll l) ∧ (∀ r, memB (layAll l) r = memB l r) ∧ (layAll l).length ≤ l.length ∧ (∀ z ∈ layAll l, ∃ y ∈ l, z.1 = y.1) := by
  induction n with
  | zero =>
    intro l hl _ _
    have := List.eq_nil_of_length_eq_zero hl
    subst this
    exact ⟨⟨fun x h => by simp [layAll] at h, fun i j x y _ h => by simp [layAll] at h⟩, fun r => rfl, by simp [layAll], fun z h => by simp [layAll] at h⟩
  | succ n ih =>
    intro l hl hR hO
    rcases List.eq_nil_or_concat l with rfl | ⟨ys, y, rfl⟩
    · simp at hl
    · rw [List.concat_eq_append] at *
      simp at hl
      obtain ⟨h1, h2, h3, h4⟩ := ih ys hl (fun x hx => hR x (by simp [hx])) hO.init
      have hy := hR y (by simp)
      have hle : ∀ z ∈ layAll ys, z.1 ≤ y.1 := fun z hz => by
        obtain ⟨u, hu, e⟩ := h4 z hz
        obtain ⟨i, hi, rfl⟩ := List.mem_iff_getElem.1 hu
        rw [e]
        exact hO i ys.length _ _ hi (by rw [List.getElem?_append_left hi, List.getElem?_eq_getElem hi]) (by simp)
      rw [layAll_snoc]
      refine ⟨layL_spread h1 hy.1 hy.2 hle, fun r => ?_, ?_, fun z hz => ?_⟩
      · rw [layL_mem h1 hy.1 hy.2 hle, h2, memB_append]
      · have := layL_length (layAll ys) y
        simp; omega
      · rcases layL_fst _ _ _ hz with ⟨u, hu, e⟩ | e
        · obtain ⟨v, hv, e'⟩ := h4 u hu
          exact ⟨v, by simp [hv], e.trans e'⟩
        · exact ⟨y, by simp, e⟩
/-- The rune behind one. -/
def upOf (r : Int) : Int := if r = 55295 then 57344 else r + 1
theorem up_rank {r : Int} (h : runeB r = true) : rankOf (upOf r) = rankOf r + 1 := by
  have := runeB_iff h
  unfold upOf rankOf
  split <;> split <;> (try split) <;> (try split) <;> omega
theorem up_rune {r s : Int} (h : runeB r = true) (hs : runeB s = true) (hrs : r < s) : runeB (upOf r) = true ∧ upOf r ≤ s ∧ r < upOf r := by
  have h1 := runeB_iff h
  have h2 := runeB_iff hs
  unfold upOf runeB
  split
  · exact ⟨by decide, by omega, by omega⟩
  · refine ⟨decide_eq_true ?_, by omega, by omega⟩
    omega
theorem Spread.tail {x : Int × Int} {zs : List (Int × Int)} (h : Spread (x :: zs)) : Spread zs :=
  ⟨fun y hy => h.ends y (List.mem_cons_of_mem _ hy), fun i j y z hij hy hz => h.apart (i + 1) (j + 1) y z (by omega) (by simpa using hy) (by simpa using hz)⟩
theorem Spread.head {x y : Int × Int} {zs : List (Int × Int)} (h : Spread (x :: zs)) (hy : y ∈ zs) : rankOf x.2 + 1 < rankOf y.1 := by
  obtain ⟨i, hi, rfl⟩ := List.mem_iff_getElem.1 hy
  exact h.apart 0 (i + 1) _ _ (by omega) (by simp) (by simp [hi])
theorem Spread.head_lt {x y : Int × Int} {zs : List (Int × Int)} (h : Spread (x :: zs)) (hy : y ∈ zs) : x.2 < y.1 := by
  have a := endsB_iff (h.ends x (by simp)).1
  have b := endsB_iff (h.ends y (by simp [hy])).1
  have := h.head hy
  exact (rank_lt a.2.2.2 b.1.2.2).1 (by omega)
theorem head_min {x : Int × Int} {zs : List (Int × Int)} (h : Spread (x :: zs)) (r : Int) (hm : memB (x :: zs) r = true) : x.1 ≤ r := by
  obtain ⟨⟨y, hy, a, b⟩, c⟩ := (memB_iff _ _).1 hm
  rcases List.mem_cons.1 hy with e | e
  · subst e; exact a
  · have := h.head_lt e
    have := (h.ends x (by simp)).2
    omega
theorem head_mem {x : Int × Int} {zs : List (Int × Int)} (h : Spread (x :: zs)) : memB (x :: zs) x.1 = true ∧ memB (x :: zs) x.2 = true := by
  have a := h.ends x (by simp)
  have b := endsB_parts a.1
  exact ⟨(memB_iff _ _).2 ⟨⟨x, by simp, by omega, a.2⟩, b.1⟩, (memB_iff _ _).2 ⟨⟨x, by simp, a.2, by omega⟩, b.2⟩⟩
theorem head_hi {x y : Int × Int} {zs ys : List (Int × Int)} (h : Spread (x :: zs)) (g : Spread (y :: ys)) (hm : ∀ r, memB (x :: zs) r = memB (y :: ys) r) (he : x.1 = y.1) : y.2 ≤ x.2 := by
  by_cases lt : x.2 < y.2
  · have a := h.ends x (by simp)
    have b := g.ends y (by simp)
    have c := up_rune (endsB_parts a.1).2 (endsB_parts b.1).2 lt
    have d : memB (y :: ys) (upOf x.2) = true := (memB_iff _ _).2 ⟨⟨y, by simp, by omega, c.2.1⟩, c.1⟩
    rw [← hm] at d
    obtain ⟨⟨z, hz, e, f⟩, _⟩ := (memB_iff _ _).1 d
    rcases List.mem_cons.1 hz with i | i
    · subst i; omega
    · have j := h.head i
      have k := up_rank (endsB_parts a.1).2
      have l := (rank_le (endsB_iff (h.ends z hz).1).1.2.2 (runeB_iff c.1).2.2).2 e
      omega
  · omega
/-- The fewest spans of a set of runes are one list. -/
theorem spread_unique : ∀ (zs ys : List (Int × Int)), Spread zs → Spread ys → (∀ r, memB zs r = memB ys r) → zs = ys
  | [], [], _, _, _ => rfl
  | [], y :: ys, _, g, hm => by have := (head_mem g).1; rw [← hm] at this; simp [memB] at this
  | x :: zs, [], h, _, hm => by have := (head_mem h).1; rw [hm] at this; simp [memB] at this
  | x :: zs, y :: ys, h, g, hm => by
    have e1 : x.1 = y.1 := by
      have a := head_min h y.1 (by rw [hm]; exact (head_mem g).1)
      have b := head_min g x.1 (by rw [← hm]; exact (head_mem h).1)
      omega
    have e2 : x.2 = y.2 := by
      have a := head_hi h g hm e1
      have b := head_hi g h (fun r => (hm r).symm) e1.symm
      omega
    have exy : x = y := Prod.ext e1 e2
    subst exy
    have := spread_unique zs ys h.tail g.tail (fun r => by
      have hr := hm r
      rw [Bool.eq_iff_iff] at hr ⊢
      have key : ∀ (a b : List (Int × Int)), Spread (x :: a) → (memB (x :: a) r = true → memB (x :: b) r = true) → memB a r = true → memB b r = true := by
        intro a b ha hab hr
        obtain ⟨⟨z, hz, p, q⟩, c⟩ := (memB_iff _ _).1 hr
        obtain ⟨⟨u, hu, p', q'⟩, _⟩ := (memB_iff _ _).1 (hab ((memB_iff _ _).2 ⟨⟨z, by simp [hz], p, q⟩, c⟩))
        rcases List.mem_cons.1 hu with i | i
        · subst i
          have := ha.head_lt hz
          omega
        · exact (memB_iff _ _).2 ⟨⟨u, i, p', q'⟩, c⟩
      exact ⟨key zs ys h hr.1, key ys zs g hr.2⟩)
    rw [this]
theorem memB_perm {xs ys : List (Int × Int)} (h : xs.Perm ys) (r : Int) : memB xs r = memB ys r := by
  rw [Bool.eq_iff_iff, memB_iff, memB_iff]
  constructor
  · rintro ⟨⟨x, a, b⟩, c⟩; exact ⟨⟨x, h.mem_iff.1 a, b⟩, c⟩
  · rintro ⟨⟨x, a, b⟩, c⟩; exact ⟨⟨x, h.mem_iff.2 a, b⟩, c⟩
end Go.Proofs.Ytemmflhofhngbaa
