/- slices.IndexFunc and ContainsFunc over a list of spans, by the two functions that Of hands them. -/
import Derived.Test.YtnphbjhikapoeaaSetRight
namespace Go.Proofs.Ytnphbjhikapoeaa
open Go.RowKit Go.Shelf
set_option linter.unusedVariables false

/-- The first place at which p holds, or -1. -/
def firstAt (p : Int × Int → Bool) (zs : List (Int × Int)) : Int := match (List.range zs.length).find? (fun j => p (zs.getD j (0, 0))) with
  | some j => (j : Int)
  | none => -1
theorem firstAt_hit (p : Int × Int → Bool) (zs : List (Int × Int)) (k : Nat) (hk : k < zs.length) (h0 : ∀ i, i < k → p (zs.getD i (0, 0)) = false) (h1 : p (zs.getD k (0, 0)) = true) : firstAt p zs = k := by
  have : (List.range zs.length).find? (fun j => p (zs.getD j (0, 0))) = some k := by
    rw [List.find?_range_eq_some]
    exact ⟨h1, List.mem_range.2 hk, fun j hj => by simp only [h0 j hj]; rfl⟩
  unfold firstAt
  rw [this]
theorem firstAt_none (p : Int × Int → Bool) (zs : List (Int × Int)) (h0 : ∀ i, i < zs.length → p (zs.getD i (0, 0)) = false) : firstAt p zs = -1 := by
  have : (List.range zs.length).find? (fun j => p (zs.getD j (0, 0))) = none := by
    rw [List.find?_range_eq_none]
    intro j hj
    simp only [h0 j hj]; rfl
  unfold firstAt
  rw [this]
theorem firstAt_any (p : Int × Int → Bool) (zs : List (Int × Int)) : decide (0 ≤ firstAt p zs) = zs.any p := by
  cases h : zs.any p with
  | true =>
    unfold firstAt
    cases hf : (List.range zs.length).find? (fun j => p (zs.getD j (0, 0))) with
    | some j => simp
    | none =>
      exfalso
      rw [List.find?_range_eq_none] at hf
      obtain ⟨x, hx, hp⟩ := List.any_eq_true.1 h
      obtain ⟨i, hi, rfl⟩ := List.mem_iff_getElem.1 hx
      have := hf i hi
      simp [List.getD, hi, hp] at this
  | false =>
    rw [firstAt_none p zs]
    · decide
    · intro i hi
      have := List.any_eq_false.1 h zs[i] (List.getElem_mem hi)
      simpa [List.getD, hi] using this

set_option maxRecDepth 100000 in
set_option maxHeartbeats 4000000 in
theorem index_noRunes (a : Option Addr) (cap : Nat) (zs : List (Int × Int)) (hz : zs.length ≤ 1073741824) (w : World) (hr : RowP w a zs) :
    Calls Try.prog 78 #[.slice a zs.length cap, .func (.func 51) #[] #[]] w fun e w' => e = .returned (.int .i64 (firstAt (fun x => !endsB x) zs)) ∧ Below w.heap.size w w' := by
  have HR := hide hr
  have hzi : (zs.length : Int) ≤ 1073741824 := by omega
  clear hr
  go_enter Try.func78, Try.ntmps78
  go_wp2
  go_loopw [8] (fun i wr => ∃ k : Nat, i = .int .i64 k ∧ k ≤ zs.length ∧ Hid (∀ i, i < k → (fun x => !endsB x) (zs.getD i (0, 0)) = false) ∧ Hid (Below w.heap.size w wr)) (fun i _ => zs.length - (intOf i).toNat)
  case atStart => exact ⟨0, rfl, by omega, hide (fun i hi => by omega), hide (Below.refl _ _)⟩
  case round =>
    obtain ⟨k, rfl, hk, HZ, HB⟩ := hrel
    by_cases hkn : k < zs.length
    · have hk1 : (k : Int) < (zs.length : Int) := by omega
      have hk2 : ((k : Nat) : Int).toNat = k := by omega
      obtain ⟨x, hx⟩ : ∃ x, zs[k]? = some x := ⟨_, List.getElem?_eq_getElem hkn⟩
      have hgd : zs.getD k (0, 0) = x := by simp [List.getD, hx]
      obtain ⟨g, o, rfl, hg, hc⟩ := unhide HR (by omega)
      have c0 := ((unhide HB).cell (p := ⟨g, o + k * 2, none⟩) hg).trans (hc k x hx).1
      have c1 := ((unhide HB).cell (p := ⟨g, o + k * 2 + 1, none⟩) hg).trans (hc k x hx).2
      have HN := hide (fun w => noRunes_any x w)
      have HH := hide (fun h => firstAt_hit (fun x => !endsB x) zs k hkn (unhide HZ) h)
      rw [hgd] at HH
      have HG := hide hgd
      clear hc hx hgd
      cases hp : (!endsB x) with
      | true =>
        have HH1 := hide (unhide HH hp)
        rw [hp] at HN
        obtain ⟨lo, hi⟩ := x
        simp only at c0 c1
        clear hp
        go_wp2_with fail
        refine (unhide HN _).mono ?_
        rintro e w2 ⟨rfl, hb⟩
        have HB2 := hide ((unhide HB).trans (hb.mono (unhide HB).size))
        clear hb
        go_wp2
        go_ret
        exact ⟨by rw [unhide HH1]; rfl, unhide HB2⟩
      | false =>
        have HZ1 : Hid (∀ i, i < k + 1 → (fun x => !endsB x) (zs.getD i (0, 0)) = false) := hide (fun i hi => by
          by_cases e : i = k
          · subst e; rw [unhide HG]; exact hp
          · exact unhide HZ i (by omega))
        rw [hp] at HN
        obtain ⟨lo, hi⟩ := x
        simp only at c0 c1
        clear hp
        go_wp2_with fail
        refine (unhide HN _).mono ?_
        rintro e w2 ⟨rfl, hb⟩
        have HB2 := hide ((unhide HB).trans (hb.mono (unhide HB).size))
        clear hb
        go_wp2
        refine ⟨⟨k + 1, by simp, by omega, HZ1, HB2⟩, ?_⟩
        simp [intOf]; omega
    · have hk1 : ¬ (k : Int) < (zs.length : Int) := by omega
      obtain rfl : k = zs.length := by omega
      have HV := hide (firstAt_none (fun x => !endsB x) zs (unhide HZ))
      go_wp2
      go_ret
      exact ⟨by rw [unhide HV]; rfl, unhide HB⟩

set_option maxRecDepth 100000 in
theorem contains_noRunes (a : Option Addr) (cap : Nat) (zs : List (Int × Int)) (hz : zs.length ≤ 1073741824) (w : World) (hr : RowP w a zs) :
    Calls Try.prog 50 #[.slice a zs.length cap, .func (.func 51) #[] #[]] w fun e w' => e = .returned (.bool (zs.any (fun x => !endsB x))) ∧ Below w.heap.size w w' := by
  have HI := hide (index_noRunes a cap zs hz w hr)
  have HA := hide (firstAt_any (fun x => !endsB x) zs)
  clear hr
  generalize zs.any (fun x => !endsB x) = r at HA ⊢
  generalize firstAt (fun x => !endsB x) zs = i at HI HA
  go_enter Try.func50, Try.ntmps50
  go_wp2_with fail
  refine (unhide HI).mono ?_
  rintro e w2 ⟨rfl, hb⟩
  have HB := hide hb
  clear hb
  go_wp2
  go_ret
  exact ⟨by rw [← unhide HA]; rfl, unhide HB⟩

set_option maxRecDepth 100000 in
set_option maxHeartbeats 4000000 in
theorem index_falling (a : Option Addr) (cap : Nat) (zs : List (Int × Int)) (hz : zs.length ≤ 1073741824) (w : World) (hr : RowP w a zs) :
    Calls Try.prog 78 #[.slice a zs.length cap, .func (.func 52) #[] #[]] w fun e w' => e = .returned (.int .i64 (firstAt (fun x => decide (x.2 < x.1)) zs)) ∧ Below w.heap.size w w' := by
  have HR := hide hr
  have hzi : (zs.length : Int) ≤ 1073741824 := by omega
  clear hr
  go_enter Try.func78, Try.ntmps78
  go_wp2
  go_loopw [8] (fun i wr => ∃ k : Nat, i = .int .i64 k ∧ k ≤ zs.length ∧ Hid (∀ i, i < k → (fun x => decide (x.2 < x.1)) (zs.getD i (0, 0)) = false) ∧ Hid (Below w.heap.size w wr)) (fun i _ => zs.length - (intOf i).toNat)
  case atStart => exact ⟨0, rfl, by omega, hide (fun i hi => by omega), hide (Below.refl _ _)⟩
  case round =>
    obtain ⟨k, rfl, hk, HZ, HB⟩ := hrel
    by_cases hkn : k < zs.length
    · have hk1 : (k : Int) < (zs.length : Int) := by omega
      have hk2 : ((k : Nat) : Int).toNat = k := by omega
      obtain ⟨x, hx⟩ : ∃ x, zs[k]? = some x := ⟨_, List.getElem?_eq_getElem hkn⟩
      have hgd : zs.getD k (0, 0) = x := by simp [List.getD, hx]
      obtain ⟨g, o, rfl, hg, hc⟩ := unhide HR (by omega)
      have c0 := ((unhide HB).cell (p := ⟨g, o + k * 2, none⟩) hg).trans (hc k x hx).1
      have c1 := ((unhide HB).cell (p := ⟨g, o + k * 2 + 1, none⟩) hg).trans (hc k x hx).2
      have HN := hide (fun w => falling_any x w)
      have HH := hide (fun h => firstAt_hit (fun x => decide (x.2 < x.1)) zs k hkn (unhide HZ) h)
      rw [hgd] at HH
      have HG := hide hgd
      clear hc hx hgd
      cases hp : (decide (x.2 < x.1)) with
      | true =>
        have HH1 := hide (unhide HH hp)
        rw [hp] at HN
        obtain ⟨lo, hi⟩ := x
        simp only at c0 c1
        clear hp
        go_wp2_with fail
        refine (unhide HN _).mono ?_
        rintro e w2 ⟨rfl, hb⟩
        have HB2 := hide ((unhide HB).trans (hb.mono (unhide HB).size))
        clear hb
        go_wp2
        go_ret
        exact ⟨by rw [unhide HH1]; rfl, unhide HB2⟩
      | false =>
        have HZ1 : Hid (∀ i, i < k + 1 → (fun x => decide (x.2 < x.1)) (zs.getD i (0, 0)) = false) := hide (fun i hi => by
          by_cases e : i = k
          · subst e; rw [unhide HG]; exact hp
          · exact unhide HZ i (by omega))
        rw [hp] at HN
        obtain ⟨lo, hi⟩ := x
        simp only at c0 c1
        clear hp
        go_wp2_with fail
        refine (unhide HN _).mono ?_
        rintro e w2 ⟨rfl, hb⟩
        have HB2 := hide ((unhide HB).trans (hb.mono (unhide HB).size))
        clear hb
        go_wp2
        refine ⟨⟨k + 1, by simp, by omega, HZ1, HB2⟩, ?_⟩
        simp [intOf]; omega
    · have hk1 : ¬ (k : Int) < (zs.length : Int) := by omega
      obtain rfl : k = zs.length := by omega
      have HV := hide (firstAt_none (fun x => decide (x.2 < x.1)) zs (unhide HZ))
      go_wp2
      go_ret
      exact ⟨by rw [unhide HV]; rfl, unhide HB⟩

set_option maxRecDepth 100000 in
theorem contains_falling (a : Option Addr) (cap : Nat) (zs : List (Int × Int)) (hz : zs.length ≤ 1073741824) (w : World) (hr : RowP w a zs) :
    Calls Try.prog 50 #[.slice a zs.length cap, .func (.func 52) #[] #[]] w fun e w' => e = .returned (.bool (zs.any (fun x => decide (x.2 < x.1)))) ∧ Below w.heap.size w w' := by
  have HI := hide (index_falling a cap zs hz w hr)
  have HA := hide (firstAt_any (fun x => decide (x.2 < x.1)) zs)
  clear hr
  generalize zs.any (fun x => decide (x.2 < x.1)) = r at HA ⊢
  generalize firstAt (fun x => decide (x.2 < x.1)) zs = i at HI HA
  go_enter Try.func50, Try.ntmps50
  go_wp2_with fail
  refine (unhide HI).mono ?_
  rintro e w2 ⟨rfl, hb⟩
  have HB := hide hb
  clear hb
  go_wp2
  go_ret
  exact ⟨by rw [← unhide HA]; rfl, unhide HB⟩

end Go.Proofs.Ytnphbjhikapoeaa
