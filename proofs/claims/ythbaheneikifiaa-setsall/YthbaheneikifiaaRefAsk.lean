/- The reference's At, Next, Below. -/
import Derived.Test.YthbaheneikifiaaLMade
import Derived.Test.YthbaheneikifiaaSetNext
namespace Go.Proofs.Ythbaheneikifiaa
open Go.RowKit Go.Shelf
set_option linter.unusedVariables false
theorem refAt_end {zs : List (Int × Int)} {n : Int} (h : total zs ≤ n) : refAtOf zs n = -1 := by unfold refAtOf; rw [if_neg (by omega)]
theorem refAt_hit {zs : List (Int × Int)} (hR : RightL zs) {k : Nat} {x : Int × Int} {n : Int} (hx : zs[k]? = some x) (h0 : 0 ≤ n - total (zs.take k)) (h1 : n - total (zs.take k) < spanSize x) : refAtOf zs n = rankedOf (rankOf x.1 + (n - total (zs.take k))) := by
  have ht := nth_at zs k x n hR hx (by omega) (by omega)
  have hle : total (zs.take k) + spanSize x ≤ total zs := by
    rw [← total_snoc, ← take_more hx]
    conv => rhs; rw [← List.take_append_drop (k + 1) zs]
    have : ∀ (a b : List (Int × Int)), total (a ++ b) = total a + total b := by
      intro a b
      induction a with
      | nil => simp [total]
      | cons y a ih => simp only [List.cons_append, total, ih]; omega
    rw [this]
    have := (total_bound (zs := zs.drop (k + 1)) (fun y hy => hR y (List.mem_of_mem_drop hy))).1
    omega
  have := total_take_nonneg hR k
  unfold refAtOf
  rw [if_pos (by omega), ht]
set_option maxRecDepth 100000 in
set_option maxHeartbeats 4000000 in
theorem refAt_any (a : Option Addr) (cap : Nat) (zs : List (Int × Int)) (hz : zs.length ≤ 1112064) (hR : RightL zs) (n : Int) (hnb : n ≤ 9223372036854775807) (w : World) (hr : RowP w a zs) :
    Calls Try.prog 48 #[.slice a zs.length cap, .int .i64 n] w fun e w' => e = .returned (.int .i32 (refAtOf zs n)) ∧ Below w.heap.size w w' := by
  by_cases hn : n < 0
  · rw [show refAtOf zs n = -1 by unfold refAtOf; rw [if_neg (by omega)]]
    clear hr
    go_enter Try.func48, Try.ntmps48
    go_wp2
    go_ret
    exact ⟨rfl, Below.refl _ _⟩
  · have HR := hide hr
    have HRR := hide hR
    have hzi : (zs.length : Int) ≤ 1112064 := by omega
    clear hr hR
    go_enter Try.func48, Try.ntmps48
    go_wp2
    go_loopw [1, 5] (fun nv iv wr => ∃ (k : Nat) (m : Int), iv = .int .i64 k ∧ nv = .int .i64 m ∧ k ≤ zs.length ∧ (0 ≤ m ∧ m ≤ 9223372036854775807) ∧ Hid (m = n - total (zs.take k)) ∧ Hid (Below w.heap.size w wr)) (fun _ iv _ => zs.length - (intOf iv).toNat)
    case atStart => exact ⟨0, n, rfl, rfl, by omega, by omega, hide (by simp [total]), hide (Below.refl _ _)⟩
    case round =>
      obtain ⟨k, m, rfl, rfl, hk, hm, HM, HB⟩ := hrel
      by_cases hkn : k < zs.length
      · have hk1 : (k : Int) < (zs.length : Int) := by omega
        have hk2 : ((k : Nat) : Int).toNat = k := by omega
        obtain ⟨x, hx⟩ : ∃ x, zs[k]? = some x := ⟨_, List.getElem?_eq_getElem hkn⟩
        have hxr := unhide HRR x (List.mem_of_getElem? hx)
        have HX := hide (fun w => refsize_any x hxr.1 hxr.2 w)
        have HHit := hide (fun h => refAt_hit (unhide HRR) (n := n) hx (by have := unhide HM; omega) h)
        rw [← unhide HM] at HHit
        have HT : Hid (m - spanSize x = n - total (zs.take (k + 1))) := hide (by rw [take_more hx, total_snoc, unhide HM]; omega)
        have hsb : 0 ≤ spanSize x ∧ spanSize x ≤ 1112064 := by
          have := total_bound (zs := [x]) (fun y hy => by simp at hy; subst hy; exact hxr)
          simpa [total] using this
        have hss : spanSize x = rankOf x.2 + 1 - rankOf x.1 := rfl
        have he := endsB_iff hxr.1
        obtain ⟨g, o, rfl, hg, hc⟩ := unhide HR (by omega)
        have HC := hide (hc k x hx)
        have c0 := ((unhide HB).cell (p := ⟨g, o + k * 2, none⟩) hg).trans (hc k x hx).1
        have c1 := ((unhide HB).cell (p := ⟨g, o + k * 2 + 1, none⟩) hg).trans (hc k x hx).2
        obtain ⟨lo, hi⟩ := x
        simp only at c0 c1 he hss
        have r2 := rank_range he.2.1 he.2.2.1
        have r1 := rank_range he.1.1 he.1.2.1
        obtain ⟨sz, hsz⟩ : ∃ sz, spanSize (lo, hi) = sz := ⟨_, rfl⟩
        rw [hsz] at HX HHit HT hsb hss
        have HSS := hide hss
        clear hc hx hxr hsz hss
        by_cases hlt : m < sz
        · have HV := hide (unhide HHit hlt)
          go_wp2_with fail
          refine (unhide HX wr).mono ?_
          rintro e w2 ⟨rfl, hb⟩
          have HB2 := hide ((unhide HB).trans (hb.mono (unhide HB).size))
          have d0 := (hb.cell (p := ⟨g, o + k * 2, none⟩) (show g < wr.heap.size by have := (unhide HB).size; omega)).trans c0
          have d1 := (hb.cell (p := ⟨g, o + k * 2 + 1, none⟩) (show g < wr.heap.size by have := (unhide HB).size; omega)).trans c1
          clear hb c0 c1
          by_cases hlo : lo < 55296
          · have hrl : rankOf lo = lo := by unfold rankOf; rw [if_neg (by omega), if_neg (by omega)]
            by_cases hge : 55296 ≤ lo + m
            · have HW : Hid (refAtOf zs n = lo + m + 2048) := hide (by rw [unhide HV]; show rankedOf (rankOf lo + m) = _; rw [hrl]; unfold rankedOf; rw [if_pos hge])
              have hbound : lo + m + 2048 ≤ 1114111 := by have hss := unhide HSS; unfold rankOf at hss r2; split at hss <;> (try split at hss) <;> omega
              go_wp2
              go_ret
              exact ⟨by rw [unhide HW]; rfl, unhide HB2⟩
            · have HW : Hid (refAtOf zs n = lo + m) := hide (by rw [unhide HV]; show rankedOf (rankOf lo + m) = _; rw [hrl]; unfold rankedOf; rw [if_neg hge])
              go_wp2
              go_ret
              exact ⟨by rw [unhide HW]; rfl, unhide HB2⟩
          · have hrl : rankOf lo = lo - 2048 := by unfold rankOf; rw [if_pos (by omega)]
            have HW : Hid (refAtOf zs n = lo + m) := hide (by rw [unhide HV]; show rankedOf (rankOf lo + m) = _; rw [hrl]; unfold rankedOf; rw [if_pos (by omega)]; omega)
            have hbound : lo + m ≤ 1114111 := by have hss := unhide HSS; omega
            go_wp2
            go_ret
            exact ⟨by rw [unhide HW]; rfl, unhide HB2⟩
        · go_wp2_with fail
          refine (unhide HX wr).mono ?_
          rintro e w2 ⟨rfl, hb⟩
          have HB2 := hide ((unhide HB).trans (hb.mono (unhide HB).size))
          have d0 := (hb.cell (p := ⟨g, o + k * 2, none⟩) (show g < wr.heap.size by have := (unhide HB).size; omega)).trans c0
          have d1 := (hb.cell (p := ⟨g, o + k * 2 + 1, none⟩) (show g < wr.heap.size by have := (unhide HB).size; omega)).trans c1
          clear hb c0 c1
          go_wp2_with fail
          refine (unhide HX w2).mono ?_
          rintro e w3 ⟨rfl, hb⟩
          have HB3 := hide ((unhide HB2).trans (hb.mono (unhide HB2).size))
          clear hb d0 d1
          go_wp2
          go_roundw
          case rel => exact ⟨k + 1, m - sz, by congr 1, rfl, by omega, by omega, HT, HB3⟩
          case measure => simp [intOf]; omega
      · have hk1 : ¬ (k : Int) < (zs.length : Int) := by omega
        have HV : Hid (refAtOf zs n = -1) := hide (refAt_end (by
          have h1 := unhide HM
          rw [List.take_of_length_le (by omega)] at h1
          omega))
        go_wp2
        go_ret
        exact ⟨by rw [unhide HV]; rfl, unhide HB⟩
theorem refNext_step {zs : List (Int × Int)} {k : Nat} {x : Int × Int} (hx : zs[k]? = some x) (r : Int) : refNextOf (zs.drop k) r = if r < x.1 then x.1 else if r < x.2 then (if runeB r then upOf r else 57344) else refNextOf (zs.drop (k + 1)) r := by
  have hk := (List.getElem?_eq_some_iff.1 hx).1
  have e : zs.drop k = x :: zs.drop (k + 1) := by
    rw [List.drop_eq_getElem_cons hk]
    congr 1
    rw [List.getElem?_eq_getElem hk] at hx
    exact Option.some.inj hx
  rw [e]
  rfl
end Go.Proofs.Ythbaheneikifiaa
