/- set: the set of those spans of a list that are right. -/
import Derived.Test.YtodikfaddfojgaaSetAlive
import Derived.Test.YtodikfaddfojgaaRefSet
namespace Go.Proofs.Ytodikfaddfojgaa
open Go.RowKit Go.Shelf
set_option linter.unusedVariables false
theorem one_row (w : World) (x : Int × Int) : RowP (w.alloc (.cells #[.int .i32 x.1, .int .i32 x.2] 33)) (some ⟨w.heap.size, 0, none⟩) [x] := fun _ => by
  have b := Blk.new w #[.int .i32 x.1, .int .i32 x.2] 33
  exact ⟨w.heap.size, 0, rfl, b.lt, fun j y hj => by
    match j, hj with
    | 0, hj => simp at hj; subst hj; exact ⟨b.cell 0, b.cell 1⟩
    | j + 1, hj => simp at hj⟩
/-- Is a span right? -/
def okB (x : Int × Int) : Bool := endsB x && decide (x.1 ≤ x.2)
set_option maxRecDepth 100000 in
set_option maxHeartbeats 4000000 in
theorem set_any (a : Option Addr) (cap : Nat) (zs : List (Int × Int)) (hz : zs.length ≤ 60) (w : World) (hr : RowP w a zs) :
    Calls Try.prog 19 #[.slice a zs.length cap] w fun e w' => ∃ (B lo0 : Nat) (ys : List (Int × Int)), e = .returned (.pointer (some ⟨B, 0, none⟩)) ∧ w.heap.size ≤ lo0 ∧ Made w' B lo0 ys ∧ Spread ys ∧ ys.length ≤ 60 ∧ Below w.heap.size w w' := by
  have HR := hide hr
  have hzi : (zs.length : Int) ≤ 60 := by omega
  obtain ⟨iP, hi0, hi1, hi2, hi3⟩ := info_parts infoP
  have HP := hide (And.intro hi0 (And.intro hi1 (And.intro hi2 hi3)))
  clear hr hi0 hi1 hi2 hi3
  go_enter Try.func19, Try.ntmps19
  go_wp2
  go_loopw [3, 4] (fun v i wr => ∃ (k : Nat) (ys : List (Int × Int)), i = .int .i64 k ∧ k ≤ zs.length ∧ Hid (wr.ownsRow w.heap.size 33 2 v ys.length (encP ys)) ∧ Hid (RightL ys) ∧ ys.length ≤ k ∧ Hid (Below w.heap.size w wr)) (fun _ i _ => zs.length - (intOf i).toNat)
  case atStart => exact ⟨0, [], rfl, by omega, hide (World.ownsRow_nil _ _ _ _), hide (fun x h => by simp at h), by simp, hide (Below.refl _ _)⟩
  case round =>
    obtain ⟨k, ys, rfl, hk, HO, HY, hyk, HB⟩ := hrel
    obtain ⟨va, vc, rfl, hvr, _, _⟩ := own_row (unhide HO)
    have HVR := hide hvr
    clear hvr
    by_cases hkn : k < zs.length
    · have hk1 : (k : Int) < (zs.length : Int) := by omega
      have hk2 : ((k : Nat) : Int).toNat = k := by omega
      obtain ⟨x, hx⟩ : ∃ x, zs[k]? = some x := ⟨_, List.getElem?_eq_getElem hkn⟩
      obtain ⟨g, o, rfl, hg, hc⟩ := unhide HR (by omega)
      have c0 := ((unhide HB).cell (p := ⟨g, o + k * 2, none⟩) hg).trans (hc k x hx).1
      have c1 := ((unhide HB).cell (p := ⟨g, o + k * 2 + 1, none⟩) hg).trans (hc k x hx).2
      have HC := hide (hc k x hx)
      have HG := hide hg
      have HB1 := hide ((unhide HB).alloc (unhide HB).size (.cells #[.int .i32 x.1, .int .i32 x.2] 33))
      have HO1 := hide ((unhide HO).alloc (.cells #[.int .i32 x.1, .int .i32 x.2] 33))
      have HRo := hide (one_row wr x)
      rcases errOf_cases [x] with ⟨_, hR⟩ | h
      · have HY2 : Hid (RightL (ys ++ [x])) := hide (fun z hz => by
          rcases List.mem_append.1 hz with a | a
          · exact unhide HY z a
          · exact hR z a)
        have HRR := hide hR
        obtain ⟨lo, hi⟩ := x
        simp only at c0 c1
        clear hR hc hx
        go_wp2_with fail
        refine (of_right _ 1 [(lo, hi)] (by simp) (unhide HRR) _ (unhide HRo)).mono ?_
        rintro e w2 ⟨B, lo0, us, rfl, _, _, _, _, _, hb2⟩
        have HB2 := hide ((unhide HB1).trans (hb2.mono (unhide HB1).size))
        have HO2 := hide (own_below (unhide HO1) hb2)
        have e0 := ((unhide HB2).cell (p := ⟨g, o + k * 2, none⟩) (unhide HG)).trans (unhide HC).1
        have e1 := ((unhide HB2).cell (p := ⟨g, o + k * 2 + 1, none⟩) (unhide HG)).trans (unhide HC).2
        clear hb2 c0 c1
        go_wp2_with (at_builtin; refine wpList_append_own _ rfl _ _ 22 rfl w.heap.size 33 iP (.agg #[.int .i32 0, .int .i32 0]) 2 8 Try.underlying22 (unhide HP).1 (unhide HP).2.1 (unhide HP).2.2.1 (unhide HP).2.2.2 rfl (by decide) _ _ _ rfl ((unhide HO2).alloc _) ⟨w2.heap.size, 0, none⟩ 1 1 (encP [(lo, hi)]) rfl ?qc1 ?qc2 ?qc3 ?qc4 ?qc5 ?qc6 ?_)
        case qc1 => rfl
        case qc2 => exact fun j u hj => two_cell w2 (lo, hi) j u hj
        case qc3 => exact encP_one _
        case qc4 => unfold maxLen; omega
        case qc5 => omega
        case qc6 => have := (unhide HB2).size; simp; omega
        intro v' w3 hown hgrow hnil
        rw [← encP_append] at hown
        have HO3 : Hid (w3.ownsRow w.heap.size 33 2 v' (ys ++ [(lo, hi)]).length (encP (ys ++ [(lo, hi)]))) := hide (by rw [List.length_append, List.length_singleton]; exact hown)
        have HB3 := hide (((unhide HB2).alloc (unhide HB2).size _).grown hgrow (by have := (unhide HB2).size; simp; omega) (fun k e => ((unhide HO2).lt k e).1))
        clear hown hgrow hnil
        go_wp2
        go_roundw
        case rel => exact ⟨k + 1, ys ++ [(lo, hi)], by congr 1, by omega, HO3, HY2, by simp; omega, HB3⟩
        case measure => simp [intOf]; omega
      · have hE : errOf [x] ≠ 0 := by rcases h with ⟨h, _⟩ | ⟨h, _⟩ <;> omega
        have hE2 : (errOf [x] == 0) = false := beq_eq_false_iff_ne.2 hE
        have HQ := hide (fun w hr => of_wrong (some ⟨wr.heap.size, 0, none⟩) 1 [x] (by simp) hE w hr)
        obtain ⟨lo, hi⟩ := x
        simp only at c0 c1
        generalize errOf [(lo, hi)] = er at HQ hE2
        clear h hE hc hx
        go_wp2_with fail
        refine (unhide HQ _ (unhide HRo)).mono ?_
        rintro e w2 ⟨rfl, hb2⟩
        have HB2 := hide ((unhide HB1).trans (hb2.mono (unhide HB1).size))
        have HO2 := hide (own_below (unhide HO1) hb2)
        clear hb2
        go_wp2
        go_roundw
        case rel => exact ⟨k + 1, ys, by congr 1, by omega, HO2, HY, by omega, HB2⟩
        case measure => simp [intOf]; omega
    · have hk1 : ¬ (k : Int) < (zs.length : Int) := by omega
      go_wp2_with fail
      refine (of_right va vc ys (by omega) (unhide HY) wr (unhide HVR)).mono ?_
      rintro e w2 ⟨B, lo0, us, rfl, hlo, hmade, hsp, hul, _, hb2⟩
      have HM := hide hmade
      have HSP := hide hsp
      have HLO : Hid (w.heap.size ≤ lo0) := hide (Nat.le_trans (unhide HB).size hlo)
      have HUL : Hid (us.length ≤ 60) := hide (by omega)
      have HB2 := hide ((unhide HB).trans (hb2.mono (unhide HB).size))
      clear hmade hsp hul hlo hb2
      go_wp2
      go_ret
      exact ⟨B, lo0, us, rfl, unhide HLO, unhide HM, unhide HSP, unhide HUL, unhide HB2⟩
end Go.Proofs.Ytodikfaddfojgaa
