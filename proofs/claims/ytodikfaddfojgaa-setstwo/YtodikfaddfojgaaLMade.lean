/- made: a set of spans, and the fewest; few; the reference's Size. -/
import Derived.Test.YtodikfaddfojgaaRefSpans
import Derived.Test.YtodikfaddfojgaaSetAlive
namespace Go.Proofs.Ytodikfaddfojgaa
open Go.RowKit Go.Shelf
set_option linter.unusedVariables false
set_option maxRecDepth 100000 in
set_option maxHeartbeats 4000000 in
theorem made_right (a : Option Addr) (cap : Nat) (l : List (Int × Int)) (hl : l.length ≤ 1000000) (hR : RightL l) (hf : ∀ x ∈ l, fitB x) (w : World) (hr : RowP w a l) :
    Calls Try.prog 7 #[.slice a l.length cap] w fun e w' => ∃ (B lo0 lo1 : Nat) (zs : List (Int × Int)) (v : Value), e = .returned (.tuple #[.pointer (some ⟨B, 0, none⟩), v, .bool true]) ∧ w.heap.size ≤ lo0 ∧ w.heap.size ≤ lo1 ∧ Made w' B lo0 zs ∧ w'.ownsRow lo1 33 2 v zs.length (encP zs) ∧ Spread zs ∧ zs.length ≤ l.length ∧ (∀ r, memB zs r = memB l r) ∧ Below w.heap.size w w' := by
  have HR := hide hr
  have HRR := hide hR
  have HF := hide hf
  have HE : Hid (errOf l = 0) := hide (errOf_0 (fun x hx => (hR x hx).1) (fun x hx => by have := (hR x hx).2; omega))
  clear hr hR hf
  go_enter Try.func7, Try.ntmps7
  go_wp2_with fail
  refine (of_right a cap l hl (unhide HRR) w (unhide HR)).mono ?_
  rintro e w1 ⟨B, lo0, zs, rfl, hlo, hmade, hsp, hzl, hmem, hb1⟩
  have HM1 := hide hmade
  have HSP := hide hsp
  have HMM := hide hmem
  have HZL := hide hzl
  have HLO := hide hlo
  have HB1 := hide hb1
  clear hmade hsp hmem hb1 hzl hlo
  go_wp2_with fail
  refine (refOf_any a cap l (by omega) (unhide HF) w1 ((unhide HR).below (unhide HB1))).mono ?_
  rintro e w2 ⟨rfl, hb2⟩
  rw [unhide HE]
  have HM2 := hide ((unhide HM1).below hb2)
  have HB2 := hide ((unhide HB1).trans (hb2.mono (unhide HB1).size))
  clear hb2
  go_wp2_with fail
  refine (refSpans_any a cap l (by omega) (unhide HRR) w2 ((unhide HR).below (unhide HB2))).mono ?_
  rintro e w3 ⟨v, os, rfl, hown, hos, hom, hb3⟩
  obtain rfl : os = zs := spread_unique _ _ hos (unhide HSP) (fun r => (hom r).trans (unhide HMM r).symm)
  have HO := hide hown
  have HM3 := hide ((unhide HM2).below hb3)
  have HL1 := hide (unhide HB2).size
  have HB3 := hide ((unhide HB2).trans (hb3.mono (unhide HB2).size))
  clear hb3 hown hos hom
  go_wp2
  go_ret3
  exact ⟨B, lo0, w2.heap.size, os, v, rfl, unhide HLO, unhide HL1, unhide HM3, unhide HO, unhide HSP, unhide HZL, unhide HMM, unhide HB3⟩
set_option maxRecDepth 100000 in
set_option maxHeartbeats 4000000 in
theorem made_wrong (a : Option Addr) (cap : Nat) (l : List (Int × Int)) (hl : l.length ≤ 1000000) (hE : errOf l ≠ 0) (hf : ∀ x ∈ l, fitB x) (w : World) (hr : RowP w a l) :
    Calls Try.prog 7 #[.slice a l.length cap] w fun e w' => e = .returned (.tuple #[.pointer none, .slice none 0 0, .bool true]) ∧ Below w.heap.size w w' := by
  have HR := hide hr
  have HF := hide hf
  have HQ := hide (of_wrong a cap l hl hE w hr)
  have HQ2 := hide (fun w hr => refOf_any a cap l (by omega) hf w hr)
  have h1 : (errOf l != errOf l) = false := by simp
  have h2 : (errOf l == 0) = false := beq_eq_false_iff_ne.2 hE
  have h3 : -9223372036854775808 ≤ errOf l ∧ errOf l ≤ 9223372036854775807 := by rcases errOf_cases l with ⟨h, _⟩ | ⟨h, _⟩ | ⟨h, _⟩ <;> omega
  generalize errOf l = er at *
  clear hr hf hE
  go_enter Try.func7, Try.ntmps7
  go_wp2_with fail
  refine (unhide HQ).mono ?_
  rintro e w1 ⟨rfl, hb1⟩
  have HB1 := hide hb1
  clear hb1
  go_wp2_with fail
  refine (unhide HQ2 w1 ((unhide HR).below (unhide HB1))).mono ?_
  rintro e w2 ⟨rfl, hb2⟩
  have HB2 := hide ((unhide HB1).trans (hb2.mono (unhide HB1).size))
  clear hb2
  go_wp2
  go_ret3
  exact ⟨rfl, unhide HB2⟩
theorem RowP.take {W : World} {a : Option Addr} {zs : List (Int × Int)} (h : RowP W a zs) (n : Nat) : RowP W a (zs.take n) := fun h0 => by
  have hl : 0 < zs.length := by rw [List.length_take] at h0; omega
  obtain ⟨g, o, ha, hg, hc⟩ := h hl
  exact ⟨g, o, ha, hg, fun j x hj => by
    have := (List.getElem?_eq_some_iff.1 hj).1
    rw [List.length_take] at this
    rw [List.getElem?_take, if_pos (by omega)] at hj
    exact hc j x hj⟩
theorem few_any (a : Option Addr) (cap : Nat) (zs : List (Int × Int)) (hc : zs.length ≤ cap) (w : World) :
    Calls Try.prog 8 #[.slice a zs.length cap] w fun e w' => e = .returned (.slice a (zs.take 60).length cap) ∧ w' = w := by
  by_cases h : 60 < zs.length
  · have h1 : (60 : Int) < (zs.length : Int) := by omega
    have h2 : (zs.take 60).length = 60 := by rw [List.length_take]; omega
    rw [h2]
    have h3 : (60 : Int) ≤ (cap : Int) := by omega
    have h4 : 60 ≤ cap := by omega
    go_enter Try.func8, Try.ntmps8
    go_wp2
    go_ret
    exact ⟨rfl, rfl⟩
  · have h1 : ¬ (60 : Int) < (zs.length : Int) := by omega
    have h2 : (zs.take 60).length = zs.length := by rw [List.length_take]; omega
    rw [h2]
    go_enter Try.func8, Try.ntmps8
    go_wp2
    go_ret
    exact ⟨rfl, rfl⟩
end Go.Proofs.Ytodikfaddfojgaa
