/- SetsAsks: any numbers asked of any set. -/
import Derived.Test.YtdllbpagbiibnaaRefAsk
import Derived.Test.YtdllbpagbiibnaaRefBelow
import Derived.Test.YtdllbpagbiibnaaSetAtN
import Derived.Test.YtdllbpagbiibnaaArgP
namespace Go.Proofs.Ytdllbpagbiibnaa
open Go.RowKit Go.Shelf
set_option linter.unusedVariables false
/-- What both sides say of a number: a rune and true, or none and false. -/
theorem at_both (zs : List (Int × Int)) (hS : Spread zs) (n : Int) : (∃ t, 0 ≤ t ∧ atV zs n = .tuple #[.int .i32 t, .bool true] ∧ refAtOf zs n = t) ∨ (atV zs n = .tuple #[.int .i32 0, .bool false] ∧ refAtOf zs n = -1) := by
  unfold atV refAtOf
  by_cases h : 0 ≤ n ∧ n < total zs
  · rw [if_pos h, if_pos h]
    exact .inl ⟨_, (nth_all hS h.1 h.2).2.2.2.1, rfl, rfl⟩
  · rw [if_neg h, if_neg h]
    exact .inr ⟨rfl, rfl⟩
theorem next_any (B : Nat) (zs : List (Int × Int)) (r : Int) (h0 : -2147483648 ≤ r) (h1 : r ≤ 2147483647) (w : World) (hs : SetAt w B zs) :
    Calls Try.prog 33 #[.pointer (some ⟨B, 0, none⟩), .int .i32 r] w fun e w' => e = .returned (atV zs (belowOf zs r + if memB zs r then 1 else 0)) ∧ Below w.heap.size w w' := by
  cases hm : memB zs r with
  | true => simpa using next_in B zs r hm h0 h1 w hs
  | false => simpa using next_out B zs r hm h0 h1 w hs
theorem fit64 {n : Int} (h : (Lit.int .i64 n).wf = true) : -9223372036854775808 ≤ n ∧ n ≤ 9223372036854775807 := by
  simp [Lit.wf, IntKind.min, IntKind.max, IntKind.signed, IntKind.bits] at h
  omega
set_option maxRecDepth 100000 in
set_option maxHeartbeats 8000000 in
theorem law_asks (a : Option Addr) (cap : Nat) (zs : List (Int × Int)) (hf : ∀ x ∈ zs, fitB x) (hcap : zs.length ≤ cap) (n : Int) (hnw : (Lit.int .i64 n).wf = true) (r : Int) (hrw : (Lit.int .i32 r).wf = true) (w : World) (hr : RowP w a zs) :
    Calls Try.prog 8 #[.slice a zs.length cap, .int .i64 n, .int .i32 r] w fun e w' => e = .returned (.bool true) ∧ Below w.heap.size w w' := by
  have hnb := (fit64 hnw).2
  obtain ⟨hr0, hr1⟩ := fit_wf hrw
  have HR := hide hr
  have HF := hide hf
  clear hr hf hnw hrw
  go_enter Try.func8, Try.ntmps8
  go_wp2_with fail
  refine (alive_any _).mono ?_
  rintro e w1 ⟨rfl, hb1⟩
  have HB1 := hide hb1
  clear hb1
  go_wp2_with fail
  refine (few_any a cap zs hcap w1).mono ?_
  rintro e w1' ⟨rfl, rfl⟩
  obtain ⟨xs, hxs⟩ : ∃ xs, xs = zs.take 60 := ⟨_, rfl⟩
  have HRx : Hid (RowP w1' a xs) := hide (by rw [hxs]; exact ((unhide HR).below (unhide HB1)).take 60)
  have HFx : Hid (∀ x ∈ xs, fitB x) := hide (by rw [hxs]; exact fun x hx => unhide HF x (List.mem_of_mem_take hx))
  have hxl : xs.length ≤ 60 := by rw [hxs, List.length_take]; omega
  rw [← hxs]
  clear hxs HR HF
  rcases errOf_cases xs with ⟨_, hR⟩ | h
  · have HRR := hide hR
    clear hR
    go_wp2_with fail
    refine (made_right a cap xs (by omega) (unhide HRR) (unhide HFx) w1' (unhide HRx)).mono ?_
    rintro e w2 ⟨B, lo0, lo1, ys, v, rfl, _, _, hmade, hown, hsp, hyl, _, hb2⟩
    obtain ⟨d, cd, rfl, hrow, _, _⟩ := own_row hown
    have HS2 := hide (hmade.set hsp (by omega))
    have HD2 := hide hrow
    have HB2 := hide ((unhide HB1).trans (hb2.mono (unhide HB1).size))
    have HA := hide (fun w hs => at_any B ys n w hs)
    have HRA := hide (fun w hr => refAt_any d cd ys (by omega) hsp.ends n hnb w hr)
    have HN := hide (fun w hs => next_any B ys r hr0 hr1 w hs)
    have HRN := hide (fun w hr => refNext_any d cd ys (by omega) hsp.ends r hr0 hr1 w hr)
    have HBl := hide (fun w hs => belowOf_any B ys r hr0 hr1 w hs)
    have HRB := hide (fun w hr => refBelow_any d cd ys (by omega) hsp.ends r hr0 hr1 w hr)
    have hA := at_both ys hsp n
    have hN := at_both ys hsp (belowOf ys r + if memB ys r then 1 else 0)
    rw [next_math ys r hsp] at hN
    generalize belowOf ys r + (if memB ys r then 1 else 0) = q at HN hN
    generalize belowOf ys r = bo at HBl HRB
    have e1 : (bo == bo) = true := by simp
    clear hmade hown hsp hrow hb2
    rcases hA with ⟨t, ht0, ha, hra⟩ | ⟨ha, hra⟩ <;> rcases hN with ⟨u, hu0, hn, hrn⟩ | ⟨hn, hrn⟩ <;> rw [ha] at HA <;> rw [hra] at HRA <;> rw [hn] at HN <;> rw [hrn] at HRN <;> clear ha hra hn hrn
    all_goals
      go_wp2_with fail
      refine (unhide HA w2 (unhide HS2)).mono ?_
      rintro e w3 ⟨rfl, hb3⟩
      have HS3 := hide ((unhide HS2).below hb3)
      have HD3 := hide ((unhide HD2).below hb3)
      have HB3 := hide ((unhide HB2).trans (hb3.mono (unhide HB2).size))
      clear hb3
      go_wp2_with fail
      refine (unhide HRA w3 (unhide HD3)).mono ?_
      rintro e w4 ⟨rfl, hb4⟩
      have HS4 := hide ((unhide HS3).below hb4)
      have HD4 := hide ((unhide HD3).below hb4)
      have HB4 := hide ((unhide HB3).trans (hb4.mono (unhide HB3).size))
      clear hb4
      go_wp2_with fail
      refine (unhide HN w4 (unhide HS4)).mono ?_
      rintro e w5 ⟨rfl, hb5⟩
      have HS5 := hide ((unhide HS4).below hb5)
      have HD5 := hide ((unhide HD4).below hb5)
      have HB5 := hide ((unhide HB4).trans (hb5.mono (unhide HB4).size))
      clear hb5
      go_wp2_with fail
      refine (unhide HRN w5 (unhide HD5)).mono ?_
      rintro e w6 ⟨rfl, hb6⟩
      have HS6 := hide ((unhide HS5).below hb6)
      have HD6 := hide ((unhide HD5).below hb6)
      have HB6 := hide ((unhide HB5).trans (hb6.mono (unhide HB5).size))
      clear hb6
      try (have et : (t != t) = false := by simp)
      try (have eu : (u != u) = false := by simp)
      go_wp2_with fail
      refine (unhide HBl w6 (unhide HS6)).mono ?_
      rintro e w7 ⟨rfl, hb7⟩
      have HD7 := hide ((unhide HD6).below hb7)
      have HB7 := hide ((unhide HB6).trans (hb7.mono (unhide HB6).size))
      clear hb7
      go_wp2_with fail
      refine (unhide HRB w7 (unhide HD7)).mono ?_
      rintro e w8 ⟨rfl, hb8⟩
      have HB8 := hide ((unhide HB7).trans (hb8.mono (unhide HB7).size))
      clear hb8
      go_wp2
      go_ret
      exact ⟨rfl, unhide HB8⟩
  · have hE : errOf xs ≠ 0 := by rcases h with ⟨h, _⟩ | ⟨h, _⟩ <;> omega
    clear h
    go_wp2_with fail
    refine (made_wrong a cap xs (by omega) hE (unhide HFx) w1' (unhide HRx)).mono ?_
    rintro e w3 ⟨rfl, hb3⟩
    have HB3 := hide ((unhide HB1).trans (hb3.mono (unhide HB1).size))
    clear hb3
    go_wp2
    go_ret
    exact ⟨rfl, unhide HB3⟩
end Go.Proofs.Ytdllbpagbiibnaa
