/- SetsRanks: of any set and any number of its runes: at its place is it, the next one behind it is at the next place. -/
import Derived.Test.YtdllbpagbiibnacLSet
import Derived.Test.YtdllbpagbiibnacLMade
import Derived.Test.YtdllbpagbiibnacSetAtN
import Derived.Test.YtdllbpagbiibnacArgP
namespace Go.Proofs.Ytdllbpagbiibnac
open Go.RowKit Go.Shelf
set_option linter.unusedVariables false
set_option maxRecDepth 100000 in
set_option maxHeartbeats 8000000 in
theorem law_ranks (a : Option Addr) (cap : Nat) (zs : List (Int × Int)) (hf : ∀ x ∈ zs, fitB x) (hcap : zs.length ≤ cap) (n : Int) (w : World) (hr : RowP w a zs) :
    Calls Try.prog 4 #[.slice a zs.length cap, .int .i64 n] w fun e w' => e = .returned (.bool true) ∧ Below w.heap.size w w' := by
  have HR := hide hr
  clear hr hf
  go_enter Try.func4, Try.ntmps4
  go_wp2_with fail
  refine (few_any a cap zs hcap w).mono ?_
  rintro e w1 ⟨rfl, rfl⟩
  obtain ⟨xs, hxs⟩ : ∃ xs, xs = zs.take 60 := ⟨_, rfl⟩
  have HRx : Hid (RowP w1 a xs) := hide (by rw [hxs]; exact (unhide HR).take 60)
  have hxl : xs.length ≤ 60 := by rw [hxs, List.length_take]; omega
  rw [← hxs]
  clear hxs HR
  go_wp2_with fail
  refine (set_any a cap xs hxl w1 (unhide HRx)).mono ?_
  rintro e w2 ⟨B, lo0, ys, rfl, hlo, hmade, hsp, hyl, hb2⟩
  have HS2 := hide (hmade.set hsp (by omega))
  have HSP := hide hsp
  have HB2 := hide hb2
  clear hmade hsp hb2 hlo
  go_wp2_with fail
  refine (alive_any w2).mono ?_
  rintro e w3 ⟨rfl, hb3⟩
  have HS3 := hide ((unhide HS2).below hb3)
  have HB3 := hide ((unhide HB2).trans (hb3.mono (unhide HB2).size))
  clear hb3
  by_cases hin : 0 ≤ n ∧ n < total ys
  · obtain ⟨h0, h1⟩ := hin
    have hall := nth_all (unhide HSP) h0 h1
    have HA := hide (fun w hs => at_in B ys n h0 h1 w hs)
    have HNx := hide (fun w hs => next_in B ys (nthOf ys n) hall.1 (by omega) (by omega) w hs)
    have HIn := hide (fun w hs => in_any B ys (nthOf ys n) w hs)
    have HBl := hide (fun w hs => belowOf_any B ys (nthOf ys n) (by omega) (by omega) w hs)
    have HBl1 := hide (fun w hs => belowOf_any B ys (nthOf ys n + 1) (by omega) (by omega) w hs)
    rw [hall.2.1] at HNx HBl
    rw [hall.2.2.1] at HBl1
    rw [hall.1] at HIn
    have hrb := hall.2.2.2
    obtain ⟨t, d, ht⟩ : ∃ t d, atV ys (n + 1) = .tuple #[.int .i32 t, .bool d] := by
      unfold atV
      split <;> exact ⟨_, _, rfl⟩
    have HA1 := hide (fun w hs => at_any B ys (n + 1) w hs)
    rw [ht] at HA1 HNx
    have HZ := hide (fun w hs => size_any B ys w hs)
    have htb := (total_bound (unhide HSP).ends).2
    have htt : total ys ≤ 1236686340096 := by omega
    generalize total ys = tot at *
    generalize nthOf ys n = r at *
    have e1 : (n == n) = true := by simp
    have e2 : (t == t) = true := by simp
    have e3 : (d == d) = true := by simp
    have e4 : (n + 1 == n + 1) = true := by simp
    clear hall ht htb
    go_wp2_with fail
    refine (unhide HA w3 (unhide HS3)).mono ?_
    rintro e w4 ⟨rfl, hb4⟩
    have HS4 := hide ((unhide HS3).below hb4)
    have HB4 := hide ((unhide HB3).trans (hb4.mono (unhide HB3).size))
    clear hb4
    go_wp2_with fail
    refine (unhide HZ w4 (unhide HS4)).mono ?_
    rintro e w5 ⟨rfl, hb5⟩
    have HS5 := hide ((unhide HS4).below hb5)
    have HB5 := hide ((unhide HB4).trans (hb5.mono (unhide HB4).size))
    clear hb5
    go_wp2_with fail
    refine (unhide HNx w5 (unhide HS5)).mono ?_
    rintro e w6 ⟨rfl, hb6⟩
    have HS6 := hide ((unhide HS5).below hb6)
    have HB6 := hide ((unhide HB5).trans (hb6.mono (unhide HB5).size))
    clear hb6
    go_wp2_with fail
    refine (unhide HA1 w6 (unhide HS6)).mono ?_
    rintro e w7 ⟨rfl, hb7⟩
    have HS7 := hide ((unhide HS6).below hb7)
    have HB7 := hide ((unhide HB6).trans (hb7.mono (unhide HB6).size))
    clear hb7
    go_wp2_with fail
    refine (unhide HIn w7 (unhide HS7)).mono ?_
    rintro e w8 ⟨rfl, hb8⟩
    have HS8 := hide ((unhide HS7).below hb8)
    have HB8 := hide ((unhide HB7).trans (hb8.mono (unhide HB7).size))
    clear hb8
    go_wp2_with fail
    refine (unhide HBl w8 (unhide HS8)).mono ?_
    rintro e w9 ⟨rfl, hb9⟩
    have HS9 := hide ((unhide HS8).below hb9)
    have HB9 := hide ((unhide HB8).trans (hb9.mono (unhide HB8).size))
    clear hb9
    go_wp2_with fail
    refine (unhide HBl1 w9 (unhide HS9)).mono ?_
    rintro e w10 ⟨rfl, hb10⟩
    have HB10 := hide ((unhide HB9).trans (hb10.mono (unhide HB9).size))
    clear hb10
    go_wp2
    go_ret
    exact ⟨rfl, unhide HB10⟩
  · have HA := hide (fun w hs => at_out B ys n (by omega) w hs)
    have HZ := hide (fun w hs => size_any B ys w hs)
    by_cases h0 : n < 0
    · clear hin
      go_wp2_with fail
      refine (unhide HA w3 (unhide HS3)).mono ?_
      rintro e w4 ⟨rfl, hb4⟩
      have HB4 := hide ((unhide HB3).trans (hb4.mono (unhide HB3).size))
      clear hb4
      have h2 : ¬ 0 ≤ n := by omega
      go_wp2
      go_ret
      exact ⟨rfl, unhide HB4⟩
    · have h1 : ¬ n < total ys := by omega
      have h2 : 0 ≤ n := by omega
      generalize total ys = tot at *
      clear hin
      go_wp2_with fail
      refine (unhide HA w3 (unhide HS3)).mono ?_
      rintro e w4 ⟨rfl, hb4⟩
      have HS4 := hide ((unhide HS3).below hb4)
      have HB4 := hide ((unhide HB3).trans (hb4.mono (unhide HB3).size))
      clear hb4
      go_wp2_with fail
      refine (unhide HZ w4 (unhide HS4)).mono ?_
      rintro e w5 ⟨rfl, hb5⟩
      have HB5 := hide ((unhide HB4).trans (hb5.mono (unhide HB4).size))
      clear hb5
      go_wp2
      go_ret
      exact ⟨rfl, unhide HB5⟩
end Go.Proofs.Ytdllbpagbiibnac
