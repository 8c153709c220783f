/- SetsMember: any number is in what is made of two sets just as it is in them. -/
import Derived.Test.YtodikfaddfojgaaLSet
import Derived.Test.YtodikfaddfojgaaLMade
import Derived.Test.YtodikfaddfojgaaLAlg
import Derived.Test.YtodikfaddfojgaaArgP
namespace Go.Proofs.Ytodikfaddfojgaa
open Go.RowKit Go.Shelf
set_option linter.unusedVariables false
theorem no_undef (b : Bool) : some undef ≠ some (Value.bool b) := fun h => by cases h
set_option maxRecDepth 100000 in
set_option maxHeartbeats 8000000 in
theorem law_member (a : Option Addr) (cap : Nat) (zs : List (Int × Int)) (hf : ∀ x ∈ zs, fitB x) (hcap : zs.length ≤ cap) (b : Option Addr) (capb : Nat) (ts : List (Int × Int)) (hg : ∀ x ∈ ts, fitB x) (hcapb : ts.length ≤ capb) (r : Int) (hrw : (Lit.int .i32 r).wf = true) (w : World) (hr : RowP w a zs) (hs : RowP w b ts) :
    Calls Try.prog 5 #[.slice a zs.length cap, .slice b ts.length capb, .int .i32 r] w fun e w' => e = .returned (.bool true) ∧ Below w.heap.size w w' := by
  have HR := hide hr
  have HT := hide hs
  clear hr hs hf hg hrw
  go_enter Try.func5, Try.ntmps5
  go_wp2_with fail
  refine (few_any a cap zs hcap w).mono ?_
  rintro e w1 ⟨rfl, rfl⟩
  obtain ⟨xs, hxs⟩ : ∃ xs, xs = zs.take 60 := ⟨_, rfl⟩
  have HRx : Hid (RowP w1 a xs) := hide (by rw [hxs]; exact (unhide HR).take 60)
  have hxl : xs.length ≤ 60 := by rw [hxs, List.length_take]; omega
  rw [← hxs]
  clear hxs HR
  go_wp2_with fail
  refine (set_any a cap xs hxl w1 (unhide HRx)).mono ?_
  rintro e w2 ⟨A, lo0, us, rfl, hlo, hmade, hsp, hul, hb2⟩
  have HA2 := hide (hmade.set hsp (by omega))
  have HB2 := hide hb2
  have HT2 := hide ((unhide HT).below hb2)
  clear hmade hsp hb2 hlo HT
  go_wp2_with fail
  refine (few_any b capb ts hcapb w2).mono ?_
  rintro e w2' ⟨rfl, rfl⟩
  obtain ⟨ys, hys⟩ : ∃ ys, ys = ts.take 60 := ⟨_, rfl⟩
  have HTx : Hid (RowP w2' b ys) := hide (by rw [hys]; exact (unhide HT2).take 60)
  have hyl : ys.length ≤ 60 := by rw [hys, List.length_take]; omega
  rw [← hys]
  clear hys HT2
  go_wp2_with fail
  refine (set_any b capb ys hyl w2' (unhide HTx)).mono ?_
  rintro e w3 ⟨B, lo1, vs, rfl, hlo, hmade, hsp, hvl, hb3⟩
  have HC3 := hide (hmade.set hsp (by omega))
  have HA3 := hide ((unhide HA2).below hb3)
  have HB3 := hide ((unhide HB2).trans (hb3.mono (unhide HB2).size))
  clear hmade hsp hb3 hlo HA2 HB2 HTx
  go_wp2_with fail
  refine (alive_any w3).mono ?_
  rintro e w0 ⟨rfl, hb0⟩
  have HC0 := hide ((unhide HC3).below hb0)
  have HA0 := hide ((unhide HA3).below hb0)
  have HB0 := hide ((unhide HB3).trans (hb0.mono (unhide HB3).size))
  clear hb0 HC3 HA3 HB3
  have hal := (Below.refl w0.heap.size w0).alloc (Nat.le_refl _) (.cells #[.bool false, .pointer (some ⟨A, 0, none⟩)] 39)
  have HX4 := hide (Blk.new w0 #[.bool false, .pointer (some ⟨A, 0, none⟩)] 39)
  have HA4 := hide ((unhide HA0).below hal)
  have HC4 := hide ((unhide HC0).below hal)
  have HB4 := hide ((unhide HB0).trans (hal.mono (unhide HB0).size))
  clear hal HC0 HA0 HB0
  go_upto_region 6 with fail
  generalize w0.alloc (.cells #[.bool false, .pointer (some ⟨A, 0, none⟩)] 39) = w4 at *
  generalize w0.heap.size = X at *
  rename_i K1 hK1
  have key : ∀ (a2 : Act) (bi : Bool), bi = runeB r → (∃ U : Nat → Value, a2 = { tmps := #[.slice a zs.length cap, .slice b ts.length capb, .int .i32 r, U 3, U 4, U 5, .bool false, .pointer (some ⟨A, 0, none⟩), .pointer (some ⟨B, 0, none⟩), .pointer (some ⟨X, 0, none⟩), .bool bi, U 11, U 12, U 13, U 14, U 15, U 16, U 17, U 18, U 19, U 20, U 21, U 22, U 23, U 24, U 25, U 26, U 27, U 28, U 29, U 30, U 31, U 32, U 33, U 34, U 35, U 36, U 37, U 38, U 39, U 40, U 41, U 42, U 43, U 44, U 45, U 46, U 47, U 48, U 49, U 50, U 51, U 52, U 53, U 54, U 55, U 56, U 57, U 58, U 59, U 60, U 61, U 62, U 63, U 64, U 65, U 66, U 67, U 68, U 69, U 70, U 71, U 72, U 73, U 74, U 75, U 76, U 77, U 78, U 79, U 80, U 81, U 82, U 83, U 84, U 85, U 86, U 87, U 88, U 89, U 90, U 91, U 92, U 93, U 94, U 95, U 96, U 97, U 98, U 99, U 100, U 101, U 102, U 103, U 104, U 105, U 106, U 107, U 108, U 109, U 110, U 111, U 112, U 113, U 114, U 115, U 116, U 117, U 118, U 119, U 120], defers := [] }) → K1 a2 w4 := by
    rintro a2 bi hbi ⟨U, rfl⟩
    apply hK1
    clear hK1
    have HInA := hide (fun w hs => in_any A us r w hs)
    have HInC := hide (fun w hs => in_any B vs r w hs)
    have hyb : memB us r = true → runeB r = true := fun h => ((memB_iff _ _).1 h).2
    have hzb : memB vs r = true → runeB r = true := fun h => ((memB_iff _ _).1 h).2
    obtain ⟨y, hy⟩ : ∃ y, memB us r = y := ⟨_, rfl⟩
    obtain ⟨z, hz⟩ : ∃ z, memB vs r = z := ⟨_, rfl⟩
    rw [hy] at HInA hyb
    rw [hz] at HInC hzb
    rw [← hbi] at hyb hzb
    have Hb := hide hbi.symm
    have Hy := hide hy
    have Hz := hide hz
    clear hbi hy hz
    cases bi with
    | false =>
      obtain rfl : y = false := by cases y with | false => rfl | true => exact absurd (hyb rfl) (by decide)
      obtain rfl : z = false := by cases z with | false => rfl | true => exact absurd (hzb rfl) (by decide)
      clear hyb hzb
      go_wp2_with fail
      refine (unhide HInA w4 (unhide HA4)).mono ?_
      rintro e w5 ⟨rfl, hb5⟩
      have HA5 := hide ((unhide HA4).below hb5)
      have HC5 := hide ((unhide HC4).below hb5)
      have HX5 := hide ((unhide HX4).below hb5 (unhide HX4).lt)
      have HB5 := hide ((unhide HB4).trans (hb5.mono (unhide HB4).size))
      clear hb5 HA4 HC4 HX4 HB4
      go_wp2_with fail
      refine (unhide HInC w5 (unhide HC5)).mono ?_
      rintro e w6 ⟨rfl, hb6⟩
      have HA6 := hide ((unhide HA5).below hb6)
      have HC6 := hide ((unhide HC5).below hb6)
      have HX6 := hide ((unhide HX5).below hb6 (unhide HX5).lt)
      have HB6 := hide ((unhide HB5).trans (hb6.mono (unhide HB5).size))
      clear hb6 HA5 HC5 HX5 HB5
      go_wp2_with fail
      refine (alg_union (.pointer (some ⟨X, 0, none⟩)) A _ us vs (by omega) (by omega) w6 (unhide HA6) (.inr ⟨B, rfl, unhide HC6⟩)).mono ?_
      rintro e w7 ⟨D7, os7, rfl, hD, _, hm, hb7⟩
      have HD := hide hD
      have HV : Hid (memB os7 r = false) := hide ((hm r).trans (by simp only []; rw [unhide Hy, unhide Hz]; rfl))
      clear hD hm
      have HA7 := hide ((unhide HA6).below hb7)
      have HC7 := hide ((unhide HC6).below hb7)
      have HX7 := hide ((unhide HX6).below hb7 (unhide HX6).lt)
      have HB7 := hide ((unhide HB6).trans (hb7.mono (unhide HB6).size))
      clear hb7 HA6 HC6 HX6 HB6
      have HIn := hide (in_any D7 os7 r w7 (unhide HD))
      rw [unhide HV] at HIn
      clear HD HV
      go_wp2_with fail
      refine (unhide HIn).mono ?_
      rintro e w8 ⟨rfl, hb8⟩
      clear HIn
      have HA8 := hide ((unhide HA7).below hb8)
      have HC8 := hide ((unhide HC7).below hb8)
      have HX8 := hide ((unhide HX7).below hb8 (unhide HX7).lt)
      have HB8 := hide ((unhide HB7).trans (hb8.mono (unhide HB7).size))
      clear hb8 HA7 HC7 HX7 HB7
      go_wp2_with fail
      refine (alg_meet (.pointer (some ⟨X, 0, none⟩)) A _ us vs (by omega) (by omega) w8 (unhide HA8) (.inr ⟨B, rfl, unhide HC8⟩)).mono ?_
      rintro e w9 ⟨D9, os9, rfl, hD, _, hm, hb9⟩
      have HD := hide hD
      have HV : Hid (memB os9 r = false) := hide ((hm r).trans (by simp only []; rw [unhide Hy, unhide Hz]; rfl))
      clear hD hm
      have HA9 := hide ((unhide HA8).below hb9)
      have HC9 := hide ((unhide HC8).below hb9)
      have HX9 := hide ((unhide HX8).below hb9 (unhide HX8).lt)
      have HB9 := hide ((unhide HB8).trans (hb9.mono (unhide HB8).size))
      clear hb9 HA8 HC8 HX8 HB8
      have HIn := hide (in_any D9 os9 r w9 (unhide HD))
      rw [unhide HV] at HIn
      clear HD HV
      go_wp2_with fail
      refine (unhide HIn).mono ?_
      rintro e w10 ⟨rfl, hb10⟩
      clear HIn
      have HA10 := hide ((unhide HA9).below hb10)
      have HC10 := hide ((unhide HC9).below hb10)
      have HX10 := hide ((unhide HX9).below hb10 (unhide HX9).lt)
      have HB10 := hide ((unhide HB9).trans (hb10.mono (unhide HB9).size))
      clear hb10 HA9 HC9 HX9 HB9
      go_wp2_with fail
      refine (alg_minus (.pointer (some ⟨X, 0, none⟩)) A _ us vs (by omega) (by omega) w10 (unhide HA10) (.inr ⟨B, rfl, unhide HC10⟩)).mono ?_
      rintro e w11 ⟨D11, os11, rfl, hD, _, hm, hb11⟩
      have HD := hide hD
      have HV : Hid (memB os11 r = false) := hide ((hm r).trans (by simp only []; rw [unhide Hy, unhide Hz]; rfl))
      clear hD hm
      have HA11 := hide ((unhide HA10).below hb11)
      have HC11 := hide ((unhide HC10).below hb11)
      have HX11 := hide ((unhide HX10).below hb11 (unhide HX10).lt)
      have HB11 := hide ((unhide HB10).trans (hb11.mono (unhide HB10).size))
      clear hb11 HA10 HC10 HX10 HB10
      have HIn := hide (in_any D11 os11 r w11 (unhide HD))
      rw [unhide HV] at HIn
      clear HD HV
      go_wp2_with fail
      refine (unhide HIn).mono ?_
      rintro e w12 ⟨rfl, hb12⟩
      clear HIn
      have HA12 := hide ((unhide HA11).below hb12)
      have HC12 := hide ((unhide HC11).below hb12)
      have HX12 := hide ((unhide HX11).below hb12 (unhide HX11).lt)
      have HB12 := hide ((unhide HB11).trans (hb12.mono (unhide HB11).size))
      clear hb12 HA11 HC11 HX11 HB11
      go_wp2_with fail
      refine (alg_not (.pointer (some ⟨X, 0, none⟩)) A us (by omega) w12 (unhide HA12)).mono ?_
      rintro e w13 ⟨D13, os13, rfl, hD, _, hm, hb13⟩
      have HD := hide hD
      have HV : Hid (memB os13 r = false) := hide ((hm r).trans (by simp only []; rw [unhide Hb, unhide Hy]; rfl))
      clear hD hm
      have HA13 := hide ((unhide HA12).below hb13)
      have HC13 := hide ((unhide HC12).below hb13)
      have HX13 := hide ((unhide HX12).below hb13 (unhide HX12).lt)
      have HB13 := hide ((unhide HB12).trans (hb13.mono (unhide HB12).size))
      clear hb13 HA12 HC12 HX12 HB12
      have HIn := hide (in_any D13 os13 r w13 (unhide HD))
      rw [unhide HV] at HIn
      clear HD HV
      go_wp2_with fail
      refine (unhide HIn).mono ?_
      rintro e w14 ⟨rfl, hb14⟩
      clear HIn
      have HA14 := hide ((unhide HA13).below hb14)
      have HC14 := hide ((unhide HC13).below hb14)
      have HX14 := hide ((unhide HX13).below hb14 (unhide HX13).lt)
      have HB14 := hide ((unhide HB13).trans (hb14.mono (unhide HB13).size))
      clear hb14 HA13 HC13 HX13 HB13
      have x0 := (unhide HX14).cell 0
      go_wp2
      go_ret
      exact ⟨rfl, unhide HB14⟩
    | true =>
      clear hyb hzb
      cases y with
      | false =>
        cases z with
        | false =>
          go_wp2_with fail
          refine (unhide HInA w4 (unhide HA4)).mono ?_
          rintro e w5 ⟨rfl, hb5⟩
          have HA5 := hide ((unhide HA4).below hb5)
          have HC5 := hide ((unhide HC4).below hb5)
          have HX5 := hide ((unhide HX4).below hb5 (unhide HX4).lt)
          have HB5 := hide ((unhide HB4).trans (hb5.mono (unhide HB4).size))
          clear hb5 HA4 HC4 HX4 HB4
          go_wp2_with fail
          refine (unhide HInC w5 (unhide HC5)).mono ?_
          rintro e w6 ⟨rfl, hb6⟩
          have HA6 := hide ((unhide HA5).below hb6)
          have HC6 := hide ((unhide HC5).below hb6)
          have HX6 := hide ((unhide HX5).below hb6 (unhide HX5).lt)
          have HB6 := hide ((unhide HB5).trans (hb6.mono (unhide HB5).size))
          clear hb6 HA5 HC5 HX5 HB5
          go_wp2_with fail
          · exact absurd (by assumption) (no_undef _)
          · exact absurd (by assumption) (no_undef _)
          refine (alg_union (.pointer (some ⟨X, 0, none⟩)) A _ us vs (by omega) (by omega) w6 (unhide HA6) (.inr ⟨B, rfl, unhide HC6⟩)).mono ?_
          rintro e w7 ⟨D7, os7, rfl, hD, _, hm, hb7⟩
          have HD := hide hD
          have HV : Hid (memB os7 r = false) := hide ((hm r).trans (by simp only []; rw [unhide Hy, unhide Hz]; rfl))
          clear hD hm
          have HA7 := hide ((unhide HA6).below hb7)
          have HC7 := hide ((unhide HC6).below hb7)
          have HX7 := hide ((unhide HX6).below hb7 (unhide HX6).lt)
          have HB7 := hide ((unhide HB6).trans (hb7.mono (unhide HB6).size))
          clear hb7 HA6 HC6 HX6 HB6
          have HIn := hide (in_any D7 os7 r w7 (unhide HD))
          rw [unhide HV] at HIn
          clear HD HV
          go_wp2_with fail
          refine (unhide HIn).mono ?_
          rintro e w8 ⟨rfl, hb8⟩
          clear HIn
          have HA8 := hide ((unhide HA7).below hb8)
          have HC8 := hide ((unhide HC7).below hb8)
          have HX8 := hide ((unhide HX7).below hb8 (unhide HX7).lt)
          have HB8 := hide ((unhide HB7).trans (hb8.mono (unhide HB7).size))
          clear hb8 HA7 HC7 HX7 HB7
          go_wp2_with fail
          refine (alg_meet (.pointer (some ⟨X, 0, none⟩)) A _ us vs (by omega) (by omega) w8 (unhide HA8) (.inr ⟨B, rfl, unhide HC8⟩)).mono ?_
          rintro e w9 ⟨D9, os9, rfl, hD, _, hm, hb9⟩
          have HD := hide hD
          have HV : Hid (memB os9 r = false) := hide ((hm r).trans (by simp only []; rw [unhide Hy, unhide Hz]; rfl))
          clear hD hm
          have HA9 := hide ((unhide HA8).below hb9)
          have HC9 := hide ((unhide HC8).below hb9)
          have HX9 := hide ((unhide HX8).below hb9 (unhide HX8).lt)
          have HB9 := hide ((unhide HB8).trans (hb9.mono (unhide HB8).size))
          clear hb9 HA8 HC8 HX8 HB8
          have HIn := hide (in_any D9 os9 r w9 (unhide HD))
          rw [unhide HV] at HIn
          clear HD HV
          go_wp2_with fail
          refine (unhide HIn).mono ?_
          rintro e w10 ⟨rfl, hb10⟩
          clear HIn
          have HA10 := hide ((unhide HA9).below hb10)
          have HC10 := hide ((unhide HC9).below hb10)
          have HX10 := hide ((unhide HX9).below hb10 (unhide HX9).lt)
          have HB10 := hide ((unhide HB9).trans (hb10.mono (unhide HB9).size))
          clear hb10 HA9 HC9 HX9 HB9
          go_wp2_with fail
          refine (alg_minus (.pointer (some ⟨X, 0, none⟩)) A _ us vs (by omega) (by omega) w10 (unhide HA10) (.inr ⟨B, rfl, unhide HC10⟩)).mono ?_
          rintro e w11 ⟨D11, os11, rfl, hD, _, hm, hb11⟩
          have HD := hide hD
          have HV : Hid (memB os11 r = false) := hide ((hm r).trans (by simp only []; rw [unhide Hy, unhide Hz]; rfl))
          clear hD hm
          have HA11 := hide ((unhide HA10).below hb11)
          have HC11 := hide ((unhide HC10).below hb11)
          have HX11 := hide ((unhide HX10).below hb11 (unhide HX10).lt)
          have HB11 := hide ((unhide HB10).trans (hb11.mono (unhide HB10).size))
          clear hb11 HA10 HC10 HX10 HB10
          have HIn := hide (in_any D11 os11 r w11 (unhide HD))
          rw [unhide HV] at HIn
          clear HD HV
          go_wp2_with fail
          refine (unhide HIn).mono ?_
          rintro e w12 ⟨rfl, hb12⟩
          clear HIn
          have HA12 := hide ((unhide HA11).below hb12)
          have HC12 := hide ((unhide HC11).below hb12)
          have HX12 := hide ((unhide HX11).below hb12 (unhide HX11).lt)
          have HB12 := hide ((unhide HB11).trans (hb12.mono (unhide HB11).size))
          clear hb12 HA11 HC11 HX11 HB11
          go_wp2_with fail
          refine (alg_not (.pointer (some ⟨X, 0, none⟩)) A us (by omega) w12 (unhide HA12)).mono ?_
          rintro e w13 ⟨D13, os13, rfl, hD, _, hm, hb13⟩
          have HD := hide hD
          have HV : Hid (memB os13 r = true) := hide ((hm r).trans (by simp only []; rw [unhide Hb, unhide Hy]; rfl))
          clear hD hm
          have HA13 := hide ((unhide HA12).below hb13)
          have HC13 := hide ((unhide HC12).below hb13)
          have HX13 := hide ((unhide HX12).below hb13 (unhide HX12).lt)
          have HB13 := hide ((unhide HB12).trans (hb13.mono (unhide HB12).size))
          clear hb13 HA12 HC12 HX12 HB12
          have HIn := hide (in_any D13 os13 r w13 (unhide HD))
          rw [unhide HV] at HIn
          clear HD HV
          go_wp2_with fail
          refine (unhide HIn).mono ?_
          rintro e w14 ⟨rfl, hb14⟩
          clear HIn
          have HA14 := hide ((unhide HA13).below hb14)
          have HC14 := hide ((unhide HC13).below hb14)
          have HX14 := hide ((unhide HX13).below hb14 (unhide HX13).lt)
          have HB14 := hide ((unhide HB13).trans (hb14.mono (unhide HB13).size))
          clear hb14 HA13 HC13 HX13 HB13
          have x0 := (unhide HX14).cell 0
          go_wp2
          go_ret
          exact ⟨rfl, unhide HB14⟩
        | true =>
          go_wp2_with fail
          refine (unhide HInA w4 (unhide HA4)).mono ?_
          rintro e w5 ⟨rfl, hb5⟩
          have HA5 := hide ((unhide HA4).below hb5)
          have HC5 := hide ((unhide HC4).below hb5)
          have HX5 := hide ((unhide HX4).below hb5 (unhide HX4).lt)
          have HB5 := hide ((unhide HB4).trans (hb5.mono (unhide HB4).size))
          clear hb5 HA4 HC4 HX4 HB4
          go_wp2_with fail
          refine (unhide HInC w5 (unhide HC5)).mono ?_
          rintro e w6 ⟨rfl, hb6⟩
          have HA6 := hide ((unhide HA5).below hb6)
          have HC6 := hide ((unhide HC5).below hb6)
          have HX6 := hide ((unhide HX5).below hb6 (unhide HX5).lt)
          have HB6 := hide ((unhide HB5).trans (hb6.mono (unhide HB5).size))
          clear hb6 HA5 HC5 HX5 HB5
          go_wp2_with fail
          · exact absurd (by assumption) (no_undef _)
          · exact absurd (by assumption) (no_undef _)
          refine (alg_union (.pointer (some ⟨X, 0, none⟩)) A _ us vs (by omega) (by omega) w6 (unhide HA6) (.inr ⟨B, rfl, unhide HC6⟩)).mono ?_
          rintro e w7 ⟨D7, os7, rfl, hD, _, hm, hb7⟩
          have HD := hide hD
          have HV : Hid (memB os7 r = true) := hide ((hm r).trans (by simp only []; rw [unhide Hy, unhide Hz]; rfl))
          clear hD hm
          have HA7 := hide ((unhide HA6).below hb7)
          have HC7 := hide ((unhide HC6).below hb7)
          have HX7 := hide ((unhide HX6).below hb7 (unhide HX6).lt)
          have HB7 := hide ((unhide HB6).trans (hb7.mono (unhide HB6).size))
          clear hb7 HA6 HC6 HX6 HB6
          have HIn := hide (in_any D7 os7 r w7 (unhide HD))
          rw [unhide HV] at HIn
          clear HD HV
          go_wp2_with fail
          refine (unhide HIn).mono ?_
          rintro e w8 ⟨rfl, hb8⟩
          clear HIn
          have HA8 := hide ((unhide HA7).below hb8)
          have HC8 := hide ((unhide HC7).below hb8)
          have HX8 := hide ((unhide HX7).below hb8 (unhide HX7).lt)
          have HB8 := hide ((unhide HB7).trans (hb8.mono (unhide HB7).size))
          clear hb8 HA7 HC7 HX7 HB7
          go_wp2_with fail
          refine (alg_meet (.pointer (some ⟨X, 0, none⟩)) A _ us vs (by omega) (by omega) w8 (unhide HA8) (.inr ⟨B, rfl, unhide HC8⟩)).mono ?_
          rintro e w9 ⟨D9, os9, rfl, hD, _, hm, hb9⟩
          have HD := hide hD
          have HV : Hid (memB os9 r = false) := hide ((hm r).trans (by simp only []; rw [unhide Hy, unhide Hz]; rfl))
          clear hD hm
          have HA9 := hide ((unhide HA8).below hb9)
          have HC9 := hide ((unhide HC8).below hb9)
          have HX9 := hide ((unhide HX8).below hb9 (unhide HX8).lt)
          have HB9 := hide ((unhide HB8).trans (hb9.mono (unhide HB8).size))
          clear hb9 HA8 HC8 HX8 HB8
          have HIn := hide (in_any D9 os9 r w9 (unhide HD))
          rw [unhide HV] at HIn
          clear HD HV
          go_wp2_with fail
          refine (unhide HIn).mono ?_
          rintro e w10 ⟨rfl, hb10⟩
          clear HIn
          have HA10 := hide ((unhide HA9).below hb10)
          have HC10 := hide ((unhide HC9).below hb10)
          have HX10 := hide ((unhide HX9).below hb10 (unhide HX9).lt)
          have HB10 := hide ((unhide HB9).trans (hb10.mono (unhide HB9).size))
          clear hb10 HA9 HC9 HX9 HB9
          go_wp2_with fail
          refine (alg_minus (.pointer (some ⟨X, 0, none⟩)) A _ us vs (by omega) (by omega) w10 (unhide HA10) (.inr ⟨B, rfl, unhide HC10⟩)).mono ?_
          rintro e w11 ⟨D11, os11, rfl, hD, _, hm, hb11⟩
          have HD := hide hD
          have HV : Hid (memB os11 r = false) := hide ((hm r).trans (by simp only []; rw [unhide Hy, unhide Hz]; rfl))
          clear hD hm
          have HA11 := hide ((unhide HA10).below hb11)
          have HC11 := hide ((unhide HC10).below hb11)
          have HX11 := hide ((unhide HX10).below hb11 (unhide HX10).lt)
          have HB11 := hide ((unhide HB10).trans (hb11.mono (unhide HB10).size))
          clear hb11 HA10 HC10 HX10 HB10
          have HIn := hide (in_any D11 os11 r w11 (unhide HD))
          rw [unhide HV] at HIn
          clear HD HV
          go_wp2_with fail
          refine (unhide HIn).mono ?_
          rintro e w12 ⟨rfl, hb12⟩
          clear HIn
          have HA12 := hide ((unhide HA11).below hb12)
          have HC12 := hide ((unhide HC11).below hb12)
          have HX12 := hide ((unhide HX11).below hb12 (unhide HX11).lt)
          have HB12 := hide ((unhide HB11).trans (hb12.mono (unhide HB11).size))
          clear hb12 HA11 HC11 HX11 HB11
          go_wp2_with fail
          refine (alg_not (.pointer (some ⟨X, 0, none⟩)) A us (by omega) w12 (unhide HA12)).mono ?_
          rintro e w13 ⟨D13, os13, rfl, hD, _, hm, hb13⟩
          have HD := hide hD
          have HV : Hid (memB os13 r = true) := hide ((hm r).trans (by simp only []; rw [unhide Hb, unhide Hy]; rfl))
          clear hD hm
          have HA13 := hide ((unhide HA12).below hb13)
          have HC13 := hide ((unhide HC12).below hb13)
          have HX13 := hide ((unhide HX12).below hb13 (unhide HX12).lt)
          have HB13 := hide ((unhide HB12).trans (hb13.mono (unhide HB12).size))
          clear hb13 HA12 HC12 HX12 HB12
          have HIn := hide (in_any D13 os13 r w13 (unhide HD))
          rw [unhide HV] at HIn
          clear HD HV
          go_wp2_with fail
          refine (unhide HIn).mono ?_
          rintro e w14 ⟨rfl, hb14⟩
          clear HIn
          have HA14 := hide ((unhide HA13).below hb14)
          have HC14 := hide ((unhide HC13).below hb14)
          have HX14 := hide ((unhide HX13).below hb14 (unhide HX13).lt)
          have HB14 := hide ((unhide HB13).trans (hb14.mono (unhide HB13).size))
          clear hb14 HA13 HC13 HX13 HB13
          have x0 := (unhide HX14).cell 0
          go_wp2
          go_ret
          exact ⟨rfl, unhide HB14⟩
      | true =>
        cases z with
        | false =>
          go_wp2_with fail
          refine (unhide HInA w4 (unhide HA4)).mono ?_
          rintro e w5 ⟨rfl, hb5⟩
          have HA5 := hide ((unhide HA4).below hb5)
          have HC5 := hide ((unhide HC4).below hb5)
          have HX5 := hide ((unhide HX4).below hb5 (unhide HX4).lt)
          have HB5 := hide ((unhide HB4).trans (hb5.mono (unhide HB4).size))
          clear hb5 HA4 HC4 HX4 HB4
          go_wp2_with fail
          refine (unhide HInC w5 (unhide HC5)).mono ?_
          rintro e w6 ⟨rfl, hb6⟩
          have HA6 := hide ((unhide HA5).below hb6)
          have HC6 := hide ((unhide HC5).below hb6)
          have HX6 := hide ((unhide HX5).below hb6 (unhide HX5).lt)
          have HB6 := hide ((unhide HB5).trans (hb6.mono (unhide HB5).size))
          clear hb6 HA5 HC5 HX5 HB5
          go_wp2_with fail
          · exact absurd (by assumption) (no_undef _)
          · exact absurd (by assumption) (no_undef _)
          refine (alg_union (.pointer (some ⟨X, 0, none⟩)) A _ us vs (by omega) (by omega) w6 (unhide HA6) (.inr ⟨B, rfl, unhide HC6⟩)).mono ?_
          rintro e w7 ⟨D7, os7, rfl, hD, _, hm, hb7⟩
          have HD := hide hD
          have HV : Hid (memB os7 r = true) := hide ((hm r).trans (by simp only []; rw [unhide Hy, unhide Hz]; rfl))
          clear hD hm
          have HA7 := hide ((unhide HA6).below hb7)
          have HC7 := hide ((unhide HC6).below hb7)
          have HX7 := hide ((unhide HX6).below hb7 (unhide HX6).lt)
          have HB7 := hide ((unhide HB6).trans (hb7.mono (unhide HB6).size))
          clear hb7 HA6 HC6 HX6 HB6
          have HIn := hide (in_any D7 os7 r w7 (unhide HD))
          rw [unhide HV] at HIn
          clear HD HV
          go_wp2_with fail
          refine (unhide HIn).mono ?_
          rintro e w8 ⟨rfl, hb8⟩
          clear HIn
          have HA8 := hide ((unhide HA7).below hb8)
          have HC8 := hide ((unhide HC7).below hb8)
          have HX8 := hide ((unhide HX7).below hb8 (unhide HX7).lt)
          have HB8 := hide ((unhide HB7).trans (hb8.mono (unhide HB7).size))
          clear hb8 HA7 HC7 HX7 HB7
          go_wp2_with fail
          refine (alg_meet (.pointer (some ⟨X, 0, none⟩)) A _ us vs (by omega) (by omega) w8 (unhide HA8) (.inr ⟨B, rfl, unhide HC8⟩)).mono ?_
          rintro e w9 ⟨D9, os9, rfl, hD, _, hm, hb9⟩
          have HD := hide hD
          have HV : Hid (memB os9 r = false) := hide ((hm r).trans (by simp only []; rw [unhide Hy, unhide Hz]; rfl))
          clear hD hm
          have HA9 := hide ((unhide HA8).below hb9)
          have HC9 := hide ((unhide HC8).below hb9)
          have HX9 := hide ((unhide HX8).below hb9 (unhide HX8).lt)
          have HB9 := hide ((unhide HB8).trans (hb9.mono (unhide HB8).size))
          clear hb9 HA8 HC8 HX8 HB8
          have HIn := hide (in_any D9 os9 r w9 (unhide HD))
          rw [unhide HV] at HIn
          clear HD HV
          go_wp2_with fail
          refine (unhide HIn).mono ?_
          rintro e w10 ⟨rfl, hb10⟩
          clear HIn
          have HA10 := hide ((unhide HA9).below hb10)
          have HC10 := hide ((unhide HC9).below hb10)
          have HX10 := hide ((unhide HX9).below hb10 (unhide HX9).lt)
          have HB10 := hide ((unhide HB9).trans (hb10.mono (unhide HB9).size))
          clear hb10 HA9 HC9 HX9 HB9
          go_wp2_with fail
          refine (alg_minus (.pointer (some ⟨X, 0, none⟩)) A _ us vs (by omega) (by omega) w10 (unhide HA10) (.inr ⟨B, rfl, unhide HC10⟩)).mono ?_
          rintro e w11 ⟨D11, os11, rfl, hD, _, hm, hb11⟩
          have HD := hide hD
          have HV : Hid (memB os11 r = true) := hide ((hm r).trans (by simp only []; rw [unhide Hy, unhide Hz]; rfl))
          clear hD hm
          have HA11 := hide ((unhide HA10).below hb11)
          have HC11 := hide ((unhide HC10).below hb11)
          have HX11 := hide ((unhide HX10).below hb11 (unhide HX10).lt)
          have HB11 := hide ((unhide HB10).trans (hb11.mono (unhide HB10).size))
          clear hb11 HA10 HC10 HX10 HB10
          have HIn := hide (in_any D11 os11 r w11 (unhide HD))
          rw [unhide HV] at HIn
          clear HD HV
          go_wp2_with fail
          refine (unhide HIn).mono ?_
          rintro e w12 ⟨rfl, hb12⟩
          clear HIn
          have HA12 := hide ((unhide HA11).below hb12)
          have HC12 := hide ((unhide HC11).below hb12)
          have HX12 := hide ((unhide HX11).below hb12 (unhide HX11).lt)
          have HB12 := hide ((unhide HB11).trans (hb12.mono (unhide HB11).size))
          clear hb12 HA11 HC11 HX11 HB11
          go_wp2_with fail
          refine (alg_not (.pointer (some ⟨X, 0, none⟩)) A us (by omega) w12 (unhide HA12)).mono ?_
          rintro e w13 ⟨D13, os13, rfl, hD, _, hm, hb13⟩
          have HD := hide hD
          have HV : Hid (memB os13 r = false) := hide ((hm r).trans (by simp only []; rw [unhide Hb, unhide Hy]; rfl))
          clear hD hm
          have HA13 := hide ((unhide HA12).below hb13)
          have HC13 := hide ((unhide HC12).below hb13)
          have HX13 := hide ((unhide HX12).below hb13 (unhide HX12).lt)
          have HB13 := hide ((unhide HB12).trans (hb13.mono (unhide HB12).size))
          clear hb13 HA12 HC12 HX12 HB12
          have HIn := hide (in_any D13 os13 r w13 (unhide HD))
          rw [unhide HV] at HIn
          clear HD HV
          go_wp2_with fail
          refine (unhide HIn).mono ?_
          rintro e w14 ⟨rfl, hb14⟩
          clear HIn
          have HA14 := hide ((unhide HA13).below hb14)
          have HC14 := hide ((unhide HC13).below hb14)
          have HX14 := hide ((unhide HX13).below hb14 (unhide HX13).lt)
          have HB14 := hide ((unhide HB13).trans (hb14.mono (unhide HB13).size))
          clear hb14 HA13 HC13 HX13 HB13
          have x0 := (unhide HX14).cell 0
          go_wp2
          go_ret
          exact ⟨rfl, unhide HB14⟩
        | true =>
          go_wp2_with fail
          refine (unhide HInA w4 (unhide HA4)).mono ?_
          rintro e w5 ⟨rfl, hb5⟩
          have HA5 := hide ((unhide HA4).below hb5)
          have HC5 := hide ((unhide HC4).below hb5)
          have HX5 := hide ((unhide HX4).below hb5 (unhide HX4).lt)
          have HB5 := hide ((unhide HB4).trans (hb5.mono (unhide HB4).size))
          clear hb5 HA4 HC4 HX4 HB4
          go_wp2_with fail
          refine (unhide HInC w5 (unhide HC5)).mono ?_
          rintro e w6 ⟨rfl, hb6⟩
          have HA6 := hide ((unhide HA5).below hb6)
          have HC6 := hide ((unhide HC5).below hb6)
          have HX6 := hide ((unhide HX5).below hb6 (unhide HX5).lt)
          have HB6 := hide ((unhide HB5).trans (hb6.mono (unhide HB5).size))
          clear hb6 HA5 HC5 HX5 HB5
          go_wp2_with fail
          · exact absurd (by assumption) (no_undef _)
          · exact absurd (by assumption) (no_undef _)
          refine (alg_union (.pointer (some ⟨X, 0, none⟩)) A _ us vs (by omega) (by omega) w6 (unhide HA6) (.inr ⟨B, rfl, unhide HC6⟩)).mono ?_
          rintro e w7 ⟨D7, os7, rfl, hD, _, hm, hb7⟩
          have HD := hide hD
          have HV : Hid (memB os7 r = true) := hide ((hm r).trans (by simp only []; rw [unhide Hy, unhide Hz]; rfl))
          clear hD hm
          have HA7 := hide ((unhide HA6).below hb7)
          have HC7 := hide ((unhide HC6).below hb7)
          have HX7 := hide ((unhide HX6).below hb7 (unhide HX6).lt)
          have HB7 := hide ((unhide HB6).trans (hb7.mono (unhide HB6).size))
          clear hb7 HA6 HC6 HX6 HB6
          have HIn := hide (in_any D7 os7 r w7 (unhide HD))
          rw [unhide HV] at HIn
          clear HD HV
          go_wp2_with fail
          refine (unhide HIn).mono ?_
          rintro e w8 ⟨rfl, hb8⟩
          clear HIn
          have HA8 := hide ((unhide HA7).below hb8)
          have HC8 := hide ((unhide HC7).below hb8)
          have HX8 := hide ((unhide HX7).below hb8 (unhide HX7).lt)
          have HB8 := hide ((unhide HB7).trans (hb8.mono (unhide HB7).size))
          clear hb8 HA7 HC7 HX7 HB7
          go_wp2_with fail
          refine (alg_meet (.pointer (some ⟨X, 0, none⟩)) A _ us vs (by omega) (by omega) w8 (unhide HA8) (.inr ⟨B, rfl, unhide HC8⟩)).mono ?_
          rintro e w9 ⟨D9, os9, rfl, hD, _, hm, hb9⟩
          have HD := hide hD
          have HV : Hid (memB os9 r = true) := hide ((hm r).trans (by simp only []; rw [unhide Hy, unhide Hz]; rfl))
          clear hD hm
          have HA9 := hide ((unhide HA8).below hb9)
          have HC9 := hide ((unhide HC8).below hb9)
          have HX9 := hide ((unhide HX8).below hb9 (unhide HX8).lt)
          have HB9 := hide ((unhide HB8).trans (hb9.mono (unhide HB8).size))
          clear hb9 HA8 HC8 HX8 HB8
          have HIn := hide (in_any D9 os9 r w9 (unhide HD))
          rw [unhide HV] at HIn
          clear HD HV
          go_wp2_with fail
          refine (unhide HIn).mono ?_
          rintro e w10 ⟨rfl, hb10⟩
          clear HIn
          have HA10 := hide ((unhide HA9).below hb10)
          have HC10 := hide ((unhide HC9).below hb10)
          have HX10 := hide ((unhide HX9).below hb10 (unhide HX9).lt)
          have HB10 := hide ((unhide HB9).trans (hb10.mono (unhide HB9).size))
          clear hb10 HA9 HC9 HX9 HB9
          go_wp2_with fail
          refine (alg_minus (.pointer (some ⟨X, 0, none⟩)) A _ us vs (by omega) (by omega) w10 (unhide HA10) (.inr ⟨B, rfl, unhide HC10⟩)).mono ?_
          rintro e w11 ⟨D11, os11, rfl, hD, _, hm, hb11⟩
          have HD := hide hD
          have HV : Hid (memB os11 r = false) := hide ((hm r).trans (by simp only []; rw [unhide Hy, unhide Hz]; rfl))
          clear hD hm
          have HA11 := hide ((unhide HA10).below hb11)
          have HC11 := hide ((unhide HC10).below hb11)
          have HX11 := hide ((unhide HX10).below hb11 (unhide HX10).lt)
          have HB11 := hide ((unhide HB10).trans (hb11.mono (unhide HB10).size))
          clear hb11 HA10 HC10 HX10 HB10
          have HIn := hide (in_any D11 os11 r w11 (unhide HD))
          rw [unhide HV] at HIn
          clear HD HV
          go_wp2_with fail
          refine (unhide HIn).mono ?_
          rintro e w12 ⟨rfl, hb12⟩
          clear HIn
          have HA12 := hide ((unhide HA11).below hb12)
          have HC12 := hide ((unhide HC11).below hb12)
          have HX12 := hide ((unhide HX11).below hb12 (unhide HX11).lt)
          have HB12 := hide ((unhide HB11).trans (hb12.mono (unhide HB11).size))
          clear hb12 HA11 HC11 HX11 HB11
          go_wp2_with fail
          refine (alg_not (.pointer (some ⟨X, 0, none⟩)) A us (by omega) w12 (unhide HA12)).mono ?_
          rintro e w13 ⟨D13, os13, rfl, hD, _, hm, hb13⟩
          have HD := hide hD
          have HV : Hid (memB os13 r = false) := hide ((hm r).trans (by simp only []; rw [unhide Hb, unhide Hy]; rfl))
          clear hD hm
          have HA13 := hide ((unhide HA12).below hb13)
          have HC13 := hide ((unhide HC12).below hb13)
          have HX13 := hide ((unhide HX12).below hb13 (unhide HX12).lt)
          have HB13 := hide ((unhide HB12).trans (hb13.mono (unhide HB12).size))
          clear hb13 HA12 HC12 HX12 HB12
          have HIn := hide (in_any D13 os13 r w13 (unhide HD))
          rw [unhide HV] at HIn
          clear HD HV
          go_wp2_with fail
          refine (unhide HIn).mono ?_
          rintro e w14 ⟨rfl, hb14⟩
          clear HIn
          have HA14 := hide ((unhide HA13).below hb14)
          have HC14 := hide ((unhide HC13).below hb14)
          have HX14 := hide ((unhide HX13).below hb14 (unhide HX13).lt)
          have HB14 := hide ((unhide HB13).trans (hb14.mono (unhide HB13).size))
          clear hb14 HA13 HC13 HX13 HB13
          have x0 := (unhide HX14).cell 0
          go_wp2
          go_ret
          exact ⟨rfl, unhide HB14⟩
  have KEY := hide key
  clear key hK1
  by_cases r0 : 0 ≤ r
  · by_cases r1 : r ≤ 1114111
    · by_cases r2 : r < 55296
      · have hb : true = runeB r := by unfold runeB; simp; omega
        have HBI := hide hb
        clear hb
        go_wp2
        exact unhide KEY _ _ (unhide HBI) (mk_act rfl)
      · by_cases r3 : 57343 < r
        · have hb : true = runeB r := by unfold runeB; simp; omega
          have HBI := hide hb
          clear hb
          go_wp2
          exact unhide KEY _ _ (unhide HBI) (mk_act rfl)
        · have hb : false = runeB r := by unfold runeB; simp; omega
          have HBI := hide hb
          clear hb
          go_wp2
          exact unhide KEY _ _ (unhide HBI) (mk_act rfl)
    · have hb : false = runeB r := by unfold runeB; simp; omega
      have HBI := hide hb
      clear hb
      go_wp2
      exact unhide KEY _ _ (unhide HBI) (mk_act rfl)
  · have hb : false = runeB r := by unfold runeB; simp; omega
    have HBI := hide hb
    clear hb
    go_wp2
    exact unhide KEY _ _ (unhide HBI) (mk_act rfl)
end Go.Proofs.Ytodikfaddfojgaa
