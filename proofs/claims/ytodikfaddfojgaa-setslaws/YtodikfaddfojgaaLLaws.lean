/- SetsLaws: what holds of any three sets. -/
import Derived.Test.YtodikfaddfojgaaLSet
import Derived.Test.YtodikfaddfojgaaLMade
import Derived.Test.YtodikfaddfojgaaLAlg
import Derived.Test.YtodikfaddfojgaaSetEqual
import Derived.Test.YtodikfaddfojgaaSetCount
import Derived.Test.YtodikfaddfojgaaArgP
namespace Go.Proofs.Ytodikfaddfojgaa
open Go.RowKit Go.Shelf
set_option linter.unusedVariables false
theorem taut0 {a b c R : Bool} (ha : a = true → R = true) (hb : b = true → R = true) (hc : c = true → R = true) : (a || b) = (b || a) := by
  revert a b c R; decide
theorem taut1 {a b c R : Bool} (ha : a = true → R = true) (hb : b = true → R = true) (hc : c = true → R = true) : (a && b) = (b && a) := by
  revert a b c R; decide
theorem taut2 {a b c R : Bool} (ha : a = true → R = true) (hb : b = true → R = true) (hc : c = true → R = true) : (R && !(R && !a)) = a := by
  revert a b c R; decide
theorem taut3 {a b c R : Bool} (ha : a = true → R = true) (hb : b = true → R = true) (hc : c = true → R = true) : (a && !b) = (a && (R && !b)) := by
  revert a b c R; decide
theorem taut4 {a b c R : Bool} (ha : a = true → R = true) (hb : b = true → R = true) (hc : c = true → R = true) : (R && !(a || b)) = ((R && !a) && (R && !b)) := by
  revert a b c R; decide
theorem taut5 {a b c R : Bool} (ha : a = true → R = true) (hb : b = true → R = true) (hc : c = true → R = true) : (a && (b || c)) = ((a && b) || (a && c)) := by
  revert a b c R; decide
theorem taut6 {a b c R : Bool} (ha : a = true → R = true) (hb : b = true → R = true) (hc : c = true → R = true) : (a || (b && c)) = ((a || b) && (a || c)) := by
  revert a b c R; decide
theorem taut7 {a b c R : Bool} (ha : a = true → R = true) (hb : b = true → R = true) (hc : c = true → R = true) : (a || false) = a := by
  revert a b c R; decide
theorem taut8 {a b c R : Bool} (ha : a = true → R = true) (hb : b = true → R = true) (hc : c = true → R = true) : (a && !false) = a := by
  revert a b c R; decide
theorem mem_rune (zs : List (Int × Int)) (r : Int) : memB zs r = true → runeB r = true := fun h => ((memB_iff _ _).1 h).2
theorem right_spread {zs : List (Int × Int)} (h : Spread zs) : rightV zs = .tuple #[.int .i64 0, .int .i64 0] := rightV_ok zs (fun i hi => by
  have g1 : zs[i]? = some zs[i] := List.getElem?_eq_getElem hi
  have e := h.ends zs[i] (List.getElem_mem hi)
  have w0 : wrongOf zs[i] = 0 := by
    unfold wrongOf
    rw [e.1]
    simp
    exact e.2
  unfold badRow
  rw [show zs.getD i (0, 0) = zs[i] by simp [List.getD, g1], w0, if_neg (by simp), if_neg]
  rintro ⟨h0, h1⟩
  have g2 : zs[i - 1]? = some zs[i - 1] := List.getElem?_eq_getElem (by omega)
  rw [show zs.getD (i - 1) (0, 0) = zs[i - 1] by simp [List.getD, g2]] at h1
  have := h.lt (i - 1) i _ _ (by omega) g2 g1
  omega)
set_option maxRecDepth 100000 in
set_option maxHeartbeats 40000000 in
theorem law_laws (a : Option Addr) (cap : Nat) (zs : List (Int × Int)) (hf : ∀ x ∈ zs, fitB x) (hcap : zs.length ≤ cap) (b : Option Addr) (capb : Nat) (ts : List (Int × Int)) (hg : ∀ x ∈ ts, fitB x) (hcapb : ts.length ≤ capb) (c : Option Addr) (capc : Nat) (ps : List (Int × Int)) (hh : ∀ x ∈ ps, fitB x) (hcapc : ps.length ≤ capc) (w : World) (hr : RowP w a zs) (hs : RowP w b ts) (hp : RowP w c ps) :
    Calls Try.prog 4 #[.slice a zs.length cap, .slice b ts.length capb, .slice c ps.length capc] w fun e w' => e = .returned (.bool true) ∧ Below w.heap.size w w' := by
  have HR := hide hr
  have HT := hide hs
  have HP := hide hp
  clear hr hs hp hf hg hh
  go_enter Try.func4, Try.ntmps4
  go_wp2_with fail
  refine (few_any a cap zs hcap w).mono ?_
  rintro e w1 ⟨rfl, rfl⟩
  obtain ⟨xs, hxs⟩ : ∃ xs, xs = zs.take 60 := ⟨_, rfl⟩
  have HRx : Hid (RowP w1 a xs) := hide (by rw [hxs]; exact (unhide HR).take 60)
  have hxl : xs.length ≤ 60 := by rw [hxs, List.length_take]; omega
  rw [← hxs]
  clear hxs HR
  go_wp2_with fail
  refine (set_any a cap xs hxl w1 (unhide HRx)).mono ?_
  rintro e w2 ⟨Ba, lo0, la, rfl, hlo, hmade, hsp, hba, hb2⟩
  have HA2 := hide (hmade.set hsp (by omega))
  have HB2 := hide hb2
  have HT2 := hide ((unhide HT).below hb2)
  have HP2 := hide ((unhide HP).below hb2)
  clear hmade hsp hb2 hlo HT HP HRx
  go_wp2_with fail
  refine (few_any b capb ts hcapb w2).mono ?_
  rintro e w2' ⟨rfl, rfl⟩
  obtain ⟨ys, hys⟩ : ∃ ys, ys = ts.take 60 := ⟨_, rfl⟩
  have HTx : Hid (RowP w2' b ys) := hide (by rw [hys]; exact (unhide HT2).take 60)
  have hyl : ys.length ≤ 60 := by rw [hys, List.length_take]; omega
  rw [← hys]
  clear hys HT2
  go_wp2_with fail
  refine (set_any b capb ys hyl w2' (unhide HTx)).mono ?_
  rintro e w3 ⟨Bb, lo1, lb, rfl, hlo, hmade, hsp, hbb, hb3⟩
  have HC3 := hide (hmade.set hsp (by omega))
  have HA3 := hide ((unhide HA2).below hb3)
  have HB3 := hide ((unhide HB2).trans (hb3.mono (unhide HB2).size))
  have HP3 := hide ((unhide HP2).below hb3)
  clear hmade hsp hb3 hlo HA2 HB2 HTx HP2
  go_wp2_with fail
  refine (few_any c capc ps hcapc w3).mono ?_
  rintro e w3' ⟨rfl, rfl⟩
  obtain ⟨qs, hqs⟩ : ∃ qs, qs = ps.take 60 := ⟨_, rfl⟩
  have HPx : Hid (RowP w3' c qs) := hide (by rw [hqs]; exact (unhide HP3).take 60)
  have hql : qs.length ≤ 60 := by rw [hqs, List.length_take]; omega
  rw [← hqs]
  clear hqs HP3
  go_wp2_with fail
  refine (set_any c capc qs hql w3' (unhide HPx)).mono ?_
  rintro e w4 ⟨Bc, lo2, lc, rfl, hlo, hmade, hsp, hbc, hb4⟩
  have HD4 := hide (hmade.set hsp (by omega))
  have HC4 := hide ((unhide HC3).below hb4)
  have HA4 := hide ((unhide HA3).below hb4)
  have HB4 := hide ((unhide HB3).trans (hb4.mono (unhide HB3).size))
  clear hmade hsp hb4 hlo HA3 HB3 HPx HC3
  go_wp2_with fail
  refine (alive_any w4).mono ?_
  rintro e w5 ⟨rfl, hb5⟩
  have HD5 := hide ((unhide HD4).below hb5)
  have HC5 := hide ((unhide HC4).below hb5)
  have HA5 := hide ((unhide HA4).below hb5)
  have HB5 := hide ((unhide HB4).trans (hb5.mono (unhide HB4).size))
  clear hb5 HD4 HC4 HA4 HB4
  have hal := (Below.refl w5.heap.size w5).alloc (Nat.le_refl _) (.cells #[.bool false, .pointer (some ⟨Ba, 0, none⟩)] 39)
  have HX0 := hide (Blk.new w5 #[.bool false, .pointer (some ⟨Ba, 0, none⟩)] 39)
  have HS_a0 := hide ((unhide HA5).below hal)
  have HS_b0 := hide ((unhide HC5).below hal)
  have HS_c0 := hide ((unhide HD5).below hal)
  have HB0 := hide ((unhide HB5).trans (hal.mono (unhide HB5).size))
  clear hal HD5 HC5 HA5 HB5
  go_upto_region 7 with fail
  generalize w5.alloc (.cells #[.bool false, .pointer (some ⟨Ba, 0, none⟩)] 39) = w0 at *
  generalize w5.heap.size = X at *
  go_wp2_with fail
  refine (alg_union (.pointer (some ⟨X, 0, none⟩)) Ba _ la lb (by omega) (by omega) w0 (unhide HS_a0) (.inr ⟨Bb, rfl, unhide HS_b0⟩)).mono ?_
  rintro e w1 ⟨Bu, lu, rfl, hS, hl, hm, hb⟩
  have hbu : lu.length ≤ 120 := by omega
  have HM_u : Hid (∀ r, memB lu r = (memB la r || memB lb r)) := hide hm
  have HS := hide hS
  clear hS hl hm
  have HS_a1 := hide ((unhide HS_a0).below hb)
  have HS_b1 := hide ((unhide HS_b0).below hb)
  have HS_c1 := hide ((unhide HS_c0).below hb)
  have HX1 := hide ((unhide HX0).below hb (unhide HX0).lt)
  have HB1 := hide ((unhide HB0).trans (hb.mono (unhide HB0).size))
  clear hb HX0 HB0 HS_a0 HS_b0 HS_c0
  have HS_u1 := HS
  clear HS
  go_wp2_with fail
  refine (alg_meet (.pointer (some ⟨X, 0, none⟩)) Ba _ la lb (by omega) (by omega) w1 (unhide HS_a1) (.inr ⟨Bb, rfl, unhide HS_b1⟩)).mono ?_
  rintro e w2 ⟨Bv, lv, rfl, hS, hl, hm, hb⟩
  have hbv : lv.length ≤ 120 := by omega
  have HM_v : Hid (∀ r, memB lv r = (memB la r && memB lb r)) := hide hm
  have HS := hide hS
  clear hS hl hm
  have HS_a2 := hide ((unhide HS_a1).below hb)
  have HS_b2 := hide ((unhide HS_b1).below hb)
  have HS_c2 := hide ((unhide HS_c1).below hb)
  have HS_u2 := hide ((unhide HS_u1).below hb)
  have HX2 := hide ((unhide HX1).below hb (unhide HX1).lt)
  have HB2 := hide ((unhide HB1).trans (hb.mono (unhide HB1).size))
  clear hb HX1 HB1 HS_a1 HS_b1 HS_c1 HS_u1
  have HS_v2 := HS
  clear HS
  go_wp2_with fail
  refine (alg_not (.pointer (some ⟨X, 0, none⟩)) Ba la (by omega) w2 (unhide HS_a2)).mono ?_
  rintro e w3 ⟨Bn, ln, rfl, hS, hl, hm, hb⟩
  have hbn : ln.length ≤ 61 := by omega
  have HM_n : Hid (∀ r, memB ln r = (runeB r && !memB la r)) := hide hm
  have HS := hide hS
  clear hS hl hm
  have HS_a3 := hide ((unhide HS_a2).below hb)
  have HS_b3 := hide ((unhide HS_b2).below hb)
  have HS_c3 := hide ((unhide HS_c2).below hb)
  have HS_u3 := hide ((unhide HS_u2).below hb)
  have HS_v3 := hide ((unhide HS_v2).below hb)
  have HX3 := hide ((unhide HX2).below hb (unhide HX2).lt)
  have HB3 := hide ((unhide HB2).trans (hb.mono (unhide HB2).size))
  clear hb HX2 HB2 HS_a2 HS_b2 HS_c2 HS_u2 HS_v2
  have HS_n3 := HS
  clear HS
  go_wp2_with fail
  refine (alg_union (.pointer (some ⟨X, 0, none⟩)) Bb _ lb la (by omega) (by omega) w3 (unhide HS_b3) (.inr ⟨Ba, rfl, unhide HS_a3⟩)).mono ?_
  rintro e w4 ⟨Bt1, lt1, rfl, hS, hl, hm, hb⟩
  have hbt1 : lt1.length ≤ 120 := by omega
  have HM_t1 : Hid (∀ r, memB lt1 r = (memB lb r || memB la r)) := hide hm
  have HS := hide hS
  clear hS hl hm
  have HS_a4 := hide ((unhide HS_a3).below hb)
  have HS_b4 := hide ((unhide HS_b3).below hb)
  have HS_c4 := hide ((unhide HS_c3).below hb)
  have HS_u4 := hide ((unhide HS_u3).below hb)
  have HS_v4 := hide ((unhide HS_v3).below hb)
  have HS_n4 := hide ((unhide HS_n3).below hb)
  have HX4 := hide ((unhide HX3).below hb (unhide HX3).lt)
  have HB4 := hide ((unhide HB3).trans (hb.mono (unhide HB3).size))
  clear hb HX3 HB3 HS_a3 HS_b3 HS_c3 HS_u3 HS_v3 HS_n3
  have HS_t14 := HS
  clear HS
  have hE : sameB lu lt1 = true := by
    rw [spread_unique lu lt1 (unhide HS_u4).spread (unhide HS_t14).spread (fun r => by
      rw [unhide HM_u r, unhide HM_t1 r]
      exact taut0 (mem_rune la r) (mem_rune lb r) (mem_rune lc r)
      )]
    exact sameB_refl _
  have HC := hide (same_any Bu _ lu lt1 w4 (unhide HS_u4) (.inr ⟨Bt1, rfl, unhide HS_t14⟩))
  rw [hE] at HC
  clear hE
  go_wp2_with fail
  refine (unhide HC).mono ?_
  rintro e w5 ⟨rfl, hb⟩
  clear HC
  have HS_a5 := hide ((unhide HS_a4).below hb)
  have HS_b5 := hide ((unhide HS_b4).below hb)
  have HS_c5 := hide ((unhide HS_c4).below hb)
  have HS_u5 := hide ((unhide HS_u4).below hb)
  have HS_v5 := hide ((unhide HS_v4).below hb)
  have HS_n5 := hide ((unhide HS_n4).below hb)
  have HX5 := hide ((unhide HX4).below hb (unhide HX4).lt)
  have HB5 := hide ((unhide HB4).trans (hb.mono (unhide HB4).size))
  clear hb HX4 HB4 HS_a4 HS_b4 HS_c4 HS_u4 HS_v4 HS_n4 HS_t14
  go_wp2_with fail
  refine (alg_meet (.pointer (some ⟨X, 0, none⟩)) Bb _ lb la (by omega) (by omega) w5 (unhide HS_b5) (.inr ⟨Ba, rfl, unhide HS_a5⟩)).mono ?_
  rintro e w6 ⟨Bt2, lt2, rfl, hS, hl, hm, hb⟩
  have hbt2 : lt2.length ≤ 120 := by omega
  have HM_t2 : Hid (∀ r, memB lt2 r = (memB lb r && memB la r)) := hide hm
  have HS := hide hS
  clear hS hl hm
  have HS_a6 := hide ((unhide HS_a5).below hb)
  have HS_b6 := hide ((unhide HS_b5).below hb)
  have HS_c6 := hide ((unhide HS_c5).below hb)
  have HS_u6 := hide ((unhide HS_u5).below hb)
  have HS_v6 := hide ((unhide HS_v5).below hb)
  have HS_n6 := hide ((unhide HS_n5).below hb)
  have HX6 := hide ((unhide HX5).below hb (unhide HX5).lt)
  have HB6 := hide ((unhide HB5).trans (hb.mono (unhide HB5).size))
  clear hb HX5 HB5 HS_a5 HS_b5 HS_c5 HS_u5 HS_v5 HS_n5
  have HS_t26 := HS
  clear HS
  have hE : sameB lv lt2 = true := by
    rw [spread_unique lv lt2 (unhide HS_v6).spread (unhide HS_t26).spread (fun r => by
      rw [unhide HM_v r, unhide HM_t2 r]
      exact taut1 (mem_rune la r) (mem_rune lb r) (mem_rune lc r)
      )]
    exact sameB_refl _
  have HC := hide (same_any Bv _ lv lt2 w6 (unhide HS_v6) (.inr ⟨Bt2, rfl, unhide HS_t26⟩))
  rw [hE] at HC
  clear hE
  go_wp2_with fail
  refine (unhide HC).mono ?_
  rintro e w7 ⟨rfl, hb⟩
  clear HC
  have HS_a7 := hide ((unhide HS_a6).below hb)
  have HS_b7 := hide ((unhide HS_b6).below hb)
  have HS_c7 := hide ((unhide HS_c6).below hb)
  have HS_u7 := hide ((unhide HS_u6).below hb)
  have HS_v7 := hide ((unhide HS_v6).below hb)
  have HS_n7 := hide ((unhide HS_n6).below hb)
  have HX7 := hide ((unhide HX6).below hb (unhide HX6).lt)
  have HB7 := hide ((unhide HB6).trans (hb.mono (unhide HB6).size))
  clear hb HX6 HB6 HS_a6 HS_b6 HS_c6 HS_u6 HS_v6 HS_n6 HS_t26
  go_wp2_with fail
  refine (alg_not (.pointer (some ⟨X, 0, none⟩)) Bn ln (by omega) w7 (unhide HS_n7)).mono ?_
  rintro e w8 ⟨Bt3, lt3, rfl, hS, hl, hm, hb⟩
  have hbt3 : lt3.length ≤ 62 := by omega
  have HM_t3 : Hid (∀ r, memB lt3 r = (runeB r && !(runeB r && !memB la r))) := hide (fun r => (hm r).trans (by simp only []; rw [unhide HM_n r]))
  have HS := hide hS
  clear hS hl hm
  have HS_a8 := hide ((unhide HS_a7).below hb)
  have HS_b8 := hide ((unhide HS_b7).below hb)
  have HS_c8 := hide ((unhide HS_c7).below hb)
  have HS_u8 := hide ((unhide HS_u7).below hb)
  have HS_v8 := hide ((unhide HS_v7).below hb)
  have HS_n8 := hide ((unhide HS_n7).below hb)
  have HX8 := hide ((unhide HX7).below hb (unhide HX7).lt)
  have HB8 := hide ((unhide HB7).trans (hb.mono (unhide HB7).size))
  clear hb HX7 HB7 HS_a7 HS_b7 HS_c7 HS_u7 HS_v7 HS_n7
  have HS_t38 := HS
  clear HS
  have hE : sameB lt3 la = true := by
    rw [spread_unique lt3 la (unhide HS_t38).spread (unhide HS_a8).spread (fun r => by
      rw [unhide HM_t3 r]
      exact taut2 (mem_rune la r) (mem_rune lb r) (mem_rune lc r)
      )]
    exact sameB_refl _
  have HC := hide (same_any Bt3 _ lt3 la w8 (unhide HS_t38) (.inr ⟨Ba, rfl, unhide HS_a8⟩))
  rw [hE] at HC
  clear hE
  go_wp2_with fail
  refine (unhide HC).mono ?_
  rintro e w9 ⟨rfl, hb⟩
  clear HC
  have HS_a9 := hide ((unhide HS_a8).below hb)
  have HS_b9 := hide ((unhide HS_b8).below hb)
  have HS_c9 := hide ((unhide HS_c8).below hb)
  have HS_u9 := hide ((unhide HS_u8).below hb)
  have HS_v9 := hide ((unhide HS_v8).below hb)
  have HS_n9 := hide ((unhide HS_n8).below hb)
  have HX9 := hide ((unhide HX8).below hb (unhide HX8).lt)
  have HB9 := hide ((unhide HB8).trans (hb.mono (unhide HB8).size))
  clear hb HX8 HB8 HS_a8 HS_b8 HS_c8 HS_u8 HS_v8 HS_n8 HS_t38
  go_wp2_with fail
  refine (alg_minus (.pointer (some ⟨X, 0, none⟩)) Ba _ la lb (by omega) (by omega) w9 (unhide HS_a9) (.inr ⟨Bb, rfl, unhide HS_b9⟩)).mono ?_
  rintro e w10 ⟨Bt4, lt4, rfl, hS, hl, hm, hb⟩
  have hbt4 : lt4.length ≤ 121 := by omega
  have HM_t4 : Hid (∀ r, memB lt4 r = (memB la r && !memB lb r)) := hide hm
  have HS := hide hS
  clear hS hl hm
  have HS_a10 := hide ((unhide HS_a9).below hb)
  have HS_b10 := hide ((unhide HS_b9).below hb)
  have HS_c10 := hide ((unhide HS_c9).below hb)
  have HS_u10 := hide ((unhide HS_u9).below hb)
  have HS_v10 := hide ((unhide HS_v9).below hb)
  have HS_n10 := hide ((unhide HS_n9).below hb)
  have HX10 := hide ((unhide HX9).below hb (unhide HX9).lt)
  have HB10 := hide ((unhide HB9).trans (hb.mono (unhide HB9).size))
  clear hb HX9 HB9 HS_a9 HS_b9 HS_c9 HS_u9 HS_v9 HS_n9
  have HS_t410 := HS
  clear HS
  go_wp2_with fail
  refine (alg_not (.pointer (some ⟨X, 0, none⟩)) Bb lb (by omega) w10 (unhide HS_b10)).mono ?_
  rintro e w11 ⟨Bt5, lt5, rfl, hS, hl, hm, hb⟩
  have hbt5 : lt5.length ≤ 61 := by omega
  have HM_t5 : Hid (∀ r, memB lt5 r = (runeB r && !memB lb r)) := hide hm
  have HS := hide hS
  clear hS hl hm
  have HS_a11 := hide ((unhide HS_a10).below hb)
  have HS_b11 := hide ((unhide HS_b10).below hb)
  have HS_c11 := hide ((unhide HS_c10).below hb)
  have HS_u11 := hide ((unhide HS_u10).below hb)
  have HS_v11 := hide ((unhide HS_v10).below hb)
  have HS_n11 := hide ((unhide HS_n10).below hb)
  have HS_t411 := hide ((unhide HS_t410).below hb)
  have HX11 := hide ((unhide HX10).below hb (unhide HX10).lt)
  have HB11 := hide ((unhide HB10).trans (hb.mono (unhide HB10).size))
  clear hb HX10 HB10 HS_a10 HS_b10 HS_c10 HS_u10 HS_v10 HS_n10 HS_t410
  have HS_t511 := HS
  clear HS
  go_wp2_with fail
  refine (alg_meet (.pointer (some ⟨X, 0, none⟩)) Ba _ la lt5 (by omega) (by omega) w11 (unhide HS_a11) (.inr ⟨Bt5, rfl, unhide HS_t511⟩)).mono ?_
  rintro e w12 ⟨Bt6, lt6, rfl, hS, hl, hm, hb⟩
  have hbt6 : lt6.length ≤ 121 := by omega
  have HM_t6 : Hid (∀ r, memB lt6 r = (memB la r && (runeB r && !memB lb r))) := hide (fun r => (hm r).trans (by simp only []; rw [unhide HM_t5 r]))
  have HS := hide hS
  clear hS hl hm
  have HS_a12 := hide ((unhide HS_a11).below hb)
  have HS_b12 := hide ((unhide HS_b11).below hb)
  have HS_c12 := hide ((unhide HS_c11).below hb)
  have HS_u12 := hide ((unhide HS_u11).below hb)
  have HS_v12 := hide ((unhide HS_v11).below hb)
  have HS_n12 := hide ((unhide HS_n11).below hb)
  have HS_t412 := hide ((unhide HS_t411).below hb)
  have HX12 := hide ((unhide HX11).below hb (unhide HX11).lt)
  have HB12 := hide ((unhide HB11).trans (hb.mono (unhide HB11).size))
  clear hb HX11 HB11 HS_a11 HS_b11 HS_c11 HS_u11 HS_v11 HS_n11 HS_t411 HS_t511
  have HS_t612 := HS
  clear HS
  have hE : sameB lt4 lt6 = true := by
    rw [spread_unique lt4 lt6 (unhide HS_t412).spread (unhide HS_t612).spread (fun r => by
      rw [unhide HM_t4 r, unhide HM_t6 r]
      exact taut3 (mem_rune la r) (mem_rune lb r) (mem_rune lc r)
      )]
    exact sameB_refl _
  have HC := hide (same_any Bt4 _ lt4 lt6 w12 (unhide HS_t412) (.inr ⟨Bt6, rfl, unhide HS_t612⟩))
  rw [hE] at HC
  clear hE
  go_wp2_with fail
  refine (unhide HC).mono ?_
  rintro e w13 ⟨rfl, hb⟩
  clear HC
  have HS_a13 := hide ((unhide HS_a12).below hb)
  have HS_b13 := hide ((unhide HS_b12).below hb)
  have HS_c13 := hide ((unhide HS_c12).below hb)
  have HS_u13 := hide ((unhide HS_u12).below hb)
  have HS_v13 := hide ((unhide HS_v12).below hb)
  have HS_n13 := hide ((unhide HS_n12).below hb)
  have HX13 := hide ((unhide HX12).below hb (unhide HX12).lt)
  have HB13 := hide ((unhide HB12).trans (hb.mono (unhide HB12).size))
  clear hb HX12 HB12 HS_a12 HS_b12 HS_c12 HS_u12 HS_v12 HS_n12 HS_t412 HS_t612
  go_wp2_with fail
  refine (alg_not (.pointer (some ⟨X, 0, none⟩)) Bu lu (by omega) w13 (unhide HS_u13)).mono ?_
  rintro e w14 ⟨Bt7, lt7, rfl, hS, hl, hm, hb⟩
  have hbt7 : lt7.length ≤ 121 := by omega
  have HM_t7 : Hid (∀ r, memB lt7 r = (runeB r && !(memB la r || memB lb r))) := hide (fun r => (hm r).trans (by simp only []; rw [unhide HM_u r]))
  have HS := hide hS
  clear hS hl hm
  have HS_a14 := hide ((unhide HS_a13).below hb)
  have HS_b14 := hide ((unhide HS_b13).below hb)
  have HS_c14 := hide ((unhide HS_c13).below hb)
  have HS_u14 := hide ((unhide HS_u13).below hb)
  have HS_v14 := hide ((unhide HS_v13).below hb)
  have HS_n14 := hide ((unhide HS_n13).below hb)
  have HX14 := hide ((unhide HX13).below hb (unhide HX13).lt)
  have HB14 := hide ((unhide HB13).trans (hb.mono (unhide HB13).size))
  clear hb HX13 HB13 HS_a13 HS_b13 HS_c13 HS_u13 HS_v13 HS_n13
  have HS_t714 := HS
  clear HS
  go_wp2_with fail
  refine (alg_not (.pointer (some ⟨X, 0, none⟩)) Bb lb (by omega) w14 (unhide HS_b14)).mono ?_
  rintro e w15 ⟨Bt8, lt8, rfl, hS, hl, hm, hb⟩
  have hbt8 : lt8.length ≤ 61 := by omega
  have HM_t8 : Hid (∀ r, memB lt8 r = (runeB r && !memB lb r)) := hide hm
  have HS := hide hS
  clear hS hl hm
  have HS_a15 := hide ((unhide HS_a14).below hb)
  have HS_b15 := hide ((unhide HS_b14).below hb)
  have HS_c15 := hide ((unhide HS_c14).below hb)
  have HS_u15 := hide ((unhide HS_u14).below hb)
  have HS_v15 := hide ((unhide HS_v14).below hb)
  have HS_n15 := hide ((unhide HS_n14).below hb)
  have HS_t715 := hide ((unhide HS_t714).below hb)
  have HX15 := hide ((unhide HX14).below hb (unhide HX14).lt)
  have HB15 := hide ((unhide HB14).trans (hb.mono (unhide HB14).size))
  clear hb HX14 HB14 HS_a14 HS_b14 HS_c14 HS_u14 HS_v14 HS_n14 HS_t714
  have HS_t815 := HS
  clear HS
  go_wp2_with fail
  refine (alg_meet (.pointer (some ⟨X, 0, none⟩)) Bn _ ln lt8 (by omega) (by omega) w15 (unhide HS_n15) (.inr ⟨Bt8, rfl, unhide HS_t815⟩)).mono ?_
  rintro e w16 ⟨Bt9, lt9, rfl, hS, hl, hm, hb⟩
  have hbt9 : lt9.length ≤ 122 := by omega
  have HM_t9 : Hid (∀ r, memB lt9 r = ((runeB r && !memB la r) && (runeB r && !memB lb r))) := hide (fun r => (hm r).trans (by simp only []; rw [unhide HM_n r, unhide HM_t8 r]))
  have HS := hide hS
  clear hS hl hm
  have HS_a16 := hide ((unhide HS_a15).below hb)
  have HS_b16 := hide ((unhide HS_b15).below hb)
  have HS_c16 := hide ((unhide HS_c15).below hb)
  have HS_u16 := hide ((unhide HS_u15).below hb)
  have HS_v16 := hide ((unhide HS_v15).below hb)
  have HS_n16 := hide ((unhide HS_n15).below hb)
  have HS_t716 := hide ((unhide HS_t715).below hb)
  have HX16 := hide ((unhide HX15).below hb (unhide HX15).lt)
  have HB16 := hide ((unhide HB15).trans (hb.mono (unhide HB15).size))
  clear hb HX15 HB15 HS_a15 HS_b15 HS_c15 HS_u15 HS_v15 HS_n15 HS_t715 HS_t815
  have HS_t916 := HS
  clear HS
  have hE : sameB lt7 lt9 = true := by
    rw [spread_unique lt7 lt9 (unhide HS_t716).spread (unhide HS_t916).spread (fun r => by
      rw [unhide HM_t7 r, unhide HM_t9 r]
      exact taut4 (mem_rune la r) (mem_rune lb r) (mem_rune lc r)
      )]
    exact sameB_refl _
  have HC := hide (same_any Bt7 _ lt7 lt9 w16 (unhide HS_t716) (.inr ⟨Bt9, rfl, unhide HS_t916⟩))
  rw [hE] at HC
  clear hE
  go_wp2_with fail
  refine (unhide HC).mono ?_
  rintro e w17 ⟨rfl, hb⟩
  clear HC
  have HS_a17 := hide ((unhide HS_a16).below hb)
  have HS_b17 := hide ((unhide HS_b16).below hb)
  have HS_c17 := hide ((unhide HS_c16).below hb)
  have HS_u17 := hide ((unhide HS_u16).below hb)
  have HS_v17 := hide ((unhide HS_v16).below hb)
  have HS_n17 := hide ((unhide HS_n16).below hb)
  have HX17 := hide ((unhide HX16).below hb (unhide HX16).lt)
  have HB17 := hide ((unhide HB16).trans (hb.mono (unhide HB16).size))
  clear hb HX16 HB16 HS_a16 HS_b16 HS_c16 HS_u16 HS_v16 HS_n16 HS_t716 HS_t916
  go_wp2_with fail
  refine (alg_union (.pointer (some ⟨X, 0, none⟩)) Bb _ lb lc (by omega) (by omega) w17 (unhide HS_b17) (.inr ⟨Bc, rfl, unhide HS_c17⟩)).mono ?_
  rintro e w18 ⟨Bt10, lt10, rfl, hS, hl, hm, hb⟩
  have hbt10 : lt10.length ≤ 120 := by omega
  have HM_t10 : Hid (∀ r, memB lt10 r = (memB lb r || memB lc r)) := hide hm
  have HS := hide hS
  clear hS hl hm
  have HS_a18 := hide ((unhide HS_a17).below hb)
  have HS_b18 := hide ((unhide HS_b17).below hb)
  have HS_c18 := hide ((unhide HS_c17).below hb)
  have HS_u18 := hide ((unhide HS_u17).below hb)
  have HS_v18 := hide ((unhide HS_v17).below hb)
  have HS_n18 := hide ((unhide HS_n17).below hb)
  have HX18 := hide ((unhide HX17).below hb (unhide HX17).lt)
  have HB18 := hide ((unhide HB17).trans (hb.mono (unhide HB17).size))
  clear hb HX17 HB17 HS_a17 HS_b17 HS_c17 HS_u17 HS_v17 HS_n17
  have HS_t1018 := HS
  clear HS
  go_wp2_with fail
  refine (alg_meet (.pointer (some ⟨X, 0, none⟩)) Ba _ la lt10 (by omega) (by omega) w18 (unhide HS_a18) (.inr ⟨Bt10, rfl, unhide HS_t1018⟩)).mono ?_
  rintro e w19 ⟨Bt11, lt11, rfl, hS, hl, hm, hb⟩
  have hbt11 : lt11.length ≤ 180 := by omega
  have HM_t11 : Hid (∀ r, memB lt11 r = (memB la r && (memB lb r || memB lc r))) := hide (fun r => (hm r).trans (by simp only []; rw [unhide HM_t10 r]))
  have HS := hide hS
  clear hS hl hm
  have HS_a19 := hide ((unhide HS_a18).below hb)
  have HS_b19 := hide ((unhide HS_b18).below hb)
  have HS_c19 := hide ((unhide HS_c18).below hb)
  have HS_u19 := hide ((unhide HS_u18).below hb)
  have HS_v19 := hide ((unhide HS_v18).below hb)
  have HS_n19 := hide ((unhide HS_n18).below hb)
  have HX19 := hide ((unhide HX18).below hb (unhide HX18).lt)
  have HB19 := hide ((unhide HB18).trans (hb.mono (unhide HB18).size))
  clear hb HX18 HB18 HS_a18 HS_b18 HS_c18 HS_u18 HS_v18 HS_n18 HS_t1018
  have HS_t1119 := HS
  clear HS
  go_wp2_with fail
  refine (alg_meet (.pointer (some ⟨X, 0, none⟩)) Ba _ la lc (by omega) (by omega) w19 (unhide HS_a19) (.inr ⟨Bc, rfl, unhide HS_c19⟩)).mono ?_
  rintro e w20 ⟨Bt12, lt12, rfl, hS, hl, hm, hb⟩
  have hbt12 : lt12.length ≤ 120 := by omega
  have HM_t12 : Hid (∀ r, memB lt12 r = (memB la r && memB lc r)) := hide hm
  have HS := hide hS
  clear hS hl hm
  have HS_a20 := hide ((unhide HS_a19).below hb)
  have HS_b20 := hide ((unhide HS_b19).below hb)
  have HS_c20 := hide ((unhide HS_c19).below hb)
  have HS_u20 := hide ((unhide HS_u19).below hb)
  have HS_v20 := hide ((unhide HS_v19).below hb)
  have HS_n20 := hide ((unhide HS_n19).below hb)
  have HS_t1120 := hide ((unhide HS_t1119).below hb)
  have HX20 := hide ((unhide HX19).below hb (unhide HX19).lt)
  have HB20 := hide ((unhide HB19).trans (hb.mono (unhide HB19).size))
  clear hb HX19 HB19 HS_a19 HS_b19 HS_c19 HS_u19 HS_v19 HS_n19 HS_t1119
  have HS_t1220 := HS
  clear HS
  go_wp2_with fail
  refine (alg_union (.pointer (some ⟨X, 0, none⟩)) Bv _ lv lt12 (by omega) (by omega) w20 (unhide HS_v20) (.inr ⟨Bt12, rfl, unhide HS_t1220⟩)).mono ?_
  rintro e w21 ⟨Bt13, lt13, rfl, hS, hl, hm, hb⟩
  have hbt13 : lt13.length ≤ 240 := by omega
  have HM_t13 : Hid (∀ r, memB lt13 r = ((memB la r && memB lb r) || (memB la r && memB lc r))) := hide (fun r => (hm r).trans (by simp only []; rw [unhide HM_v r, unhide HM_t12 r]))
  have HS := hide hS
  clear hS hl hm
  have HS_a21 := hide ((unhide HS_a20).below hb)
  have HS_b21 := hide ((unhide HS_b20).below hb)
  have HS_c21 := hide ((unhide HS_c20).below hb)
  have HS_u21 := hide ((unhide HS_u20).below hb)
  have HS_v21 := hide ((unhide HS_v20).below hb)
  have HS_n21 := hide ((unhide HS_n20).below hb)
  have HS_t1121 := hide ((unhide HS_t1120).below hb)
  have HX21 := hide ((unhide HX20).below hb (unhide HX20).lt)
  have HB21 := hide ((unhide HB20).trans (hb.mono (unhide HB20).size))
  clear hb HX20 HB20 HS_a20 HS_b20 HS_c20 HS_u20 HS_v20 HS_n20 HS_t1120 HS_t1220
  have HS_t1321 := HS
  clear HS
  have hE : sameB lt11 lt13 = true := by
    rw [spread_unique lt11 lt13 (unhide HS_t1121).spread (unhide HS_t1321).spread (fun r => by
      rw [unhide HM_t11 r, unhide HM_t13 r]
      exact taut5 (mem_rune la r) (mem_rune lb r) (mem_rune lc r)
      )]
    exact sameB_refl _
  have HC := hide (same_any Bt11 _ lt11 lt13 w21 (unhide HS_t1121) (.inr ⟨Bt13, rfl, unhide HS_t1321⟩))
  rw [hE] at HC
  clear hE
  go_wp2_with fail
  refine (unhide HC).mono ?_
  rintro e w22 ⟨rfl, hb⟩
  clear HC
  have HS_a22 := hide ((unhide HS_a21).below hb)
  have HS_b22 := hide ((unhide HS_b21).below hb)
  have HS_c22 := hide ((unhide HS_c21).below hb)
  have HS_u22 := hide ((unhide HS_u21).below hb)
  have HS_v22 := hide ((unhide HS_v21).below hb)
  have HS_n22 := hide ((unhide HS_n21).below hb)
  have HX22 := hide ((unhide HX21).below hb (unhide HX21).lt)
  have HB22 := hide ((unhide HB21).trans (hb.mono (unhide HB21).size))
  clear hb HX21 HB21 HS_a21 HS_b21 HS_c21 HS_u21 HS_v21 HS_n21 HS_t1121 HS_t1321
  go_wp2_with fail
  refine (alg_meet (.pointer (some ⟨X, 0, none⟩)) Bb _ lb lc (by omega) (by omega) w22 (unhide HS_b22) (.inr ⟨Bc, rfl, unhide HS_c22⟩)).mono ?_
  rintro e w23 ⟨Bt14, lt14, rfl, hS, hl, hm, hb⟩
  have hbt14 : lt14.length ≤ 120 := by omega
  have HM_t14 : Hid (∀ r, memB lt14 r = (memB lb r && memB lc r)) := hide hm
  have HS := hide hS
  clear hS hl hm
  have HS_a23 := hide ((unhide HS_a22).below hb)
  have HS_b23 := hide ((unhide HS_b22).below hb)
  have HS_c23 := hide ((unhide HS_c22).below hb)
  have HS_u23 := hide ((unhide HS_u22).below hb)
  have HS_v23 := hide ((unhide HS_v22).below hb)
  have HS_n23 := hide ((unhide HS_n22).below hb)
  have HX23 := hide ((unhide HX22).below hb (unhide HX22).lt)
  have HB23 := hide ((unhide HB22).trans (hb.mono (unhide HB22).size))
  clear hb HX22 HB22 HS_a22 HS_b22 HS_c22 HS_u22 HS_v22 HS_n22
  have HS_t1423 := HS
  clear HS
  go_wp2_with fail
  refine (alg_union (.pointer (some ⟨X, 0, none⟩)) Ba _ la lt14 (by omega) (by omega) w23 (unhide HS_a23) (.inr ⟨Bt14, rfl, unhide HS_t1423⟩)).mono ?_
  rintro e w24 ⟨Bt15, lt15, rfl, hS, hl, hm, hb⟩
  have hbt15 : lt15.length ≤ 180 := by omega
  have HM_t15 : Hid (∀ r, memB lt15 r = (memB la r || (memB lb r && memB lc r))) := hide (fun r => (hm r).trans (by simp only []; rw [unhide HM_t14 r]))
  have HS := hide hS
  clear hS hl hm
  have HS_a24 := hide ((unhide HS_a23).below hb)
  have HS_b24 := hide ((unhide HS_b23).below hb)
  have HS_c24 := hide ((unhide HS_c23).below hb)
  have HS_u24 := hide ((unhide HS_u23).below hb)
  have HS_v24 := hide ((unhide HS_v23).below hb)
  have HS_n24 := hide ((unhide HS_n23).below hb)
  have HX24 := hide ((unhide HX23).below hb (unhide HX23).lt)
  have HB24 := hide ((unhide HB23).trans (hb.mono (unhide HB23).size))
  clear hb HX23 HB23 HS_a23 HS_b23 HS_c23 HS_u23 HS_v23 HS_n23 HS_t1423
  have HS_t1524 := HS
  clear HS
  go_wp2_with fail
  refine (alg_union (.pointer (some ⟨X, 0, none⟩)) Ba _ la lc (by omega) (by omega) w24 (unhide HS_a24) (.inr ⟨Bc, rfl, unhide HS_c24⟩)).mono ?_
  rintro e w25 ⟨Bt16, lt16, rfl, hS, hl, hm, hb⟩
  have hbt16 : lt16.length ≤ 120 := by omega
  have HM_t16 : Hid (∀ r, memB lt16 r = (memB la r || memB lc r)) := hide hm
  have HS := hide hS
  clear hS hl hm
  have HS_a25 := hide ((unhide HS_a24).below hb)
  have HS_b25 := hide ((unhide HS_b24).below hb)
  have HS_u25 := hide ((unhide HS_u24).below hb)
  have HS_v25 := hide ((unhide HS_v24).below hb)
  have HS_n25 := hide ((unhide HS_n24).below hb)
  have HS_t1525 := hide ((unhide HS_t1524).below hb)
  have HX25 := hide ((unhide HX24).below hb (unhide HX24).lt)
  have HB25 := hide ((unhide HB24).trans (hb.mono (unhide HB24).size))
  clear hb HX24 HB24 HS_a24 HS_b24 HS_c24 HS_u24 HS_v24 HS_n24 HS_t1524
  have HS_t1625 := HS
  clear HS
  go_wp2_with fail
  refine (alg_meet (.pointer (some ⟨X, 0, none⟩)) Bu _ lu lt16 (by omega) (by omega) w25 (unhide HS_u25) (.inr ⟨Bt16, rfl, unhide HS_t1625⟩)).mono ?_
  rintro e w26 ⟨Bt17, lt17, rfl, hS, hl, hm, hb⟩
  have hbt17 : lt17.length ≤ 240 := by omega
  have HM_t17 : Hid (∀ r, memB lt17 r = ((memB la r || memB lb r) && (memB la r || memB lc r))) := hide (fun r => (hm r).trans (by simp only []; rw [unhide HM_u r, unhide HM_t16 r]))
  have HS := hide hS
  clear hS hl hm
  have HS_a26 := hide ((unhide HS_a25).below hb)
  have HS_b26 := hide ((unhide HS_b25).below hb)
  have HS_u26 := hide ((unhide HS_u25).below hb)
  have HS_v26 := hide ((unhide HS_v25).below hb)
  have HS_n26 := hide ((unhide HS_n25).below hb)
  have HS_t1526 := hide ((unhide HS_t1525).below hb)
  have HX26 := hide ((unhide HX25).below hb (unhide HX25).lt)
  have HB26 := hide ((unhide HB25).trans (hb.mono (unhide HB25).size))
  clear hb HX25 HB25 HS_a25 HS_b25 HS_u25 HS_v25 HS_n25 HS_t1525 HS_t1625
  have HS_t1726 := HS
  clear HS
  have hE : sameB lt15 lt17 = true := by
    rw [spread_unique lt15 lt17 (unhide HS_t1526).spread (unhide HS_t1726).spread (fun r => by
      rw [unhide HM_t15 r, unhide HM_t17 r]
      exact taut6 (mem_rune la r) (mem_rune lb r) (mem_rune lc r)
      )]
    exact sameB_refl _
  have HC := hide (same_any Bt15 _ lt15 lt17 w26 (unhide HS_t1526) (.inr ⟨Bt17, rfl, unhide HS_t1726⟩))
  rw [hE] at HC
  clear hE
  go_wp2_with fail
  refine (unhide HC).mono ?_
  rintro e w27 ⟨rfl, hb⟩
  clear HC
  have HS_a27 := hide ((unhide HS_a26).below hb)
  have HS_b27 := hide ((unhide HS_b26).below hb)
  have HS_u27 := hide ((unhide HS_u26).below hb)
  have HS_v27 := hide ((unhide HS_v26).below hb)
  have HS_n27 := hide ((unhide HS_n26).below hb)
  have HX27 := hide ((unhide HX26).below hb (unhide HX26).lt)
  have HB27 := hide ((unhide HB26).trans (hb.mono (unhide HB26).size))
  clear hb HX26 HB26 HS_a26 HS_b26 HS_u26 HS_v26 HS_n26 HS_t1526 HS_t1726
  go_wp2_with fail
  refine (spans_any Ba la w27 (unhide HS_a27)).mono ?_
  rintro e w28 ⟨v, rfl, hown, hb⟩
  obtain ⟨av, cv, rfl, hrow, _, _⟩ := own_row hown
  have HRow := hide hrow
  clear hown hrow
  have HS_a28 := hide ((unhide HS_a27).below hb)
  have HS_b28 := hide ((unhide HS_b27).below hb)
  have HS_u28 := hide ((unhide HS_u27).below hb)
  have HS_v28 := hide ((unhide HS_v27).below hb)
  have HS_n28 := hide ((unhide HS_n27).below hb)
  have HX28 := hide ((unhide HX27).below hb (unhide HX27).lt)
  have HB28 := hide ((unhide HB27).trans (hb.mono (unhide HB27).size))
  clear hb HX27 HB27 HS_a27 HS_b27 HS_u27 HS_v27 HS_n27
  go_wp2_with fail
  refine (of_right av cv la (by omega) (unhide HS_a28).spread.ends _ (unhide HRow)).mono ?_
  rintro e w29 ⟨Bagain, lo9, lagain, rfl, h1, h2, h3, h4, h5, hb⟩
  have hbagain : lagain.length ≤ 60 := by omega
  have HM_again := hide h5
  have HS := hide (h2.set h3 (by omega))
  clear h1 h2 h3 h4 h5 HRow
  have HS_a29 := hide ((unhide HS_a28).below hb)
  have HS_b29 := hide ((unhide HS_b28).below hb)
  have HS_u29 := hide ((unhide HS_u28).below hb)
  have HS_v29 := hide ((unhide HS_v28).below hb)
  have HS_n29 := hide ((unhide HS_n28).below hb)
  have HX29 := hide ((unhide HX28).below hb (unhide HX28).lt)
  have HB29 := hide ((unhide HB28).trans (hb.mono (unhide HB28).size))
  clear hb HX28 HB28 HS_a28 HS_b28 HS_u28 HS_v28 HS_n28
  have HS_again29 := HS
  clear HS
  go_wp2_with fail
  refine (spans_any Ba la w29 (unhide HS_a29)).mono ?_
  rintro e w30 ⟨v, rfl, hown, hb⟩
  obtain ⟨av2, cv2, rfl, hrow, _, _⟩ := own_row hown
  have HRow := hide hrow
  clear hown hrow
  have HS_a30 := hide ((unhide HS_a29).below hb)
  have HS_b30 := hide ((unhide HS_b29).below hb)
  have HS_u30 := hide ((unhide HS_u29).below hb)
  have HS_v30 := hide ((unhide HS_v29).below hb)
  have HS_n30 := hide ((unhide HS_n29).below hb)
  have HS_again30 := hide ((unhide HS_again29).below hb)
  have HX30 := hide ((unhide HX29).below hb (unhide HX29).lt)
  have HB30 := hide ((unhide HB29).trans (hb.mono (unhide HB29).size))
  clear hb HX29 HB29 HS_a29 HS_b29 HS_u29 HS_v29 HS_n29 HS_again29
  have HC := hide (right_any av2 cv2 la (by omega) w30 (unhide HRow))
  rw [right_spread (unhide HS_a30).spread] at HC
  clear HRow
  go_wp2_with fail
  refine (unhide HC).mono ?_
  rintro e w31 ⟨rfl, hb⟩
  clear HC
  have HS_a31 := hide ((unhide HS_a30).below hb)
  have HS_b31 := hide ((unhide HS_b30).below hb)
  have HS_u31 := hide ((unhide HS_u30).below hb)
  have HS_v31 := hide ((unhide HS_v30).below hb)
  have HS_n31 := hide ((unhide HS_n30).below hb)
  have HS_again31 := hide ((unhide HS_again30).below hb)
  have HX31 := hide ((unhide HX30).below hb (unhide HX30).lt)
  have HB31 := hide ((unhide HB30).trans (hb.mono (unhide HB30).size))
  clear hb HX30 HB30 HS_a30 HS_b30 HS_u30 HS_v30 HS_n30 HS_again30
  have hE : sameB lagain la = true := by
    rw [spread_unique lagain la (unhide HS_again31).spread (unhide HS_a31).spread (fun r => by
      rw [unhide HM_again r]
      )]
    exact sameB_refl _
  have HC := hide (same_any Bagain _ lagain la w31 (unhide HS_again31) (.inr ⟨Ba, rfl, unhide HS_a31⟩))
  rw [hE] at HC
  clear hE
  go_wp2_with fail
  refine (unhide HC).mono ?_
  rintro e w32 ⟨rfl, hb⟩
  clear HC
  have HS_a32 := hide ((unhide HS_a31).below hb)
  have HS_b32 := hide ((unhide HS_b31).below hb)
  have HS_u32 := hide ((unhide HS_u31).below hb)
  have HS_v32 := hide ((unhide HS_v31).below hb)
  have HS_n32 := hide ((unhide HS_n31).below hb)
  have HX32 := hide ((unhide HX31).below hb (unhide HX31).lt)
  have HB32 := hide ((unhide HB31).trans (hb.mono (unhide HB31).size))
  clear hb HX31 HB31 HS_a31 HS_b31 HS_u31 HS_v31 HS_n31 HS_again31
  have hsum := total_union (unhide HS_u32).spread (unhide HS_v32).spread (unhide HS_a32).spread (unhide HS_b32).spread (unhide HM_u) (unhide HM_v)
  have hnot := total_not (unhide HS_n32).spread (unhide HS_a32).spread (unhide HM_n)
  have hza := total_zero (unhide HS_a32).spread
  have bu := total_bound (unhide HS_u32).spread.ends
  have HZu := hide (fun w hs => size_any Bu lu w hs)
  have bv := total_bound (unhide HS_v32).spread.ends
  have HZv := hide (fun w hs => size_any Bv lv w hs)
  have ba := total_bound (unhide HS_a32).spread.ends
  have HZa := hide (fun w hs => size_any Ba la w hs)
  have bb := total_bound (unhide HS_b32).spread.ends
  have HZb := hide (fun w hs => size_any Bb lb w hs)
  have bn := total_bound (unhide HS_n32).spread.ends
  have HZn := hide (fun w hs => size_any Bn ln w hs)
  generalize total lu = tu at *
  generalize total lv = tv at *
  generalize total la = ta at *
  generalize total lb = tb at *
  generalize total ln = tn at *
  have e1 : (tu + tv == ta + tb) = true := by simp [hsum]
  have e2 : (tn == 1112064 - ta) = true := by simp [hnot]
  have cu : 0 ≤ tu := bu.1
  have du : tu ≤ 1236686340096 := by omega
  have cv : 0 ≤ tv := bv.1
  have dv : tv ≤ 1236686340096 := by omega
  have ca : 0 ≤ ta := ba.1
  have da : ta ≤ 1236686340096 := by omega
  have cb : 0 ≤ tb := bb.1
  have db : tb ≤ 1236686340096 := by omega
  have cn : 0 ≤ tn := bn.1
  have dn : tn ≤ 1236686340096 := by omega
  have HQ := hide hza
  clear hsum hnot hza bu bv ba bb bn
  go_wp2_with fail
  refine (unhide HZu w32 (unhide HS_u32)).mono ?_
  rintro e w33 ⟨rfl, hb⟩
  have HS_a33 := hide ((unhide HS_a32).below hb)
  have HS_b33 := hide ((unhide HS_b32).below hb)
  have HS_u33 := hide ((unhide HS_u32).below hb)
  have HS_v33 := hide ((unhide HS_v32).below hb)
  have HS_n33 := hide ((unhide HS_n32).below hb)
  have HX33 := hide ((unhide HX32).below hb (unhide HX32).lt)
  have HB33 := hide ((unhide HB32).trans (hb.mono (unhide HB32).size))
  clear hb HX32 HB32 HS_a32 HS_b32 HS_u32 HS_v32 HS_n32
  go_wp2_with fail
  refine (unhide HZv w33 (unhide HS_v33)).mono ?_
  rintro e w34 ⟨rfl, hb⟩
  have HS_a34 := hide ((unhide HS_a33).below hb)
  have HS_b34 := hide ((unhide HS_b33).below hb)
  have HS_u34 := hide ((unhide HS_u33).below hb)
  have HS_v34 := hide ((unhide HS_v33).below hb)
  have HS_n34 := hide ((unhide HS_n33).below hb)
  have HX34 := hide ((unhide HX33).below hb (unhide HX33).lt)
  have HB34 := hide ((unhide HB33).trans (hb.mono (unhide HB33).size))
  clear hb HX33 HB33 HS_a33 HS_b33 HS_u33 HS_v33 HS_n33
  go_wp2_with fail
  refine (unhide HZa w34 (unhide HS_a34)).mono ?_
  rintro e w35 ⟨rfl, hb⟩
  have HS_a35 := hide ((unhide HS_a34).below hb)
  have HS_b35 := hide ((unhide HS_b34).below hb)
  have HS_u35 := hide ((unhide HS_u34).below hb)
  have HS_v35 := hide ((unhide HS_v34).below hb)
  have HS_n35 := hide ((unhide HS_n34).below hb)
  have HX35 := hide ((unhide HX34).below hb (unhide HX34).lt)
  have HB35 := hide ((unhide HB34).trans (hb.mono (unhide HB34).size))
  clear hb HX34 HB34 HS_a34 HS_b34 HS_u34 HS_v34 HS_n34
  go_wp2_with fail
  refine (unhide HZb w35 (unhide HS_b35)).mono ?_
  rintro e w36 ⟨rfl, hb⟩
  have HS_a36 := hide ((unhide HS_a35).below hb)
  have HS_b36 := hide ((unhide HS_b35).below hb)
  have HS_u36 := hide ((unhide HS_u35).below hb)
  have HS_v36 := hide ((unhide HS_v35).below hb)
  have HS_n36 := hide ((unhide HS_n35).below hb)
  have HX36 := hide ((unhide HX35).below hb (unhide HX35).lt)
  have HB36 := hide ((unhide HB35).trans (hb.mono (unhide HB35).size))
  clear hb HX35 HB35 HS_a35 HS_b35 HS_u35 HS_v35 HS_n35
  go_wp2_with fail
  refine (unhide HZn w36 (unhide HS_n36)).mono ?_
  rintro e w37 ⟨rfl, hb⟩
  have HS_a37 := hide ((unhide HS_a36).below hb)
  have HS_b37 := hide ((unhide HS_b36).below hb)
  have HS_u37 := hide ((unhide HS_u36).below hb)
  have HS_v37 := hide ((unhide HS_v36).below hb)
  have HS_n37 := hide ((unhide HS_n36).below hb)
  have HX37 := hide ((unhide HX36).below hb (unhide HX36).lt)
  have HB37 := hide ((unhide HB36).trans (hb.mono (unhide HB36).size))
  clear hb HX36 HB36 HS_a36 HS_b36 HS_u36 HS_v36 HS_n36
  go_wp2_with fail
  refine (unhide HZa w37 (unhide HS_a37)).mono ?_
  rintro e w38 ⟨rfl, hb⟩
  have HS_a38 := hide ((unhide HS_a37).below hb)
  have HS_b38 := hide ((unhide HS_b37).below hb)
  have HS_u38 := hide ((unhide HS_u37).below hb)
  have HS_v38 := hide ((unhide HS_v37).below hb)
  have HS_n38 := hide ((unhide HS_n37).below hb)
  have HX38 := hide ((unhide HX37).below hb (unhide HX37).lt)
  have HB38 := hide ((unhide HB37).trans (hb.mono (unhide HB37).size))
  clear hb HX37 HB37 HS_a37 HS_b37 HS_u37 HS_v37 HS_n37
  clear HZu HZv HZb HZn
  clear HS_b38
  clear HS_u38
  clear HS_v38
  clear HS_n38
  go_wp2_with fail
  refine (alg_union (.pointer (some ⟨X, 0, none⟩)) Ba none la [] (by omega) (by simp) w38 (unhide HS_a38) (.inl ⟨rfl, rfl⟩)).mono ?_
  rintro e w39 ⟨Bt18, lt18, rfl, hS, hl, hm, hb⟩
  have hbt18 : lt18.length ≤ 60 := by simp at hl; omega
  have HM_t18 : Hid (∀ r, memB lt18 r = (memB la r || false)) := hide (fun r => (hm r).trans (by simp only []; rfl))
  have HS := hide hS
  clear hS hl hm
  have HS_a39 := hide ((unhide HS_a38).below hb)
  have HX39 := hide ((unhide HX38).below hb (unhide HX38).lt)
  have HB39 := hide ((unhide HB38).trans (hb.mono (unhide HB38).size))
  clear hb HX38 HB38 HS_a38
  have HS_t1839 := HS
  clear HS
  have hE : sameB lt18 la = true := by
    rw [spread_unique lt18 la (unhide HS_t1839).spread (unhide HS_a39).spread (fun r => by
      rw [unhide HM_t18 r]
      exact taut7 (mem_rune la r) (mem_rune lb r) (mem_rune lc r)
      )]
    exact sameB_refl _
  have HC := hide (same_any Bt18 _ lt18 la w39 (unhide HS_t1839) (.inr ⟨Ba, rfl, unhide HS_a39⟩))
  rw [hE] at HC
  clear hE
  go_wp2_with fail
  refine (unhide HC).mono ?_
  rintro e w40 ⟨rfl, hb⟩
  clear HC
  have HS_a40 := hide ((unhide HS_a39).below hb)
  have HX40 := hide ((unhide HX39).below hb (unhide HX39).lt)
  have HB40 := hide ((unhide HB39).trans (hb.mono (unhide HB39).size))
  clear hb HX39 HB39 HS_a39 HS_t1839
  go_wp2_with fail
  refine (alg_meet (.pointer (some ⟨X, 0, none⟩)) Ba none la [] (by omega) (by simp) w40 (unhide HS_a40) (.inl ⟨rfl, rfl⟩)).mono ?_
  rintro e w41 ⟨Bt19, lt19, rfl, hS, hl, hm, hb⟩
  have hbt19 : lt19.length ≤ 60 := by simp at hl; omega
  have HM_t19 : Hid (∀ r, memB lt19 r = (memB la r && false)) := hide (fun r => (hm r).trans (by simp only []; rfl))
  have HS := hide hS
  clear hS hl hm
  have HS_a41 := hide ((unhide HS_a40).below hb)
  have HX41 := hide ((unhide HX40).below hb (unhide HX40).lt)
  have HB41 := hide ((unhide HB40).trans (hb.mono (unhide HB40).size))
  clear hb HX40 HB40 HS_a40
  have HS_t1941 := HS
  clear HS
  have hE : lt19 = [] := spread_unique lt19 [] (unhide HS_t1941).spread spread_none (fun r => by rw [unhide HM_t19 r]; cases memB la r <;> rfl)
  have HC := hide (size_any Bt19 lt19 w41 (unhide HS_t1941))
  rw [show total lt19 = 0 by rw [hE]; rfl] at HC
  clear hE
  go_wp2_with fail
  refine (unhide HC).mono ?_
  rintro e w42 ⟨rfl, hb⟩
  clear HC
  have HS_a42 := hide ((unhide HS_a41).below hb)
  have HX42 := hide ((unhide HX41).below hb (unhide HX41).lt)
  have HB42 := hide ((unhide HB41).trans (hb.mono (unhide HB41).size))
  clear hb HX41 HB41 HS_a41 HS_t1941
  go_wp2_with fail
  refine (alg_minus (.pointer (some ⟨X, 0, none⟩)) Ba none la [] (by omega) (by simp) w42 (unhide HS_a42) (.inl ⟨rfl, rfl⟩)).mono ?_
  rintro e w43 ⟨Bt20, lt20, rfl, hS, hl, hm, hb⟩
  have hbt20 : lt20.length ≤ 61 := by simp at hl; omega
  have HM_t20 : Hid (∀ r, memB lt20 r = (memB la r && !false)) := hide (fun r => (hm r).trans (by simp only []; rfl))
  have HS := hide hS
  clear hS hl hm
  have HS_a43 := hide ((unhide HS_a42).below hb)
  have HX43 := hide ((unhide HX42).below hb (unhide HX42).lt)
  have HB43 := hide ((unhide HB42).trans (hb.mono (unhide HB42).size))
  clear hb HX42 HB42 HS_a42
  have HS_t2043 := HS
  clear HS
  have hE : sameB lt20 la = true := by
    rw [spread_unique lt20 la (unhide HS_t2043).spread (unhide HS_a43).spread (fun r => by
      rw [unhide HM_t20 r]
      exact taut8 (mem_rune la r) (mem_rune lb r) (mem_rune lc r)
      )]
    exact sameB_refl _
  have HC := hide (same_any Bt20 _ lt20 la w43 (unhide HS_t2043) (.inr ⟨Ba, rfl, unhide HS_a43⟩))
  rw [hE] at HC
  clear hE
  go_wp2_with fail
  refine (unhide HC).mono ?_
  rintro e w44 ⟨rfl, hb⟩
  clear HC
  have HS_a44 := hide ((unhide HS_a43).below hb)
  have HX44 := hide ((unhide HX43).below hb (unhide HX43).lt)
  have HB44 := hide ((unhide HB43).trans (hb.mono (unhide HB43).size))
  clear hb HX43 HB43 HS_a43 HS_t2043
  have HC := hide (same_any Ba none la [] w44 (unhide HS_a44) (.inl ⟨rfl, rfl⟩))
  have HQ2 : Hid ((ta == 0) = sameB la []) := hide (unhide HQ)
  generalize sameB la [] = q at *
  clear HQ
  go_wp2_with fail
  refine (unhide HC).mono ?_
  rintro e w45 ⟨rfl, hb⟩
  clear HC
  have HS_a45 := hide ((unhide HS_a44).below hb)
  have HX45 := hide ((unhide HX44).below hb (unhide HX44).lt)
  have HB45 := hide ((unhide HB44).trans (hb.mono (unhide HB44).size))
  clear hb HX44 HB44 HS_a44
  go_wp2_with fail
  refine (unhide HZa w45 (unhide HS_a45)).mono ?_
  rintro e w46 ⟨rfl, hb⟩
  have HX46 := hide ((unhide HX45).below hb (unhide HX45).lt)
  have HB46 := hide ((unhide HB45).trans (hb.mono (unhide HB45).size))
  clear hb HX45 HB45 HS_a45
  have x0 := (unhide HX46).cell 0
  have hq := unhide HQ2
  clear HQ2
  cases q with
  | true =>
    go_wp2
    go_ret
    exact ⟨rfl, unhide HB46⟩
  | false =>
    go_wp2
    go_ret
    exact ⟨rfl, unhide HB46⟩
end Go.Proofs.Ytodikfaddfojgaa
