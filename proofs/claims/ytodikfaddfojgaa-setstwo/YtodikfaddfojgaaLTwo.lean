/- SetsTwo: what is made of any two sets is what the reference says. -/
import Derived.Test.YtodikfaddfojgaaLMade
import Derived.Test.YtodikfaddfojgaaSetUnion
import Derived.Test.YtodikfaddfojgaaSetMinus
import Derived.Test.YtodikfaddfojgaaSetSameG
import Derived.Test.YtodikfaddfojgaaRefMeet
import Derived.Test.YtodikfaddfojgaaArgP
namespace Go.Proofs.Ytodikfaddfojgaa
open Go.RowKit Go.Shelf
set_option linter.unusedVariables false
theorem SomeAt.below {W W' : World} {p : Option Addr} {ys : List (Int × Int)} (h : SomeAt W p ys) (hb : Below W.heap.size W W') : SomeAt W' p ys := by
  rcases h with h | ⟨C, h1, h2⟩
  · exact .inl h
  · exact .inr ⟨C, h1, h2.below hb⟩
/-- made at any list: a set or none, and its spans. -/
theorem made_any (a : Option Addr) (cap : Nat) (l : List (Int × Int)) (hl : l.length ≤ 60) (hf : ∀ x ∈ l, fitB x) (w : World) (hr : RowP w a l) :
    Calls Try.prog 7 #[.slice a l.length cap] w fun e w' => ∃ (p b : Option Addr) (c : Nat) (zs : List (Int × Int)), e = .returned (.tuple #[.pointer p, .slice b zs.length c, .bool true]) ∧ SomeAt w' p zs ∧ RowP w' b zs ∧ zs.length ≤ 60 ∧ Below w.heap.size w w' := by
  rcases errOf_cases l with ⟨_, hR⟩ | h
  · refine (made_right a cap l (by omega) hR hf w hr).mono ?_
    rintro e w' ⟨B, lo0, lo1, zs, v, rfl, h1, h2, h3, h4, h5, h6, h7, h8⟩
    obtain ⟨b, c, rfl, hrow, _, _⟩ := own_row h4
    exact ⟨_, b, c, zs, rfl, .inr ⟨B, rfl, h3.set h5 (by omega)⟩, hrow, by omega, h8⟩
  · have hE : errOf l ≠ 0 := by rcases h with ⟨h, _⟩ | ⟨h, _⟩ <;> omega
    refine (made_wrong a cap l (by omega) hE hf w hr).mono ?_
    rintro e w' ⟨rfl, h8⟩
    exact ⟨none, none, 0, [], rfl, .inl ⟨rfl, rfl⟩, fun h => by simp at h, by simp, h8⟩
set_option maxRecDepth 100000 in
set_option maxHeartbeats 40000000 in
theorem law_two (a : Option Addr) (cap : Nat) (zs : List (Int × Int)) (hf : ∀ x ∈ zs, fitB x) (hcap : zs.length ≤ cap) (b : Option Addr) (capb : Nat) (ts : List (Int × Int)) (hg : ∀ x ∈ ts, fitB x) (hcapb : ts.length ≤ capb) (w : World) (hr : RowP w a zs) (hs : RowP w b ts) :
    Calls Try.prog 3 #[.slice a zs.length cap, .slice b ts.length capb] w fun e w' => e = .returned (.bool true) ∧ Below w.heap.size w w' := by
  have HR := hide hr
  have HT := hide hs
  have HF := hide hf
  have HG := hide hg
  clear hr hs hf hg
  go_enter Try.func3, Try.ntmps3
  go_wp2_with fail
  refine (alive_any _).mono ?_
  rintro e w1 ⟨rfl, hb1⟩
  have HB1 := hide hb1
  have HR1 := hide ((unhide HR).below hb1)
  have HT1 := hide ((unhide HT).below hb1)
  clear hb1 HR HT
  go_wp2_with fail
  refine (few_any a cap zs hcap w1).mono ?_
  rintro e w1' ⟨rfl, rfl⟩
  obtain ⟨xs, hxs⟩ : ∃ xs, xs = zs.take 60 := ⟨_, rfl⟩
  have HRx : Hid (RowP w1' a xs) := hide (by rw [hxs]; exact (unhide HR1).take 60)
  have HFx : Hid (∀ x ∈ xs, fitB x) := hide (by rw [hxs]; exact fun x hx => unhide HF x (List.mem_of_mem_take hx))
  have hxl : xs.length ≤ 60 := by rw [hxs, List.length_take]; omega
  rw [← hxs]
  clear hxs HR1 HF
  go_wp2_with fail
  refine (made_any a cap xs hxl (unhide HFx) w1' (unhide HRx)).mono ?_
  rintro e w2 ⟨pa, ax, cx, la, rfl, hsa, hra, hla, hb2⟩
  have HSa2 := hide hsa
  have HRa2 := hide hra
  have HB2 := hide ((unhide HB1).trans (hb2.mono (unhide HB1).size))
  have HT2 := hide ((unhide HT1).below hb2)
  clear hsa hra hb2 HB1 HT1 HRx HFx
  go_wp2_with fail
  refine (few_any b capb ts hcapb w2).mono ?_
  rintro e w2' ⟨rfl, rfl⟩
  obtain ⟨ys, hys⟩ : ∃ ys, ys = ts.take 60 := ⟨_, rfl⟩
  have HTx : Hid (RowP w2' b ys) := hide (by rw [hys]; exact (unhide HT2).take 60)
  have HGx : Hid (∀ x ∈ ys, fitB x) := hide (by rw [hys]; exact fun x hx => unhide HG x (List.mem_of_mem_take hx))
  have hyl : ys.length ≤ 60 := by rw [hys, List.length_take]; omega
  rw [← hys]
  clear hys HT2 HG
  go_wp2_with fail
  refine (made_any b capb ys hyl (unhide HGx) w2' (unhide HTx)).mono ?_
  rintro e w0 ⟨p, ay, cy, lb, rfl, hsb, hrb, hlb, hb3⟩
  have HP_b0 := hide hsb
  have HR_y0 := hide hrb
  have HSa0 := hide ((unhide HSa2).below hb3)
  have HR_x0 := hide ((unhide HRa2).below hb3)
  have HB0 := hide ((unhide HB2).trans (hb3.mono (unhide HB2).size))
  have HSPa := hide (unhide HSa2).spread
  have HSPb := hide hsb.spread
  clear hsb hrb hb3 HSa2 HRa2 HB2 HTx HGx
  rcases unhide HSa0 with ⟨rfl, rfl⟩ | ⟨Ba, rfl, hA⟩
  · go_wp2
    go_ret
    exact ⟨rfl, unhide HB0⟩
  · have HS_a0 := hide hA
    clear hA HSa0
    go_wp2_with fail
    refine (union_any Ba p la lb (by omega) (by omega) w0 (unhide HS_a0) (unhide HP_b0)).mono ?_
    rintro e w1 ⟨Bu, lou_, lu, rfl, h1, h2, h3, h4, hm, hb⟩
    have hbu : lu.length ≤ 122 := by omega
    have HM_u := hide hm
    have HSn := hide (h2.set h3 (by omega))
    clear h1 h2 h3 h4 hm
    have HS_a1 := hide ((unhide HS_a0).below hb)
    have HP_b1 := hide ((unhide HP_b0).below hb)
    have HR_x1 := hide ((unhide HR_x0).below hb)
    have HR_y1 := hide ((unhide HR_y0).below hb)
    have HB1 := hide ((unhide HB0).trans (hb.mono (unhide HB0).size))
    clear hb HB0 HS_a0 HP_b0 HR_x0 HR_y0
    have HS_u1 := HSn
    clear HSn
    go_wp2_with fail
    refine (meet_any Ba p la lb (by omega) (by omega) w1 (unhide HS_a1) (unhide HP_b1)).mono ?_
    rintro e w2 ⟨Bv, lov_, lv, rfl, h1, h2, h3, h4, hm, hb⟩
    have hbv : lv.length ≤ 122 := by omega
    have HM_v := hide hm
    have HSn := hide (h2.set h3 (by omega))
    clear h1 h2 h3 h4 hm
    have HS_a2 := hide ((unhide HS_a1).below hb)
    have HP_b2 := hide ((unhide HP_b1).below hb)
    have HR_x2 := hide ((unhide HR_x1).below hb)
    have HR_y2 := hide ((unhide HR_y1).below hb)
    have HS_u2 := hide ((unhide HS_u1).below hb)
    have HB2 := hide ((unhide HB1).trans (hb.mono (unhide HB1).size))
    clear hb HB1 HS_a1 HP_b1 HR_x1 HR_y1 HS_u1
    have HS_v2 := HSn
    clear HSn
    go_wp2_with fail
    refine (minus_any Ba p la lb (by omega) (by omega) w2 (unhide HS_a2) (unhide HP_b2)).mono ?_
    rintro e w3 ⟨Bd, lod_, ld, rfl, h1, h2, h3, h4, hm, hb⟩
    have hbd : ld.length ≤ 122 := by omega
    have HM_d := hide hm
    have HSn := hide (h2.set h3 (by omega))
    clear h1 h2 h3 h4 hm
    have HS_a3 := hide ((unhide HS_a2).below hb)
    have HP_b3 := hide ((unhide HP_b2).below hb)
    have HR_x3 := hide ((unhide HR_x2).below hb)
    have HR_y3 := hide ((unhide HR_y2).below hb)
    have HS_u3 := hide ((unhide HS_u2).below hb)
    have HS_v3 := hide ((unhide HS_v2).below hb)
    have HB3 := hide ((unhide HB2).trans (hb.mono (unhide HB2).size))
    clear hb HB2 HS_a2 HP_b2 HR_x2 HR_y2 HS_u2 HS_v2
    have HS_d3 := HSn
    clear HSn
    go_wp2_with fail
    refine (not_any Ba la (by omega) w3 (unhide HS_a3)).mono ?_
    rintro e w4 ⟨Bn, lon_, ln, rfl, h1, h2, h3, h4, hm, hb⟩
    have hbn : ln.length ≤ 122 := by omega
    have HM_n := hide hm
    have HSn := hide (h2.set h3 (by omega))
    clear h1 h2 h3 h4 hm
    have HS_a4 := hide ((unhide HS_a3).below hb)
    have HP_b4 := hide ((unhide HP_b3).below hb)
    have HR_x4 := hide ((unhide HR_x3).below hb)
    have HR_y4 := hide ((unhide HR_y3).below hb)
    have HS_u4 := hide ((unhide HS_u3).below hb)
    have HS_v4 := hide ((unhide HS_v3).below hb)
    have HS_d4 := hide ((unhide HS_d3).below hb)
    have HB4 := hide ((unhide HB3).trans (hb.mono (unhide HB3).size))
    clear hb HB3 HS_a3 HP_b3 HR_x3 HR_y3 HS_u3 HS_v3 HS_d3
    have HS_n4 := HSn
    clear HSn
    have HE1 := hide (same_any Ba p la lb w4 (unhide HS_a4) (unhide HP_b4))
    have HE2 := hide (fun w hx hy => sameP_any ax ay cx cy la lb (by omega) (by omega) w hx hy)
    generalize sameB la lb = q at *
    have hqq : (q != q) = false := by cases q <;> rfl
    go_wp2_with fail
    refine (unhide HE1).mono ?_
    rintro e w5 ⟨rfl, hb⟩
    clear HE1
    have HS_a5 := hide ((unhide HS_a4).below hb)
    have HP_b5 := hide ((unhide HP_b4).below hb)
    have HR_x5 := hide ((unhide HR_x4).below hb)
    have HR_y5 := hide ((unhide HR_y4).below hb)
    have HS_u5 := hide ((unhide HS_u4).below hb)
    have HS_v5 := hide ((unhide HS_v4).below hb)
    have HS_d5 := hide ((unhide HS_d4).below hb)
    have HS_n5 := hide ((unhide HS_n4).below hb)
    have HB5 := hide ((unhide HB4).trans (hb.mono (unhide HB4).size))
    clear hb HB4 HS_a4 HP_b4 HR_x4 HR_y4 HS_u4 HS_v4 HS_d4 HS_n4
    go_wp2_with fail
    refine (unhide HE2 w5 (unhide HR_x5) (unhide HR_y5)).mono ?_
    rintro e w6 ⟨rfl, hb⟩
    clear HE2
    have HS_a6 := hide ((unhide HS_a5).below hb)
    have HR_x6 := hide ((unhide HR_x5).below hb)
    have HR_y6 := hide ((unhide HR_y5).below hb)
    have HS_u6 := hide ((unhide HS_u5).below hb)
    have HS_v6 := hide ((unhide HS_v5).below hb)
    have HS_d6 := hide ((unhide HS_d5).below hb)
    have HS_n6 := hide ((unhide HS_n5).below hb)
    have HB6 := hide ((unhide HB5).trans (hb.mono (unhide HB5).size))
    clear hb HB5 HS_a5 HP_b5 HR_x5 HR_y5 HS_u5 HS_v5 HS_d5 HS_n5
    obtain ⟨v1, z1, hr1, ho1, hg1⟩ := appendP_run w6 w6.heap.size (.slice none 0 0) [] la ax cx (by simp) (by omega) (World.ownsRow_nil _ _ _ _) (unhide HR_x6) (Nat.le_refl _)
    rw [List.nil_append] at ho1
    have hbz1 : Below w6.heap.size w6 z1 := (Below.refl _ _).grown hg1 (Nat.le_refl _) (fun k e => by simp [Value.ownBlock] at e)
    obtain ⟨v2, w7, hr2, ho2, hg2⟩ := appendP_run z1 w6.heap.size v1 la lb ay cy (by omega) (by omega) ho1 ((unhide HR_y6).below hbz1) hbz1.size
    have hbz2 : Below w6.heap.size w6 w7 := hbz1.grown hg2 hbz1.size (fun k e => (ho1.lt k e).1)
    have hlb : (la ++ lb).length ≤ 120 := by simp; omega
    have hmb : ∀ r, memB (la ++ lb) r = (memB la r || memB lb r) := memB_append la lb
    have HRt : Hid (RightL (la ++ lb)) := hide (right_both (unhide HSPa) (unhide HSPb))
    generalize la ++ lb = lboth at *
    obtain ⟨aboth, cboth, rfl, hrow, _, _⟩ := own_row ho2
    have HRw := hide hrow
    have HR1 := hide hr1
    have HR2 := hide hr2
    have hb := hbz2
    have HMb := hide hmb
    clear hr1 ho1 hg1 hbz1 hr2 ho2 hg2 hbz2 hrow hmb
    go_wp2_with (first | (at_builtin; refine Lib.wpList_append_run _ rfl _ _ 22 22 rfl (.slice none 0 0) (.slice ax la.length cx) rfl rfl v1 z1 (unhide HR1) ?_) | (at_builtin; refine Lib.wpList_append_run _ rfl _ _ 22 22 rfl v1 (.slice ay lb.length cy) rfl rfl _ w7 (unhide HR2) ?_) | fail)
    have HS_a7 := hide ((unhide HS_a6).below hb)
    have HR_x7 := hide ((unhide HR_x6).below hb)
    have HR_y7 := hide ((unhide HR_y6).below hb)
    have HS_u7 := hide ((unhide HS_u6).below hb)
    have HS_v7 := hide ((unhide HS_v6).below hb)
    have HS_d7 := hide ((unhide HS_d6).below hb)
    have HS_n7 := hide ((unhide HS_n6).below hb)
    have HB7 := hide ((unhide HB6).trans (hb.mono (unhide HB6).size))
    have HR_both7 := HRw
    clear hb HB6 HS_a6 HR_x6 HR_y6 HS_u6 HS_v6 HS_d6 HS_n6 HR1 HR2 HRw
    go_wp2_with fail
    refine (spans_any Bu lu w7 (unhide HS_u7)).mono ?_
    rintro e w8 ⟨v, rfl, hown, hb⟩
    have HSqu := hide (unhide HS_u7).spread
    obtain ⟨asu, csu, rfl, hrow, _, _⟩ := own_row hown
    have HRw := hide hrow
    clear hown hrow
    have HS_a8 := hide ((unhide HS_a7).below hb)
    have HR_x8 := hide ((unhide HR_x7).below hb)
    have HR_y8 := hide ((unhide HR_y7).below hb)
    have HS_v8 := hide ((unhide HS_v7).below hb)
    have HS_d8 := hide ((unhide HS_d7).below hb)
    have HS_n8 := hide ((unhide HS_n7).below hb)
    have HR_both8 := hide ((unhide HR_both7).below hb)
    have HB8 := hide ((unhide HB7).trans (hb.mono (unhide HB7).size))
    clear hb HB7 HS_a7 HR_x7 HR_y7 HS_u7 HS_v7 HS_d7 HS_n7 HR_both7
    have HR_su8 := HRw
    clear HRw
    go_wp2_with fail
    refine (refSpans_any aboth cboth lboth (by omega) (unhide HRt) w8 (unhide HR_both8)).mono ?_
    rintro e w9 ⟨v, lo1, rfl, hown, hsp, hm, hb⟩
    have HSo1 := hide hsp
    have HMo1 : Hid (∀ r, memB lo1 r = (memB la r || memB lb r)) := hide (fun r => (hm r).trans (unhide HMb r))
    obtain ⟨ao1, co1, rfl, hrow, _, _⟩ := own_row hown
    have HRw := hide hrow
    clear hown hrow hsp hm
    have HS_a9 := hide ((unhide HS_a8).below hb)
    have HR_x9 := hide ((unhide HR_x8).below hb)
    have HR_y9 := hide ((unhide HR_y8).below hb)
    have HS_v9 := hide ((unhide HS_v8).below hb)
    have HS_d9 := hide ((unhide HS_d8).below hb)
    have HS_n9 := hide ((unhide HS_n8).below hb)
    have HR_su9 := hide ((unhide HR_su8).below hb)
    have HB9 := hide ((unhide HB8).trans (hb.mono (unhide HB8).size))
    clear hb HB8 HS_a8 HR_x8 HR_y8 HS_v8 HS_d8 HS_n8 HR_both8 HR_su8
    have HR_o19 := HRw
    clear HRw
    have hE : lu = lo1 := spread_unique lu lo1 (unhide HSqu) (unhide HSo1) (fun r => (unhide HM_u r).trans (unhide HMo1 r).symm)
    have HR_yy := hide (unhide HR_o19)
    have HC := hide (sameP_any asu ao1 csu co1 lu lo1 (by omega) (by rw [← hE]; omega) w9 (unhide HR_su9) (unhide HR_o19))
    rw [show sameB lu lo1 = true by rw [hE]; exact sameB_refl _] at HC
    clear hE HR_yy
    go_wp2_with fail
    refine (unhide HC).mono ?_
    rintro e w10 ⟨rfl, hb⟩
    clear HC
    have HS_a10 := hide ((unhide HS_a9).below hb)
    have HR_x10 := hide ((unhide HR_x9).below hb)
    have HR_y10 := hide ((unhide HR_y9).below hb)
    have HS_v10 := hide ((unhide HS_v9).below hb)
    have HS_d10 := hide ((unhide HS_d9).below hb)
    have HS_n10 := hide ((unhide HS_n9).below hb)
    have HB10 := hide ((unhide HB9).trans (hb.mono (unhide HB9).size))
    clear hb HB9 HS_a9 HR_x9 HR_y9 HS_v9 HS_d9 HS_n9 HR_su9 HR_o19
    go_wp2_with fail
    refine (spans_any Bv lv w10 (unhide HS_v10)).mono ?_
    rintro e w11 ⟨v, rfl, hown, hb⟩
    have HSqv := hide (unhide HS_v10).spread
    obtain ⟨asv, csv, rfl, hrow, _, _⟩ := own_row hown
    have HRw := hide hrow
    clear hown hrow
    have HS_a11 := hide ((unhide HS_a10).below hb)
    have HR_x11 := hide ((unhide HR_x10).below hb)
    have HR_y11 := hide ((unhide HR_y10).below hb)
    have HS_d11 := hide ((unhide HS_d10).below hb)
    have HS_n11 := hide ((unhide HS_n10).below hb)
    have HB11 := hide ((unhide HB10).trans (hb.mono (unhide HB10).size))
    clear hb HB10 HS_a10 HR_x10 HR_y10 HS_v10 HS_d10 HS_n10
    have HR_sv11 := HRw
    clear HRw
    go_wp2_with fail
    refine (refMeet_any ax ay cx cy la lb (by omega) (by omega) (unhide HSPa) (unhide HSPb) w11 (unhide HR_x11) (unhide HR_y11)).mono ?_
    rintro e w12 ⟨v, lo2, rfl, hown, hsp, hm, hb⟩
    have HSo2 := hide hsp
    have HMo2 := hide hm
    obtain ⟨ao2, co2, rfl, hrow, _, _⟩ := own_row hown
    have HRw := hide hrow
    clear hown hrow hsp hm
    have HS_a12 := hide ((unhide HS_a11).below hb)
    have HR_x12 := hide ((unhide HR_x11).below hb)
    have HR_y12 := hide ((unhide HR_y11).below hb)
    have HS_d12 := hide ((unhide HS_d11).below hb)
    have HS_n12 := hide ((unhide HS_n11).below hb)
    have HR_sv12 := hide ((unhide HR_sv11).below hb)
    have HB12 := hide ((unhide HB11).trans (hb.mono (unhide HB11).size))
    clear hb HB11 HS_a11 HR_x11 HR_y11 HS_d11 HS_n11 HR_sv11
    have HR_o212 := HRw
    clear HRw
    have hE : lv = lo2 := spread_unique lv lo2 (unhide HSqv) (unhide HSo2) (fun r => (unhide HM_v r).trans (unhide HMo2 r).symm)
    have HR_yy := hide (unhide HR_o212)
    have HC := hide (sameP_any asv ao2 csv co2 lv lo2 (by omega) (by rw [← hE]; omega) w12 (unhide HR_sv12) (unhide HR_o212))
    rw [show sameB lv lo2 = true by rw [hE]; exact sameB_refl _] at HC
    clear hE HR_yy
    go_wp2_with fail
    refine (unhide HC).mono ?_
    rintro e w13 ⟨rfl, hb⟩
    clear HC
    have HS_a13 := hide ((unhide HS_a12).below hb)
    have HR_x13 := hide ((unhide HR_x12).below hb)
    have HR_y13 := hide ((unhide HR_y12).below hb)
    have HS_d13 := hide ((unhide HS_d12).below hb)
    have HS_n13 := hide ((unhide HS_n12).below hb)
    have HB13 := hide ((unhide HB12).trans (hb.mono (unhide HB12).size))
    clear hb HB12 HS_a12 HR_x12 HR_y12 HS_d12 HS_n12 HR_sv12 HR_o212
    go_wp2_with fail
    refine (spans_any Bd ld w13 (unhide HS_d13)).mono ?_
    rintro e w14 ⟨v, rfl, hown, hb⟩
    have HSqd := hide (unhide HS_d13).spread
    obtain ⟨asd, csd, rfl, hrow, _, _⟩ := own_row hown
    have HRw := hide hrow
    clear hown hrow
    have HS_a14 := hide ((unhide HS_a13).below hb)
    have HR_x14 := hide ((unhide HR_x13).below hb)
    have HR_y14 := hide ((unhide HR_y13).below hb)
    have HS_n14 := hide ((unhide HS_n13).below hb)
    have HB14 := hide ((unhide HB13).trans (hb.mono (unhide HB13).size))
    clear hb HB13 HS_a13 HR_x13 HR_y13 HS_d13 HS_n13
    have HR_sd14 := HRw
    clear HRw
    go_wp2_with fail
    refine (refNot_any ay cy lb (by omega) (unhide HSPb) w14 (unhide HR_y14)).mono ?_
    rintro e w15 ⟨v, lo3, rfl, hown, hsp, hl, hm, hb⟩
    have hlo3l : lo3.length ≤ 61 := by omega
    have HSo3 := hide hsp
    have HMo3 := hide hm
    obtain ⟨ao3, co3, rfl, hrow, _, _⟩ := own_row hown
    have HRw := hide hrow
    clear hown hrow hsp hm hl
    have HS_a15 := hide ((unhide HS_a14).below hb)
    have HR_x15 := hide ((unhide HR_x14).below hb)
    have HS_n15 := hide ((unhide HS_n14).below hb)
    have HR_sd15 := hide ((unhide HR_sd14).below hb)
    have HB15 := hide ((unhide HB14).trans (hb.mono (unhide HB14).size))
    clear hb HB14 HS_a14 HR_x14 HR_y14 HS_n14 HR_sd14
    have HR_o315 := HRw
    clear HRw
    go_wp2_with fail
    refine (refMeet_any ax ao3 cx co3 la lo3 (by omega) (by omega) (unhide HSPa) (unhide HSo3) w15 (unhide HR_x15) (unhide HR_o315)).mono ?_
    rintro e w16 ⟨v, lo4, rfl, hown, hsp, hm, hb⟩
    have HSo4 := hide hsp
    have HMo4 := hide (fun r => (hm r).trans (mem_minus la lb lo3 (unhide HMo3) r))
    obtain ⟨ao4, co4, rfl, hrow, _, _⟩ := own_row hown
    have HRw := hide hrow
    clear hown hrow hsp hm
    have HS_a16 := hide ((unhide HS_a15).below hb)
    have HR_x16 := hide ((unhide HR_x15).below hb)
    have HS_n16 := hide ((unhide HS_n15).below hb)
    have HR_sd16 := hide ((unhide HR_sd15).below hb)
    have HB16 := hide ((unhide HB15).trans (hb.mono (unhide HB15).size))
    clear hb HB15 HS_a15 HR_x15 HS_n15 HR_sd15 HR_o315
    have HR_o416 := HRw
    clear HRw
    have hE : ld = lo4 := spread_unique ld lo4 (unhide HSqd) (unhide HSo4) (fun r => (unhide HM_d r).trans (unhide HMo4 r).symm)
    have HR_yy := hide (unhide HR_o416)
    have HC := hide (sameP_any asd ao4 csd co4 ld lo4 (by omega) (by rw [← hE]; omega) w16 (unhide HR_sd16) (unhide HR_o416))
    rw [show sameB ld lo4 = true by rw [hE]; exact sameB_refl _] at HC
    clear hE HR_yy
    go_wp2_with fail
    refine (unhide HC).mono ?_
    rintro e w17 ⟨rfl, hb⟩
    clear HC
    have HS_a17 := hide ((unhide HS_a16).below hb)
    have HR_x17 := hide ((unhide HR_x16).below hb)
    have HS_n17 := hide ((unhide HS_n16).below hb)
    have HB17 := hide ((unhide HB16).trans (hb.mono (unhide HB16).size))
    clear hb HB16 HS_a16 HR_x16 HS_n16 HR_sd16 HR_o416
    go_wp2_with fail
    refine (spans_any Bn ln w17 (unhide HS_n17)).mono ?_
    rintro e w18 ⟨v, rfl, hown, hb⟩
    have HSqn := hide (unhide HS_n17).spread
    obtain ⟨asn, csn, rfl, hrow, _, _⟩ := own_row hown
    have HRw := hide hrow
    clear hown hrow
    have HS_a18 := hide ((unhide HS_a17).below hb)
    have HR_x18 := hide ((unhide HR_x17).below hb)
    have HB18 := hide ((unhide HB17).trans (hb.mono (unhide HB17).size))
    clear hb HB17 HS_a17 HR_x17 HS_n17
    have HR_sn18 := HRw
    clear HRw
    go_wp2_with fail
    refine (refNot_any ax cx la (by omega) (unhide HSPa) w18 (unhide HR_x18)).mono ?_
    rintro e w19 ⟨v, lo5, rfl, hown, hsp, hl, hm, hb⟩
    have hlo5l : lo5.length ≤ 61 := by omega
    have HSo5 := hide hsp
    have HMo5 := hide hm
    obtain ⟨ao5, co5, rfl, hrow, _, _⟩ := own_row hown
    have HRw := hide hrow
    clear hown hrow hsp hm hl
    have HS_a19 := hide ((unhide HS_a18).below hb)
    have HR_x19 := hide ((unhide HR_x18).below hb)
    have HR_sn19 := hide ((unhide HR_sn18).below hb)
    have HB19 := hide ((unhide HB18).trans (hb.mono (unhide HB18).size))
    clear hb HB18 HS_a18 HR_x18 HR_sn18
    have HR_o519 := HRw
    clear HRw
    have hE : ln = lo5 := spread_unique ln lo5 (unhide HSqn) (unhide HSo5) (fun r => (unhide HM_n r).trans (unhide HMo5 r).symm)
    have HR_yy := hide (unhide HR_o519)
    have HC := hide (sameP_any asn ao5 csn co5 ln lo5 (by omega) (by rw [← hE]; omega) w19 (unhide HR_sn19) (unhide HR_o519))
    rw [show sameB ln lo5 = true by rw [hE]; exact sameB_refl _] at HC
    clear hE HR_yy
    go_wp2_with fail
    refine (unhide HC).mono ?_
    rintro e w20 ⟨rfl, hb⟩
    clear HC
    have HS_a20 := hide ((unhide HS_a19).below hb)
    have HR_x20 := hide ((unhide HR_x19).below hb)
    have HB20 := hide ((unhide HB19).trans (hb.mono (unhide HB19).size))
    clear hb HB19 HS_a19 HR_x19 HR_sn19 HR_o519
    go_wp2_with fail
    refine (spans_any Ba la w20 (unhide HS_a20)).mono ?_
    rintro e w21 ⟨v, rfl, hown, hb⟩
    have HSqa := hide (unhide HS_a20).spread
    obtain ⟨asa, csa, rfl, hrow, _, _⟩ := own_row hown
    have HRw := hide hrow
    clear hown hrow
    have HR_x21 := hide ((unhide HR_x20).below hb)
    have HB21 := hide ((unhide HB20).trans (hb.mono (unhide HB20).size))
    clear hb HB20 HS_a20 HR_x20
    have HR_sa21 := HRw
    clear HRw
    have HC := hide (sameP_any asa ax csa cx la la (by omega) (by omega) w21 (unhide HR_sa21) (unhide HR_x21))
    rw [sameB_refl] at HC
    go_wp2_with fail
    refine (unhide HC).mono ?_
    rintro e w22 ⟨rfl, hb⟩
    clear HC
    have HB22 := hide ((unhide HB21).trans (hb.mono (unhide HB21).size))
    clear hb HB21 HR_x21 HR_sa21
    go_wp2
    go_ret
    exact ⟨rfl, unhide HB22⟩
end Go.Proofs.Ytodikfaddfojgaa
