/- RulesJoins: the law's walk. -/
import Derived.Test.YtjgfmobmilgapaaGreatDoorM31
namespace Go.Proofs.YtjgfmobmilgapaaGreatDoor
open Go.RowKit Go.Shelf
set_option linter.unusedVariables false
def swD (g i k : Nat) (Pc Qc : List Value) : Nat → Value → Prop
  | 0, v => v = .slice (some ⟨g, 0, none⟩) 8 8
  | 1, v => v = .int .i64 (i : Int)
  | 2, v => v = .slice (some ⟨g, 0, none⟩) 8 8
  | 3, v => v = .int .i64 (k : Int)
  | 4, v => v = .slice (some ⟨g, 0, none⟩) 8 8
  | 5, v => v = .int .i64 (k : Int)
  | 6, v => v = .pointer (some ⟨g, k * 8, none⟩)
  | 7, v => v = .agg Qc.toArray
  | 8, v => v = .slice (some ⟨g, 0, none⟩) 8 8
  | 9, v => v = .int .i64 (i : Int)
  | 10, v => v = .pointer (some ⟨g, i * 8, none⟩)
  | 11, v => v = .agg Pc.toArray
  | 12, v => v = .pointer (some ⟨g, i * 8, none⟩)
  | 13, v => True
  | 14, v => v = .pointer (some ⟨g, k * 8, none⟩)
  | _, v => True
set_option maxRecDepth 100000 in
set_option maxHeartbeats 4000000 in
theorem joins_any5 (sa : ByteArray) (hsa : sa.size ≤ 1048576) (sb : ByteArray) (hsb : sb.size ≤ 1048576) (T : TV) (hTT : TabB T ∧ TabI T) (a0 a1 a2 a3 a4 a5 a6 a7 : Option Addr) (c0 c1 c2 c3 c4 c5 c6 c7 : Nat) (us : List Value) (oa : Option Addr) (on oc : Nat) (oz : List Int) (hon : on ≤ 1048576) (m : Int) (W : World) (hE : EnvK m W ∧ EnvR W) (hA : TabIn W T a0 a1 a2 a3 a4 a5 a6 a7 us) (hO : OrdAt W oa on oz) :
    Calls Tryz.prog 3 #[.string sa, .string sb, .agg (tabV T a0 a1 a2 a3 a4 a5 a6 a7 c0 c1 c2 c3 c4 c5 c6 c7), .slice oa on oc] W fun e w' => e = .returned (.bool true) ∧ Below W.heap.size W w' := by
  obtain ⟨hT, hTI⟩ := hTT
  have hmx : Tryz.prog.follows .mixedOrders = true := by kernel_rfl
  have hB0 : Below W.heap.size W (W.alloc (.cells (tabV T a0 a1 a2 a3 a4 a5 a6 a7 c0 c1 c2 c3 c4 c5 c6 c7) 28)) := (Below.refl _ W).alloc (Nat.le_refl _) _
  have bA := Blk.new W (tabV T a0 a1 a2 a3 a4 a5 a6 a7 c0 c1 c2 c3 c4 c5 c6 c7) 28
  unfold tabV at hB0 bA
  have HH0 : Hz (JoS m T a0 a1 a2 a3 a4 a5 a6 a7 c0 c1 c2 c3 c4 c5 c6 c7 us oa on oz W _) := hide ⟨hE.1.below hB0, hE.2.below hB0, hA.lower hB0, hB0, bA, hO.below hB0⟩
  have HT := hide hT
  have HL := hide (fun (w : World) (h : TabIn w T a0 a1 a2 a3 a4 a5 a6 a7 us) => large_any T hT a0 a1 a2 a3 a4 a5 a6 a7 c0 c1 c2 c3 c4 c5 c6 c7 us w h)
  unfold tabV at HL ⊢
  clear hE hA hB0 bA hT hTI hO
  go_enter Tryz.func3, Tryz.ntmps3
  go_wp2_with fail
  generalize W.alloc (.cells #[.slice a0 T.sc.length c0, .slice a1 T.co.length c1, .slice a2 T.ma.length c2, .slice a3 T.pr.length c3, .slice a4 T.fo.length c4, .slice a5 T.lk.length c5, .slice a6 T.dr.length c6, .slice a7 T.al.length c7] 28) = w0 at *
  refine (few_any5 sa (by unfold maxLen; omega) 1500 (by decide) w0).mono ?_
  rintro e wf ⟨rfl, hwf⟩
  rw [hwf]
  clear hwf
  have hF1 := fewV_size sa 1500
  generalize fewV sa 1500 = s1 at *
  go_wp2_with fail
  refine (few_any5 sb (by unfold maxLen; omega) 1500 (by decide) w0).mono ?_
  rintro e wf ⟨rfl, hwf⟩
  rw [hwf]
  clear hwf
  have hF2 := fewV_size sb 1500
  generalize fewV sb 1500 = s2 at *
  clear hsa hsb
  have hbig0 := (unhide HH0).e.p.big
  obtain ⟨P1, hP1⟩ : ∃ P1, parseA s1 = P1 := ⟨_, rfl⟩
  have HPA := hide (parse_eq s1 (by omega) P1 hP1 m w0 (unhide HH0).e.max (by omega))
  obtain ⟨k1, bad1, T1⟩ := P1
  have HP1 := hide hP1
  clear hP1
  go_wp2_with fail
  refine (unhide HPA).mono ?_
  rintro e w1 ⟨v1, er1, rfl, hb1, hpa1⟩
  have HH1 := hide ((unhide HH0).below hb1)
  have HPA1 := hide hpa1
  clear hb1 hpa1 HPA HH0 hbig0
  have hbig1 := (unhide HH1).e.p.big
  obtain ⟨P2, hP2⟩ : ∃ P2, parseA s2 = P2 := ⟨_, rfl⟩
  have HPA := hide (parse_eq s2 (by omega) P2 hP2 m w1 (unhide HH1).e.max (by omega))
  obtain ⟨k2, bad2, T2⟩ := P2
  have HP2 := hide hP2
  clear hP2
  go_wp2_with fail
  refine (unhide HPA).mono ?_
  rintro e w2 ⟨v2, er2, rfl, hb2, hpa2⟩
  have HH2 := hide ((unhide HH1).below hb2)
  have HB2 := hide hb2
  have HPA2 := hide hpa2
  clear hb2 hpa2 HPA HH1 hbig1
  go_upto_region 5 with fail
  go_cut [52] from 25 (fun s52 wx => ∃ c : Bool, s52 = .bool c ∧ wx = w2 ∧ Hz (c = true → bad1 = none ∧ bad2 = none))
  case first =>
    cases bad1 with
    | some r1 =>
      obtain ⟨rfl, F1, rfl, _, _⟩ := unhide HPA1
      go_wp2_with fail
      go_meet
      case rel => exact ⟨false, rfl, rfl, hide (fun h => by cases h)⟩
    | none =>
      obtain ⟨rfl, Tx, lx, vx, rfl, _, _, _⟩ := unhide HPA1
      cases bad2 with
      | some r2 =>
        obtain ⟨rfl, F2, rfl, _, _⟩ := unhide HPA2
        go_wp2_with fail
        go_meet
        case rel => exact ⟨false, rfl, rfl, hide (fun h => by cases h)⟩
      | none =>
        obtain ⟨rfl, Ty, ly, vy, rfl, _, _, _⟩ := unhide HPA2
        go_wp2_with fail
        go_meet
        case rel => exact ⟨true, rfl, rfl, hide (fun _ => by refine ⟨?_, ?_⟩ <;> trivial)⟩
  case rest =>
    obtain ⟨c, rfl, hwc, HC⟩ := hcut
    subst wc
    go_upto_if 52 with fail
    go_cut [] from 25 (fun wx => Hz (JoS m T a0 a1 a2 a3 a4 a5 a6 a7 c0 c1 c2 c3 c4 c5 c6 c7 us oa on oz W wx))
    case first =>
      cases c with
      | false =>
        go_wp2_with fail
        go_meet
        case rel => exact HH2
      | true =>
        obtain ⟨rfl, rfl⟩ := unhide HC rfl
        obtain ⟨rfl, Tx, lx, vx, rfl, _, _, hTbx⟩ := unhide HPA1
        obtain ⟨rfl, Ty, ly, vy, rfl, _, _, hTby⟩ := unhide HPA2
        obtain ⟨k3, T3, h3, e3⟩ := parse_join (by omega) (by omega) (unhide HP1) (unhide HP2)
        have hj3 : (joinT s1 s2).size ≤ 3100 := by unfold joinT; rw [ByteArray.size_append, ByteArray.size_append]; have : (⟨#[10]⟩ : ByteArray).size = 1 := rfl; omega
        have hG := parse_small4 hj3 h3
        have hG1 := parse_small4 (by omega) (unhide HP1)
        have hG2 := parse_small4 (by omega) (unhide HP2)
        have HG := hide (And.intro hG (And.intro hG1 (And.intro hG2 e3)))
        have hbig2 := (unhide HH2).e.p.big
        have HPA := hide (parse_eq (joinT s1 s2) (by omega) _ h3 m w2 (unhide HH2).e.max (by omega))
        have HX2 := hide (hTbx.fresh (below_grown2 (row := none) (unhide HB2)))
        have HY2 := hide hTby
        unfold joinT at HPA
        clear hTbx hTby h3 e3 hj3 hG hG1 hG2 hbig2 HPA1 HPA2 HP1 HP2 HC HB2
        go_wp2_with fail
        refine (unhide HPA).mono ?_
        rintro e w3 ⟨v3, er3, rfl, hb3, hpa3⟩
        obtain ⟨rfl, Tz, lz, vz, rfl, _, _, hTbz⟩ := hpa3
        have HH3 := hide ((unhide HH2).below hb3)
        have HX3 := hide ((unhide HX2).fresh (below_grown2 (row := none) hb3))
        have HY3 := hide ((unhide HY2).fresh (below_grown2 (row := none) hb3))
        have HTA := hide (tables_any lz Tz vz T3 _ _ _ (unhide HG).1.2 (fun s hs => ((unhide HG).1.1.z0 s hs).2) w3 hTbz)
        clear hb3 hTbz HPA HH2 HX2 HY2
        go_wp2_with fail
        refine (unhide HTA).mono ?_
        rintro e w4 ⟨v4, rfl, hta4, hb4⟩
        obtain ⟨z0, z1, z2, z3, z4, z5, z6, z7, e0, e1, e2, e3, e4, e5, e6, e7, usz, rfl, htz, _⟩ := hta4.inn
        have HH4 := hide ((unhide HH3).below hb4)
        have HX4 := hide ((unhide HX3).fresh (below_grown2 (row := none) hb4))
        have HY4 := hide ((unhide HY3).fresh (below_grown2 (row := none) hb4))
        have HZ4 := hide htz
        have HTA := hide (tables_any lx Tx vx T1 _ _ _ (unhide HG).2.1.2 (fun s hs => ((unhide HG).2.1.1.z0 s hs).2) w4 (unhide HX4))
        clear hb4 hta4 htz HH3 HX3 HY3
        go_wp2_with fail
        refine (unhide HTA).mono ?_
        rintro e w5 ⟨v5, rfl, hta5, hb5⟩
        obtain ⟨x0, x1, x2, x3, x4, x5, x6, x7, d0, d1, d2, d3, d4, d5, d6, d7, usx, rfl, htx, _⟩ := hta5.inn
        have HH5 := hide ((unhide HH4).below hb5)
        have HY5 := hide ((unhide HY4).fresh (below_grown2 (row := none) hb5))
        have HZ5 := hide ((unhide HZ4).lower hb5)
        have HX5 := hide htx
        have HTA := hide (tables_any ly Ty vy T2 _ _ _ (unhide HG).2.2.1.2 (fun s hs => ((unhide HG).2.2.1.1.z0 s hs).2) w5 (unhide HY5))
        clear hb5 hta5 htx HH4 HX4 HY4 HZ4
        go_wp2_with fail
        refine (unhide HTA).mono ?_
        rintro e w6 ⟨v6, rfl, hta6, hb6⟩
        obtain ⟨y0, y1, y2, y3, y4, y5, y6, y7, f0, f1, f2, f3, f4, f5, f6, f7, usy, rfl, hty, _⟩ := hta6.inn
        have HH6 := hide ((unhide HH5).below hb6)
        have HZ6 := hide ((unhide HZ5).lower hb6)
        have HBO := hide (both_any T1 T2 (unhide HG).2.1.1 (unhide HG).2.2.1.1 x0 x1 x2 x3 x4 x5 x6 x7 d0 d1 d2 d3 d4 d5 d6 d7 usx y0 y1 y2 y3 y4 y5 y6 y7 f0 f1 f2 f3 f4 f5 f6 f7 usy w6 ((unhide HX5).lower hb6) hty (unhide HH6).r)
        unfold tabV at HBO
        clear hb6 hta6 hty HTA HH5 HY5 HZ5 HX5
        go_wp2_with fail
        refine (unhide HBO).mono ?_
        rintro e w7 ⟨X7, rfl, htx7, hb7⟩
        obtain ⟨p0, p1, p2, p3, p4, p5, p6, p7, q0, q1, q2, q3, q4, q5, q6, q7, usq, rfl, htq⟩ := tabx_of htx7 (unhide HG).2.2.2
        have HH7 := hide ((unhide HH6).below hb7)
        have HKS := hide (keepSame_row T3 (unhide HG).1.1 z0 z1 z2 z3 z4 z5 z6 z7 p0 p1 p2 p3 p4 p5 p6 p7 e0 e1 e2 e3 e4 e5 e6 e7 q0 q1 q2 q3 q4 q5 q6 q7 usz usq w7 ((unhide HZ6).lower hb7) htq)
        unfold tabV at HKS ⊢
        clear hb7 htx7 htq HBO HH6 HZ6
        go_wp2_with fail
        refine (unhide HKS).mono ?_
        rintro e w8 ⟨rfl, hb8⟩
        have HH8 := hide ((unhide HH7).below hb8)
        clear hb8 HKS HH7
        go_wp2_with fail
        go_meet
        case rel => exact HH8
    case rest =>
      clear HPA1 HPA2 HP1 HP2 HH2 HB2 HC
      have HHc := hcut
      clear hcut
      have z0 := (unhide HHc).b0.cell 0
      have z1 := (unhide HHc).b0.cell 1
      have z2 := (unhide HHc).b0.cell 2
      have z3 := (unhide HHc).b0.cell 3
      have z4 := (unhide HHc).b0.cell 4
      have z5 := (unhide HHc).b0.cell 5
      have z6 := (unhide HHc).b0.cell 6
      have z7 := (unhide HHc).b0.cell 7
      have HLA := hide (unhide HL wc (unhide HHc).ti)
      go_wp2_with fail
      refine (unhide HLA).mono ?_
      rintro e w3 ⟨rfl, hb3⟩
      have HH3 := hide ((unhide HHc).below hb3)
      clear hb3 HHc HL HLA z0 z1 z2 z3 z4 z5 z6 z7
      cases hLB : largeB T with
      | true =>
        have HK := hide (known_any5 m w3 (unhide HH3).e)
        go_wp2_with fail
        refine (unhide HK).mono ?_
        rintro e w4 ⟨rfl, hb4⟩
        have HB := hide ((unhide HH3).below hb4).bl
        clear hb4
        go_wp2_with fail
        go_ret
        exact ⟨rfl, unhide HB⟩
      | false =>
        have HO := hide ((unhide HT).ok hLB)
        clear hLB HT
        have z0 := (unhide HH3).b0.cell 0
        have z1 := (unhide HH3).b0.cell 1
        have z2 := (unhide HH3).b0.cell 2
        have z3 := (unhide HH3).b0.cell 3
        have z4 := (unhide HH3).b0.cell 4
        have z5 := (unhide HH3).b0.cell 5
        have z6 := (unhide HH3).b0.cell 6
        have z7 := (unhide HH3).b0.cell 7
        have HPR := hide (print_any T a0 a1 a2 a3 a4 a5 a6 a7 c0 c1 c2 c3 c4 c5 c6 c7 us w3 (unhide HH3).ti (unhide HO) (unhide HH3).e.p)
        go_wp2_with fail
        refine (unhide HPR).mono ?_
        rintro e w4 ⟨rfl, hb4⟩
        have HH4 := hide ((unhide HH3).below hb4)
        clear hb4 HPR HH3 z0 z1 z2 z3 z4 z5 z6 z7
        generalize hPV : printV T = PV at *
        have HPV := hide hPV
        clear hPV
        obtain ⟨tp, f1⟩ := PV
        dsimp only
        cases hf1 : (f1 == 0) with
        | false =>
          clear HPV
          have HK := hide (known_any5 m w4 (unhide HH4).e)
          go_wp2_with fail
          refine (unhide HK).mono ?_
          rintro e w5 ⟨rfl, hb5⟩
          have HB := hide ((unhide HH4).below hb5).bl
          clear hb5
          go_wp2_with fail
          go_ret
          exact ⟨rfl, unhide HB⟩
        | true =>
          obtain rfl : f1 = 0 := by simpa using hf1
          clear hf1
          have HOK : Hz (okT T = true ∧ (textT T).size ≤ 262144) := hide (by
            rcases print_three T with ⟨h1, h2, h3⟩ | ⟨_, _, h3⟩ | ⟨_, h3⟩
            · exact ⟨h1, h2⟩
            · rw [unhide HPV] at h3; exact absurd (Prod.mk.inj h3).2 (by decide)
            · rw [unhide HPV] at h3; exact absurd (Prod.mk.inj h3).2 (by decide))
          clear HPV
          have z0 := (unhide HH4).b0.cell 0
          have z1 := (unhide HH4).b0.cell 1
          have z2 := (unhide HH4).b0.cell 2
          have z3 := (unhide HH4).b0.cell 3
          have z4 := (unhide HH4).b0.cell 4
          have z5 := (unhide HH4).b0.cell 5
          have z6 := (unhide HH4).b0.cell 6
          have z7 := (unhide HH4).b0.cell 7
          have bN := Blk.new w4 (rowJ T a0 a1 a2 a3 a4 a5 a6 a7 c0 c1 c2 c3 c4 c5 c6 c7 [0, 1, 2, 3, 4, 5, 6, 7]).toArray 28
          have hbN : Below w4.heap.size w4 (w4.alloc (.cells (rowJ T a0 a1 a2 a3 a4 a5 a6 a7 c0 c1 c2 c3 c4 c5 c6 c7 [0, 1, 2, 3, 4, 5, 6, 7]).toArray 28)) := (Below.refl _ w4).alloc (Nat.le_refl _) _
          have e64 : (.cells (rowJ T a0 a1 a2 a3 a4 a5 a6 a7 c0 c1 c2 c3 c4 c5 c6 c7 [0, 1, 2, 3, 4, 5, 6, 7]).toArray 28 : Obj) = .cells #[.slice a0 T.sc.length c0, .slice none 0 0, .slice none 0 0, .slice none 0 0, .slice none 0 0, .slice none 0 0, .slice none 0 0, .slice none 0 0, .slice none 0 0, .slice a1 T.co.length c1, .slice none 0 0, .slice none 0 0, .slice none 0 0, .slice none 0 0, .slice none 0 0, .slice none 0 0, .slice none 0 0, .slice none 0 0, .slice a2 T.ma.length c2, .slice none 0 0, .slice none 0 0, .slice none 0 0, .slice none 0 0, .slice none 0 0, .slice none 0 0, .slice none 0 0, .slice none 0 0, .slice a3 T.pr.length c3, .slice none 0 0, .slice none 0 0, .slice none 0 0, .slice none 0 0, .slice none 0 0, .slice none 0 0, .slice none 0 0, .slice none 0 0, .slice a4 T.fo.length c4, .slice none 0 0, .slice none 0 0, .slice none 0 0, .slice none 0 0, .slice none 0 0, .slice none 0 0, .slice none 0 0, .slice none 0 0, .slice a5 T.lk.length c5, .slice none 0 0, .slice none 0 0, .slice none 0 0, .slice none 0 0, .slice none 0 0, .slice none 0 0, .slice none 0 0, .slice none 0 0, .slice a6 T.dr.length c6, .slice none 0 0, .slice none 0 0, .slice none 0 0, .slice none 0 0, .slice none 0 0, .slice none 0 0, .slice none 0 0, .slice none 0 0, .slice a7 T.al.length c7] 28 := rfl
          rw [e64] at hbN
          have HN : Hz (JoL T a0 a1 a2 a3 a4 a5 a6 a7 c0 c1 c2 c3 c4 c5 c6 c7 w4.heap.size [0, 1, 2, 3, 4, 5, 6, 7] w4 (w4.alloc (.cells #[.slice a0 T.sc.length c0, .slice none 0 0, .slice none 0 0, .slice none 0 0, .slice none 0 0, .slice none 0 0, .slice none 0 0, .slice none 0 0, .slice none 0 0, .slice a1 T.co.length c1, .slice none 0 0, .slice none 0 0, .slice none 0 0, .slice none 0 0, .slice none 0 0, .slice none 0 0, .slice none 0 0, .slice none 0 0, .slice a2 T.ma.length c2, .slice none 0 0, .slice none 0 0, .slice none 0 0, .slice none 0 0, .slice none 0 0, .slice none 0 0, .slice none 0 0, .slice none 0 0, .slice a3 T.pr.length c3, .slice none 0 0, .slice none 0 0, .slice none 0 0, .slice none 0 0, .slice none 0 0, .slice none 0 0, .slice none 0 0, .slice none 0 0, .slice a4 T.fo.length c4, .slice none 0 0, .slice none 0 0, .slice none 0 0, .slice none 0 0, .slice none 0 0, .slice none 0 0, .slice none 0 0, .slice none 0 0, .slice a5 T.lk.length c5, .slice none 0 0, .slice none 0 0, .slice none 0 0, .slice none 0 0, .slice none 0 0, .slice none 0 0, .slice none 0 0, .slice none 0 0, .slice a6 T.dr.length c6, .slice none 0 0, .slice none 0 0, .slice none 0 0, .slice none 0 0, .slice none 0 0, .slice none 0 0, .slice none 0 0, .slice none 0 0, .slice a7 T.al.length c7] 28))) := hide ⟨List.Perm.refl _, e64 ▸ bN, hbN⟩
          clear bN hbN e64
          go_wp2_with fail
          clear z0 z1 z2 z3 z4 z5 z6 z7
          generalize w4.alloc (.cells #[.slice a0 T.sc.length c0, .slice none 0 0, .slice none 0 0, .slice none 0 0, .slice none 0 0, .slice none 0 0, .slice none 0 0, .slice none 0 0, .slice none 0 0, .slice a1 T.co.length c1, .slice none 0 0, .slice none 0 0, .slice none 0 0, .slice none 0 0, .slice none 0 0, .slice none 0 0, .slice none 0 0, .slice none 0 0, .slice a2 T.ma.length c2, .slice none 0 0, .slice none 0 0, .slice none 0 0, .slice none 0 0, .slice none 0 0, .slice none 0 0, .slice none 0 0, .slice none 0 0, .slice a3 T.pr.length c3, .slice none 0 0, .slice none 0 0, .slice none 0 0, .slice none 0 0, .slice none 0 0, .slice none 0 0, .slice none 0 0, .slice none 0 0, .slice a4 T.fo.length c4, .slice none 0 0, .slice none 0 0, .slice none 0 0, .slice none 0 0, .slice none 0 0, .slice none 0 0, .slice none 0 0, .slice none 0 0, .slice a5 T.lk.length c5, .slice none 0 0, .slice none 0 0, .slice none 0 0, .slice none 0 0, .slice none 0 0, .slice none 0 0, .slice none 0 0, .slice none 0 0, .slice a6 T.dr.length c6, .slice none 0 0, .slice none 0 0, .slice none 0 0, .slice none 0 0, .slice none 0 0, .slice none 0 0, .slice none 0 0, .slice none 0 0, .slice a7 T.al.length c7] 28) = w5 at *
          obtain ⟨g, hg⟩ : ∃ g, g = w4.heap.size := ⟨_, rfl⟩
          rw [← hg] at HN ⊢
          have HG := hide hg
          clear hg
          go_loopw [18, 19] (fun v18 _ wr => ∃ i : Nat, v18 = .int .i64 i ∧ i ≤ 8 ∧ Hz (∃ l, JoL T a0 a1 a2 a3 a4 a5 a6 a7 c0 c1 c2 c3 c4 c5 c6 c7 g l w4 wr)) (fun v18 _ _ => 8 - (intOf v18).toNat)
          case atStart => exact ⟨0, rfl, by omega, hide ⟨_, unhide HN⟩⟩
          case round =>
            obtain ⟨i, rfl, hi8, HL⟩ := hrel
            clear HN
            have HOR : Hz (OrdAt wr oa on oz) := hide (by obtain ⟨l, hl⟩ := unhide HL; exact (unhide HH4).od.below (unhide HG ▸ hl.bl))
            go_upto_region 16 with fail
            go_cut [122] from 114 to 149 (fun s122 wx => ∃ c : Bool, s122 = .bool c ∧ wx = wr ∧ Hz (c = true → i < 8 ∧ 0 < on))
            case first =>
              by_cases hi : i < 8
              · have hi' : (i : Int) < 8 := by omega
                by_cases ho : 0 < on
                · have ho' : (0 : Int) < (on : Int) := by omega
                  go_wp2_with fail
                  go_meet
                  case rel => exact ⟨true, rfl, rfl, hide (fun _ => ⟨hi, ho⟩)⟩
                · have ho' : ¬ (0 : Int) < (on : Int) := by omega
                  go_wp2_with fail
                  go_meet
                  case rel => exact ⟨false, rfl, rfl, hide (fun h => by cases h)⟩
              · have hi' : ¬ (i : Int) < 8 := by omega
                go_wp2_with fail
                go_meet
                case rel => exact ⟨false, rfl, rfl, hide (fun h => by cases h)⟩
            case rest =>
              obtain ⟨c, rfl, hwc, HC⟩ := hcut
              subst wc
              cases c with
              | true =>
                obtain ⟨hi, ho⟩ := unhide HC rfl
                obtain ⟨og, oo, rfl, hog, hoc⟩ := unhide HOR ho
                have hxl : i % on < on := Nat.mod_lt _ ho
                have hrem1 : Int.tmod (i : Int) (on : Int) = ((i % on : Nat) : Int) := rfl
                have hq0 := hoc (i % on) hxl
                have hon0 : ¬ ((on : Int) = 0) := by omega
                have hon1 : ((on : Int) == 0) = false := beq_eq_false_iff_ne.2 hon0
                clear hoc HOR HC
                generalize i % on = x at *
                generalize oz.getD x 0 = z at *
                go_wp2_with fail
                refine (within_any z 0 7 (by decide) (by decide) (by decide) wr).mono ?_
                rintro e wy ⟨rfl, hwy⟩
                rw [hwy]
                clear hwy
                obtain ⟨k, hk, hk8⟩ : ∃ k : Nat, (0 + z % (7 - 0 + 1) : Int) = (k : Int) ∧ k < 8 := ⟨(z % 8).toNat, by omega, by omega⟩
                rw [hk]
                clear hk
                obtain ⟨l, hl⟩ := unhide HL
                have HL2 := hide hl
                obtain ⟨p, hp⟩ : ∃ p, l[i]? = some p := ⟨_, List.getElem?_eq_getElem (by have := hl.pm.length_eq; simp at this; omega)⟩
                obtain ⟨q, hq⟩ : ∃ q, l[k]? = some q := ⟨_, List.getElem?_eq_getElem (by have := hl.pm.length_eq; simp at this; omega)⟩
                have HPQ := hide (And.intro hp hq)
                obtain ⟨Pc, hP⟩ : ∃ Pc, Pc = cellJ T a0 a1 a2 a3 a4 a5 a6 a7 c0 c1 c2 c3 c4 c5 c6 c7 p := ⟨_, rfl⟩
                obtain ⟨Qc, hQ⟩ : ∃ Qc, Qc = cellJ T a0 a1 a2 a3 a4 a5 a6 a7 c0 c1 c2 c3 c4 c5 c6 c7 q := ⟨_, rfl⟩
                have hPl : Pc.length = 8 := by rw [hP]; exact cellJ_len T a0 a1 a2 a3 a4 a5 a6 a7 c0 c1 c2 c3 c4 c5 c6 c7 p
                have hQl : Qc.length = 8 := by rw [hQ]; exact cellJ_len T a0 a1 a2 a3 a4 a5 a6 a7 c0 c1 c2 c3 c4 c5 c6 c7 q
                have HPO : Hz (∀ v ∈ Pc, v.oneCell' = true) := hide (by rw [hP]; exact cellJ_one T a0 a1 a2 a3 a4 a5 a6 a7 c0 c1 c2 c3 c4 c5 c6 c7 p)
                have HQO : Hz (∀ v ∈ Qc, v.oneCell' = true) := hide (by rw [hQ]; exact cellJ_one T a0 a1 a2 a3 a4 a5 a6 a7 c0 c1 c2 c3 c4 c5 c6 c7 q)
                have HRI : Hz (wr.drew.rangeAt g (i * 8) Pc) := hide (fun j v hv => rowJ_cell hl.bk hp (hP ▸ hv))
                have HRK : Hz (wr.drew.rangeAt g (k * 8) Qc) := hide (fun j v hv => rowJ_cell hl.bk hq (hQ ▸ hv))
                have HTI : Hz (wr.drew.there g (i * 8) 8) := hide (row_there hl.bk (by have := hl.pm.length_eq; simp at this; omega))
                have HTK : Hz ((wr.drew.setCells g (i * 8) Qc).there g (k * 8) 8) := hide (World.there_setCells (show wr.drew.there g (k * 8) 8 from row_there hl.bk (by have := hl.pm.length_eq; simp at this; omega)) _ _ _)
                have hi' : (i : Int) < 8 := by omega
                have hk' : (k : Int) < 8 := by omega
                have HPV := hide (And.intro hP hQ)
                have HLen := hide (And.intro hPl hQl)
                clear hl hp hq HL hP hQ hPl hQl
                go_wp2_with fail
                clear hq0 hog hrem1 hxl
                have HN : Hz (∃ l, JoL T a0 a1 a2 a3 a4 a5 a6 a7 c0 c1 c2 c3 c4 c5 c6 c7 g l w4 ((wr.drew.setCells g (i * 8) Qc).setCells g (k * 8) Pc)) := hide (by
                  have hl := unhide HL2
                  have h8 : l.length = 8 := by have := hl.pm.length_eq; simpa using this
                  have hgl := hl.bk.lt
                  refine ⟨swapN l i k, swapN_perm hl.pm i k (by omega) (by omega), ?_, ?_⟩
                  · rw [(unhide HPV).1, (unhide HPV).2]
                    exact swap_blk (w := wr.drew) hl.bk (unhide HPQ).1 (unhide HPQ).2
                  · have hb1 : Below g w4 wr.drew := hl.bl.trans ⟨rfl, rfl, rfl, Nat.le_refl _, fun _ _ => rfl⟩
                    have g1 := setCells_grown g Qc (i * 8) wr.drew
                    have g2 := setCells_grown g Pc (k * 8) (wr.drew.setCells g (i * 8) Qc)
                    exact (hb1.grown g1 (Nat.le_of_lt hgl) (fun k hk => by have := Option.some.inj hk; omega)).grown g2 (Nat.le_trans (Nat.le_of_lt hgl) g1.size) (fun k hk => by have := Option.some.inj hk; omega))
                clear HL2 HPQ HPV
                refine wp_region_inv hmx 15 (by decide) (by kernel_rfl) (by kernel_rfl) (fun ls a w => ∃ U : Nat → Value, a = { tmps := #[Value.string s1, Value.string s2, Value.agg #[Value.slice a0 T.sc.length c0, Value.slice a1 T.co.length c1, Value.slice a2 T.ma.length c2, Value.slice a3 T.pr.length c3, Value.slice a4 T.fo.length c4, Value.slice a5 T.lk.length c5, Value.slice a6 T.dr.length c6, Value.slice a7 T.al.length c7], Value.slice (some ⟨og, oo, none⟩) on oc, undef, undef, Value.pointer (some ⟨W.heap.size, 0, none⟩), undef, u8, v1, er1, v2, er2, u13, u14, Value.string tp, Value.int IntKind.i64 0, Value.slice (some ⟨g, 0, none⟩) 8 8, Value.int IntKind.i64 ↑i, Value.int IntKind.i64 ↑k, undef, undef, undef, undef, undef, u25, u26, u27, u28, u29, u30, u31, u32, u33, u34, u35, u36, u37, u38, u39, u40, u41, u42, u43, u44, u45, u46, u47, u48, u49, u50, u51, u52, u53, u54, u55, u56, u57, u58, u59, u60, u61, u62, u63, u64, u65, u66, u67, u68, u69, u70, u71, u72, u73, u74, u75, u76, u77, Value.agg #[Value.slice a0 T.sc.length c0, Value.slice a1 T.co.length c1, Value.slice a2 T.ma.length c2, Value.slice a3 T.pr.length c3, Value.slice a4 T.fo.length c4, Value.slice a5 T.lk.length c5, Value.slice a6 T.dr.length c6, Value.slice a7 T.al.length c7], Value.bool false, u80, Value.tuple #[Value.string tp, Value.int IntKind.i64 0], Value.agg #[Value.slice a0 T.sc.length c0, Value.slice a1 T.co.length c1, Value.slice a2 T.ma.length c2, Value.slice a3 T.pr.length c3, Value.slice a4 T.fo.length c4, Value.slice a5 T.lk.length c5, Value.slice a6 T.dr.length c6, Value.slice a7 T.al.length c7], Value.tuple #[Value.string tp, Value.int IntKind.i64 0], Value.string tp, Value.int IntKind.i64 0, Value.int IntKind.i64 0, Value.bool false, u88, Value.pointer (some ⟨W.heap.size, 0, none⟩), Value.slice a0 T.sc.length c0, Value.agg #[Value.slice a0 T.sc.length c0, Value.slice none 0 0, Value.slice none 0 0, Value.slice none 0 0, Value.slice none 0 0, Value.slice none 0 0, Value.slice none 0 0, Value.slice none 0 0], Value.pointer (some ⟨W.heap.size, 1, none⟩), Value.slice a1 T.co.length c1, Value.agg #[Value.slice none 0 0, Value.slice a1 T.co.length c1, Value.slice none 0 0, Value.slice none 0 0, Value.slice none 0 0, Value.slice none 0 0, Value.slice none 0 0, Value.slice none 0 0], Value.pointer (some ⟨W.heap.size, 2, none⟩), Value.slice a2 T.ma.length c2, Value.agg #[Value.slice none 0 0, Value.slice none 0 0, Value.slice a2 T.ma.length c2, Value.slice none 0 0, Value.slice none 0 0, Value.slice none 0 0, Value.slice none 0 0, Value.slice none 0 0], Value.pointer (some ⟨W.heap.size, 3, none⟩), Value.slice a3 T.pr.length c3, Value.agg #[Value.slice none 0 0, Value.slice none 0 0, Value.slice none 0 0, Value.slice a3 T.pr.length c3, Value.slice none 0 0, Value.slice none 0 0, Value.slice none 0 0, Value.slice none 0 0], Value.pointer (some ⟨W.heap.size, 4, none⟩), Value.slice a4 T.fo.length c4, Value.agg #[Value.slice none 0 0, Value.slice none 0 0, Value.slice none 0 0, Value.slice none 0 0, Value.slice a4 T.fo.length c4, Value.slice none 0 0, Value.slice none 0 0, Value.slice none 0 0], Value.pointer (some ⟨W.heap.size, 5, none⟩), Value.slice a5 T.lk.length c5, Value.agg #[Value.slice none 0 0, Value.slice none 0 0, Value.slice none 0 0, Value.slice none 0 0, Value.slice none 0 0, Value.slice a5 T.lk.length c5, Value.slice none 0 0, Value.slice none 0 0], Value.pointer (some ⟨W.heap.size, 6, none⟩), Value.slice a6 T.dr.length c6, Value.agg #[Value.slice none 0 0, Value.slice none 0 0, Value.slice none 0 0, Value.slice none 0 0, Value.slice none 0 0, Value.slice none 0 0, Value.slice a6 T.dr.length c6, Value.slice none 0 0], Value.pointer (some ⟨W.heap.size, 7, none⟩), Value.slice a7 T.al.length c7, Value.agg #[Value.slice none 0 0, Value.slice none 0 0, Value.slice none 0 0, Value.slice none 0 0, Value.slice none 0 0, Value.slice none 0 0, Value.slice none 0 0, Value.slice a7 T.al.length c7], Value.slice (some ⟨g, 0, none⟩) 8 8, u114, u115, u116, u117, u118, u119, u120, u121, Value.bool true, u123, u124, Value.slice (some ⟨og, oo, none⟩) on oc, Value.int IntKind.i64 ↑i, Value.slice (some ⟨og, oo, none⟩) on oc, Value.int IntKind.i64 ↑on, Value.int IntKind.i64 ↑x, Value.pointer (some ⟨og, oo + x, none⟩), Value.int IntKind.i64 z, Value.slice (some ⟨g, 0, none⟩) 8 8, Value.int IntKind.i64 8, Value.int IntKind.i64 7, Value.int IntKind.i64 ↑k, U 0, U 1, U 2, U 3, U 4, U 5, U 6, U 7, U 8, U 9, U 10, U 11, U 12, U 14, u150, u151, u152, u153, u154, u155, u156, u157, u158, u159, u160, u161, u162, u163, u164, u165, u166, u167, u168, u169, u170, u171, u172, u173, u174, u175, u176, u177, u178, u179, u180, u181, u182, u183, u184, u185, u186], defers := [] } ∧ RgS (swD g i k Pc Qc) 13 [7, 11] wr.drew (wr.drew.setCells g (i * 8) Qc) ls U w) ⟨fun x => match x with | 0 => u136 | 1 => u137 | 2 => u138 | 3 => u139 | 4 => u140 | 5 => u141 | 6 => u142 | 7 => u143 | 8 => u144 | 9 => u145 | 10 => u146 | 11 => u147 | 12 => u148 | 14 => u149 | _ => undef, rfl, RgS.start _ _ _ _ _ _ _⟩ ?_ ?_
                · rintro ls a w x0 ⟨U, rfl, hJ⟩ hls hi1 hif
                  have h0 := (mem_ready.1 hi1).1
                  have hlt := rg_lt hls h0
                  have HJ := hide hJ
                  have HLS : Hz (13 < ls.size) := hide (by rw [hls]; decide)
                  clear hJ hls
                  replace hlt : x0 < 16 := hlt
                  obtain rfl | rfl | rfl | rfl | rfl | rfl | rfl | rfl | rfl | rfl | rfl | rfl | rfl | rfl | rfl : x0 = 0 ∨ x0 = 1 ∨ x0 = 2 ∨ x0 = 3 ∨ x0 = 4 ∨ x0 = 5 ∨ x0 = 6 ∨ x0 = 7 ∨ x0 = 8 ∨ x0 = 9 ∨ x0 = 10 ∨ x0 = 11 ∨ x0 = 12 ∨ x0 = 13 ∨ x0 = 14 := by omega
                  · refine wpOp_step rfl (fun K hK => ?_)
                    clear hlt hif
                    go_simp
                    exact hK _ _ ⟨slotPut U 0 _, rfl, (unhide HJ).put 0 _ (by decide) rfl⟩
                  · refine wpOp_step rfl (fun K hK => ?_)
                    clear hlt hif
                    go_simp
                    exact hK _ _ ⟨slotPut U 1 _, rfl, (unhide HJ).put 1 _ (by decide) rfl⟩
                  · refine wpOp_step rfl (fun K hK => ?_)
                    clear hlt hif
                    go_simp
                    exact hK _ _ ⟨slotPut U 2 _, rfl, (unhide HJ).put 2 _ (by decide) rfl⟩
                  · refine wpOp_step rfl (fun K hK => ?_)
                    clear hlt hif
                    go_simp
                    exact hK _ _ ⟨slotPut U 3 _, rfl, (unhide HJ).put 3 _ (by decide) rfl⟩
                  · refine wpOp_step rfl (fun K hK => ?_)
                    clear hlt hif
                    go_simp
                    exact hK _ _ ⟨slotPut U 4 _, rfl, (unhide HJ).put 4 _ (by decide) rfl⟩
                  · refine wpOp_step rfl (fun K hK => ?_)
                    clear hlt hif
                    go_simp
                    exact hK _ _ ⟨slotPut U 5 _, rfl, (unhide HJ).put 5 _ (by decide) rfl⟩
                  · refine wpOp_step rfl (fun K hK => ?_)
                    clear hlt hif
                    have d4 : U 4 = .slice (some ⟨g, 0, none⟩) 8 8 := (unhide HJ).val 4 (rg_dep hi1 4 (by kernel_rfl))
                    have d5 : U 5 = .int .i64 (k : Int) := (unhide HJ).val 5 (rg_dep hi1 5 (by kernel_rfl))
                    go_simp
                    exact hK _ _ ⟨slotPut U 6 _, (by rw [slotEq d4, slotEq d5]; rfl), (unhide HJ).put 6 _ (by decide) rfl⟩
                  · refine wpOp_step rfl (fun K hK => ?_)
                    clear hlt hif
                    have d6 : U 6 = .pointer (some ⟨g, k * 8, none⟩) := (unhide HJ).val 6 (rg_dep hi1 6 (by kernel_rfl))
                    obtain rfl := (unhide HJ).early 7 (by decide) h0
                    rw [if_pos (by rfl)]
                    refine wp_load_mid 28 _ rfl g (k * 8) d6 Qc _ (unhide HRK) Tryz.underlying28 rfl (by rw [(unhide HLen).2]; kernel_rfl) ?_
                    exact hK _ _ ⟨slotPut U 7 _, rfl, (unhide HJ).put 7 _ (by decide) rfl⟩
                  · refine wpOp_step rfl (fun K hK => ?_)
                    clear hlt hif
                    go_simp
                    exact hK _ _ ⟨slotPut U 8 _, rfl, (unhide HJ).put 8 _ (by decide) rfl⟩
                  · refine wpOp_step rfl (fun K hK => ?_)
                    clear hlt hif
                    go_simp
                    exact hK _ _ ⟨slotPut U 9 _, rfl, (unhide HJ).put 9 _ (by decide) rfl⟩
                  · refine wpOp_step rfl (fun K hK => ?_)
                    clear hlt hif
                    have d8 : U 8 = .slice (some ⟨g, 0, none⟩) 8 8 := (unhide HJ).val 8 (rg_dep hi1 8 (by kernel_rfl))
                    have d9 : U 9 = .int .i64 (i : Int) := (unhide HJ).val 9 (rg_dep hi1 9 (by kernel_rfl))
                    go_simp
                    exact hK _ _ ⟨slotPut U 10 _, (by rw [slotEq d8, slotEq d9]; rfl), (unhide HJ).put 10 _ (by decide) rfl⟩
                  · refine wpOp_step rfl (fun K hK => ?_)
                    clear hlt hif
                    have d10 : U 10 = .pointer (some ⟨g, i * 8, none⟩) := (unhide HJ).val 10 (rg_dep hi1 10 (by kernel_rfl))
                    obtain rfl := (unhide HJ).early 11 (by decide) h0
                    rw [if_pos (by rfl)]
                    refine wp_load_mid 28 _ rfl g (i * 8) d10 Pc _ (unhide HRI) Tryz.underlying28 rfl (by rw [(unhide HLen).1]; kernel_rfl) ?_
                    exact hK _ _ ⟨slotPut U 11 _, rfl, (unhide HJ).put 11 _ (by decide) rfl⟩
                  · refine wpOp_step rfl (fun K hK => ?_)
                    clear hlt hif
                    have d0 : U 0 = .slice (some ⟨g, 0, none⟩) 8 8 := (unhide HJ).val 0 (rg_dep hi1 0 (by kernel_rfl))
                    have d1 : U 1 = .int .i64 (i : Int) := (unhide HJ).val 1 (rg_dep hi1 1 (by kernel_rfl))
                    go_simp
                    exact hK _ _ ⟨slotPut U 12 _, (by rw [slotEq d0, slotEq d1]; rfl), (unhide HJ).put 12 _ (by decide) rfl⟩
                  · refine wpOp_step rfl (fun K hK => ?_)
                    clear hlt hif
                    have d12 : U 12 = .pointer (some ⟨g, i * 8, none⟩) := (unhide HJ).val 12 (rg_dep hi1 12 (by kernel_rfl))
                    have d7 : U 7 = .agg Qc.toArray := (unhide HJ).val 7 (rg_dep hi1 7 (by kernel_rfl))
                    obtain rfl := (unhide HJ).off (getD_ft h0)
                    rw [if_pos (by rfl)]
                    refine wp_store_mid 28 _ _ rfl g (i * 8) Qc.toArray d12 d7 (by rw [List.size_toArray, (unhide HLen).2]; exact unhide HTI) (by rw [List.size_toArray, (unhide HLen).2]; kernel_rfl) (all_oneCell_toArray (unhide HQO)) ?_
                    exact hK _ _ ⟨U, rfl, (unhide HJ).store (unhide HLS) trivial (fun j hj => by
                      rcases List.mem_cons.1 hj with rfl | hj
                      · exact rg_dep hi1 7 (by kernel_rfl)
                      · obtain rfl := List.mem_singleton.1 hj
                        exact rg_dep hi1 11 (by kernel_rfl))⟩
                  · refine wpOp_step rfl (fun K hK => ?_)
                    clear hlt hif
                    have d2 : U 2 = .slice (some ⟨g, 0, none⟩) 8 8 := (unhide HJ).val 2 (rg_dep hi1 2 (by kernel_rfl))
                    have d3 : U 3 = .int .i64 (k : Int) := (unhide HJ).val 3 (rg_dep hi1 3 (by kernel_rfl))
                    go_simp
                    exact hK _ _ ⟨slotPut U 14 _, (by rw [slotEq d2, slotEq d3]; rfl), (unhide HJ).put 14 _ (by decide) rfl⟩
                · rintro ls a w ⟨U, rfl, hJ⟩ hall
                  have d14 : U 14 = .pointer (some ⟨g, k * 8, none⟩) := hJ.val 14 (hall 14 (by decide) (by decide))
                  have d11 : U 11 = .agg Pc.toArray := hJ.val 11 (hall 11 (by decide) (by decide))
                  obtain rfl := (hJ.on (hall 13 (by decide) (by decide))).1
                  clear hJ hall
                  refine wpOp_step rfl (fun K hK => ?_)
                  rw [if_pos (by rfl)]
                  refine wp_store_mid 28 _ _ rfl g (k * 8) Pc.toArray d14 d11 (by rw [List.size_toArray, (unhide HLen).1]; exact unhide HTK) (by rw [List.size_toArray, (unhide HLen).1]; kernel_rfl) (all_oneCell_toArray (unhide HPO)) ?_
                  refine hK _ _ ?_
                  clear hK d14 d11 HTK HTI HRI HRK HPO HQO HLen
                  rw [show Pc.toArray.toList = Pc from rfl]
                  generalize (wr.drew.setCells g (i * 8) Qc).setCells g (k * 8) Pc = w9 at *
                  go_wp2_with fail
                  exact ⟨⟨i + 1, by go_num, by omega, HN⟩, by simp [intOf]; omega⟩
              | false =>
                obtain ⟨l, hl⟩ := unhide HL
                have HH5 : Hz (JoS m T a0 a1 a2 a3 a4 a5 a6 a7 c0 c1 c2 c3 c4 c5 c6 c7 us oa on oz W wr) := hide ((unhide HH4).below (unhide HG ▸ hl.bl))
                have HL5 := hide hl
                clear hl HL HOR HC
                go_wp2_with fail
                generalize wr = w6 at *
                go_loopw [20, 21] (fun v20 v21 wq => ∃ i : Nat, v21 = .int .i64 i ∧ i ≤ 8 ∧ ∃ st : ByteArray, v20 = .string st ∧ Hz (st = catB ((l.take i).map (single T))) ∧ Hz (JoS m T a0 a1 a2 a3 a4 a5 a6 a7 c0 c1 c2 c3 c4 c5 c6 c7 us oa on oz W wq) ∧ Hz (JoL T a0 a1 a2 a3 a4 a5 a6 a7 c0 c1 c2 c3 c4 c5 c6 c7 g l w4 wq)) (fun _ v21 _ => 8 - (intOf v21).toNat)
                case atStart => exact ⟨0, rfl, by omega, _, rfl, hide catB_nil.symm, HH5, HL5⟩
                case round =>
                  obtain ⟨i, rfl, hi8, st, rfl, HST, HHq, HLq⟩ := hrel
                  clear HH5 HL5
                  by_cases hi : i < 8
                  · have hi' : (i : Int) < 8 := by omega
                    have hl := unhide HLq
                    have hll : l.length = 8 := by have := hl.pm.length_eq; simpa using this
                    obtain ⟨p, hp⟩ : ∃ p, l[i]? = some p := ⟨_, List.getElem?_eq_getElem (by omega)⟩
                    have hp8 : p < 8 := by have := hl.pm.mem_iff.1 (List.mem_of_getElem? hp); simp at this; omega
                    have hsz := take_size T l (i + 1)
                    rw [perm_size T hl.pm] at hsz
                    have hsn : (l.take (i + 1)).map (single T) = (l.take i).map (single T) ++ [single T p] := by rw [List.take_add_one, hp, List.map_append]; rfl
                    rw [hsn, catB_snoc, ByteArray.size_append] at hsz
                    have hsz2 : (textT (single T p)).size ≤ 262144 := by have := (unhide HOK).2; omega
                    have hok := single_ok (unhide HOK).1 p
                    have HPT := hide (print_text hok hsz2)
                    obtain ⟨x0, x1, x2, x3, x4, x5, x6, x7, d0, d1, d2, d3, d4, d5, d6, d7, us', hX, hti⟩ := cellJ_tab (unhide HHq).ti c0 c1 c2 c3 c4 c5 c6 c7 p hp8
                    have hz : ∀ j v, (cellJ T a0 a1 a2 a3 a4 a5 a6 a7 c0 c1 c2 c3 c4 c5 c6 c7 p).toArray[j]? = some v → wr.cell? ⟨g, i * 8 + j, none⟩ = some v := fun j v hv => rowJ_cell hl.bk hp (by simpa using hv)
                    rw [hX] at hz
                    have z0 : wr.cell? ⟨g, i * 8, none⟩ = some (.slice x0 (single T p).sc.length d0) := hz 0 _ rfl
                    have z1 : wr.cell? ⟨g, i * 8 + 1, none⟩ = some (.slice x1 (single T p).co.length d1) := hz 1 _ rfl
                    have z2 : wr.cell? ⟨g, i * 8 + 2, none⟩ = some (.slice x2 (single T p).ma.length d2) := hz 2 _ rfl
                    have z3 : wr.cell? ⟨g, i * 8 + 3, none⟩ = some (.slice x3 (single T p).pr.length d3) := hz 3 _ rfl
                    have z4 : wr.cell? ⟨g, i * 8 + 4, none⟩ = some (.slice x4 (single T p).fo.length d4) := hz 4 _ rfl
                    have z5 : wr.cell? ⟨g, i * 8 + 5, none⟩ = some (.slice x5 (single T p).lk.length d5) := hz 5 _ rfl
                    have z6 : wr.cell? ⟨g, i * 8 + 6, none⟩ = some (.slice x6 (single T p).dr.length d6) := hz 6 _ rfl
                    have z7 : wr.cell? ⟨g, i * 8 + 7, none⟩ = some (.slice x7 (single T p).al.length d7) := hz 7 _ rfl
                    have HPR := hide (print_any (single T p) x0 x1 x2 x3 x4 x5 x6 x7 d0 d1 d2 d3 d4 d5 d6 d7 us' wr hti (single_tab (unhide HO) p) (unhide HHq).e.p)
                    have HSN : Hz (catB ((l.take i).map (single T)) ++ textT (single T p) = catB ((l.take (i + 1)).map (single T))) := hide (by rw [hsn, catB_snoc])
                    have HSZ : Hz ((catB ((l.take i).map (single T))).size + (textT (single T p)).size ≤ 262144) := hide (by have := (unhide HOK).2; omega)
                    clear hl hll hp hp8 hsz hsn hsz2 hok hX hti hz
                    generalize single T p = T1 at *
                    go_wp2_with fail
                    refine (unhide HPR).mono ?_
                    rintro e w7 ⟨rfl, hb7⟩
                    rw [unhide HPT]
                    have HH7 := hide ((unhide HHq).below hb7)
                    have HL7 : Hz (JoL T a0 a1 a2 a3 a4 a5 a6 a7 c0 c1 c2 c3 c4 c5 c6 c7 g l w4 w7) := hide ⟨(unhide HLq).pm, (unhide HLq).bk.below hb7 (unhide HLq).bk.lt, (unhide HLq).bl.trans (hb7.mono (Nat.le_of_lt (unhide HLq).bk.lt))⟩
                    clear hb7 HPR HHq HLq z0 z1 z2 z3 z4 z5 z6 z7 HPT
                    generalize textT T1 = tx at *
                    have HS2 : Hz (st ++ tx = catB ((l.take (i + 1)).map (single T))) := hide (by rw [unhide HST]; exact unhide HSN)
                    have q1 : ∀ w : World, (Op.stringOp .add st tx).run Tryz.prog w = .ok (.string (st ++ tx)) w := fun w => run_string_add_sum w _ _ (by have := unhide HSZ; rw [← unhide HST] at this; omega)
                    clear HST HSN HSZ
                    go_wp2_with fail
                    exact ⟨⟨i + 1, by go_num, by omega, _, rfl, HS2, HH7, HL7⟩, by simp [intOf]; omega⟩
                  · have hi' : ¬ (i : Int) < 8 := by omega
                    obtain rfl : i = 8 := by omega
                    have hll : l.length = 8 := by have := (unhide HLq).pm.length_eq; simpa using this
                    obtain ⟨k, T3, h3, e3⟩ := parse_perm (unhide HOK).1 (unhide HLq).pm
                    have hst : st = catB (l.map (single T)) := by have := unhide HST; rwa [List.take_of_length_le (by omega)] at this
                    have hss : st.size ≤ 262144 := by rw [hst, perm_size T (unhide HLq).pm]; exact (unhide HOK).2
                    rw [← hst] at h3
                    have hbq := (unhide HHq).e.p.big
                    have HPA := hide (parse_eq st hss _ h3 m wr (unhide HHq).e.max (by omega))
                    have HT3 := hide (And.intro (parse_le hss h3) e3)
                    clear h3 e3 hst hll HST HLq hbq HG
                    go_wp2_with fail
                    refine (unhide HPA).mono ?_
                    rintro e w7 ⟨v7, er7, rfl, hb7, hpa7⟩
                    obtain ⟨rfl, Tz, lz, vz, rfl, _, _, hTbz⟩ := hpa7
                    have hbd : Below w7.heap.size w7 w7.drew := ⟨rfl, rfl, rfl, Nat.le_refl _, fun _ _ => rfl⟩
                    have HD := hide (((unhide HHq).below hb7).below hbd)
                    have HTD := hide (hTbz.fresh (below_grown2 (row := none) hbd))
                    have z0 : w7.drew.cell? ⟨W.heap.size, 0, none⟩ = some (.slice a0 T.sc.length c0) := (unhide HD).b0.cell 0
                    have z1 : w7.drew.cell? ⟨W.heap.size, 1, none⟩ = some (.slice a1 T.co.length c1) := (unhide HD).b0.cell 1
                    have z2 : w7.drew.cell? ⟨W.heap.size, 2, none⟩ = some (.slice a2 T.ma.length c2) := (unhide HD).b0.cell 2
                    have z3 : w7.drew.cell? ⟨W.heap.size, 3, none⟩ = some (.slice a3 T.pr.length c3) := (unhide HD).b0.cell 3
                    have z4 : w7.drew.cell? ⟨W.heap.size, 4, none⟩ = some (.slice a4 T.fo.length c4) := (unhide HD).b0.cell 4
                    have z5 : w7.drew.cell? ⟨W.heap.size, 5, none⟩ = some (.slice a5 T.lk.length c5) := (unhide HD).b0.cell 5
                    have z6 : w7.drew.cell? ⟨W.heap.size, 6, none⟩ = some (.slice a6 T.dr.length c6) := (unhide HD).b0.cell 6
                    have z7 : w7.drew.cell? ⟨W.heap.size, 7, none⟩ = some (.slice a7 T.al.length c7) := (unhide HD).b0.cell 7
                    clear hb7 hTbz hbd HPA HHq
                    go_wp2_with fail
                    go_region_held3 (fun w' => w'.cell? ⟨W.heap.size, 0, none⟩ = some (.slice a0 T.sc.length c0) ∧ w'.cell? ⟨W.heap.size, 1, none⟩ = some (.slice a1 T.co.length c1) ∧ w'.cell? ⟨W.heap.size, 2, none⟩ = some (.slice a2 T.ma.length c2) ∧ w'.cell? ⟨W.heap.size, 3, none⟩ = some (.slice a3 T.pr.length c3) ∧ w'.cell? ⟨W.heap.size, 4, none⟩ = some (.slice a4 T.fo.length c4) ∧ w'.cell? ⟨W.heap.size, 5, none⟩ = some (.slice a5 T.lk.length c5) ∧ w'.cell? ⟨W.heap.size, 6, none⟩ = some (.slice a6 T.dr.length c6) ∧ w'.cell? ⟨W.heap.size, 7, none⟩ = some (.slice a7 T.al.length c7)) (first | with_reducible exact ⟨z0, z1, z2, z3, z4, z5, z6, z7⟩ | with_reducible exact ⟨y0, y1, y2, y3, y4, y5, y6, y7⟩ | with_reducible exact ⟨t0, t1, t2, t3, t4, t5, t6, t7⟩ | with_reducible exact ⟨u0, u1, u2, u3, u4, u5, u6, u7⟩)
                      (first
                      | (go_at_call 10; refine (known_any5 m w9 (unhide HH9).e).mono ?_; rintro e w10 ⟨rfl, hb10⟩; have HH10 := hide ((unhide HH9).below hb10); have u0 : w10.cell? ⟨W.heap.size, 0, none⟩ = some (.slice a0 T.sc.length c0) := (unhide HH10).b0.cell 0; have u1 : w10.cell? ⟨W.heap.size, 1, none⟩ = some (.slice a1 T.co.length c1) := (unhide HH10).b0.cell 1; have u2 : w10.cell? ⟨W.heap.size, 2, none⟩ = some (.slice a2 T.ma.length c2) := (unhide HH10).b0.cell 2; have u3 : w10.cell? ⟨W.heap.size, 3, none⟩ = some (.slice a3 T.pr.length c3) := (unhide HH10).b0.cell 3; have u4 : w10.cell? ⟨W.heap.size, 4, none⟩ = some (.slice a4 T.fo.length c4) := (unhide HH10).b0.cell 4; have u5 : w10.cell? ⟨W.heap.size, 5, none⟩ = some (.slice a5 T.lk.length c5) := (unhide HH10).b0.cell 5; have u6 : w10.cell? ⟨W.heap.size, 6, none⟩ = some (.slice a6 T.dr.length c6) := (unhide HH10).b0.cell 6; have u7 : w10.cell? ⟨W.heap.size, 7, none⟩ = some (.slice a7 T.al.length c7) := (unhide HH10).b0.cell 7; clear hb10)
                      | (go_at_call 6; refine (show Calls Tryz.prog 6 #[.agg #[.slice x0 T.sc.length q0, .slice x1 T.co.length q1, .slice x2 T.ma.length q2, .slice x3 T.pr.length q3, .slice x4 T.fo.length q4, .slice x5 T.lk.length q5, .slice x6 T.dr.length q6, .slice x7 T.al.length q7], .agg #[.slice a0 T.sc.length c0, .slice a1 T.co.length c1, .slice a2 T.ma.length c2, .slice a3 T.pr.length c3, .slice a4 T.fo.length c4, .slice a5 T.lk.length c5, .slice a6 T.dr.length c6, .slice a7 T.al.length c7]] w8 _ from unhide HKS).mono ?_; rintro e w9 ⟨rfl, hb9⟩; have HH9 := hide ((unhide HH8).below hb9); have t0 : w9.cell? ⟨W.heap.size, 0, none⟩ = some (.slice a0 T.sc.length c0) := (unhide HH9).b0.cell 0; have t1 : w9.cell? ⟨W.heap.size, 1, none⟩ = some (.slice a1 T.co.length c1) := (unhide HH9).b0.cell 1; have t2 : w9.cell? ⟨W.heap.size, 2, none⟩ = some (.slice a2 T.ma.length c2) := (unhide HH9).b0.cell 2; have t3 : w9.cell? ⟨W.heap.size, 3, none⟩ = some (.slice a3 T.pr.length c3) := (unhide HH9).b0.cell 3; have t4 : w9.cell? ⟨W.heap.size, 4, none⟩ = some (.slice a4 T.fo.length c4) := (unhide HH9).b0.cell 4; have t5 : w9.cell? ⟨W.heap.size, 5, none⟩ = some (.slice a5 T.lk.length c5) := (unhide HH9).b0.cell 5; have t6 : w9.cell? ⟨W.heap.size, 6, none⟩ = some (.slice a6 T.dr.length c6) := (unhide HH9).b0.cell 6; have t7 : w9.cell? ⟨W.heap.size, 7, none⟩ = some (.slice a7 T.al.length c7) := (unhide HH9).b0.cell 7; clear hb9)
                      | (go_at_call 7; refine (tables_any lz Tz vz T3 _ _ _ (unhide HT3).1 (fun s hs => (tab_z0 (unhide HT3).2 (unhide HO) s hs)) w7.drew (unhide HTD)).mono ?_; rintro e w8 ⟨v8, rfl, hta8, hb8⟩; obtain ⟨x0, x1, x2, x3, x4, x5, x6, x7, q0, q1, q2, q3, q4, q5, q6, q7, us8, rfl, htin8⟩ := tabx_t8 hta8 (unhide HT3).2; have HH8 := hide ((unhide HD).below hb8); have HKS := hide (keepSame_row T (unhide HO) x0 x1 x2 x3 x4 x5 x6 x7 a0 a1 a2 a3 a4 a5 a6 a7 q0 q1 q2 q3 q4 q5 q6 q7 c0 c1 c2 c3 c4 c5 c6 c7 us8 us w8 htin8 (unhide HH8).ti); unfold tabV at HKS; have y0 : w8.cell? ⟨W.heap.size, 0, none⟩ = some (.slice a0 T.sc.length c0) := (unhide HH8).b0.cell 0; have y1 : w8.cell? ⟨W.heap.size, 1, none⟩ = some (.slice a1 T.co.length c1) := (unhide HH8).b0.cell 1; have y2 : w8.cell? ⟨W.heap.size, 2, none⟩ = some (.slice a2 T.ma.length c2) := (unhide HH8).b0.cell 2; have y3 : w8.cell? ⟨W.heap.size, 3, none⟩ = some (.slice a3 T.pr.length c3) := (unhide HH8).b0.cell 3; have y4 : w8.cell? ⟨W.heap.size, 4, none⟩ = some (.slice a4 T.fo.length c4) := (unhide HH8).b0.cell 4; have y5 : w8.cell? ⟨W.heap.size, 5, none⟩ = some (.slice a5 T.lk.length c5) := (unhide HH8).b0.cell 5; have y6 : w8.cell? ⟨W.heap.size, 6, none⟩ = some (.slice a6 T.dr.length c6) := (unhide HH8).b0.cell 6; have y7 : w8.cell? ⟨W.heap.size, 7, none⟩ = some (.slice a7 T.al.length c7) := (unhide HH8).b0.cell 7; clear hta8 hb8 htin8))
                    all_goals
                      go_wp2_with fail
                      go_ret
                      exact ⟨rfl, (unhide HH10).bl⟩
theorem joins_card (sa : ByteArray) (hsa : sa.size ≤ 1048576) (sb : ByteArray) (hsb : sb.size ≤ 1048576) (T : TV) (hTT : TabB T ∧ TabI T) (a0 a1 a2 a3 a4 a5 a6 a7 : Option Addr) (c0 c1 c2 c3 c4 c5 c6 c7 : Nat) (us : List Value) (oa : Option Addr) (on oc : Nat) (oz : List Int) (hon : on ≤ 1048576) (m : Int) (W : World) (hE : EnvK m W ∧ EnvR W) (hA : TabIn W T a0 a1 a2 a3 a4 a5 a6 a7 us) (hO : ArgRow .i64 W oa on oc oz) :
    Calls Tryz.prog 3 #[.string sa, .string sb, .agg (tabV T a0 a1 a2 a3 a4 a5 a6 a7 c0 c1 c2 c3 c4 c5 c6 c7), .slice oa on oc] W fun e w' => e = .returned (.bool true) ∧ Below W.heap.size W w' :=
  joins_any5 sa hsa sb hsb T hTT a0 a1 a2 a3 a4 a5 a6 a7 c0 c1 c2 c3 c4 c5 c6 c7 us oa on oc oz hon m W hE hA (fun h0 => by
    obtain ⟨g, o, e, hg, hc⟩ := hO.2.2.2 (by have := hO.1; omega)
    exact ⟨g, o, e, hg, fun i hi => hc i (by have := hO.1; omega)⟩)
end Go.Proofs.YtjgfmobmilgapaaGreatDoor
