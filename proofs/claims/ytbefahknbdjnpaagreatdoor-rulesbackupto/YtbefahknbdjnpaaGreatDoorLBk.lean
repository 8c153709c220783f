/- RulesBack: what is printed is read back; what was read is printed, and read again. -/
import Derived.Test.YtbefahknbdjnpaaGreatDoorArgT
import Derived.Test.YtbefahknbdjnpaaGreatDoorM31
import Derived.Test.YtbefahknbdjnpaaGreatDoorM23
namespace Go.Proofs.YtbefahknbdjnpaaGreatDoor
open Go.RowKit Go.Shelf
set_option linter.unusedVariables false
theorem tables_back (ws : List W8) (T : TV) (hO : TabOk T) (lo Tx : Nat) (vs : List Value) (eb el ec : Int) (W : World) (h : TbAt W lo Tx vs (lsOf (backT ws T) (vs.drop 17)) eb el ec) :
    Calls Tryz.prog 20 #[.pointer (some ⟨Tx, 0, none⟩)] W fun e w' => ∃ v, e = .returned v ∧ TabAt w' W.heap.size T v ∧ Below W.heap.size W w' := tables_any lo Tx vs (backT ws T) eb el ec (ok_back_Le ws hO) (fun s hs => (hO.z0 s hs).2) W h
set_option maxRecDepth 100000 in
set_option maxHeartbeats 4000000 in
theorem back_any5 (T : TV) (hT : TabB T) (a0 a1 a2 a3 a4 a5 a6 a7 : Option Addr) (c0 c1 c2 c3 c4 c5 c6 c7 : Nat) (us : List Value) (src : ByteArray) (hsrc : src.size ≤ 1048576) (m : Int) (W : World) (hE : EnvK m W) (hA : TabIn W T a0 a1 a2 a3 a4 a5 a6 a7 us) :
    Calls Tryz.prog 5 #[.agg (tabV T a0 a1 a2 a3 a4 a5 a6 a7 c0 c1 c2 c3 c4 c5 c6 c7), .string src] W fun e w' => e = .returned (.bool true) ∧ Below W.heap.size W w' := by
  have hmx : Tryz.prog.follows .mixedOrders = true := by kernel_rfl
  have hB0 : Below W.heap.size W (W.alloc (.cells (tabV T a0 a1 a2 a3 a4 a5 a6 a7 c0 c1 c2 c3 c4 c5 c6 c7) 33)) := (Below.refl _ W).alloc (Nat.le_refl _) _
  have bA := Blk.new W (tabV T a0 a1 a2 a3 a4 a5 a6 a7 c0 c1 c2 c3 c4 c5 c6 c7) 33
  have HH := hide (And.intro (hE.below hB0) (And.intro (hA.lower hB0) (And.intro hB0 bA)))
  have HT := hide hT
  have HL := hide (fun (w : World) (h : TabIn w T a0 a1 a2 a3 a4 a5 a6 a7 us) => large_any T hT a0 a1 a2 a3 a4 a5 a6 a7 c0 c1 c2 c3 c4 c5 c6 c7 us w h)
  have z0 := bA.cell 0
  have z1 := bA.cell 1
  have z2 := bA.cell 2
  have z3 := bA.cell 3
  have z4 := bA.cell 4
  have z5 := bA.cell 5
  have z6 := bA.cell 6
  have z7 := bA.cell 7
  clear hE hA hB0 bA hT
  unfold tabV at HH z0 z1 z2 z3 z4 z5 z6 z7 HL ⊢
  go_enter Tryz.func5, Tryz.ntmps5
  go_wp2_with fail
  generalize W.alloc (.cells #[.slice a0 T.sc.length c0, .slice a1 T.co.length c1, .slice a2 T.ma.length c2, .slice a3 T.pr.length c3, .slice a4 T.fo.length c4, .slice a5 T.lk.length c5, .slice a6 T.dr.length c6, .slice a7 T.al.length c7] 33) = w0 at *
  refine (unhide HL _ (unhide HH).2.1).mono ?_
  rintro e w1 ⟨rfl, hb⟩
  have HH1 := hide (And.intro ((unhide HH).1.below hb) (And.intro ((unhide HH).2.1.lower hb) (And.intro ((unhide HH).2.2.1.trans (hb.mono (unhide HH).2.2.1.size)) ((unhide HH).2.2.2.below hb (unhide HH).2.2.2.lt))))
  clear hb HH HL z0 z1 z2 z3 z4 z5 z6 z7
  cases hLB : largeB T with
  | true =>
    have HK := hide (known_any5 m w1 (unhide HH1).1)
    go_wp2_with fail
    refine (unhide HK).mono ?_
    rintro e w2 ⟨rfl, hb2⟩
    have HB := hide ((unhide HH1).2.2.1.trans (hb2.mono (unhide HH1).2.2.1.size))
    clear hb2
    go_wp2_with fail
    go_ret
    exact ⟨rfl, unhide HB⟩
  | false =>
    have HO := hide ((unhide HT).ok hLB)
    clear hLB
    have z0 := (unhide HH1).2.2.2.cell 0
    have z1 := (unhide HH1).2.2.2.cell 1
    have z2 := (unhide HH1).2.2.2.cell 2
    have z3 := (unhide HH1).2.2.2.cell 3
    have z4 := (unhide HH1).2.2.2.cell 4
    have z5 := (unhide HH1).2.2.2.cell 5
    have z6 := (unhide HH1).2.2.2.cell 6
    have z7 := (unhide HH1).2.2.2.cell 7
    have HPR := hide (print_any T a0 a1 a2 a3 a4 a5 a6 a7 c0 c1 c2 c3 c4 c5 c6 c7 us w1 (unhide HH1).2.1 (unhide HO) (unhide HH1).1.p)
    go_wp2_with fail
    refine (unhide HPR).mono ?_
    rintro e w2 ⟨rfl, hb2⟩
    have HH2 := hide (And.intro ((unhide HH1).1.below hb2) (And.intro ((unhide HH1).2.1.lower hb2) (And.intro ((unhide HH1).2.2.1.trans (hb2.mono (unhide HH1).2.2.1.size)) ((unhide HH1).2.2.2.below hb2 (unhide HH1).2.2.2.lt))))
    clear hb2 HPR HH1 z0 z1 z2 z3 z4 z5 z6 z7
    generalize hPV : printV T = PV at *
    have HPV := hide hPV
    clear hPV
    obtain ⟨s1, f1⟩ := PV
    dsimp only
    cases hf1 : (f1 == 0) with
    | false =>
      clear HPV
      go_wp2_with fail
      refine (few_any5 src (by unfold maxLen; omega) 3000 (by decide) w2).mono ?_
      rintro e wf ⟨rfl, hwf⟩
      rw [hwf]
      clear hwf
      have hF := fewV_size src 3000
      generalize fewV src 3000 = s2 at *
      have hbigF := (unhide HH2).1.p.big
      obtain ⟨P2, hP2⟩ : ∃ P2, parseA s2 = P2 := ⟨_, rfl⟩
      have HPA := hide (parse_eq s2 (by omega) P2 hP2 m w2 (unhide HH2).1.max (by omega))
      obtain ⟨k2, bad2, T2⟩ := P2
      have HP2 := hide hP2
      clear hP2
      have hs2 : Hz (s2.size ≤ 3000) := hide hF
      clear hF
      go_wp2_with fail
      refine (unhide HPA).mono ?_
      rintro e w5 ⟨v5, er5, rfl, hb5, hpa5⟩
      have HE5 := hide ((unhide HH2).1.below hb5)
      have HB5 := hide ((unhide HH2).2.2.1.trans (hb5.mono (unhide HH2).2.2.1.size))
      clear hb5 HPA
      cases bad2 with
      | some r2 =>
        obtain ⟨rfl, F5, rfl, _, _⟩ := hpa5
        have HK := hide (known_any5 m w5 (unhide HE5))
        go_wp2_with fail
        refine (unhide HK).mono ?_
        rintro e w6 ⟨rfl, hb6⟩
        have HB6 := hide ((unhide HB5).trans (hb6.mono (unhide HB5).size))
        clear hb6
        go_wp2_with fail
        go_ret
        exact ⟨rfl, unhide HB6⟩
      | none =>
        obtain ⟨rfl, Tx, lo, vs, rfl, hTx, hlo, hTb⟩ := hpa5
        obtain ⟨g1, g2, g3, g4⟩ := parse_small (unhide hs2) (unhide HP2)
        have HTB := hide hTb
        have HG := hide (And.intro g1 (And.intro g2 (And.intro g3 g4)))
        have HTA := hide (tables_any lo Tx vs T2 _ _ _ g4 (fun s hs => (g3.z0 s hs).2) w5 hTb)
        clear hTb g1 g2 g3 g4 HP2 hTx hlo
        go_wp2_with fail
        refine (unhide HTA).mono ?_
        rintro e w6 ⟨v6, rfl, hta6, hb6⟩
        obtain ⟨y0, y1, y2, y3, y4, y5, y6, y7, d0, d1, d2, d3, d4, d5, d6, d7, us6, rfl, htin6, hL6⟩ := hta6.inn
        have HE6 := hide ((unhide HE5).below hb6)
        have HB6 := hide ((unhide HB5).trans (hb6.mono (unhide HB5).size))
        have HTB6 := hide ((unhide HTB).fresh (below_grown2 (row := none) hb6))
        have HPR := hide (print_any T2 y0 y1 y2 y3 y4 y5 y6 y7 d0 d1 d2 d3 d4 d5 d6 d7 us6 w6 htin6 (unhide HG).2.2.1 (unhide HE6).p)
        rw [print_text (unhide HG).1 (unhide HG).2.1] at HPR
        dsimp only at HPR
        clear hta6 htin6 hL6 hb6 HTA HTB HE5 HB5
        go_wp2_with fail
        refine (unhide HPR).mono ?_
        rintro e w7 ⟨rfl, hb7⟩
        have HE7 := hide ((unhide HE6).below hb7)
        have HB7 := hide ((unhide HB6).trans (hb7.mono (unhide HB6).size))
        have HTB7 := hide ((unhide HTB6).fresh (below_grown2 (row := none) hb7))
        have hbig7 := (unhide HE7).p.big
        have HP8 := hide (parse_eq (textT T2) (unhide HG).2.1 _ (parse_text (unhide HG).1) m w7 (unhide HE7).max (by omega))
        obtain ⟨BT, hBT⟩ : ∃ BT, BT = backT (wsOf (textT T2)) T2 := ⟨_, rfl⟩
        rw [← hBT] at HP8
        have HPT2 := hide (print_text (unhide HG).1 (unhide HG).2.1)
        have HBT := hide hBT
        clear hBT hb7 HPR HE6 HB6 HTB6
        generalize textT T2 = tx2 at *
        go_wp2_with fail
        refine (unhide HP8).mono ?_
        rintro e w8 ⟨v8, er8, rfl, hb8, hpa8⟩
        obtain ⟨rfl, Tz, lz, vz, rfl, hTz, hlz, hTbz⟩ := hpa8
        have HE8 := hide ((unhide HE7).below hb8)
        have HB8 := hide ((unhide HB7).trans (hb8.mono (unhide HB7).size))
        have HTB8 := hide ((unhide HTB7).fresh (below_grown2 (row := none) hb8))
        have HZ8 := hide hTbz
        clear hb8 hTbz hTz hlz HP8 HE7 HB7 HTB7
        have hBT := unhide HBT
        have HOB : Hz (TabOk BT) := hide (by rw [hBT]; exact back_ok _ (unhide HG).2.2.1)
        have HLB : Hz (BT.Le 1000000) := hide (by rw [hBT]; exact ok_back_Le _ (unhide HG).2.2.1)
        have HT9 := hide (tables_any lz Tz vz BT _ _ _ (unhide HLB) (fun s hs => ((unhide HOB).z0 s hs).2) w8 (unhide HZ8))
        clear hBT
        go_wp2_with fail
        refine (unhide HT9).mono ?_
        rintro e w9 ⟨v9, rfl, hta9, hb9⟩
        obtain ⟨x0, x1, x2, x3, x4, x5, x6, x7, q0, q1, q2, q3, q4, q5, q6, q7, us9, rfl, htin9, hL9⟩ := hta9.inn
        have HE9 := hide ((unhide HE8).below hb9)
        have HB9 := hide ((unhide HB8).trans (hb9.mono (unhide HB8).size))
        have HTB9 := hide ((unhide HTB8).fresh (below_grown2 (row := none) hb9))
        have HZ9 := hide ((unhide HZ8).fresh (below_grown2 (row := none) hb9))
        have HI9 := hide htin9
        have HTA := hide (tables_any lo Tx vs T2 _ _ _ (unhide HG).2.2.2 (fun s hs => ((unhide HG).2.2.1.z0 s hs).2) w9 (unhide HTB9))
        clear hta9 hb9 htin9 hL9 HT9 HE8 HB8 HTB8 HZ8
        go_wp2_with fail
        refine (unhide HTA).mono ?_
        rintro e wa ⟨va, rfl, htaa, hba⟩
        obtain ⟨p0, p1, p2, p3, p4, p5, p6, p7, n0, n1, n2, n3, n4, n5, n6, n7, usa, rfl, htina, hLa⟩ := htaa.inn
        have HEa := hide ((unhide HE9).below hba)
        have HBa := hide ((unhide HB9).trans (hba.mono (unhide HB9).size))
        have HZa := hide ((unhide HZ9).fresh (below_grown2 (row := none) hba))
        have hBT := unhide HBT
        have hI2 : TabIn wa T2 x0 x1 x2 x3 x4 x5 x6 x7 us9 := by
          have := (unhide HI9).lower hba
          rw [hBT] at this
          exact ⟨this.lu, this.r0, this.r1, this.r2, this.r3, this.r4, this.r5, this.r6, this.r7, this.rs⟩
        have HKS := hide (keepSame_row T2 (unhide HG).2.2.1 x0 x1 x2 x3 x4 x5 x6 x7 p0 p1 p2 p3 p4 p5 p6 p7 q0 q1 q2 q3 q4 q5 q6 q7 n0 n1 n2 n3 n4 n5 n6 n7 us9 usa wa hI2 htina)
        unfold tabV at HKS
        have hbl : BT.sc.length = T2.sc.length ∧ BT.co.length = T2.co.length ∧ BT.ma.length = T2.ma.length ∧ BT.pr.length = T2.pr.length ∧ BT.fo.length = T2.fo.length ∧ BT.lk.length = T2.lk.length ∧ BT.dr.length = T2.dr.length ∧ BT.al.length = T2.al.length := by rw [hBT]; exact ⟨rfl, rfl, rfl, rfl, rfl, rfl, rfl, rfl⟩
        rw [hbl.1, hbl.2.1, hbl.2.2.1, hbl.2.2.2.1, hbl.2.2.2.2.1, hbl.2.2.2.2.2.1, hbl.2.2.2.2.2.2.1, hbl.2.2.2.2.2.2.2]
        clear hBT htaa hba htina hLa HTA HE9 HB9 HZ9 HI9 HTB9 hI2 hbl
        go_wp2_with fail
        refine (unhide HKS).mono ?_
        rintro e wb ⟨rfl, hbb⟩
        have HEb := hide ((unhide HEa).below hbb)
        have HBb := hide ((unhide HBa).trans (hbb.mono (unhide HBa).size))
        have HZb := hide ((unhide HZa).fresh (below_grown2 (row := none) hbb))
        have HT9 := hide (tables_any lz Tz vz BT _ _ _ (unhide HLB) (fun s hs => ((unhide HOB).z0 s hs).2) wb (unhide HZb))
        clear hbb HKS HEa HBa HZa
        go_wp2_with fail
        refine (unhide HT9).mono ?_
        rintro e wc ⟨vc, rfl, htac, hbc⟩
        obtain ⟨x0, x1, x2, x3, x4, x5, x6, x7, q0, q1, q2, q3, q4, q5, q6, q7, us9, rfl, htin9, hL9⟩ := htac.inn
        have HEc := hide ((unhide HEb).below hbc)
        have HBc := hide ((unhide HBb).trans (hbc.mono (unhide HBb).size))
        have HPR := hide (print_any BT x0 x1 x2 x3 x4 x5 x6 x7 q0 q1 q2 q3 q4 q5 q6 q7 us9 wc htin9 (unhide HOB) (unhide HEc).p)
        rw [show printV BT = (tx2, 0) by rw [unhide HBT, print_back]; exact unhide HPT2] at HPR
        dsimp only at HPR
        clear htac hbc htin9 hL9 HT9 HEb HBb HZb
        go_wp2_with fail
        refine (unhide HPR).mono ?_
        rintro e wd ⟨rfl, hbd⟩
        have HBd := hide ((unhide HBc).trans (hbd.mono (unhide HBc).size))
        have HK := hide (known_any5 m wd ((unhide HEc).below hbd))
        have e1 : (tx2.toList == tx2.toList) = true := by simp
        clear hbd HPR HEc HBc
        go_wp2_with fail
        refine (unhide HK).mono ?_
        rintro e we ⟨rfl, hbe⟩
        have HBe := hide ((unhide HBd).trans (hbe.mono (unhide HBd).size))
        clear hbe
        go_wp2_with fail
        go_ret
        exact ⟨rfl, unhide HBe⟩
    | true =>
      obtain rfl : f1 = 0 := by simpa using hf1
      clear hf1
      obtain ⟨g1, g2, rfl⟩ : okT T = true ∧ (textT T).size ≤ 262144 ∧ s1 = textT T := by
        rcases print_three T with ⟨h1, h2, h3⟩ | ⟨_, _, h3⟩ | ⟨_, h3⟩
        · rw [unhide HPV] at h3; exact ⟨h1, h2, (Prod.mk.inj h3).1⟩
        · rw [unhide HPV] at h3; exact absurd (Prod.mk.inj h3).2 (by decide)
        · rw [unhide HPV] at h3; exact absurd (Prod.mk.inj h3).2 (by decide)
      have hbig2 := (unhide HH2).1.p.big
      have HP3 := hide (parse_eq (textT T) g2 _ (parse_text g1) m w2 (unhide HH2).1.max (by omega))
      clear g1 g2 HPV
      generalize wsOf (textT T) = wsT at *
      generalize textT T = tx1 at *
      go_wp2_with fail
      refine (unhide HP3).mono ?_
      rintro e w3 ⟨v3, er3, rfl, hb3, hpa3⟩
      obtain ⟨rfl, Ta, la, va, rfl, hTa, hla, hTba⟩ := hpa3
      have HH3 := hide (And.intro ((unhide HH2).1.below hb3) (And.intro ((unhide HH2).2.1.lower hb3) (And.intro ((unhide HH2).2.2.1.trans (hb3.mono (unhide HH2).2.2.1.size)) ((unhide HH2).2.2.2.below hb3 (unhide HH2).2.2.2.lt))))
      have hbd : Below w3.heap.size w3 w3.drew := ⟨rfl, rfl, rfl, Nat.le_refl _, fun _ _ => rfl⟩
      have HD := hide (And.intro ((unhide HH3).1.below hbd) (And.intro ((unhide HH3).2.1.lower hbd) (And.intro ((unhide HH3).2.2.1.trans (hbd.mono (unhide HH3).2.2.1.size)) ((unhide HH3).2.2.2.below hbd (unhide HH3).2.2.2.lt))))
      have HTD := hide (hTba.fresh (below_grown2 (row := none) hbd))
      have z0 : w3.drew.cell? ⟨W.heap.size, 0, none⟩ = some (.slice a0 T.sc.length c0) := (unhide HD).2.2.2.cell 0
      have z1 : w3.drew.cell? ⟨W.heap.size, 1, none⟩ = some (.slice a1 T.co.length c1) := (unhide HD).2.2.2.cell 1
      have z2 : w3.drew.cell? ⟨W.heap.size, 2, none⟩ = some (.slice a2 T.ma.length c2) := (unhide HD).2.2.2.cell 2
      have z3 : w3.drew.cell? ⟨W.heap.size, 3, none⟩ = some (.slice a3 T.pr.length c3) := (unhide HD).2.2.2.cell 3
      have z4 : w3.drew.cell? ⟨W.heap.size, 4, none⟩ = some (.slice a4 T.fo.length c4) := (unhide HD).2.2.2.cell 4
      have z5 : w3.drew.cell? ⟨W.heap.size, 5, none⟩ = some (.slice a5 T.lk.length c5) := (unhide HD).2.2.2.cell 5
      have z6 : w3.drew.cell? ⟨W.heap.size, 6, none⟩ = some (.slice a6 T.dr.length c6) := (unhide HD).2.2.2.cell 6
      have z7 : w3.drew.cell? ⟨W.heap.size, 7, none⟩ = some (.slice a7 T.al.length c7) := (unhide HD).2.2.2.cell 7
      clear hb3 hTba hTa hla HP3 HH2 hbd HH3
      go_wp2_with fail
      go_region_held3 (fun w' => w'.cell? ⟨W.heap.size, 0, none⟩ = some (.slice a0 T.sc.length c0) ∧ w'.cell? ⟨W.heap.size, 1, none⟩ = some (.slice a1 T.co.length c1) ∧ w'.cell? ⟨W.heap.size, 2, none⟩ = some (.slice a2 T.ma.length c2) ∧ w'.cell? ⟨W.heap.size, 3, none⟩ = some (.slice a3 T.pr.length c3) ∧ w'.cell? ⟨W.heap.size, 4, none⟩ = some (.slice a4 T.fo.length c4) ∧ w'.cell? ⟨W.heap.size, 5, none⟩ = some (.slice a5 T.lk.length c5) ∧ w'.cell? ⟨W.heap.size, 6, none⟩ = some (.slice a6 T.dr.length c6) ∧ w'.cell? ⟨W.heap.size, 7, none⟩ = some (.slice a7 T.al.length c7)) (first | with_reducible exact ⟨z0, z1, z2, z3, z4, z5, z6, z7⟩ | with_reducible exact ⟨y0, y1, y2, y3, y4, y5, y6, y7⟩ | with_reducible exact ⟨t0, t1, t2, t3, t4, t5, t6, t7⟩)
        (first
        | (go_at_call 17; refine (show Calls Tryz.prog 17 #[.agg #[.slice x0 T.sc.length q0, .slice x1 T.co.length q1, .slice x2 T.ma.length q2, .slice x3 T.pr.length q3, .slice x4 T.fo.length q4, .slice x5 T.lk.length q5, .slice x6 T.dr.length q6, .slice x7 T.al.length q7], .agg #[.slice a0 T.sc.length c0, .slice a1 T.co.length c1, .slice a2 T.ma.length c2, .slice a3 T.pr.length c3, .slice a4 T.fo.length c4, .slice a5 T.lk.length c5, .slice a6 T.dr.length c6, .slice a7 T.al.length c7]] w4 _ from unhide HKS).mono ?_; rintro e w5 ⟨rfl, hb5⟩; have HH5 := hide (And.intro ((unhide HH4).1.below hb5) (And.intro ((unhide HH4).2.1.lower hb5) (And.intro ((unhide HH4).2.2.1.trans (hb5.mono (unhide HH4).2.2.1.size)) ((unhide HH4).2.2.2.below hb5 (unhide HH4).2.2.2.lt)))); have t0 : w5.cell? ⟨W.heap.size, 0, none⟩ = some (.slice a0 T.sc.length c0) := (unhide HH5).2.2.2.cell 0; have t1 : w5.cell? ⟨W.heap.size, 1, none⟩ = some (.slice a1 T.co.length c1) := (unhide HH5).2.2.2.cell 1; have t2 : w5.cell? ⟨W.heap.size, 2, none⟩ = some (.slice a2 T.ma.length c2) := (unhide HH5).2.2.2.cell 2; have t3 : w5.cell? ⟨W.heap.size, 3, none⟩ = some (.slice a3 T.pr.length c3) := (unhide HH5).2.2.2.cell 3; have t4 : w5.cell? ⟨W.heap.size, 4, none⟩ = some (.slice a4 T.fo.length c4) := (unhide HH5).2.2.2.cell 4; have t5 : w5.cell? ⟨W.heap.size, 5, none⟩ = some (.slice a5 T.lk.length c5) := (unhide HH5).2.2.2.cell 5; have t6 : w5.cell? ⟨W.heap.size, 6, none⟩ = some (.slice a6 T.dr.length c6) := (unhide HH5).2.2.2.cell 6; have t7 : w5.cell? ⟨W.heap.size, 7, none⟩ = some (.slice a7 T.al.length c7) := (unhide HH5).2.2.2.cell 7; clear hb5)
        | (go_at_call 20; refine (tables_back _ T (unhide HO) la Ta va _ _ _ w3.drew (unhide HTD)).mono ?_; rintro e w4 ⟨v4, rfl, hta4, hb4⟩; obtain ⟨x0, x1, x2, x3, x4, x5, x6, x7, q0, q1, q2, q3, q4, q5, q6, q7, us4, rfl, htin4, hL4⟩ := hta4.inn; have HH4 := hide (And.intro ((unhide HD).1.below hb4) (And.intro ((unhide HD).2.1.lower hb4) (And.intro ((unhide HD).2.2.1.trans (hb4.mono (unhide HD).2.2.1.size)) ((unhide HD).2.2.2.below hb4 (unhide HD).2.2.2.lt)))); have HKS := hide (keepSame_row T (unhide HO) x0 x1 x2 x3 x4 x5 x6 x7 a0 a1 a2 a3 a4 a5 a6 a7 q0 q1 q2 q3 q4 q5 q6 q7 c0 c1 c2 c3 c4 c5 c6 c7 us4 us w4 htin4 (unhide HH4).2.1); unfold tabV at HKS; have y0 : w4.cell? ⟨W.heap.size, 0, none⟩ = some (.slice a0 T.sc.length c0) := (unhide HH4).2.2.2.cell 0; have y1 : w4.cell? ⟨W.heap.size, 1, none⟩ = some (.slice a1 T.co.length c1) := (unhide HH4).2.2.2.cell 1; have y2 : w4.cell? ⟨W.heap.size, 2, none⟩ = some (.slice a2 T.ma.length c2) := (unhide HH4).2.2.2.cell 2; have y3 : w4.cell? ⟨W.heap.size, 3, none⟩ = some (.slice a3 T.pr.length c3) := (unhide HH4).2.2.2.cell 3; have y4 : w4.cell? ⟨W.heap.size, 4, none⟩ = some (.slice a4 T.fo.length c4) := (unhide HH4).2.2.2.cell 4; have y5 : w4.cell? ⟨W.heap.size, 5, none⟩ = some (.slice a5 T.lk.length c5) := (unhide HH4).2.2.2.cell 5; have y6 : w4.cell? ⟨W.heap.size, 6, none⟩ = some (.slice a6 T.dr.length c6) := (unhide HH4).2.2.2.cell 6; have y7 : w4.cell? ⟨W.heap.size, 7, none⟩ = some (.slice a7 T.al.length c7) := (unhide HH4).2.2.2.cell 7; clear hta4 hb4 htin4 hL4))
      all_goals
        clear z0 z1 z2 z3 z4 z5 z6 z7 y0 y1 y2 y3 y4 y5 y6 y7 t0 t1 t2 t3 t4 t5 t6 t7 HKS HH4 HD HTD
        go_wp2_with fail
        refine (few_any5 src (by unfold maxLen; omega) 3000 (by decide) w5).mono ?_
        rintro e wf ⟨rfl, hwf⟩
        rw [hwf]
        clear hwf
        have hF := fewV_size src 3000
        generalize fewV src 3000 = s2 at *
        have hbigF := (unhide HH5).1.p.big
        obtain ⟨P2, hP2⟩ : ∃ P2, parseA s2 = P2 := ⟨_, rfl⟩
        have HPA := hide (parse_eq s2 (by omega) P2 hP2 m w5 (unhide HH5).1.max (by omega))
        obtain ⟨k2, bad2, T2⟩ := P2
        have HP2 := hide hP2
        clear hP2
        have hs2 : Hz (s2.size ≤ 3000) := hide hF
        clear hF
        go_wp2_with fail
        refine (unhide HPA).mono ?_
        rintro e w5b ⟨v5, er5, rfl, hb5, hpa5⟩
        have HE5 := hide ((unhide HH5).1.below hb5)
        have HB5 := hide ((unhide HH5).2.2.1.trans (hb5.mono (unhide HH5).2.2.1.size))
        clear hb5 HPA
        cases bad2 with
        | some r2 =>
          obtain ⟨rfl, F5, rfl, _, _⟩ := hpa5
          have HK := hide (known_any5 m w5b (unhide HE5))
          go_wp2_with fail
          refine (unhide HK).mono ?_
          rintro e w6 ⟨rfl, hb6⟩
          have HB6 := hide ((unhide HB5).trans (hb6.mono (unhide HB5).size))
          clear hb6
          go_wp2_with fail
          go_ret
          exact ⟨rfl, unhide HB6⟩
        | none =>
          obtain ⟨rfl, Tx, lo, vs, rfl, hTx, hlo, hTb⟩ := hpa5
          obtain ⟨g1, g2, g3, g4⟩ := parse_small (unhide hs2) (unhide HP2)
          have HTB := hide hTb
          have HG := hide (And.intro g1 (And.intro g2 (And.intro g3 g4)))
          have HTA := hide (tables_any lo Tx vs T2 _ _ _ g4 (fun s hs => (g3.z0 s hs).2) w5b hTb)
          clear hTb g1 g2 g3 g4 HP2 hTx hlo
          go_wp2_with fail
          refine (unhide HTA).mono ?_
          rintro e w6 ⟨v6, rfl, hta6, hb6⟩
          obtain ⟨y0, y1, y2, y3, y4, y5, y6, y7, d0, d1, d2, d3, d4, d5, d6, d7, us6, rfl, htin6, hL6⟩ := hta6.inn
          have HE6 := hide ((unhide HE5).below hb6)
          have HB6 := hide ((unhide HB5).trans (hb6.mono (unhide HB5).size))
          have HTB6 := hide ((unhide HTB).fresh (below_grown2 (row := none) hb6))
          have HPR := hide (print_any T2 y0 y1 y2 y3 y4 y5 y6 y7 d0 d1 d2 d3 d4 d5 d6 d7 us6 w6 htin6 (unhide HG).2.2.1 (unhide HE6).p)
          rw [print_text (unhide HG).1 (unhide HG).2.1] at HPR
          dsimp only at HPR
          clear hta6 htin6 hL6 hb6 HTA HTB HE5 HB5
          go_wp2_with fail
          refine (unhide HPR).mono ?_
          rintro e w7 ⟨rfl, hb7⟩
          have HE7 := hide ((unhide HE6).below hb7)
          have HB7 := hide ((unhide HB6).trans (hb7.mono (unhide HB6).size))
          have HTB7 := hide ((unhide HTB6).fresh (below_grown2 (row := none) hb7))
          have hbig7 := (unhide HE7).p.big
          have HP8 := hide (parse_eq (textT T2) (unhide HG).2.1 _ (parse_text (unhide HG).1) m w7 (unhide HE7).max (by omega))
          obtain ⟨BT, hBT⟩ : ∃ BT, BT = backT (wsOf (textT T2)) T2 := ⟨_, rfl⟩
          rw [← hBT] at HP8
          have HPT2 := hide (print_text (unhide HG).1 (unhide HG).2.1)
          have HBT := hide hBT
          clear hBT hb7 HPR HE6 HB6 HTB6
          generalize textT T2 = tx2 at *
          go_wp2_with fail
          refine (unhide HP8).mono ?_
          rintro e w8 ⟨v8, er8, rfl, hb8, hpa8⟩
          obtain ⟨rfl, Tz, lz, vz, rfl, hTz, hlz, hTbz⟩ := hpa8
          have HE8 := hide ((unhide HE7).below hb8)
          have HB8 := hide ((unhide HB7).trans (hb8.mono (unhide HB7).size))
          have HTB8 := hide ((unhide HTB7).fresh (below_grown2 (row := none) hb8))
          have HZ8 := hide hTbz
          clear hb8 hTbz hTz hlz HP8 HE7 HB7 HTB7
          have hBT := unhide HBT
          have HOB : Hz (TabOk BT) := hide (by rw [hBT]; exact back_ok _ (unhide HG).2.2.1)
          have HLB : Hz (BT.Le 1000000) := hide (by rw [hBT]; exact ok_back_Le _ (unhide HG).2.2.1)
          have HT9 := hide (tables_any lz Tz vz BT _ _ _ (unhide HLB) (fun s hs => ((unhide HOB).z0 s hs).2) w8 (unhide HZ8))
          clear hBT
          go_wp2_with fail
          refine (unhide HT9).mono ?_
          rintro e w9 ⟨v9, rfl, hta9, hb9⟩
          obtain ⟨x0, x1, x2, x3, x4, x5, x6, x7, q0, q1, q2, q3, q4, q5, q6, q7, us9, rfl, htin9, hL9⟩ := hta9.inn
          have HE9 := hide ((unhide HE8).below hb9)
          have HB9 := hide ((unhide HB8).trans (hb9.mono (unhide HB8).size))
          have HTB9 := hide ((unhide HTB8).fresh (below_grown2 (row := none) hb9))
          have HZ9 := hide ((unhide HZ8).fresh (below_grown2 (row := none) hb9))
          have HI9 := hide htin9
          have HTA := hide (tables_any lo Tx vs T2 _ _ _ (unhide HG).2.2.2 (fun s hs => ((unhide HG).2.2.1.z0 s hs).2) w9 (unhide HTB9))
          clear hta9 hb9 htin9 hL9 HT9 HE8 HB8 HTB8 HZ8
          go_wp2_with fail
          refine (unhide HTA).mono ?_
          rintro e wa ⟨va, rfl, htaa, hba⟩
          obtain ⟨p0, p1, p2, p3, p4, p5, p6, p7, n0, n1, n2, n3, n4, n5, n6, n7, usa, rfl, htina, hLa⟩ := htaa.inn
          have HEa := hide ((unhide HE9).below hba)
          have HBa := hide ((unhide HB9).trans (hba.mono (unhide HB9).size))
          have HZa := hide ((unhide HZ9).fresh (below_grown2 (row := none) hba))
          have hBT := unhide HBT
          have hI2 : TabIn wa T2 x0 x1 x2 x3 x4 x5 x6 x7 us9 := by
            have := (unhide HI9).lower hba
            rw [hBT] at this
            exact ⟨this.lu, this.r0, this.r1, this.r2, this.r3, this.r4, this.r5, this.r6, this.r7, this.rs⟩
          have HKS := hide (keepSame_row T2 (unhide HG).2.2.1 x0 x1 x2 x3 x4 x5 x6 x7 p0 p1 p2 p3 p4 p5 p6 p7 q0 q1 q2 q3 q4 q5 q6 q7 n0 n1 n2 n3 n4 n5 n6 n7 us9 usa wa hI2 htina)
          unfold tabV at HKS
          have hbl : BT.sc.length = T2.sc.length ∧ BT.co.length = T2.co.length ∧ BT.ma.length = T2.ma.length ∧ BT.pr.length = T2.pr.length ∧ BT.fo.length = T2.fo.length ∧ BT.lk.length = T2.lk.length ∧ BT.dr.length = T2.dr.length ∧ BT.al.length = T2.al.length := by rw [hBT]; exact ⟨rfl, rfl, rfl, rfl, rfl, rfl, rfl, rfl⟩
          rw [hbl.1, hbl.2.1, hbl.2.2.1, hbl.2.2.2.1, hbl.2.2.2.2.1, hbl.2.2.2.2.2.1, hbl.2.2.2.2.2.2.1, hbl.2.2.2.2.2.2.2]
          clear hBT htaa hba htina hLa HTA HE9 HB9 HZ9 HI9 HTB9 hI2 hbl
          go_wp2_with fail
          refine (unhide HKS).mono ?_
          rintro e wb ⟨rfl, hbb⟩
          have HEb := hide ((unhide HEa).below hbb)
          have HBb := hide ((unhide HBa).trans (hbb.mono (unhide HBa).size))
          have HZb := hide ((unhide HZa).fresh (below_grown2 (row := none) hbb))
          have HT9 := hide (tables_any lz Tz vz BT _ _ _ (unhide HLB) (fun s hs => ((unhide HOB).z0 s hs).2) wb (unhide HZb))
          clear hbb HKS HEa HBa HZa
          go_wp2_with fail
          refine (unhide HT9).mono ?_
          rintro e wc ⟨vc, rfl, htac, hbc⟩
          obtain ⟨x0, x1, x2, x3, x4, x5, x6, x7, q0, q1, q2, q3, q4, q5, q6, q7, us9, rfl, htin9, hL9⟩ := htac.inn
          have HEc := hide ((unhide HEb).below hbc)
          have HBc := hide ((unhide HBb).trans (hbc.mono (unhide HBb).size))
          have HPR := hide (print_any BT x0 x1 x2 x3 x4 x5 x6 x7 q0 q1 q2 q3 q4 q5 q6 q7 us9 wc htin9 (unhide HOB) (unhide HEc).p)
          rw [show printV BT = (tx2, 0) by rw [unhide HBT, print_back]; exact unhide HPT2] at HPR
          dsimp only at HPR
          clear htac hbc htin9 hL9 HT9 HEb HBb HZb
          go_wp2_with fail
          refine (unhide HPR).mono ?_
          rintro e wd ⟨rfl, hbd⟩
          have HBd := hide ((unhide HBc).trans (hbd.mono (unhide HBc).size))
          have HK := hide (known_any5 m wd ((unhide HEc).below hbd))
          have e1 : (tx2.toList == tx2.toList) = true := by simp
          clear hbd HPR HEc HBc
          go_wp2_with fail
          refine (unhide HK).mono ?_
          rintro e we ⟨rfl, hbe⟩
          have HBe := hide ((unhide HBd).trans (hbe.mono (unhide HBd).size))
          clear hbe
          go_wp2_with fail
          go_ret
          exact ⟨rfl, unhide HBe⟩
end Go.Proofs.YtbefahknbdjnpaaGreatDoor
