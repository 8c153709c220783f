/- Texts of this claim, one behind the other. -/
import Derived.Test.YtjgfmobmilgapaaGreatDoorM18
import Derived.Test.YtjgfmobmilgapaaGreatDoorM17
import Derived.Test.YtjgfmobmilgapaaGreatDoorM13
import Derived.Deep.RegionHeld3
import Derived.Test.YtjgfmobmilgapaaGreatDoorM16
/- Print, at a table that lies in memory. -/
namespace Go.Proofs.YtjgfmobmilgapaaGreatDoor
open Go.RowKit Go.Shelf
set_option linter.unusedVariables false
def printP (T : TV) : Pn :=
  listP (listP (T.lk.foldl (mapP ⟨#[108, 111, 111, 107]⟩) (T.fo.foldl (mapP ⟨#[102, 111, 108, 100]⟩) (T.pr.foldl pairP (T.ma.foldl markP (listP (T.sc.foldl scriptP ⟨[], false, false⟩) ⟨#[99, 111, 109, 109, 111, 110]⟩ T.co))))) ⟨#[100, 114, 111, 112]⟩ T.dr) ⟨#[97, 108, 108, 111, 119]⟩ T.al
def printV (T : TV) : ByteArray × Int := if (printP T).wr = true then (⟨#[]⟩, 5) else if 262144 < (printP T).t.length then (⟨#[]⟩, 3) else (⟨(printP T).t.toArray⟩, 0)
structure TabIn (W : World) (T : TV) (a0 a1 a2 a3 a4 a5 a6 a7 : Option Addr) (us : List Value) : Prop where
  lu : us.length = T.sc.length
  r0 : RowC W W.heap.size a0 (encSc T.sc us)
  r1 : RowC W W.heap.size a1 (encS2 T.co)
  r2 : RowC W W.heap.size a2 (encM2 T.ma)
  r3 : RowC W W.heap.size a3 (encP3 T.pr)
  r4 : RowC W W.heap.size a4 (encF2 T.fo)
  r5 : RowC W W.heap.size a5 (encF2 T.lk)
  r6 : RowC W W.heap.size a6 (encS2 T.dr)
  r7 : RowC W W.heap.size a7 (encS2 T.al)
  rs : ∀ (j : Nat) (x : ByteArray × List (Int × Int)) (u : Value), T.sc[j]? = some x → us[j]? = some u → ∃ b d, u = .slice b x.2.length d ∧ RowC W W.heap.size b (encS2 x.2)
structure TabOk (T : TV) : Prop where
  n0 : T.sc.length ≤ 1000000
  n1 : T.co.length ≤ 1000000
  n2 : T.ma.length ≤ 1000000
  n3 : T.pr.length ≤ 1000000
  n4 : T.fo.length ≤ 1000000
  n5 : T.lk.length ≤ 1000000
  n6 : T.dr.length ≤ 1000000
  n7 : T.al.length ≤ 1000000
  z0 : ∀ x ∈ T.sc, x.1.size ≤ maxLen ∧ x.2.length ≤ 1000000
  z2 : ∀ x ∈ T.ma, -9223372036854775808 ≤ x.2 ∧ x.2 ≤ 9223372036854775807
  z4 : ∀ x ∈ T.fo, x.2.size ≤ maxLen
  z5 : ∀ x ∈ T.lk, x.2.size ≤ maxLen
structure EnvP (W : World) : Prop where
  t64 : W.cell? ⟨11, 15, none⟩ = some (.int .u8 4)
  pow : Lib.TabIs Tryz.prog W "internal/strconv.uint64pow10" .u64 Lib.pow10Tab
  utf : Lib.Utf8Tabs 5 6 W
  big : 12 ≤ W.heap.size
theorem RowC.below {W W' : World} {hi hi' : Nat} {a : Option Addr} {xs : List Value} (h : RowC W hi a xs) (hb : Below hi W W') (hl : hi ≤ hi') : RowC W' hi' a xs := by
  intro h0
  obtain ⟨g, o, h1, h2, h3⟩ := h h0
  exact ⟨g, o, h1, by omega, fun j u hu => (hb.cell (p := ⟨g, o + j, none⟩) h2).trans (h3 j u hu)⟩
set_option maxRecDepth 100000 in
set_option maxHeartbeats 4000000 in
theorem print_any (T : TV) (a0 a1 a2 a3 a4 a5 a6 a7 : Option Addr) (c0 c1 c2 c3 c4 c5 c6 c7 : Nat) (us : List Value) (W : World) (hT : TabIn W T a0 a1 a2 a3 a4 a5 a6 a7 us) (hO : TabOk T) (hE : EnvP W) :
    Calls Tryz.prog 11 #[.agg #[.slice a0 T.sc.length c0, .slice a1 T.co.length c1, .slice a2 T.ma.length c2, .slice a3 T.pr.length c3, .slice a4 T.fo.length c4, .slice a5 T.lk.length c5, .slice a6 T.dr.length c6, .slice a7 T.al.length c7]] W fun e w' => e = .returned (.tuple #[.string (printV T).1, .int .i64 (printV T).2]) ∧ Below W.heap.size W w' := by
  have HV : Hz (printV T = (if (printP T).wr = true then (⟨#[]⟩, 5) else if 262144 < (printP T).t.length then (⟨#[]⟩, 3) else (⟨(printP T).t.toArray⟩, 0))) := hide rfl
  have hbig := hE.big
  have hB0 : Below W.heap.size W ((W.alloc (.cells #[.slice a0 T.sc.length c0, .slice a1 T.co.length c1, .slice a2 T.ma.length c2, .slice a3 T.pr.length c3, .slice a4 T.fo.length c4, .slice a5 T.lk.length c5, .slice a6 T.dr.length c6, .slice a7 T.al.length c7] 28)).alloc (.cells #[.pointer none, .slice none 0 0, .bool false, .bool false] 95)) := ((Below.refl _ W).alloc (Nat.le_refl _) _).alloc (by simp) _
  have bT := (Blk.new W #[.slice a0 T.sc.length c0, .slice a1 T.co.length c1, .slice a2 T.ma.length c2, .slice a3 T.pr.length c3, .slice a4 T.fo.length c4, .slice a5 T.lk.length c5, .slice a6 T.dr.length c6, .slice a7 T.al.length c7] 28).alloc (.cells #[.pointer none, .slice none 0 0, .bool false, .bool false] 95)
  have bN := Blk.new (W.alloc (.cells #[.slice a0 T.sc.length c0, .slice a1 T.co.length c1, .slice a2 T.ma.length c2, .slice a3 T.pr.length c3, .slice a4 T.fo.length c4, .slice a5 T.lk.length c5, .slice a6 T.dr.length c6, .slice a7 T.al.length c7] 28)) #[.pointer none, .slice none 0 0, .bool false, .bool false] 95
  rw [World.size_alloc] at bN
  have hszB : ((W.alloc (.cells #[.slice a0 T.sc.length c0, .slice a1 T.co.length c1, .slice a2 T.ma.length c2, .slice a3 T.pr.length c3, .slice a4 T.fo.length c4, .slice a5 T.lk.length c5, .slice a6 T.dr.length c6, .slice a7 T.al.length c7] 28)).alloc (.cells #[.pointer none, .slice none 0 0, .bool false, .bool false] 95)).heap.size = W.heap.size + 2 := by simp
  have HW := hide (And.intro hT (And.intro hO (And.intro hE (And.intro hB0 (And.intro bT (And.intro bN hszB))))))
  clear hT hO hE hB0 bT bN hszB
  go_enter Tryz.func11, Tryz.ntmps11
  go_wp2_with fail
  generalize (W.alloc (.cells #[.slice a0 T.sc.length c0, .slice a1 T.co.length c1, .slice a2 T.ma.length c2, .slice a3 T.pr.length c3, .slice a4 T.fo.length c4, .slice a5 T.lk.length c5, .slice a6 T.dr.length c6, .slice a7 T.al.length c7] 28)).alloc (.cells #[.pointer none, .slice none 0 0, .bool false, .bool false] 95) = WB at *
  obtain ⟨hT, hO, hE, hB0, bT, bN, hszB⟩ := unhide HW
  have hMN : W.heap.size ≠ (W.heap.size + 1) := by omega
  have hcell : ∀ {b i : Nat} {v : Value}, b < W.heap.size → W.cell? ⟨b, i, none⟩ = some v → WB.cell? ⟨b, i, none⟩ = some v := fun {b i v} hb hc => (hB0.cell (p := ⟨b, i, none⟩) hb).trans hc
  have HTAB : Hz (Lib.TabIs Tryz.prog WB "internal/strconv.uint64pow10" .u64 Lib.pow10Tab ∧ Lib.Utf8Tabs 5 6 WB) := hide ⟨by
      refine tab_fr (lo := W.heap.size) (N := W.heap.size) ⟨hB0.os, hB0.tape, hB0.output, hB0.size, fun i hi _ _ => hB0.block i hi⟩ (by omega) (by omega) hE.pow, ⟨fun c hc => hcell (by omega) (hE.utf.1 c hc), fun i hi => ⟨hcell (by omega) (hE.utf.2 i hi).1, hcell (by omega) (hE.utf.2 i hi).2⟩⟩⟩
  have HS0 : Hz (PS WB WB ((W.heap.size + 1) + 1) (W.heap.size + 1) ⟨[], false, false⟩ ∧ PF ((W.heap.size + 1) + 1) (W.heap.size + 1) WB WB) := hide ⟨⟨⟨⟨_, _, bN, .inl rfl, World.ownsRow_nil _ _ _ _⟩, by omega, by omega⟩, by show 0 ≤ 264000; omega, PF.refl _ _ _, hcell (by omega) hE.t64, by omega, by omega⟩, PF.refl _ _ _⟩
  have HR0 := hide (hT.r0.below hB0 (show W.heap.size ≤ (W.heap.size + 1) by omega))
  have HR1 := hide (hT.r1.below hB0 (show W.heap.size ≤ (W.heap.size + 1) by omega))
  have HR2 := hide (hT.r2.below hB0 (show W.heap.size ≤ (W.heap.size + 1) by omega))
  have HR3 := hide (hT.r3.below hB0 (show W.heap.size ≤ (W.heap.size + 1) by omega))
  have HR4 := hide (hT.r4.below hB0 (show W.heap.size ≤ (W.heap.size + 1) by omega))
  have HR5 := hide (hT.r5.below hB0 (show W.heap.size ≤ (W.heap.size + 1) by omega))
  have HR6 := hide (hT.r6.below hB0 (show W.heap.size ≤ (W.heap.size + 1) by omega))
  have HR7 := hide (hT.r7.below hB0 (show W.heap.size ≤ (W.heap.size + 1) by omega))
  have HRS : Hz (∀ (j : Nat) (x : ByteArray × List (Int × Int)) (u : Value), T.sc[j]? = some x → us[j]? = some u → ∃ b d, u = .slice b x.2.length d ∧ RowC WB (W.heap.size + 1) b (encS2 x.2)) := hide (fun j x u hx hu => by
    obtain ⟨b, d, e, hr⟩ := hT.rs j x u hx hu
    exact ⟨b, d, e, hr.below hB0 (by omega)⟩)
  have HLU := hide hT.lu
  have HO := hide hO
  have HBW := hide (And.intro hB0 hszB)
  have HBX := hide bT
  have hNl : (W.heap.size + 1) < (W.heap.size + 1) + 1 := Nat.lt_succ_self (W.heap.size + 1)
  have z0 := (unhide HBX).cell 0
  have z1 := (unhide HBX).cell 1
  have z2 := (unhide HBX).cell 2
  have z3 := (unhide HBX).cell 3
  have z4 := (unhide HBX).cell 4
  have z5 := (unhide HBX).cell 5
  have z6 := (unhide HBX).cell 6
  have z7 := (unhide HBX).cell 7
  have hg1 : 8 < (W.heap.size + 1) + 1 ∧ 8 ≠ (W.heap.size + 1) := by omega
  have hg2 : (5 < (W.heap.size + 1) + 1 ∧ 5 ≠ (W.heap.size + 1)) ∧ (6 < (W.heap.size + 1) + 1 ∧ 6 ≠ (W.heap.size + 1)) := by omega
  clear hT hO hE hB0 bT bN hszB hcell HW
  have HC0 := hide (ps_scripts ((W.heap.size + 1) + 1) (W.heap.size + 1) ⟨[], false, false⟩ a0 c0 T.sc us (unhide HLU) (unhide HO).n0 (unhide HO).z0 WB WB (unhide HS0).1 ((unhide HR0).kept hNl (unhide HS0).2.fr) (fun j x u hx hu => by obtain ⟨b, d, e, hr⟩ := unhide HRS j x u hx hu; exact ⟨b, d, e, hr.kept hNl (unhide HS0).2.fr⟩))
  refine (unhide HC0).mono ?_
  rintro e w0 ⟨⟨r0, rfl⟩, h0, hf0⟩
  obtain ⟨p0, hp0⟩ : ∃ p0, p0 = (T.sc.foldl scriptP ⟨[], false, false⟩) := ⟨_, rfl⟩
  rw [← hp0] at h0
  have HP0 := hide hp0
  have HS1 := hide (And.intro h0 ((unhide HS0).2.trans hf0))
  have HBX1 := hide (hf0.kp _ _ _ hMN (by decide) (unhide HBX))
  clear z0 z1 z2 z3 z4 z5 z6 z7 hp0 h0 hf0 HC0 HS0 HBX
  have z0 := (unhide HBX1).cell 0
  have z1 := (unhide HBX1).cell 1
  have z2 := (unhide HBX1).cell 2
  have z3 := (unhide HBX1).cell 3
  have z4 := (unhide HBX1).cell 4
  have z5 := (unhide HBX1).cell 5
  have z6 := (unhide HBX1).cell 6
  have z7 := (unhide HBX1).cell 7
  have HC1 := hide (ps_list ((W.heap.size + 1) + 1) (W.heap.size + 1) p0 ⟨#[99, 111, 109, 109, 111, 110]⟩ (by decide) a1 c1 T.co (unhide HO).n1 WB w0 (unhide HS1).1 ((unhide HR1).kept hNl (unhide HS1).2.fr))
  go_wp2_with fail
  refine (unhide HC1).mono ?_
  rintro e w1 ⟨⟨r1, rfl⟩, h1, hf1⟩
  obtain ⟨p1, hp1⟩ : ∃ p1, p1 = (listP p0 ⟨#[99, 111, 109, 109, 111, 110]⟩ T.co) := ⟨_, rfl⟩
  rw [← hp1] at h1
  have HP1 := hide hp1
  have HS2 := hide (And.intro h1 ((unhide HS1).2.trans hf1))
  have HBX2 := hide (hf1.kp _ _ _ hMN (by decide) (unhide HBX1))
  clear z0 z1 z2 z3 z4 z5 z6 z7 hp1 h1 hf1 HC1 HS1 HBX1
  have z0 := (unhide HBX2).cell 0
  have z1 := (unhide HBX2).cell 1
  have z2 := (unhide HBX2).cell 2
  have z3 := (unhide HBX2).cell 3
  have z4 := (unhide HBX2).cell 4
  have z5 := (unhide HBX2).cell 5
  have z6 := (unhide HBX2).cell 6
  have z7 := (unhide HBX2).cell 7
  have HC2 := hide (ps_marks ((W.heap.size + 1) + 1) (W.heap.size + 1) p1 a2 c2 T.ma (unhide HO).n2 (unhide HO).z2 WB w1 (unhide HTAB).1 hg1.1 hg1.2 (unhide HS2).1 ((unhide HR2).kept hNl (unhide HS2).2.fr))
  go_wp2_with fail
  refine (unhide HC2).mono ?_
  rintro e w2 ⟨⟨r2, rfl⟩, h2, hf2⟩
  obtain ⟨p2, hp2⟩ : ∃ p2, p2 = (T.ma.foldl markP p1) := ⟨_, rfl⟩
  rw [← hp2] at h2
  have HP2 := hide hp2
  have HS3 := hide (And.intro h2 ((unhide HS2).2.trans hf2))
  have HBX3 := hide (hf2.kp _ _ _ hMN (by decide) (unhide HBX2))
  clear z0 z1 z2 z3 z4 z5 z6 z7 hp2 h2 hf2 HC2 HS2 HBX2
  have z0 := (unhide HBX3).cell 0
  have z1 := (unhide HBX3).cell 1
  have z2 := (unhide HBX3).cell 2
  have z3 := (unhide HBX3).cell 3
  have z4 := (unhide HBX3).cell 4
  have z5 := (unhide HBX3).cell 5
  have z6 := (unhide HBX3).cell 6
  have z7 := (unhide HBX3).cell 7
  have HC3 := hide (ps_pairs ((W.heap.size + 1) + 1) (W.heap.size + 1) p2 a3 c3 T.pr (unhide HO).n3 WB w2 (unhide HS3).1 ((unhide HR3).kept hNl (unhide HS3).2.fr))
  go_wp2_with fail
  refine (unhide HC3).mono ?_
  rintro e w3 ⟨⟨r3, rfl⟩, h3, hf3⟩
  obtain ⟨p3, hp3⟩ : ∃ p3, p3 = (T.pr.foldl pairP p2) := ⟨_, rfl⟩
  rw [← hp3] at h3
  have HP3 := hide hp3
  have HS4 := hide (And.intro h3 ((unhide HS3).2.trans hf3))
  have HBX4 := hide (hf3.kp _ _ _ hMN (by decide) (unhide HBX3))
  clear z0 z1 z2 z3 z4 z5 z6 z7 hp3 h3 hf3 HC3 HS3 HBX3
  have z0 := (unhide HBX4).cell 0
  have z1 := (unhide HBX4).cell 1
  have z2 := (unhide HBX4).cell 2
  have z3 := (unhide HBX4).cell 3
  have z4 := (unhide HBX4).cell 4
  have z5 := (unhide HBX4).cell 5
  have z6 := (unhide HBX4).cell 6
  have z7 := (unhide HBX4).cell 7
  have HC4 := hide (ps_maps ((W.heap.size + 1) + 1) (W.heap.size + 1) p3 ⟨#[102, 111, 108, 100]⟩ (by decide) a4 c4 T.fo (unhide HO).n4 (unhide HO).z4 WB w3 (unhide HTAB).2 hg2.1.1 hg2.1.2 hg2.2.1 hg2.2.2 (unhide HS4).1 ((unhide HR4).kept hNl (unhide HS4).2.fr))
  go_wp2_with fail
  refine (unhide HC4).mono ?_
  rintro e w4 ⟨⟨r4, rfl⟩, h4, hf4⟩
  obtain ⟨p4, hp4⟩ : ∃ p4, p4 = (T.fo.foldl (mapP ⟨#[102, 111, 108, 100]⟩) p3) := ⟨_, rfl⟩
  rw [← hp4] at h4
  have HP4 := hide hp4
  have HS5 := hide (And.intro h4 ((unhide HS4).2.trans hf4))
  have HBX5 := hide (hf4.kp _ _ _ hMN (by decide) (unhide HBX4))
  clear z0 z1 z2 z3 z4 z5 z6 z7 hp4 h4 hf4 HC4 HS4 HBX4
  have z0 := (unhide HBX5).cell 0
  have z1 := (unhide HBX5).cell 1
  have z2 := (unhide HBX5).cell 2
  have z3 := (unhide HBX5).cell 3
  have z4 := (unhide HBX5).cell 4
  have z5 := (unhide HBX5).cell 5
  have z6 := (unhide HBX5).cell 6
  have z7 := (unhide HBX5).cell 7
  have HC5 := hide (ps_maps ((W.heap.size + 1) + 1) (W.heap.size + 1) p4 ⟨#[108, 111, 111, 107]⟩ (by decide) a5 c5 T.lk (unhide HO).n5 (unhide HO).z5 WB w4 (unhide HTAB).2 hg2.1.1 hg2.1.2 hg2.2.1 hg2.2.2 (unhide HS5).1 ((unhide HR5).kept hNl (unhide HS5).2.fr))
  go_wp2_with fail
  refine (unhide HC5).mono ?_
  rintro e w5 ⟨⟨r5, rfl⟩, h5, hf5⟩
  obtain ⟨p5, hp5⟩ : ∃ p5, p5 = (T.lk.foldl (mapP ⟨#[108, 111, 111, 107]⟩) p4) := ⟨_, rfl⟩
  rw [← hp5] at h5
  have HP5 := hide hp5
  have HS6 := hide (And.intro h5 ((unhide HS5).2.trans hf5))
  have HBX6 := hide (hf5.kp _ _ _ hMN (by decide) (unhide HBX5))
  clear z0 z1 z2 z3 z4 z5 z6 z7 hp5 h5 hf5 HC5 HS5 HBX5
  have z0 := (unhide HBX6).cell 0
  have z1 := (unhide HBX6).cell 1
  have z2 := (unhide HBX6).cell 2
  have z3 := (unhide HBX6).cell 3
  have z4 := (unhide HBX6).cell 4
  have z5 := (unhide HBX6).cell 5
  have z6 := (unhide HBX6).cell 6
  have z7 := (unhide HBX6).cell 7
  have HC6 := hide (ps_list ((W.heap.size + 1) + 1) (W.heap.size + 1) p5 ⟨#[100, 114, 111, 112]⟩ (by decide) a6 c6 T.dr (unhide HO).n6 WB w5 (unhide HS6).1 ((unhide HR6).kept hNl (unhide HS6).2.fr))
  go_wp2_with fail
  refine (unhide HC6).mono ?_
  rintro e w6 ⟨⟨r6, rfl⟩, h6, hf6⟩
  obtain ⟨p6, hp6⟩ : ∃ p6, p6 = (listP p5 ⟨#[100, 114, 111, 112]⟩ T.dr) := ⟨_, rfl⟩
  rw [← hp6] at h6
  have HP6 := hide hp6
  have HS7 := hide (And.intro h6 ((unhide HS6).2.trans hf6))
  have HBX7 := hide (hf6.kp _ _ _ hMN (by decide) (unhide HBX6))
  clear z0 z1 z2 z3 z4 z5 z6 z7 hp6 h6 hf6 HC6 HS6 HBX6
  have z0 := (unhide HBX7).cell 0
  have z1 := (unhide HBX7).cell 1
  have z2 := (unhide HBX7).cell 2
  have z3 := (unhide HBX7).cell 3
  have z4 := (unhide HBX7).cell 4
  have z5 := (unhide HBX7).cell 5
  have z6 := (unhide HBX7).cell 6
  have z7 := (unhide HBX7).cell 7
  have HC7 := hide (ps_list ((W.heap.size + 1) + 1) (W.heap.size + 1) p6 ⟨#[97, 108, 108, 111, 119]⟩ (by decide) a7 c7 T.al (unhide HO).n7 WB w6 (unhide HS7).1 ((unhide HR7).kept hNl (unhide HS7).2.fr))
  go_wp2_with fail
  refine (unhide HC7).mono ?_
  rintro e w7 ⟨⟨r7, rfl⟩, h7, hf7⟩
  obtain ⟨p7, hp7⟩ : ∃ p7, p7 = (listP p6 ⟨#[97, 108, 108, 111, 119]⟩ T.al) := ⟨_, rfl⟩
  rw [← hp7] at h7
  have HP7 := hide hp7
  have HS8 := hide (And.intro h7 ((unhide HS7).2.trans hf7))
  have HBX8 := hide (hf7.kp _ _ _ hMN (by decide) (unhide HBX7))
  clear z0 z1 z2 z3 z4 z5 z6 z7 hp7 h7 hf7 HC7 HS7 HBX7
  have z0 := (unhide HBX8).cell 0
  have z1 := (unhide HBX8).cell 1
  have z2 := (unhide HBX8).cell 2
  have z3 := (unhide HBX8).cell 3
  have z4 := (unhide HBX8).cell 4
  have z5 := (unhide HBX8).cell 5
  have z6 := (unhide HBX8).cell 6
  have z7 := (unhide HBX8).cell 7
  have HPP : Hz (printP T = p7) := hide (by rw [unhide HP7, unhide HP6, unhide HP5, unhide HP4, unhide HP3, unhide HP2, unhide HP1, unhide HP0]; rfl)
  rw [unhide HPP] at HV
  have HBF : Hz (∀ w, Below ((W.heap.size + 1) + 1) w7 w → Below W.heap.size W w) := hide (fun w hb => by
    have h1 := unhide HBW
    have h2 := (unhide HS8).2.fr
    refine h1.1.trans ⟨hb.os.trans h2.os, hb.tape.trans h2.tape, hb.output.trans h2.output, Nat.le_trans h2.size hb.size, fun i hi => (hb.block i (by omega)).trans (h2.block i (by omega) (by omega) (by omega))⟩)
  clear z0 z1 z2 z3 z4 z5 z6 z7
  obtain ⟨q8, v8, hb8, _, _⟩ := (unhide HS8).1.here.blk
  have y3 := hb8.cell 3
  have hok := (unhide HS8).1.ok
  have HTL := hide (pn_tooLong ((W.heap.size + 1) + 1) (W.heap.size + 1) p7 (by unfold PnOk at hok; omega) w7 (unhide HS8).1.here)
  have HTX := hide (pn_text ((W.heap.size + 1) + 1) (W.heap.size + 1) p7.t p7.bg p7.wr w7 (unhide HS8).1.here)
  obtain ⟨t7, b7, e7⟩ := p7
  dsimp only at y3 HV HTX HTL
  clear hb8 hok
  cases e7 with
  | true =>
    rw [if_pos rfl] at HV
    go_wp2_with fail
    exact bodyPost_ret (v := .tuple #[.string ⟨#[]⟩, .int .i64 5]) (by simp [results, Tryz.results11, go_sem]) rfl ⟨by rw [unhide HV], unhide HBF _ (Below.refl _ _)⟩
  | false =>
    rw [if_neg (by decide)] at HV
    by_cases hl : 262144 < t7.length
    · rw [if_pos hl] at HV
      rw [decide_eq_true hl] at HTL
      clear hl
      go_wp2_with fail
      refine (unhide HTL).mono ?_
      rintro e w8 ⟨rfl, hw8⟩
      rw [hw8]
      clear hw8
      go_wp2_with fail
      exact bodyPost_ret (v := .tuple #[.string ⟨#[]⟩, .int .i64 3]) (by simp [results, Tryz.results11, go_sem]) rfl ⟨by rw [unhide HV], unhide HBF _ (Below.refl _ _)⟩
    · rw [if_neg hl] at HV
      rw [decide_eq_false hl] at HTL
      clear hl
      go_wp2_with fail
      refine (unhide HTL).mono ?_
      rintro e w8 ⟨rfl, hw8⟩
      rw [hw8]
      clear hw8
      go_wp2_with fail
      refine (unhide HTX).mono ?_
      rintro e w9 ⟨rfl, hb9⟩
      have HB9 := hide hb9
      clear hb9
      go_wp2_with fail
      exact bodyPost_ret (v := .tuple #[.string ⟨t7.toArray⟩, .int .i64 0]) (by simp [results, Tryz.results11, go_sem]) rfl ⟨by rw [unhide HV], unhide HBF _ (unhide HB9)⟩
def kn1 : ByteArray := ⟨#[115, 99, 114, 105, 112, 116, 32, 97, 32, 123, 32, 39, 97, 39, 46, 46, 39, 122, 39, 32, 85, 43, 48, 48, 69, 57, 32, 125, 32, 102, 111, 108, 100, 32, 39, 65, 39, 32, 61, 32, 39, 97, 39, 32, 39, 98, 39, 32, 59, 32, 100, 114, 111, 112, 32, 123, 32, 39, 97, 39, 32, 39, 98, 39, 32, 125]⟩
def kn2 : ByteArray := ⟨#[102, 111, 108, 100, 32, 39, 65, 39, 32, 61, 32, 59]⟩
def knP : ByteArray := ⟨#[115, 99, 114, 105, 112, 116, 32, 97, 32, 123, 32, 39, 97, 39, 32, 46, 46, 32, 39, 122, 39, 32, 85, 43, 48, 48, 69, 57, 32, 125, 10, 102, 111, 108, 100, 32, 39, 65, 39, 32, 61, 32, 39, 97, 39, 32, 39, 98, 39, 32, 59, 10, 100, 114, 111, 112, 32, 123, 32, 39, 97, 39, 32, 39, 98, 39, 32, 125, 10]⟩
def knT : TV := ⟨[(⟨#[97]⟩, [(97, 122), (233, 233)])], [], [], [], [(65, ⟨#[97, 98]⟩)], [], [(97, 97), (98, 98)], [], [(0, 1, 1)], [], [], [], [(29, 1, 30)], [], [(57, 1, 58), (61, 1, 62)], []⟩
theorem kn1_bad : (parseA kn1).bad.isNone = true := by decide +kernel
theorem kn1_sc : (parseA kn1).T.sc = knT.sc := by decide +kernel
theorem kn2_bad : (parseA kn2).bad.map (fun r => (r.b, r.l, r.c, r.why)) = some (11, 1, 12, 5) := by decide +kernel
theorem knP_p : printV knT = (knP, 0) := by decide +kernel
structure Lst (W : World) (lo : Nat) (vs : List Value) (ls : List Ln) : Prop where
  ll : ls.length = vs.length
  own : ∀ (i : Nat) (v : Value) (l : Ln), vs[i]? = some v → ls[i]? = some l → W.ownsRow lo l.E l.sz v l.n l.xs
  apart : ∀ (i j : Nat) (v u : Value), i ≠ j → vs[i]? = some v → vs[j]? = some u → v.ownBlock = none ∨ v.ownBlock ≠ u.ownBlock
theorem opt_none (a : Option Nat) : a = none ∨ a ≠ none := by cases a with | none => exact .inl rfl | some b => exact .inr (by simp)
theorem apart_symm {a b : Option Nat} (h : a = none ∨ a ≠ b) : b = none ∨ b ≠ a := by
  cases b with
  | none => exact .inl rfl
  | some y => rcases h with e | e
              · rw [e]; exact .inr (by simp)
              · exact .inr (Ne.symm e)
theorem Lst.kept {W W' : World} {lo : Nat} {vs : List Value} {ls : List Ln} {row : Option Nat} (h : Lst W lo vs ls) (hg : W.grownBy W' row) (hr : ∀ b, row = some b → b < lo) : Lst W' lo vs ls :=
  ⟨h.ll, fun i v l hv hl => rd_other (h.own i v l hv hl) hg (by
    cases hb : v.ownBlock with
    | none => exact .inl rfl
    | some b =>
      refine .inr fun e => ?_
      have := hr b e.symm
      have := rd_from (h.own i v l hv hl) b hb
      omega), h.apart⟩
theorem Lst.add {W W1 : World} {lo : Nat} {vs : List Value} {ls : List Ln} {v : Value} {l : Ln} (h : Lst W lo vs ls) (hb : Below W.heap.size W W1) (hlo : lo ≤ W.heap.size) (hn : W1.ownsRow W.heap.size l.E l.sz v l.n l.xs) : Lst W1 lo (vs ++ [v]) (ls ++ [l]) := by
  have hll := h.ll
  have h1 := h.kept (below_grown (row := none) hb) (fun b e => by cases e)
  have hA : ∀ (j : Nat) (x : Value), vs[j]? = some x → x.ownBlock = none ∨ x.ownBlock ≠ v.ownBlock := by
    intro j x hx
    obtain ⟨m, hm⟩ : ∃ m, ls[j]? = some m := ⟨_, List.getElem?_eq_getElem (by have := (List.getElem?_eq_some_iff.1 hx).1; omega)⟩
    cases hxb : x.ownBlock with
    | none => exact .inl rfl
    | some b =>
      refine .inr fun e => ?_
      have h3 := rd_from hn b e.symm
      have h4 := own_ltW (h.own j x m hx hm) b hxb
      omega
  have key : ∀ (i : Nat) (y : Value), (vs ++ [v])[i]? = some y → (i < vs.length ∧ vs[i]? = some y) ∨ (i = vs.length ∧ y = v) := by
    intro i y hy
    by_cases hi : i < vs.length
    · rw [List.getElem?_append_left hi] at hy; exact .inl ⟨hi, hy⟩
    · have hi2 := (List.getElem?_eq_some_iff.1 hy).1
      rw [List.length_append, List.length_singleton] at hi2
      obtain rfl : i = vs.length := by omega
      rw [List.getElem?_concat_length] at hy
      exact .inr ⟨rfl, (Option.some.inj hy).symm⟩
  refine ⟨by rw [List.length_append, List.length_append, hll]; rfl, ?_, ?_⟩
  · intro i y m hy hm
    rcases key i y hy with ⟨h2, h3⟩ | ⟨h2, h3⟩
    · rw [List.getElem?_append_left (by omega)] at hm
      exact h1.own i y m h3 hm
    · subst h3
      rw [h2, ← hll, List.getElem?_concat_length] at hm
      obtain rfl := Option.some.inj hm
      exact own_lower hn hlo
  · intro i j y x hij hy hx
    rcases key i y hy with ⟨h2, h3⟩ | ⟨h2, h3⟩ <;> rcases key j x hx with ⟨h4, h5⟩ | ⟨h4, h5⟩
    · exact h.apart i j y x hij h3 h5
    · subst h5; exact hA i y h3
    · subst h3; exact apart_symm (hA j x h5)
    · exact absurd (h2.trans h4.symm) hij
def tsOf (T : TV) (us : List Value) : List Ln :=
  (Ln.mk 64 2 T.sc.length (encSc T.sc us) :: T.sc.map (fun s => Ln.mk 68 2 s.2.length (encS2 s.2))) ++ [Ln.mk 68 2 T.co.length (encS2 T.co)] ++ [Ln.mk 71 2 T.ma.length (encM2 T.ma)] ++ [Ln.mk 74 3 T.pr.length (encP3 T.pr)] ++ [Ln.mk 77 2 T.fo.length (encF2 T.fo)] ++ [Ln.mk 77 2 T.lk.length (encF2 T.lk)] ++ [Ln.mk 68 2 T.dr.length (encS2 T.dr)] ++ [Ln.mk 68 2 T.al.length (encS2 T.al)]
def TabAt (w : World) (lo : Nat) (T : TV) (v : Value) : Prop := ∃ v0 us v1 v2 v3 v4 v5 v6 v7, v = .agg #[v0, v1, v2, v3, v4, v5, v6, v7] ∧ us.length = T.sc.length ∧ Lst w lo ((v0 :: us) ++ [v1] ++ [v2] ++ [v3] ++ [v4] ++ [v5] ++ [v6] ++ [v7]) (tsOf T us)
theorem OsPost.lst {W w' : World} {sc : List (ByteArray × List (Int × Int))} {v : Value} (h : OsPost W w' sc v) : ∃ us, us.length = sc.length ∧ Lst w' W.heap.size (v :: us) (Ln.mk 64 2 sc.length (encSc sc us) :: sc.map (fun s => Ln.mk 68 2 s.2.length (encS2 s.2))) ∧ Below W.heap.size W w' := by
  obtain ⟨us, hl, h1, h2, h3, h4⟩ := h
  refine ⟨us, hl, ⟨by rw [List.length_cons, List.length_cons, List.length_map, hl], ?_, ?_⟩, h4⟩
  · intro i x l hx hm
    cases i with
    | zero =>
      obtain rfl := Option.some.inj hx
      obtain rfl := Option.some.inj hm
      exact h1
    | succ i =>
      rw [List.getElem?_cons_succ] at hx hm
      rw [List.getElem?_map] at hm
      obtain ⟨s, hs, rfl⟩ := Option.map_eq_some_iff.1 hm
      exact h2 i x s hx hs
  · have hA : ∀ (j : Nat) (x : Value), us[j]? = some x → x.ownBlock = none ∨ x.ownBlock ≠ v.ownBlock := by
      intro j x hx
      obtain ⟨s, hs⟩ : ∃ s, sc[j]? = some s := ⟨_, List.getElem?_eq_getElem (by have := (List.getElem?_eq_some_iff.1 hx).1; omega)⟩
      exact rd_apart (h2 j x s hx hs) h1 (by decide)
    intro i j x y hij hx hy
    cases i with
    | zero => cases j with
      | zero => exact absurd rfl hij
      | succ j =>
        obtain rfl := Option.some.inj hx
        exact apart_symm (hA j y hy)
    | succ i => cases j with
      | zero =>
        obtain rfl := Option.some.inj hy
        exact hA i x hx
      | succ j => exact h3 i j x y (by omega) hx hy
theorem TbAt.fresh {W W' : World} {lo Tx : Nat} {vs : List Value} {ls : List Ln} {eb el ec : Int} (h : TbAt W lo Tx vs ls eb el ec) (hg : W.grownBy W' none) : TbAt W' lo Tx vs ls eb el ec :=
  ⟨h.lv, h.ll, h.blk.kept hg (by simp), fun i v l hv hl => rd_other (h.own i v l hv hl) hg (opt_none _), h.apart, h.lt⟩
theorem drew_grown (W : World) (row : Option Nat) : W.grownBy W.drew row := ⟨rfl, rfl, rfl, Nat.le_refl _, fun _ _ _ => rfl⟩
theorem TbAt.cell2 {W W' : World} {lo Tx N : Nat} {vs : List Value} {ls : List Ln} {eb el ec : Int} (h : TbAt W lo Tx vs ls eb el ec) (hg : W.grownBy W' (some N)) (hne : Tx ≠ N) {i : Nat} {v : Value} (hi : i < 17) (hv : vs[i]? = some v) : W'.cell? ⟨Tx, i, none⟩ = some v := hg.cell (a := ⟨Tx, i, none⟩) (h.cell hi hv) (by show some Tx ≠ some N; intro e; exact hne (Option.some.inj e))
theorem Lst.lower {W : World} {lo lo' : Nat} {vs : List Value} {ls : List Ln} (h : Lst W lo vs ls) (hl : lo' ≤ lo) : Lst W lo' vs ls := ⟨h.ll, fun i v l hv hm => own_lower (h.own i v l hv hm) hl, h.apart⟩
theorem box8b {W : World} {N : Nat} {a0 a1 a2 a3 a4 a5 a6 a7 : Value} {ty : TypeId} (h : Blk W N #[a0, a1, a2, a3, a4, a5, a6, a7] ty) (v0 v1 v2 v3 v4 v5 v6 v7 : Value) : Blk ((((((((W.setCell ⟨N, 0, none⟩ v0).setCell ⟨N, 1, none⟩ v1).setCell ⟨N, 2, none⟩ v2).setCell ⟨N, 3, none⟩ v3).setCell ⟨N, 4, none⟩ v4).setCell ⟨N, 5, none⟩ v5).setCell ⟨N, 6, none⟩ v6).setCell ⟨N, 7, none⟩ v7) N #[v0, v1, v2, v3, v4, v5, v6, v7] ty := box8 h v0 v1 v2 v3 v4 v5 v6 v7
set_option maxRecDepth 100000 in
set_option maxHeartbeats 8000000 in
theorem tables_any (lo Tx : Nat) (vs : List Value) (T : TV) (eb el ec : Int) (hT : T.Le 1000000) (hsp : ∀ s ∈ T.sc, s.2.length ≤ 1000000) (W : World) (h : TbAt W lo Tx vs (lsOf T (vs.drop 17)) eb el ec) :
    Calls Tryz.prog 7 #[.pointer (some ⟨Tx, 0, none⟩)] W fun e w' => ∃ v, e = .returned v ∧ TabAt w' W.heap.size T v ∧ Below W.heap.size W w' := by
  have hlv := h.lv
  have hll := h.ll
  rw [lsOf_len] at hll
  obtain ⟨v0, hv0⟩ : ∃ v, vs[0]? = some v := ⟨_, List.getElem?_eq_getElem (by omega)⟩
  obtain ⟨v1, hv1⟩ : ∃ v, vs[1]? = some v := ⟨_, List.getElem?_eq_getElem (by omega)⟩
  obtain ⟨v2, hv2⟩ : ∃ v, vs[2]? = some v := ⟨_, List.getElem?_eq_getElem (by omega)⟩
  obtain ⟨v3, hv3⟩ : ∃ v, vs[3]? = some v := ⟨_, List.getElem?_eq_getElem (by omega)⟩
  obtain ⟨v4, hv4⟩ : ∃ v, vs[4]? = some v := ⟨_, List.getElem?_eq_getElem (by omega)⟩
  obtain ⟨v5, hv5⟩ : ∃ v, vs[5]? = some v := ⟨_, List.getElem?_eq_getElem (by omega)⟩
  obtain ⟨v6, hv6⟩ : ∃ v, vs[6]? = some v := ⟨_, List.getElem?_eq_getElem (by omega)⟩
  obtain ⟨v7, hv7⟩ : ∃ v, vs[7]? = some v := ⟨_, List.getElem?_eq_getElem (by omega)⟩
  obtain ⟨a0, c0, rfl⟩ := own_slice (h.own 0 _ _ hv0 rfl)
  obtain ⟨a1, c1, rfl⟩ := own_slice (h.own 1 _ _ hv1 rfl)
  obtain ⟨a2, c2, rfl⟩ := own_slice (h.own 2 _ _ hv2 rfl)
  obtain ⟨a3, c3, rfl⟩ := own_slice (h.own 3 _ _ hv3 rfl)
  obtain ⟨a4, c4, rfl⟩ := own_slice (h.own 4 _ _ hv4 rfl)
  obtain ⟨a5, c5, rfl⟩ := own_slice (h.own 5 _ _ hv5 rfl)
  obtain ⟨a6, c6, rfl⟩ := own_slice (h.own 6 _ _ hv6 rfl)
  obtain ⟨a7, c7, rfl⟩ := own_slice (h.own 7 _ _ hv7 rfl)
  have hmx : Tryz.prog.follows .mixedOrders = true := by kernel_rfl
  have hTlt : Tx < W.heap.size := h.blk.lt
  have hTne : Tx ≠ W.heap.size := Nat.ne_of_lt hTlt
  have HU : Hz (∀ (j : Nat) (x : Value) (s : ByteArray × List (Int × Int)), (vs.drop 17)[j]? = some x → T.sc[j]? = some s → ∀ w, TbAt w lo Tx vs (lsOf T (vs.drop 17)) eb el ec → w.ownsRow lo 68 2 x s.2.length (encS2 s.2) ∧ s.2.length ≤ 1000000) := hide (by
    intro j x s hx hs w hw
    refine ⟨?_, hsp s (List.mem_of_getElem? hs)⟩
    rw [List.getElem?_drop] at hx
    refine hw.own (17 + j) x (Ln.mk 68 2 s.2.length (encS2 s.2)) hx ?_
    unfold lsOf
    rw [Nat.add_comm]
    simp only [List.getElem?_cons_succ, List.getElem?_map, hs, Option.map_some])
  have HLD : Hz ((vs.drop 17).length = T.sc.length) := hide (by rw [List.length_drop]; omega)
  have H0 := hide ((h.fresh (World.grownBy_alloc W (.cells #[.slice none 0 0, .slice none 0 0, .slice none 0 0, .slice none 0 0, .slice none 0 0, .slice none 0 0, .slice none 0 0, .slice none 0 0] 28) none)).fresh (drew_grown _ none))
  have HBX : Hz (Blk ((W.alloc (.cells #[.slice none 0 0, .slice none 0 0, .slice none 0 0, .slice none 0 0, .slice none 0 0, .slice none 0 0, .slice none 0 0, .slice none 0 0] 28)).drew) W.heap.size #[.slice none 0 0, .slice none 0 0, .slice none 0 0, .slice none 0 0, .slice none 0 0, .slice none 0 0, .slice none 0 0, .slice none 0 0] 28) := hide (Blk.new W _ _)
  have HBW : Hz (Below W.heap.size W ((W.alloc (.cells #[.slice none 0 0, .slice none 0 0, .slice none 0 0, .slice none 0 0, .slice none 0 0, .slice none 0 0, .slice none 0 0, .slice none 0 0] 28)).drew)) := hide (((Below.refl W.heap.size W).alloc (Nat.le_refl _) _).trans ⟨rfl, rfl, rfl, Nat.le_refl _, fun _ _ => rfl⟩)
  have HSZ : Hz (((W.alloc (.cells #[.slice none 0 0, .slice none 0 0, .slice none 0 0, .slice none 0 0, .slice none 0 0, .slice none 0 0, .slice none 0 0, .slice none 0 0] 28)).drew).heap.size = W.heap.size + 1) := hide (by show (W.alloc _).heap.size = _; simp)
  obtain ⟨b_sc, b_co, b_ma, b_pr, b_fo, b_lk, b_dr, b_al, b1, b2, b3, b4, b5, b6, b7, b8⟩ := hT
  clear h b1 b2 b3 b4 b5 b6 b7 b8 hsp
  go_enter Tryz.func7, Tryz.ntmps7
  go_wp2_with fail
  have t0 := (unhide H0).cell (by omega) hv0
  have t1 := (unhide H0).cell (by omega) hv1
  have t2 := (unhide H0).cell (by omega) hv2
  have t3 := (unhide H0).cell (by omega) hv3
  have t4 := (unhide H0).cell (by omega) hv4
  have t5 := (unhide H0).cell (by omega) hv5
  have t6 := (unhide H0).cell (by omega) hv6
  have t7 := (unhide H0).cell (by omega) hv7
  go_region_held3 (fun w' => w'.cell? ⟨Tx, 0, none⟩ = some (.slice a0 T.sc.length c0) ∧ w'.cell? ⟨Tx, 1, none⟩ = some (.slice a1 T.co.length c1) ∧ w'.cell? ⟨Tx, 2, none⟩ = some (.slice a2 T.ma.length c2) ∧ w'.cell? ⟨Tx, 3, none⟩ = some (.slice a3 T.pr.length c3) ∧ w'.cell? ⟨Tx, 4, none⟩ = some (.slice a4 T.fo.length c4) ∧ w'.cell? ⟨Tx, 5, none⟩ = some (.slice a5 T.lk.length c5) ∧ w'.cell? ⟨Tx, 6, none⟩ = some (.slice a6 T.dr.length c6) ∧ w'.cell? ⟨Tx, 7, none⟩ = some (.slice a7 T.al.length c7)) (first | with_reducible exact ⟨(unhide K9).2.1.cell2 (unhide K9).2.2 (unhide K9).1 (by omega) hv0, (unhide K9).2.1.cell2 (unhide K9).2.2 (unhide K9).1 (by omega) hv1, (unhide K9).2.1.cell2 (unhide K9).2.2 (unhide K9).1 (by omega) hv2, (unhide K9).2.1.cell2 (unhide K9).2.2 (unhide K9).1 (by omega) hv3, (unhide K9).2.1.cell2 (unhide K9).2.2 (unhide K9).1 (by omega) hv4, (unhide K9).2.1.cell2 (unhide K9).2.2 (unhide K9).1 (by omega) hv5, (unhide K9).2.1.cell2 (unhide K9).2.2 (unhide K9).1 (by omega) hv6, (unhide K9).2.1.cell2 (unhide K9).2.2 (unhide K9).1 (by omega) hv7⟩ | with_reducible exact ⟨(unhide H8).cell (by omega) hv0, (unhide H8).cell (by omega) hv1, (unhide H8).cell (by omega) hv2, (unhide H8).cell (by omega) hv3, (unhide H8).cell (by omega) hv4, (unhide H8).cell (by omega) hv5, (unhide H8).cell (by omega) hv6, (unhide H8).cell (by omega) hv7⟩ | with_reducible exact ⟨(unhide H7).cell (by omega) hv0, (unhide H7).cell (by omega) hv1, (unhide H7).cell (by omega) hv2, (unhide H7).cell (by omega) hv3, (unhide H7).cell (by omega) hv4, (unhide H7).cell (by omega) hv5, (unhide H7).cell (by omega) hv6, (unhide H7).cell (by omega) hv7⟩ | with_reducible exact ⟨(unhide H6).cell (by omega) hv0, (unhide H6).cell (by omega) hv1, (unhide H6).cell (by omega) hv2, (unhide H6).cell (by omega) hv3, (unhide H6).cell (by omega) hv4, (unhide H6).cell (by omega) hv5, (unhide H6).cell (by omega) hv6, (unhide H6).cell (by omega) hv7⟩ | with_reducible exact ⟨(unhide H5).cell (by omega) hv0, (unhide H5).cell (by omega) hv1, (unhide H5).cell (by omega) hv2, (unhide H5).cell (by omega) hv3, (unhide H5).cell (by omega) hv4, (unhide H5).cell (by omega) hv5, (unhide H5).cell (by omega) hv6, (unhide H5).cell (by omega) hv7⟩ | with_reducible exact ⟨(unhide H4).cell (by omega) hv0, (unhide H4).cell (by omega) hv1, (unhide H4).cell (by omega) hv2, (unhide H4).cell (by omega) hv3, (unhide H4).cell (by omega) hv4, (unhide H4).cell (by omega) hv5, (unhide H4).cell (by omega) hv6, (unhide H4).cell (by omega) hv7⟩ | with_reducible exact ⟨(unhide H3).cell (by omega) hv0, (unhide H3).cell (by omega) hv1, (unhide H3).cell (by omega) hv2, (unhide H3).cell (by omega) hv3, (unhide H3).cell (by omega) hv4, (unhide H3).cell (by omega) hv5, (unhide H3).cell (by omega) hv6, (unhide H3).cell (by omega) hv7⟩ | with_reducible exact ⟨(unhide H2).cell (by omega) hv0, (unhide H2).cell (by omega) hv1, (unhide H2).cell (by omega) hv2, (unhide H2).cell (by omega) hv3, (unhide H2).cell (by omega) hv4, (unhide H2).cell (by omega) hv5, (unhide H2).cell (by omega) hv6, (unhide H2).cell (by omega) hv7⟩ | with_reducible exact ⟨(unhide H1).cell (by omega) hv0, (unhide H1).cell (by omega) hv1, (unhide H1).cell (by omega) hv2, (unhide H1).cell (by omega) hv3, (unhide H1).cell (by omega) hv4, (unhide H1).cell (by omega) hv5, (unhide H1).cell (by omega) hv6, (unhide H1).cell (by omega) hv7⟩ | with_reducible exact ⟨(unhide H0).cell (by omega) hv0, (unhide H0).cell (by omega) hv1, (unhide H0).cell (by omega) hv2, (unhide H0).cell (by omega) hv3, (unhide H0).cell (by omega) hv4, (unhide H0).cell (by omega) hv5, (unhide H0).cell (by omega) hv6, (unhide H0).cell (by omega) hv7⟩)
    (first
    | (go_at_call 23; refine (cloneSpan_any lo T.al.length _ (encS2 T.al) w7 ((unhide H7).own 7 _ _ hv7 rfl) (by omega) (encS2_one T.al)).mono ?_; rintro e w8 ⟨n7, rfl, ho7, hb8⟩; obtain ⟨x7, y7, rfl⟩ := own_slice ho7; have H8 := hide ((unhide H7).fresh (below_grown hb8)); have HL8 := hide ((unhide HL7).add (l := Ln.mk 68 2 T.al.length (encS2 T.al)) hb8 (unhide HB7).size ho7); have HB8 := hide ((unhide HB7).trans (hb8.mono (unhide HB7).size)); clear ho7 hb8; have q8 := (unhide HBX).kept (below_grown (row := none) (unhide HB8)) (by simp); have g9 := grown8 w8 W.heap.size (.slice x0 T.sc.length y0) (.slice x1 T.co.length y1) (.slice x2 T.ma.length y2) (.slice x3 T.pr.length y3) (.slice x4 T.fo.length y4) (.slice x5 T.lk.length y5) (.slice x6 T.dr.length y6) (.slice x7 T.al.length y7); have HQ8 := hide q8; have HG9 := hide g9; have e0 := (unhide HQ8).cell 0; have f0 := (unhide HQ8).frozen 0; have e1 := (unhide HQ8).cell 1; have f1 := (unhide HQ8).frozen 1; have e2 := (unhide HQ8).cell 2; have f2 := (unhide HQ8).frozen 2; have e3 := (unhide HQ8).cell 3; have f3 := (unhide HQ8).frozen 3; have e4 := (unhide HQ8).cell 4; have f4 := (unhide HQ8).frozen 4; have e5 := (unhide HQ8).cell 5; have f5 := (unhide HQ8).frozen 5; have e6 := (unhide HQ8).cell 6; have f6 := (unhide HQ8).frozen 6; have e7 := (unhide HQ8).cell 7; have f7 := (unhide HQ8).frozen 7; have K9 := hide (And.intro hTne (And.intro (unhide H8) (unhide HG9))); clear q8 g9)
    | (go_at_call 23; refine (cloneSpan_any lo T.dr.length _ (encS2 T.dr) w6 ((unhide H6).own 6 _ _ hv6 rfl) (by omega) (encS2_one T.dr)).mono ?_; rintro e w7 ⟨n6, rfl, ho6, hb7⟩; obtain ⟨x6, y6, rfl⟩ := own_slice ho6; have H7 := hide ((unhide H6).fresh (below_grown hb7)); have HL7 := hide ((unhide HL6).add (l := Ln.mk 68 2 T.dr.length (encS2 T.dr)) hb7 (unhide HB6).size ho6); have HB7 := hide ((unhide HB6).trans (hb7.mono (unhide HB6).size)); clear ho6 hb7)
    | (go_at_call 26; refine (cloneMap_any lo T.lk.length _ (encF2 T.lk) w5 ((unhide H5).own 5 _ _ hv5 rfl) (by omega) (encF2_one T.lk)).mono ?_; rintro e w6 ⟨n5, rfl, ho5, hb6⟩; obtain ⟨x5, y5, rfl⟩ := own_slice ho5; have H6 := hide ((unhide H5).fresh (below_grown hb6)); have HL6 := hide ((unhide HL5).add (l := Ln.mk 77 2 T.lk.length (encF2 T.lk)) hb6 (unhide HB5).size ho5); have HB6 := hide ((unhide HB5).trans (hb6.mono (unhide HB5).size)); clear ho5 hb6)
    | (go_at_call 26; refine (cloneMap_any lo T.fo.length _ (encF2 T.fo) w4 ((unhide H4).own 4 _ _ hv4 rfl) (by omega) (encF2_one T.fo)).mono ?_; rintro e w5 ⟨n4, rfl, ho4, hb5⟩; obtain ⟨x4, y4, rfl⟩ := own_slice ho4; have H5 := hide ((unhide H4).fresh (below_grown hb5)); have HL5 := hide ((unhide HL4).add (l := Ln.mk 77 2 T.fo.length (encF2 T.fo)) hb5 (unhide HB4).size ho4); have HB5 := hide ((unhide HB4).trans (hb5.mono (unhide HB4).size)); clear ho4 hb5)
    | (go_at_call 25; refine (clonePair_any lo T.pr.length _ (encP3 T.pr) w3 ((unhide H3).own 3 _ _ hv3 rfl) (by omega) (encP3_one T.pr)).mono ?_; rintro e w4 ⟨n3, rfl, ho3, hb4⟩; obtain ⟨x3, y3, rfl⟩ := own_slice ho3; have H4 := hide ((unhide H3).fresh (below_grown hb4)); have HL4 := hide ((unhide HL3).add (l := Ln.mk 74 3 T.pr.length (encP3 T.pr)) hb4 (unhide HB3).size ho3); have HB4 := hide ((unhide HB3).trans (hb4.mono (unhide HB3).size)); clear ho3 hb4)
    | (go_at_call 24; refine (cloneMark_any lo T.ma.length _ (encM2 T.ma) w2 ((unhide H2).own 2 _ _ hv2 rfl) (by omega) (encM2_one T.ma)).mono ?_; rintro e w3 ⟨n2, rfl, ho2, hb3⟩; obtain ⟨x2, y2, rfl⟩ := own_slice ho2; have H3 := hide ((unhide H2).fresh (below_grown hb3)); have HL3 := hide ((unhide HL2).add (l := Ln.mk 71 2 T.ma.length (encM2 T.ma)) hb3 (unhide HB2).size ho2); have HB3 := hide ((unhide HB2).trans (hb3.mono (unhide HB2).size)); clear ho2 hb3)
    | (go_at_call 23; refine (cloneSpan_any lo T.co.length _ (encS2 T.co) w1 ((unhide H1).own 1 _ _ hv1 rfl) (by omega) (encS2_one T.co)).mono ?_; rintro e w2 ⟨n1, rfl, ho1, hb2⟩; obtain ⟨x1, y1, rfl⟩ := own_slice ho1; have H2 := hide ((unhide H1).fresh (below_grown hb2)); have HL2 := hide ((unhide HL1).add (l := Ln.mk 68 2 T.co.length (encS2 T.co)) hb2 (unhide HB1).size ho1); have HB2 := hide ((unhide HB1).trans (hb2.mono (unhide HB1).size)); clear ho1 hb2)
    | (go_at_call 22; refine (ownScripts_any lo _ T.sc (vs.drop 17) ((W.alloc (.cells #[.slice none 0 0, .slice none 0 0, .slice none 0 0, .slice none 0 0, .slice none 0 0, .slice none 0 0, .slice none 0 0, .slice none 0 0] 28)).drew) ((unhide H0).own 0 _ _ hv0 rfl) (unhide HLD) (by omega) (fun j x s hx hs => unhide HU j x s hx hs _ (unhide H0))).mono ?_; rintro e w1 ⟨n0, rfl, hos⟩; obtain ⟨us, hus, hl1, hb1⟩ := hos.lst; obtain ⟨x0, y0, rfl⟩ := own_slice (hl1.own 0 _ _ rfl rfl); have H1 := hide ((unhide H0).fresh (below_grown hb1)); have HL1 := hide hl1; have HB1 := hide hb1; have HSU := hide hus; clear hl1 hb1 hus hos))
  all_goals
    have hN : W.heap.size < ((W.alloc (.cells #[.slice none 0 0, .slice none 0 0, .slice none 0 0, .slice none 0 0, .slice none 0 0, .slice none 0 0, .slice none 0 0, .slice none 0 0] 28)).drew).heap.size := by have := unhide HSZ; omega
    have b9 := box8b (unhide HQ8) (.slice x0 T.sc.length y0) (.slice x1 T.co.length y1) (.slice x2 T.ma.length y2) (.slice x3 T.pr.length y3) (.slice x4 T.fo.length y4) (.slice x5 T.lk.length y5) (.slice x6 T.dr.length y6) (.slice x7 T.al.length y7)
    have r0 := b9.cell 0
    have r1 := b9.cell 1
    have r2 := b9.cell 2
    have r3 := b9.cell 3
    have r4 := b9.cell 4
    have r5 := b9.cell 5
    have r6 := b9.cell 6
    have r7 := b9.cell 7
    have HL9 := hide (((unhide HL8).kept (unhide HG9) (fun b e => by have := Option.some.inj e; omega)).lower (Nat.le_of_lt hN))
    have HB9 := hide (((unhide HBW).trans ((unhide HB8).mono (Nat.le_of_lt hN))).grown (unhide HG9) (by have := (unhide HB8).size; omega) (fun k hk => by cases hk; exact Nat.le_refl _))
    clear b9 e0 e1 e2 e3 e4 e5 e6 e7 f0 f1 f2 f3 f4 f5 f6 f7 HQ8 HG9 K9
    go_wp2_with fail
    exact bodyPost_ret (v := Value.agg #[Value.slice x0 T.sc.length y0, Value.slice x1 T.co.length y1, Value.slice x2 T.ma.length y2, Value.slice x3 T.pr.length y3, Value.slice x4 T.fo.length y4, Value.slice x5 T.lk.length y5, Value.slice x6 T.dr.length y6, Value.slice x7 T.al.length y7]) (by simp [results, Tryz.results7, go_sem, r0, r1, r2, r3, r4, r5, r6, r7]) rfl ⟨_, rfl, ⟨_, us, _, _, _, _, _, _, _, rfl, unhide HSU, unhide HL9⟩, unhide HB9⟩
end Go.Proofs.YtjgfmobmilgapaaGreatDoor
