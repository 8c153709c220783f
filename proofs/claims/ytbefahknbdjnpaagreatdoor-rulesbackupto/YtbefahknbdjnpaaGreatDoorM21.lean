/- Texts of this claim, one behind the other. -/
import Derived.Test.YtbefahknbdjnpaaGreatDoorM20
import Derived.Test.YtbefahknbdjnpaaGreatDoorM19
/- Print, at a table that lies in memory. -/
namespace Go.Proofs.YtbefahknbdjnpaaGreatDoor
open Go.RowKit Go.Shelf
set_option linter.unusedVariables false
/-- What the printer has behind the last list. -/
def printP (T : TV) : Pn :=
  listP (listP (T.lk.foldl (mapP ⟨#[108, 111, 111, 107]⟩) (T.fo.foldl (mapP ⟨#[102, 111, 108, 100]⟩) (T.pr.foldl pairP (T.ma.foldl markP (listP (T.sc.foldl scriptP ⟨[], false, false⟩) ⟨#[99, 111, 109, 109, 111, 110]⟩ T.co))))) ⟨#[100, 114, 111, 112]⟩ T.dr) ⟨#[97, 108, 108, 111, 119]⟩ T.al
def printV (T : TV) : ByteArray × Int := if (printP T).wr = true then (⟨#[]⟩, 5) else if 262144 < (printP T).t.length then (⟨#[]⟩, 3) else (⟨(printP T).t.toArray⟩, 0)
/-- A table in memory: its lists, and the spans of its scripts. -/
structure TabIn (W : World) (T : TV) (a0 a1 a2 a3 a4 a5 a6 a7 : Option Addr) (us : List Value) : Prop where
  lu : us.length = T.sc.length
  r0 : RowC W W.heap.size a0 (encSc T.sc us)
  r1 : RowC W W.heap.size a1 (encS2 T.co)
  r2 : RowC W W.heap.size a2 (encM2 T.ma)
  r3 : RowC W W.heap.size a3 (encP3 T.pr)
  r4 : RowC W W.heap.size a4 (encF2 T.fo)
  r5 : RowC W W.heap.size a5 (encF2 T.lk)
  r6 : RowC W W.heap.size a6 (encS2 T.dr)
  r7 : RowC W W.heap.size a7 (encS2 T.al)
  rs : ∀ (j : Nat) (x : ByteArray × List (Int × Int)) (u : Value), T.sc[j]? = some x → us[j]? = some u → ∃ b d, u = .slice b x.2.length d ∧ RowC W W.heap.size b (encS2 x.2)
/-- What a table of Go's values keeps to. -/
structure TabOk (T : TV) : Prop where
  n0 : T.sc.length ≤ 1000000
  n1 : T.co.length ≤ 1000000
  n2 : T.ma.length ≤ 1000000
  n3 : T.pr.length ≤ 1000000
  n4 : T.fo.length ≤ 1000000
  n5 : T.lk.length ≤ 1000000
  n6 : T.dr.length ≤ 1000000
  n7 : T.al.length ≤ 1000000
  z0 : ∀ x ∈ T.sc, x.1.size ≤ maxLen ∧ x.2.length ≤ 1000000
  z2 : ∀ x ∈ T.ma, -9223372036854775808 ≤ x.2 ∧ x.2 ≤ 9223372036854775807
  z4 : ∀ x ∈ T.fo, x.2.size ≤ maxLen
  z5 : ∀ x ∈ T.lk, x.2.size ≤ maxLen
/-- The tables of the library that Print reads. -/
structure EnvP (W : World) : Prop where
  t64 : W.cell? ⟨11, 15, none⟩ = some (.int .u8 4)
  pow : Lib.TabIs Tryz.prog W "internal/strconv.uint64pow10" .u64 Lib.pow10Tab
  utf : Lib.Utf8Tabs 5 6 W
  big : 12 ≤ W.heap.size
theorem RowC.below {W W' : World} {hi hi' : Nat} {a : Option Addr} {xs : List Value} (h : RowC W hi a xs) (hb : Below hi W W') (hl : hi ≤ hi') : RowC W' hi' a xs := by
  intro h0
  obtain ⟨g, o, h1, h2, h3⟩ := h h0
  exact ⟨g, o, h1, by omega, fun j u hu => (hb.cell (p := ⟨g, o + j, none⟩) h2).trans (h3 j u hu)⟩
set_option maxRecDepth 100000 in
set_option maxHeartbeats 4000000 in
theorem print_any (T : TV) (a0 a1 a2 a3 a4 a5 a6 a7 : Option Addr) (c0 c1 c2 c3 c4 c5 c6 c7 : Nat) (us : List Value) (W : World) (hT : TabIn W T a0 a1 a2 a3 a4 a5 a6 a7 us) (hO : TabOk T) (hE : EnvP W) :
    Calls Tryz.prog 16 #[.agg #[.slice a0 T.sc.length c0, .slice a1 T.co.length c1, .slice a2 T.ma.length c2, .slice a3 T.pr.length c3, .slice a4 T.fo.length c4, .slice a5 T.lk.length c5, .slice a6 T.dr.length c6, .slice a7 T.al.length c7]] W fun e w' => e = .returned (.tuple #[.string (printV T).1, .int .i64 (printV T).2]) ∧ Below W.heap.size W w' := by
  have HV : Hz (printV T = (if (printP T).wr = true then (⟨#[]⟩, 5) else if 262144 < (printP T).t.length then (⟨#[]⟩, 3) else (⟨(printP T).t.toArray⟩, 0))) := hide rfl
  have hbig := hE.big
  have hB0 : Below W.heap.size W ((W.alloc (.cells #[.slice a0 T.sc.length c0, .slice a1 T.co.length c1, .slice a2 T.ma.length c2, .slice a3 T.pr.length c3, .slice a4 T.fo.length c4, .slice a5 T.lk.length c5, .slice a6 T.dr.length c6, .slice a7 T.al.length c7] 33)).alloc (.cells #[.pointer none, .slice none 0 0, .bool false, .bool false] 101)) := ((Below.refl _ W).alloc (Nat.le_refl _) _).alloc (by simp) _
  have bT := (Blk.new W #[.slice a0 T.sc.length c0, .slice a1 T.co.length c1, .slice a2 T.ma.length c2, .slice a3 T.pr.length c3, .slice a4 T.fo.length c4, .slice a5 T.lk.length c5, .slice a6 T.dr.length c6, .slice a7 T.al.length c7] 33).alloc (.cells #[.pointer none, .slice none 0 0, .bool false, .bool false] 101)
  have bN := Blk.new (W.alloc (.cells #[.slice a0 T.sc.length c0, .slice a1 T.co.length c1, .slice a2 T.ma.length c2, .slice a3 T.pr.length c3, .slice a4 T.fo.length c4, .slice a5 T.lk.length c5, .slice a6 T.dr.length c6, .slice a7 T.al.length c7] 33)) #[.pointer none, .slice none 0 0, .bool false, .bool false] 101
  rw [World.size_alloc] at bN
  have hszB : ((W.alloc (.cells #[.slice a0 T.sc.length c0, .slice a1 T.co.length c1, .slice a2 T.ma.length c2, .slice a3 T.pr.length c3, .slice a4 T.fo.length c4, .slice a5 T.lk.length c5, .slice a6 T.dr.length c6, .slice a7 T.al.length c7] 33)).alloc (.cells #[.pointer none, .slice none 0 0, .bool false, .bool false] 101)).heap.size = W.heap.size + 2 := by simp
  have HW := hide (And.intro hT (And.intro hO (And.intro hE (And.intro hB0 (And.intro bT (And.intro bN hszB))))))
  clear hT hO hE hB0 bT bN hszB
  go_enter Tryz.func16, Tryz.ntmps16
  go_wp2_with fail
  generalize (W.alloc (.cells #[.slice a0 T.sc.length c0, .slice a1 T.co.length c1, .slice a2 T.ma.length c2, .slice a3 T.pr.length c3, .slice a4 T.fo.length c4, .slice a5 T.lk.length c5, .slice a6 T.dr.length c6, .slice a7 T.al.length c7] 33)).alloc (.cells #[.pointer none, .slice none 0 0, .bool false, .bool false] 101) = WB at *
  obtain ⟨hT, hO, hE, hB0, bT, bN, hszB⟩ := unhide HW
  have hMN : W.heap.size ≠ (W.heap.size + 1) := by omega
  have hcell : ∀ {b i : Nat} {v : Value}, b < W.heap.size → W.cell? ⟨b, i, none⟩ = some v → WB.cell? ⟨b, i, none⟩ = some v := fun {b i v} hb hc => (hB0.cell (p := ⟨b, i, none⟩) hb).trans hc
  have HTAB : Hz (Lib.TabIs Tryz.prog WB "internal/strconv.uint64pow10" .u64 Lib.pow10Tab ∧ Lib.Utf8Tabs 5 6 WB) := hide ⟨by
      refine tab_fr (lo := W.heap.size) (N := W.heap.size) ⟨hB0.os, hB0.tape, hB0.output, hB0.size, fun i hi _ _ => hB0.block i hi⟩ (by omega) (by omega) hE.pow, ⟨fun c hc => hcell (by omega) (hE.utf.1 c hc), fun i hi => ⟨hcell (by omega) (hE.utf.2 i hi).1, hcell (by omega) (hE.utf.2 i hi).2⟩⟩⟩
  have HS0 : Hz (PS WB WB ((W.heap.size + 1) + 1) (W.heap.size + 1) ⟨[], false, false⟩ ∧ PF ((W.heap.size + 1) + 1) (W.heap.size + 1) WB WB) := hide ⟨⟨⟨⟨_, _, bN, .inl rfl, World.ownsRow_nil _ _ _ _⟩, by omega, by omega⟩, by show 0 ≤ 264000; omega, PF.refl _ _ _, hcell (by omega) hE.t64, by omega, by omega⟩, PF.refl _ _ _⟩
  have HR0 := hide (hT.r0.below hB0 (show W.heap.size ≤ (W.heap.size + 1) by omega))
  have HR1 := hide (hT.r1.below hB0 (show W.heap.size ≤ (W.heap.size + 1) by omega))
  have HR2 := hide (hT.r2.below hB0 (show W.heap.size ≤ (W.heap.size + 1) by omega))
  have HR3 := hide (hT.r3.below hB0 (show W.heap.size ≤ (W.heap.size + 1) by omega))
  have HR4 := hide (hT.r4.below hB0 (show W.heap.size ≤ (W.heap.size + 1) by omega))
  have HR5 := hide (hT.r5.below hB0 (show W.heap.size ≤ (W.heap.size + 1) by omega))
  have HR6 := hide (hT.r6.below hB0 (show W.heap.size ≤ (W.heap.size + 1) by omega))
  have HR7 := hide (hT.r7.below hB0 (show W.heap.size ≤ (W.heap.size + 1) by omega))
  have HRS : Hz (∀ (j : Nat) (x : ByteArray × List (Int × Int)) (u : Value), T.sc[j]? = some x → us[j]? = some u → ∃ b d, u = .slice b x.2.length d ∧ RowC WB (W.heap.size + 1) b (encS2 x.2)) := hide (fun j x u hx hu => by
    obtain ⟨b, d, e, hr⟩ := hT.rs j x u hx hu
    exact ⟨b, d, e, hr.below hB0 (by omega)⟩)
  have HLU := hide hT.lu
  have HO := hide hO
  have HBW := hide (And.intro hB0 hszB)
  have HBX := hide bT
  have hNl : (W.heap.size + 1) < (W.heap.size + 1) + 1 := Nat.lt_succ_self (W.heap.size + 1)
  have z0 := (unhide HBX).cell 0
  have z1 := (unhide HBX).cell 1
  have z2 := (unhide HBX).cell 2
  have z3 := (unhide HBX).cell 3
  have z4 := (unhide HBX).cell 4
  have z5 := (unhide HBX).cell 5
  have z6 := (unhide HBX).cell 6
  have z7 := (unhide HBX).cell 7
  have hg1 : 8 < (W.heap.size + 1) + 1 ∧ 8 ≠ (W.heap.size + 1) := by omega
  have hg2 : (5 < (W.heap.size + 1) + 1 ∧ 5 ≠ (W.heap.size + 1)) ∧ (6 < (W.heap.size + 1) + 1 ∧ 6 ≠ (W.heap.size + 1)) := by omega
  clear hT hO hE hB0 bT bN hszB hcell HW
  have HC0 := hide (ps_scripts ((W.heap.size + 1) + 1) (W.heap.size + 1) ⟨[], false, false⟩ a0 c0 T.sc us (unhide HLU) (unhide HO).n0 (unhide HO).z0 WB WB (unhide HS0).1 ((unhide HR0).kept hNl (unhide HS0).2.fr) (fun j x u hx hu => by obtain ⟨b, d, e, hr⟩ := unhide HRS j x u hx hu; exact ⟨b, d, e, hr.kept hNl (unhide HS0).2.fr⟩))
  refine (unhide HC0).mono ?_
  rintro e w0 ⟨⟨r0, rfl⟩, h0, hf0⟩
  obtain ⟨p0, hp0⟩ : ∃ p0, p0 = (T.sc.foldl scriptP ⟨[], false, false⟩) := ⟨_, rfl⟩
  rw [← hp0] at h0
  have HP0 := hide hp0
  have HS1 := hide (And.intro h0 ((unhide HS0).2.trans hf0))
  have HBX1 := hide (hf0.kp _ _ _ hMN (by decide) (unhide HBX))
  clear z0 z1 z2 z3 z4 z5 z6 z7 hp0 h0 hf0 HC0 HS0 HBX
  have z0 := (unhide HBX1).cell 0
  have z1 := (unhide HBX1).cell 1
  have z2 := (unhide HBX1).cell 2
  have z3 := (unhide HBX1).cell 3
  have z4 := (unhide HBX1).cell 4
  have z5 := (unhide HBX1).cell 5
  have z6 := (unhide HBX1).cell 6
  have z7 := (unhide HBX1).cell 7
  have HC1 := hide (ps_list ((W.heap.size + 1) + 1) (W.heap.size + 1) p0 ⟨#[99, 111, 109, 109, 111, 110]⟩ (by decide) a1 c1 T.co (unhide HO).n1 WB w0 (unhide HS1).1 ((unhide HR1).kept hNl (unhide HS1).2.fr))
  go_wp2_with fail
  refine (unhide HC1).mono ?_
  rintro e w1 ⟨⟨r1, rfl⟩, h1, hf1⟩
  obtain ⟨p1, hp1⟩ : ∃ p1, p1 = (listP p0 ⟨#[99, 111, 109, 109, 111, 110]⟩ T.co) := ⟨_, rfl⟩
  rw [← hp1] at h1
  have HP1 := hide hp1
  have HS2 := hide (And.intro h1 ((unhide HS1).2.trans hf1))
  have HBX2 := hide (hf1.kp _ _ _ hMN (by decide) (unhide HBX1))
  clear z0 z1 z2 z3 z4 z5 z6 z7 hp1 h1 hf1 HC1 HS1 HBX1
  have z0 := (unhide HBX2).cell 0
  have z1 := (unhide HBX2).cell 1
  have z2 := (unhide HBX2).cell 2
  have z3 := (unhide HBX2).cell 3
  have z4 := (unhide HBX2).cell 4
  have z5 := (unhide HBX2).cell 5
  have z6 := (unhide HBX2).cell 6
  have z7 := (unhide HBX2).cell 7
  have HC2 := hide (ps_marks ((W.heap.size + 1) + 1) (W.heap.size + 1) p1 a2 c2 T.ma (unhide HO).n2 (unhide HO).z2 WB w1 (unhide HTAB).1 hg1.1 hg1.2 (unhide HS2).1 ((unhide HR2).kept hNl (unhide HS2).2.fr))
  go_wp2_with fail
  refine (unhide HC2).mono ?_
  rintro e w2 ⟨⟨r2, rfl⟩, h2, hf2⟩
  obtain ⟨p2, hp2⟩ : ∃ p2, p2 = (T.ma.foldl markP p1) := ⟨_, rfl⟩
  rw [← hp2] at h2
  have HP2 := hide hp2
  have HS3 := hide (And.intro h2 ((unhide HS2).2.trans hf2))
  have HBX3 := hide (hf2.kp _ _ _ hMN (by decide) (unhide HBX2))
  clear z0 z1 z2 z3 z4 z5 z6 z7 hp2 h2 hf2 HC2 HS2 HBX2
  have z0 := (unhide HBX3).cell 0
  have z1 := (unhide HBX3).cell 1
  have z2 := (unhide HBX3).cell 2
  have z3 := (unhide HBX3).cell 3
  have z4 := (unhide HBX3).cell 4
  have z5 := (unhide HBX3).cell 5
  have z6 := (unhide HBX3).cell 6
  have z7 := (unhide HBX3).cell 7
  have HC3 := hide (ps_pairs ((W.heap.size + 1) + 1) (W.heap.size + 1) p2 a3 c3 T.pr (unhide HO).n3 WB w2 (unhide HS3).1 ((unhide HR3).kept hNl (unhide HS3).2.fr))
  go_wp2_with fail
  refine (unhide HC3).mono ?_
  rintro e w3 ⟨⟨r3, rfl⟩, h3, hf3⟩
  obtain ⟨p3, hp3⟩ : ∃ p3, p3 = (T.pr.foldl pairP p2) := ⟨_, rfl⟩
  rw [← hp3] at h3
  have HP3 := hide hp3
  have HS4 := hide (And.intro h3 ((unhide HS3).2.trans hf3))
  have HBX4 := hide (hf3.kp _ _ _ hMN (by decide) (unhide HBX3))
  clear z0 z1 z2 z3 z4 z5 z6 z7 hp3 h3 hf3 HC3 HS3 HBX3
  have z0 := (unhide HBX4).cell 0
  have z1 := (unhide HBX4).cell 1
  have z2 := (unhide HBX4).cell 2
  have z3 := (unhide HBX4).cell 3
  have z4 := (unhide HBX4).cell 4
  have z5 := (unhide HBX4).cell 5
  have z6 := (unhide HBX4).cell 6
  have z7 := (unhide HBX4).cell 7
  have HC4 := hide (ps_maps ((W.heap.size + 1) + 1) (W.heap.size + 1) p3 ⟨#[102, 111, 108, 100]⟩ (by decide) a4 c4 T.fo (unhide HO).n4 (unhide HO).z4 WB w3 (unhide HTAB).2 hg2.1.1 hg2.1.2 hg2.2.1 hg2.2.2 (unhide HS4).1 ((unhide HR4).kept hNl (unhide HS4).2.fr))
  go_wp2_with fail
  refine (unhide HC4).mono ?_
  rintro e w4 ⟨⟨r4, rfl⟩, h4, hf4⟩
  obtain ⟨p4, hp4⟩ : ∃ p4, p4 = (T.fo.foldl (mapP ⟨#[102, 111, 108, 100]⟩) p3) := ⟨_, rfl⟩
  rw [← hp4] at h4
  have HP4 := hide hp4
  have HS5 := hide (And.intro h4 ((unhide HS4).2.trans hf4))
  have HBX5 := hide (hf4.kp _ _ _ hMN (by decide) (unhide HBX4))
  clear z0 z1 z2 z3 z4 z5 z6 z7 hp4 h4 hf4 HC4 HS4 HBX4
  have z0 := (unhide HBX5).cell 0
  have z1 := (unhide HBX5).cell 1
  have z2 := (unhide HBX5).cell 2
  have z3 := (unhide HBX5).cell 3
  have z4 := (unhide HBX5).cell 4
  have z5 := (unhide HBX5).cell 5
  have z6 := (unhide HBX5).cell 6
  have z7 := (unhide HBX5).cell 7
  have HC5 := hide (ps_maps ((W.heap.size + 1) + 1) (W.heap.size + 1) p4 ⟨#[108, 111, 111, 107]⟩ (by decide) a5 c5 T.lk (unhide HO).n5 (unhide HO).z5 WB w4 (unhide HTAB).2 hg2.1.1 hg2.1.2 hg2.2.1 hg2.2.2 (unhide HS5).1 ((unhide HR5).kept hNl (unhide HS5).2.fr))
  go_wp2_with fail
  refine (unhide HC5).mono ?_
  rintro e w5 ⟨⟨r5, rfl⟩, h5, hf5⟩
  obtain ⟨p5, hp5⟩ : ∃ p5, p5 = (T.lk.foldl (mapP ⟨#[108, 111, 111, 107]⟩) p4) := ⟨_, rfl⟩
  rw [← hp5] at h5
  have HP5 := hide hp5
  have HS6 := hide (And.intro h5 ((unhide HS5).2.trans hf5))
  have HBX6 := hide (hf5.kp _ _ _ hMN (by decide) (unhide HBX5))
  clear z0 z1 z2 z3 z4 z5 z6 z7 hp5 h5 hf5 HC5 HS5 HBX5
  have z0 := (unhide HBX6).cell 0
  have z1 := (unhide HBX6).cell 1
  have z2 := (unhide HBX6).cell 2
  have z3 := (unhide HBX6).cell 3
  have z4 := (unhide HBX6).cell 4
  have z5 := (unhide HBX6).cell 5
  have z6 := (unhide HBX6).cell 6
  have z7 := (unhide HBX6).cell 7
  have HC6 := hide (ps_list ((W.heap.size + 1) + 1) (W.heap.size + 1) p5 ⟨#[100, 114, 111, 112]⟩ (by decide) a6 c6 T.dr (unhide HO).n6 WB w5 (unhide HS6).1 ((unhide HR6).kept hNl (unhide HS6).2.fr))
  go_wp2_with fail
  refine (unhide HC6).mono ?_
  rintro e w6 ⟨⟨r6, rfl⟩, h6, hf6⟩
  obtain ⟨p6, hp6⟩ : ∃ p6, p6 = (listP p5 ⟨#[100, 114, 111, 112]⟩ T.dr) := ⟨_, rfl⟩
  rw [← hp6] at h6
  have HP6 := hide hp6
  have HS7 := hide (And.intro h6 ((unhide HS6).2.trans hf6))
  have HBX7 := hide (hf6.kp _ _ _ hMN (by decide) (unhide HBX6))
  clear z0 z1 z2 z3 z4 z5 z6 z7 hp6 h6 hf6 HC6 HS6 HBX6
  have z0 := (unhide HBX7).cell 0
  have z1 := (unhide HBX7).cell 1
  have z2 := (unhide HBX7).cell 2
  have z3 := (unhide HBX7).cell 3
  have z4 := (unhide HBX7).cell 4
  have z5 := (unhide HBX7).cell 5
  have z6 := (unhide HBX7).cell 6
  have z7 := (unhide HBX7).cell 7
  have HC7 := hide (ps_list ((W.heap.size + 1) + 1) (W.heap.size + 1) p6 ⟨#[97, 108, 108, 111, 119]⟩ (by decide) a7 c7 T.al (unhide HO).n7 WB w6 (unhide HS7).1 ((unhide HR7).kept hNl (unhide HS7).2.fr))
  go_wp2_with fail
  refine (unhide HC7).mono ?_
  rintro e w7 ⟨⟨r7, rfl⟩, h7, hf7⟩
  obtain ⟨p7, hp7⟩ : ∃ p7, p7 = (listP p6 ⟨#[97, 108, 108, 111, 119]⟩ T.al) := ⟨_, rfl⟩
  rw [← hp7] at h7
  have HP7 := hide hp7
  have HS8 := hide (And.intro h7 ((unhide HS7).2.trans hf7))
  have HBX8 := hide (hf7.kp _ _ _ hMN (by decide) (unhide HBX7))
  clear z0 z1 z2 z3 z4 z5 z6 z7 hp7 h7 hf7 HC7 HS7 HBX7
  have z0 := (unhide HBX8).cell 0
  have z1 := (unhide HBX8).cell 1
  have z2 := (unhide HBX8).cell 2
  have z3 := (unhide HBX8).cell 3
  have z4 := (unhide HBX8).cell 4
  have z5 := (unhide HBX8).cell 5
  have z6 := (unhide HBX8).cell 6
  have z7 := (unhide HBX8).cell 7
  have HPP : Hz (printP T = p7) := hide (by rw [unhide HP7, unhide HP6, unhide HP5, unhide HP4, unhide HP3, unhide HP2, unhide HP1, unhide HP0]; rfl)
  rw [unhide HPP] at HV
  have HBF : Hz (∀ w, Below ((W.heap.size + 1) + 1) w7 w → Below W.heap.size W w) := hide (fun w hb => by
    have h1 := unhide HBW
    have h2 := (unhide HS8).2.fr
    refine h1.1.trans ⟨hb.os.trans h2.os, hb.tape.trans h2.tape, hb.output.trans h2.output, Nat.le_trans h2.size hb.size, fun i hi => (hb.block i (by omega)).trans (h2.block i (by omega) (by omega) (by omega))⟩)
  clear z0 z1 z2 z3 z4 z5 z6 z7
  obtain ⟨q8, v8, hb8, _, _⟩ := (unhide HS8).1.here.blk
  have y3 := hb8.cell 3
  have hok := (unhide HS8).1.ok
  have HTL := hide (pn_tooLong ((W.heap.size + 1) + 1) (W.heap.size + 1) p7 (by unfold PnOk at hok; omega) w7 (unhide HS8).1.here)
  have HTX := hide (pn_text ((W.heap.size + 1) + 1) (W.heap.size + 1) p7.t p7.bg p7.wr w7 (unhide HS8).1.here)
  obtain ⟨t7, b7, e7⟩ := p7
  dsimp only at y3 HV HTX HTL
  clear hb8 hok
  cases e7 with
  | true =>
    rw [if_pos rfl] at HV
    go_wp2_with fail
    exact bodyPost_ret (v := .tuple #[.string ⟨#[]⟩, .int .i64 5]) (by simp [results, Tryz.results16, go_sem]) rfl ⟨by rw [unhide HV], unhide HBF _ (Below.refl _ _)⟩
  | false =>
    rw [if_neg (by decide)] at HV
    by_cases hl : 262144 < t7.length
    · rw [if_pos hl] at HV
      rw [decide_eq_true hl] at HTL
      clear hl
      go_wp2_with fail
      refine (unhide HTL).mono ?_
      rintro e w8 ⟨rfl, hw8⟩
      rw [hw8]
      clear hw8
      go_wp2_with fail
      exact bodyPost_ret (v := .tuple #[.string ⟨#[]⟩, .int .i64 3]) (by simp [results, Tryz.results16, go_sem]) rfl ⟨by rw [unhide HV], unhide HBF _ (Below.refl _ _)⟩
    · rw [if_neg hl] at HV
      rw [decide_eq_false hl] at HTL
      clear hl
      go_wp2_with fail
      refine (unhide HTL).mono ?_
      rintro e w8 ⟨rfl, hw8⟩
      rw [hw8]
      clear hw8
      go_wp2_with fail
      refine (unhide HTX).mono ?_
      rintro e w9 ⟨rfl, hb9⟩
      have HB9 := hide hb9
      clear hb9
      go_wp2_with fail
      exact bodyPost_ret (v := .tuple #[.string ⟨t7.toArray⟩, .int .i64 0]) (by simp [results, Tryz.results16, go_sem]) rfl ⟨by rw [unhide HV], unhide HBF _ (unhide HB9)⟩
end Go.Proofs.YtbefahknbdjnpaaGreatDoor
/- Chapter 5's runs, reckoned. -/
namespace Go.Proofs.YtbefahknbdjnpaaGreatDoor
open Go.RowKit Go.Shelf
set_option linter.unusedVariables false
def kn1 : ByteArray := ⟨#[115, 99, 114, 105, 112, 116, 32, 97, 32, 123, 32, 39, 97, 39, 46, 46, 39, 122, 39, 32, 85, 43, 48, 48, 69, 57, 32, 125, 32, 102, 111, 108, 100, 32, 39, 65, 39, 32, 61, 32, 39, 97, 39, 32, 39, 98, 39, 32, 59, 32, 100, 114, 111, 112, 32, 123, 32, 39, 97, 39, 32, 39, 98, 39, 32, 125]⟩
def kn2 : ByteArray := ⟨#[102, 111, 108, 100, 32, 39, 65, 39, 32, 61, 32, 59]⟩
def knP : ByteArray := ⟨#[115, 99, 114, 105, 112, 116, 32, 97, 32, 123, 32, 39, 97, 39, 32, 46, 46, 32, 39, 122, 39, 32, 85, 43, 48, 48, 69, 57, 32, 125, 10, 102, 111, 108, 100, 32, 39, 65, 39, 32, 61, 32, 39, 97, 39, 32, 39, 98, 39, 32, 59, 10, 100, 114, 111, 112, 32, 123, 32, 39, 97, 39, 32, 39, 98, 39, 32, 125, 10]⟩
def knT : TV := ⟨[(⟨#[97]⟩, [(97, 122), (233, 233)])], [], [], [], [(65, ⟨#[97, 98]⟩)], [], [(97, 97), (98, 98)], [], [(0, 1, 1)], [], [], [], [(29, 1, 30)], [], [(57, 1, 58), (61, 1, 62)], []⟩
theorem kn1_bad : (parseA kn1).bad.isNone = true := by decide +kernel
theorem kn1_sc : (parseA kn1).T.sc = knT.sc := by decide +kernel
theorem kn2_bad : (parseA kn2).bad.map (fun r => (r.b, r.l, r.c, r.why)) = some (11, 1, 12, 5) := by decide +kernel
theorem knP_p : printV knT = (knP, 0) := by decide +kernel
end Go.Proofs.YtbefahknbdjnpaaGreatDoor
