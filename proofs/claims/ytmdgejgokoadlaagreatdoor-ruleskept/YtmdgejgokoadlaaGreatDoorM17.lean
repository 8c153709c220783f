/- Texts of this claim, one behind the other. -/
import Derived.Test.YtmdgejgokoadlaaGreatDoorM16
import Derived.Test.YtmdgejgokoadlaaGreatDoorM15
import Derived.Test.YtmdgejgokoadlaaGreatDoorM12
import Derived.Deep.RegionHeld3
/- Print, at a table that lies in memory. -/
namespace Go.Proofs.YtmdgejgokoadlaaGreatDoor
open Go.RowKit Go.Shelf
set_option linter.unusedVariables false
def zgb (T:TV):Pn :=
 zhC (zhC (T.lk.foldl (mapP ⟨#[108,111,111,107]⟩) (T.fo.foldl (mapP ⟨#[102,111,108,100]⟩) (T.pr.foldl zjv (T.ma.foldl zhB (zhC (T.sc.foldl zdU ⟨[],false,false⟩) ⟨#[99,111,109,109,111,110]⟩ T.co))))) ⟨#[100,114,111,112]⟩ T.dr) ⟨#[97,108,108,111,119]⟩ T.al
def zkb (T:TV):ByteArray × Int:=if (zgb T).wr=true then (⟨#[]⟩,5) else if 262144 < (zgb T).t.length then (⟨#[]⟩,3) else (⟨(zgb T).t.toArray⟩,0)
structure TabIn (W:World) (T:TV) (a0 a1 a2 a3 a4 a5 a6 a7:Option Addr) (us:List Value):Prop where
 lu:us.length=T.sc.length
 r0:RowC W W.heap.size a0 (zbQ T.sc us)
 r1:RowC W W.heap.size a1 (zap T.co)
 r2:RowC W W.heap.size a2 (zco T.ma)
 r3:RowC W W.heap.size a3 (zch T.pr)
 r4:RowC W W.heap.size a4 (zbu T.fo)
 r5:RowC W W.heap.size a5 (zbu T.lk)
 r6:RowC W W.heap.size a6 (zap T.dr)
 r7:RowC W W.heap.size a7 (zap T.al)
 rs:∀ (j:Nat) (x:ByteArray × List (Int × Int)) (u:Value),T.sc[j]?=some x→us[j]?=some u→∃ b d,u=.slice b x.2.length d∧RowC W W.heap.size b (zap x.2)
structure zgC (T:TV):Prop where
 n0:T.sc.length≤1000000
 n1:T.co.length≤1000000
 n2:T.ma.length≤1000000
 n3:T.pr.length≤1000000
 n4:T.fo.length≤1000000
 n5:T.lk.length≤1000000
 n6:T.dr.length≤1000000
 n7:T.al.length≤1000000
 z0:∀ x ∈ T.sc,x.1.size≤maxLen∧x.2.length≤1000000
 z2:∀ x ∈ T.ma, -9223372036854775808≤x.2∧x.2≤9223372036854775807
 z4:∀ x ∈ T.fo,x.2.size≤maxLen
 z5:∀ x ∈ T.lk,x.2.size≤maxLen
structure EnvP (W:World):Prop where
 t64:W.cell? ⟨11,15,none⟩=some (.int .u8 4)
 pow : Lib.TabIs Tryz.prog W "internal/strconv.uint64pow10" .u64 Lib.pow10Tab
 utf:Lib.Utf8Tabs 5 6 W
 big:12≤W.heap.size
theorem RowC.below {W W':World} {hi hi':Nat} {a:Option Addr} {xs:List Value} (h:RowC W hi a xs) (hb:Below hi W W') (hl:hi≤hi'):RowC W' hi' a xs:=by
 intro h0
 obtain ⟨g,o,h1,h2,h3⟩:=h h0
 exact ⟨g,o,h1,by omega,fun j u hu =>(hb.cell (p:=⟨g,o+j,none⟩) h2).trans (h3 j u hu)⟩
set_option maxRecDepth 100000 in
set_option maxHeartbeats 4000000 in
theorem print_any (T:TV) (a0 a1 a2 a3 a4 a5 a6 a7:Option Addr) (c0 c1 c2 c3 c4 c5 c6 c7:Nat) (us:List Value) (W:World) (hT:TabIn W T a0 a1 a2 a3 a4 a5 a6 a7 us) (hO:zgC T) (hE:EnvP W) :
  Calls Tryz.prog 15 #[.agg #[.slice a0 T.sc.length c0,.slice a1 T.co.length c1,.slice a2 T.ma.length c2,.slice a3 T.pr.length c3,.slice a4 T.fo.length c4,.slice a5 T.lk.length c5,.slice a6 T.dr.length c6,.slice a7 T.al.length c7]] W fun e w' =>e=.returned (.tuple #[.string (zkb T).1,.int .i64 (zkb T).2])∧Below W.heap.size W w':=by
 have HV:Hz (zkb T=(if (zgb T).wr=true then (⟨#[]⟩,5) else if 262144 < (zgb T).t.length then (⟨#[]⟩,3) else (⟨(zgb T).t.toArray⟩,0))):=kz rfl
 have hbig:=hE.big
 have hB0:Below W.heap.size W ((W.alloc (.cells #[.slice a0 T.sc.length c0,.slice a1 T.co.length c1,.slice a2 T.ma.length c2,.slice a3 T.pr.length c3,.slice a4 T.fo.length c4,.slice a5 T.lk.length c5,.slice a6 T.dr.length c6,.slice a7 T.al.length c7] 33)).alloc (.cells #[.pointer none,.slice none 0 0,.bool false,.bool false] 109)):=((Below.refl _ W).alloc (Nat.le_refl _) _).alloc (by simp) _
 have bT:=(Blk.new W #[.slice a0 T.sc.length c0,.slice a1 T.co.length c1,.slice a2 T.ma.length c2,.slice a3 T.pr.length c3,.slice a4 T.fo.length c4,.slice a5 T.lk.length c5,.slice a6 T.dr.length c6,.slice a7 T.al.length c7] 33).alloc (.cells #[.pointer none,.slice none 0 0,.bool false,.bool false] 109)
 have bN:=Blk.new (W.alloc (.cells #[.slice a0 T.sc.length c0,.slice a1 T.co.length c1,.slice a2 T.ma.length c2,.slice a3 T.pr.length c3,.slice a4 T.fo.length c4,.slice a5 T.lk.length c5,.slice a6 T.dr.length c6,.slice a7 T.al.length c7] 33)) #[.pointer none,.slice none 0 0,.bool false,.bool false] 109
 rw [World.size_alloc] at bN
 have hszB:((W.alloc (.cells #[.slice a0 T.sc.length c0,.slice a1 T.co.length c1,.slice a2 T.ma.length c2,.slice a3 T.pr.length c3,.slice a4 T.fo.length c4,.slice a5 T.lk.length c5,.slice a6 T.dr.length c6,.slice a7 T.al.length c7] 33)).alloc (.cells #[.pointer none,.slice none 0 0,.bool false,.bool false] 109)).heap.size=W.heap.size+2:=by simp
 have HW:=kz (And.intro hT (And.intro hO (And.intro hE (And.intro hB0 (And.intro bT (And.intro bN hszB))))))
 clear hT hO hE hB0 bT bN hszB
 go_enter Tryz.func15,Tryz.ntmps15
 go_wp2_with fail
 generalize (W.alloc (.cells #[.slice a0 T.sc.length c0,.slice a1 T.co.length c1,.slice a2 T.ma.length c2,.slice a3 T.pr.length c3,.slice a4 T.fo.length c4,.slice a5 T.lk.length c5,.slice a6 T.dr.length c6,.slice a7 T.al.length c7] 33)).alloc (.cells #[.pointer none,.slice none 0 0,.bool false,.bool false] 109)=WB at *
 obtain ⟨hT,hO,hE,hB0,bT,bN,hszB⟩:=oz HW
 have hMN:W.heap.size≠(W.heap.size+1):=by omega
 have hcell:∀ {b i:Nat} {v:Value},b < W.heap.size→W.cell? ⟨b,i,none⟩=some v→WB.cell? ⟨b,i,none⟩=some v:=fun {b i v} hb hc =>(hB0.cell (p:=⟨b,i,none⟩) hb).trans hc
 have HTAB : Hz (Lib.TabIs Tryz.prog WB "internal/strconv.uint64pow10" .u64 Lib.pow10Tab ∧ Lib.Utf8Tabs 5 6 WB) := kz   ⟨by
   refine zgE (lo:=W.heap.size) (N:=W.heap.size) ⟨hB0.os,hB0.tape,hB0.output,hB0.size,fun i hi _ _ =>hB0.block i hi⟩ (by omega) (by omega) hE.pow,⟨fun c hc =>hcell (by omega) (hE.utf.1 c hc),fun i hi =>⟨hcell (by omega) (hE.utf.2 i hi).1,hcell (by omega) (hE.utf.2 i hi).2⟩⟩⟩
 have HS0:Hz (PS WB WB ((W.heap.size+1)+1) (W.heap.size+1) ⟨[],false,false⟩∧PF ((W.heap.size+1)+1) (W.heap.size+1) WB WB):=kz ⟨⟨⟨⟨_,_,bN,.inl rfl,World.ownsRow_nil _ _ _ _⟩,by omega,by omega⟩,by show 0≤264000;omega,PF.refl _ _ _,hcell (by omega) hE.t64,by omega,by omega⟩,PF.refl _ _ _⟩
 have HR0:=kz (hT.r0.below hB0 (show W.heap.size≤(W.heap.size+1) by omega))
 have HR1:=kz (hT.r1.below hB0 (show W.heap.size≤(W.heap.size+1) by omega))
 have HR2:=kz (hT.r2.below hB0 (show W.heap.size≤(W.heap.size+1) by omega))
 have HR3:=kz (hT.r3.below hB0 (show W.heap.size≤(W.heap.size+1) by omega))
 have HR4:=kz (hT.r4.below hB0 (show W.heap.size≤(W.heap.size+1) by omega))
 have HR5:=kz (hT.r5.below hB0 (show W.heap.size≤(W.heap.size+1) by omega))
 have HR6:=kz (hT.r6.below hB0 (show W.heap.size≤(W.heap.size+1) by omega))
 have HR7:=kz (hT.r7.below hB0 (show W.heap.size≤(W.heap.size+1) by omega))
 have HRS:Hz (∀ (j:Nat) (x:ByteArray × List (Int × Int)) (u:Value),T.sc[j]?=some x→us[j]?=some u→∃ b d,u=.slice b x.2.length d∧RowC WB (W.heap.size+1) b (zap x.2)):=kz (fun j x u hx hu =>by
  obtain ⟨b,d,e,hr⟩:=hT.rs j x u hx hu
  exact ⟨b,d,e,hr.below hB0 (by omega)⟩)
 have HLU:=kz hT.lu
 have HO:=kz hO
 have HBW:=kz (And.intro hB0 hszB)
 have HBX:=kz bT
 have hNl:(W.heap.size+1) < (W.heap.size+1)+1:=Nat.lt_succ_self (W.heap.size+1)
 have z0:=(oz HBX).cell 0
 have z1:=(oz HBX).cell 1
 have z2:=(oz HBX).cell 2
 have z3:=(oz HBX).cell 3
 have z4:=(oz HBX).cell 4
 have z5:=(oz HBX).cell 5
 have z6:=(oz HBX).cell 6
 have z7:=(oz HBX).cell 7
 have hg1:8 < (W.heap.size+1)+1∧8≠(W.heap.size+1):=by omega
 have hg2:(5 < (W.heap.size+1)+1∧5≠(W.heap.size+1))∧(6 < (W.heap.size+1)+1∧6≠(W.heap.size+1)):=by omega
 clear hT hO hE hB0 bT bN hszB hcell HW
 have HC0:=kz (ps_scripts ((W.heap.size+1)+1) (W.heap.size+1) ⟨[],false,false⟩ a0 c0 T.sc us (oz HLU) (oz HO).n0 (oz HO).z0 WB WB (oz HS0).1 ((oz HR0).kept hNl (oz HS0).2.fr) (fun j x u hx hu =>by obtain ⟨b,d,e,hr⟩:=oz HRS j x u hx hu;exact ⟨b,d,e,hr.kept hNl (oz HS0).2.fr⟩))
 refine (oz HC0).mono ?_
 rintro e w0 ⟨⟨r0,rfl⟩,h0,hf0⟩
 obtain ⟨p0,hp0⟩:∃ p0,p0=(T.sc.foldl zdU ⟨[],false,false⟩):=⟨_,rfl⟩
 rw [← hp0] at h0
 have HP0:=kz hp0
 have HS1:=kz (And.intro h0 ((oz HS0).2.trans hf0))
 have HBX1:=kz (hf0.kp _ _ _ hMN (by decide) (oz HBX))
 clear z0 z1 z2 z3 z4 z5 z6 z7 hp0 h0 hf0 HC0 HS0 HBX
 have z0:=(oz HBX1).cell 0
 have z1:=(oz HBX1).cell 1
 have z2:=(oz HBX1).cell 2
 have z3:=(oz HBX1).cell 3
 have z4:=(oz HBX1).cell 4
 have z5:=(oz HBX1).cell 5
 have z6:=(oz HBX1).cell 6
 have z7:=(oz HBX1).cell 7
 have HC1:=kz (zjp ((W.heap.size+1)+1) (W.heap.size+1) p0 ⟨#[99,111,109,109,111,110]⟩ (by decide) a1 c1 T.co (oz HO).n1 WB w0 (oz HS1).1 ((oz HR1).kept hNl (oz HS1).2.fr))
 go_wp2_with fail
 refine (oz HC1).mono ?_
 rintro e w1 ⟨⟨r1,rfl⟩,h1,hf1⟩
 obtain ⟨p1,hp1⟩:∃ p1,p1=(zhC p0 ⟨#[99,111,109,109,111,110]⟩ T.co):=⟨_,rfl⟩
 rw [← hp1] at h1
 have HP1:=kz hp1
 have HS2:=kz (And.intro h1 ((oz HS1).2.trans hf1))
 have HBX2:=kz (hf1.kp _ _ _ hMN (by decide) (oz HBX1))
 clear z0 z1 z2 z3 z4 z5 z6 z7 hp1 h1 hf1 HC1 HS1 HBX1
 have z0:=(oz HBX2).cell 0
 have z1:=(oz HBX2).cell 1
 have z2:=(oz HBX2).cell 2
 have z3:=(oz HBX2).cell 3
 have z4:=(oz HBX2).cell 4
 have z5:=(oz HBX2).cell 5
 have z6:=(oz HBX2).cell 6
 have z7:=(oz HBX2).cell 7
 have HC2:=kz (ps_marks ((W.heap.size+1)+1) (W.heap.size+1) p1 a2 c2 T.ma (oz HO).n2 (oz HO).z2 WB w1 (oz HTAB).1 hg1.1 hg1.2 (oz HS2).1 ((oz HR2).kept hNl (oz HS2).2.fr))
 go_wp2_with fail
 refine (oz HC2).mono ?_
 rintro e w2 ⟨⟨r2,rfl⟩,h2,hf2⟩
 obtain ⟨p2,hp2⟩:∃ p2,p2=(T.ma.foldl zhB p1):=⟨_,rfl⟩
 rw [← hp2] at h2
 have HP2:=kz hp2
 have HS3:=kz (And.intro h2 ((oz HS2).2.trans hf2))
 have HBX3:=kz (hf2.kp _ _ _ hMN (by decide) (oz HBX2))
 clear z0 z1 z2 z3 z4 z5 z6 z7 hp2 h2 hf2 HC2 HS2 HBX2
 have z0:=(oz HBX3).cell 0
 have z1:=(oz HBX3).cell 1
 have z2:=(oz HBX3).cell 2
 have z3:=(oz HBX3).cell 3
 have z4:=(oz HBX3).cell 4
 have z5:=(oz HBX3).cell 5
 have z6:=(oz HBX3).cell 6
 have z7:=(oz HBX3).cell 7
 have HC3:=kz (ps_pairs ((W.heap.size+1)+1) (W.heap.size+1) p2 a3 c3 T.pr (oz HO).n3 WB w2 (oz HS3).1 ((oz HR3).kept hNl (oz HS3).2.fr))
 go_wp2_with fail
 refine (oz HC3).mono ?_
 rintro e w3 ⟨⟨r3,rfl⟩,h3,hf3⟩
 obtain ⟨p3,hp3⟩:∃ p3,p3=(T.pr.foldl zjv p2):=⟨_,rfl⟩
 rw [← hp3] at h3
 have HP3:=kz hp3
 have HS4:=kz (And.intro h3 ((oz HS3).2.trans hf3))
 have HBX4:=kz (hf3.kp _ _ _ hMN (by decide) (oz HBX3))
 clear z0 z1 z2 z3 z4 z5 z6 z7 hp3 h3 hf3 HC3 HS3 HBX3
 have z0:=(oz HBX4).cell 0
 have z1:=(oz HBX4).cell 1
 have z2:=(oz HBX4).cell 2
 have z3:=(oz HBX4).cell 3
 have z4:=(oz HBX4).cell 4
 have z5:=(oz HBX4).cell 5
 have z6:=(oz HBX4).cell 6
 have z7:=(oz HBX4).cell 7
 have HC4:=kz (ps_maps ((W.heap.size+1)+1) (W.heap.size+1) p3 ⟨#[102,111,108,100]⟩ (by decide) a4 c4 T.fo (oz HO).n4 (oz HO).z4 WB w3 (oz HTAB).2 hg2.1.1 hg2.1.2 hg2.2.1 hg2.2.2 (oz HS4).1 ((oz HR4).kept hNl (oz HS4).2.fr))
 go_wp2_with fail
 refine (oz HC4).mono ?_
 rintro e w4 ⟨⟨r4,rfl⟩,h4,hf4⟩
 obtain ⟨p4,hp4⟩:∃ p4,p4=(T.fo.foldl (mapP ⟨#[102,111,108,100]⟩) p3):=⟨_,rfl⟩
 rw [← hp4] at h4
 have HP4:=kz hp4
 have HS5:=kz (And.intro h4 ((oz HS4).2.trans hf4))
 have HBX5:=kz (hf4.kp _ _ _ hMN (by decide) (oz HBX4))
 clear z0 z1 z2 z3 z4 z5 z6 z7 hp4 h4 hf4 HC4 HS4 HBX4
 have z0:=(oz HBX5).cell 0
 have z1:=(oz HBX5).cell 1
 have z2:=(oz HBX5).cell 2
 have z3:=(oz HBX5).cell 3
 have z4:=(oz HBX5).cell 4
 have z5:=(oz HBX5).cell 5
 have z6:=(oz HBX5).cell 6
 have z7:=(oz HBX5).cell 7
 have HC5:=kz (ps_maps ((W.heap.size+1)+1) (W.heap.size+1) p4 ⟨#[108,111,111,107]⟩ (by decide) a5 c5 T.lk (oz HO).n5 (oz HO).z5 WB w4 (oz HTAB).2 hg2.1.1 hg2.1.2 hg2.2.1 hg2.2.2 (oz HS5).1 ((oz HR5).kept hNl (oz HS5).2.fr))
 go_wp2_with fail
 refine (oz HC5).mono ?_
 rintro e w5 ⟨⟨r5,rfl⟩,h5,hf5⟩
 obtain ⟨p5,hp5⟩:∃ p5,p5=(T.lk.foldl (mapP ⟨#[108,111,111,107]⟩) p4):=⟨_,rfl⟩
 rw [← hp5] at h5
 have HP5:=kz hp5
 have HS6:=kz (And.intro h5 ((oz HS5).2.trans hf5))
 have HBX6:=kz (hf5.kp _ _ _ hMN (by decide) (oz HBX5))
 clear z0 z1 z2 z3 z4 z5 z6 z7 hp5 h5 hf5 HC5 HS5 HBX5
 have z0:=(oz HBX6).cell 0
 have z1:=(oz HBX6).cell 1
 have z2:=(oz HBX6).cell 2
 have z3:=(oz HBX6).cell 3
 have z4:=(oz HBX6).cell 4
 have z5:=(oz HBX6).cell 5
 have z6:=(oz HBX6).cell 6
 have z7:=(oz HBX6).cell 7
 have HC6:=kz (zjp ((W.heap.size+1)+1) (W.heap.size+1) p5 ⟨#[100,114,111,112]⟩ (by decide) a6 c6 T.dr (oz HO).n6 WB w5 (oz HS6).1 ((oz HR6).kept hNl (oz HS6).2.fr))
 go_wp2_with fail
 refine (oz HC6).mono ?_
 rintro e w6 ⟨⟨r6,rfl⟩,h6,hf6⟩
 obtain ⟨p6,hp6⟩:∃ p6,p6=(zhC p5 ⟨#[100,114,111,112]⟩ T.dr):=⟨_,rfl⟩
 rw [← hp6] at h6
 have HP6:=kz hp6
 have HS7:=kz (And.intro h6 ((oz HS6).2.trans hf6))
 have HBX7:=kz (hf6.kp _ _ _ hMN (by decide) (oz HBX6))
 clear z0 z1 z2 z3 z4 z5 z6 z7 hp6 h6 hf6 HC6 HS6 HBX6
 have z0:=(oz HBX7).cell 0
 have z1:=(oz HBX7).cell 1
 have z2:=(oz HBX7).cell 2
 have z3:=(oz HBX7).cell 3
 have z4:=(oz HBX7).cell 4
 have z5:=(oz HBX7).cell 5
 have z6:=(oz HBX7).cell 6
 have z7:=(oz HBX7).cell 7
 have HC7:=kz (zjp ((W.heap.size+1)+1) (W.heap.size+1) p6 ⟨#[97,108,108,111,119]⟩ (by decide) a7 c7 T.al (oz HO).n7 WB w6 (oz HS7).1 ((oz HR7).kept hNl (oz HS7).2.fr))
 go_wp2_with fail
 refine (oz HC7).mono ?_
 rintro e w7 ⟨⟨r7,rfl⟩,h7,hf7⟩
 obtain ⟨p7,hp7⟩:∃ p7,p7=(zhC p6 ⟨#[97,108,108,111,119]⟩ T.al):=⟨_,rfl⟩
 rw [← hp7] at h7
 have HP7:=kz hp7
 have HS8:=kz (And.intro h7 ((oz HS7).2.trans hf7))
 have HBX8:=kz (hf7.kp _ _ _ hMN (by decide) (oz HBX7))
 clear z0 z1 z2 z3 z4 z5 z6 z7 hp7 h7 hf7 HC7 HS7 HBX7
 have z0:=(oz HBX8).cell 0
 have z1:=(oz HBX8).cell 1
 have z2:=(oz HBX8).cell 2
 have z3:=(oz HBX8).cell 3
 have z4:=(oz HBX8).cell 4
 have z5:=(oz HBX8).cell 5
 have z6:=(oz HBX8).cell 6
 have z7:=(oz HBX8).cell 7
 have HPP:Hz (zgb T=p7):=kz (by rw [oz HP7,oz HP6,oz HP5,oz HP4,oz HP3,oz HP2,oz HP1,oz HP0];rfl)
 rw [oz HPP] at HV
 have HBF:Hz (∀ w,Below ((W.heap.size+1)+1) w7 w→Below W.heap.size W w):=kz (fun w hb =>by
  have h1:=oz HBW
  have h2:=(oz HS8).2.fr
  refine h1.1.trans ⟨hb.os.trans h2.os,hb.tape.trans h2.tape,hb.output.trans h2.output,Nat.le_trans h2.size hb.size,fun i hi =>(hb.block i (by omega)).trans (h2.block i (by omega) (by omega) (by omega))⟩)
 clear z0 z1 z2 z3 z4 z5 z6 z7
 obtain ⟨q8,v8,hb8,_,_⟩:=(oz HS8).1.here.blk
 have y3:=hb8.cell 3
 have hok:=(oz HS8).1.ok
 have HTL:=kz (zgR ((W.heap.size+1)+1) (W.heap.size+1) p7 (by unfold zi2 at hok;omega) w7 (oz HS8).1.here)
 have HTX:=kz (pn_text ((W.heap.size+1)+1) (W.heap.size+1) p7.t p7.bg p7.wr w7 (oz HS8).1.here)
 obtain ⟨t7,b7,e7⟩:=p7
 dsimp only at y3 HV HTX HTL
 clear hb8 hok
 cases e7 with
 | true =>
  rw [if_pos rfl] at HV
  go_wp2_with fail
  exact bodyPost_ret (v := .tuple #[.string ⟨#[]⟩,.int .i64 5]) (by simp [results,Tryz.results15,go_sem]) rfl ⟨by rw [oz HV],oz HBF _ (Below.refl _ _)⟩
 | false =>
  rw [if_neg (by decide)] at HV
  by_cases hl:262144 < t7.length
  ·rw [if_pos hl] at HV
   rw [decide_eq_true hl] at HTL
   clear hl
   go_wp2_with fail
   refine (oz HTL).mono ?_
   rintro e w8 ⟨rfl,hw8⟩
   rw [hw8]
   clear hw8
   go_wp2_with fail
   exact bodyPost_ret (v := .tuple #[.string ⟨#[]⟩,.int .i64 3]) (by simp [results,Tryz.results15,go_sem]) rfl ⟨by rw [oz HV],oz HBF _ (Below.refl _ _)⟩
  ·rw [if_neg hl] at HV
   rw [decide_eq_false hl] at HTL
   clear hl
   go_wp2_with fail
   refine (oz HTL).mono ?_
   rintro e w8 ⟨rfl,hw8⟩
   rw [hw8]
   clear hw8
   go_wp2_with fail
   refine (oz HTX).mono ?_
   rintro e w9 ⟨rfl,hb9⟩
   have HB9:=kz hb9
   clear hb9
   go_wp2_with fail
   exact bodyPost_ret (v := .tuple #[.string ⟨t7.toArray⟩,.int .i64 0]) (by simp [results,Tryz.results15,go_sem]) rfl ⟨by rw [oz HV],oz HBF _ (oz HB9)⟩
def kn1:ByteArray:=⟨#[115,99,114,105,112,116,32,97,32,123,32,39,97,39,46,46,39,122,39,32,85,43,48,48,69,57,32,125,32,102,111,108,100,32,39,65,39,32,61,32,39,97,39,32,39,98,39,32,59,32,100,114,111,112,32,123,32,39,97,39,32,39,98,39,32,125]⟩
def kn2:ByteArray:=⟨#[102,111,108,100,32,39,65,39,32,61,32,59]⟩
def knP:ByteArray:=⟨#[115,99,114,105,112,116,32,97,32,123,32,39,97,39,32,46,46,32,39,122,39,32,85,43,48,48,69,57,32,125,10,102,111,108,100,32,39,65,39,32,61,32,39,97,39,32,39,98,39,32,59,10,100,114,111,112,32,123,32,39,97,39,32,39,98,39,32,125,10]⟩
def knT:TV:=⟨[(⟨#[97]⟩,[(97,122),(233,233)])],[],[],[],[(65,⟨#[97,98]⟩)],[],[(97,97),(98,98)],[],[(0,1,1)],[],[],[],[(29,1,30)],[],[(57,1,58),(61,1,62)],[]⟩
theorem kn1_bad:(zaD kn1).bad.isNone=true:=by decide +kernel
theorem kn1_sc:(zaD kn1).T.sc=knT.sc:=by decide +kernel
theorem kn2_bad:(zaD kn2).bad.map (fun r =>(r.b,r.l,r.c,r.why))=some (11,1,12,5):=by decide +kernel
theorem knP_p:zkb knT=(knP,0):=by decide +kernel
structure Lst (W:World) (lo:Nat) (vs:List Value) (ls:List Ln):Prop where
 ll:ls.length=vs.length
 own:∀ (i:Nat) (v:Value) (l:Ln),vs[i]?=some v→ls[i]?=some l→W.ownsRow lo l.E l.sz v l.n l.xs
 apart:∀ (i j:Nat) (v u:Value),i≠j→vs[i]?=some v→vs[j]?=some u→v.ownBlock=none∨v.ownBlock≠u.ownBlock
theorem opt_none (a:Option Nat):a=none∨a≠none:=by cases a with | none =>exact .inl rfl | some b =>exact .inr (by simp)
theorem zhb {a b:Option Nat} (h:a=none∨a≠b):b=none∨b≠a:=by
 cases b with
 | none =>exact .inl rfl
 | some y => rcases h with e | e
             · rw [e];exact .inr (by simp)
             · exact .inr (Ne.symm e)
theorem Lst.kept {W W':World} {lo:Nat} {vs:List Value} {ls:List Ln} {row:Option Nat} (h:Lst W lo vs ls) (hg:W.grownBy W' row) (hr:∀ b,row=some b→b < lo):Lst W' lo vs ls :=
 ⟨h.ll,fun i v l hv hl =>zat (h.own i v l hv hl) hg (by
  cases hb:v.ownBlock with
  | none =>exact .inl rfl
  | some b =>
   refine .inr fun e =>?_
   have:=hr b e.symm
   have:=zam (h.own i v l hv hl) b hb
   omega),h.apart⟩
theorem Lst.add {W W1:World} {lo:Nat} {vs:List Value} {ls:List Ln} {v:Value} {l:Ln} (h:Lst W lo vs ls) (hb:Below W.heap.size W W1) (hlo:lo≤W.heap.size) (hn:W1.ownsRow W.heap.size l.E l.sz v l.n l.xs):Lst W1 lo (vs++[v]) (ls++[l]):=by
 have hll:=h.ll
 have h1:=h.kept (zaS (row:=none) hb) (fun b e =>by cases e)
 have hA:∀ (j:Nat) (x:Value),vs[j]?=some x→x.ownBlock=none∨x.ownBlock≠v.ownBlock:=by
  intro j x hx
  obtain ⟨m,hm⟩:∃ m,ls[j]?=some m:=⟨_,List.getElem?_eq_getElem (by have:=(List.getElem?_eq_some_iff.1 hx).1;omega)⟩
  cases hxb:x.ownBlock with
  | none =>exact .inl rfl
  | some b =>
   refine .inr fun e =>?_
   have h3:=zam hn b e.symm
   have h4:=zbE (h.own j x m hx hm) b hxb
   omega
 have key:∀ (i:Nat) (y:Value),(vs++[v])[i]?=some y→(i < vs.length∧vs[i]?=some y)∨(i=vs.length∧y=v):=by
  intro i y hy
  by_cases hi:i < vs.length
  ·rw [List.getElem?_append_left hi] at hy;exact .inl ⟨hi,hy⟩
  ·have hi2:=(List.getElem?_eq_some_iff.1 hy).1
   rw [List.length_append,List.length_singleton] at hi2
   obtain rfl:i=vs.length:=by omega
   rw [List.getElem?_concat_length] at hy
   exact .inr ⟨rfl,(Option.some.inj hy).symm⟩
 refine ⟨by rw [List.length_append,List.length_append,hll];rfl, ?_, ?_⟩
 ·intro i y m hy hm
  rcases key i y hy with ⟨h2,h3⟩ | ⟨h2,h3⟩
  ·rw [List.getElem?_append_left (by omega)] at hm
   exact h1.own i y m h3 hm
  ·subst h3
   rw [h2, ← hll,List.getElem?_concat_length] at hm
   obtain rfl:=Option.some.inj hm
   exact zdk hn hlo
 ·intro i j y x hij hy hx
  rcases key i y hy with ⟨h2,h3⟩ | ⟨h2,h3⟩ <;> rcases key j x hx with ⟨h4,h5⟩ | ⟨h4,h5⟩
  ·exact h.apart i j y x hij h3 h5
  ·subst h5;exact hA i y h3
  ·subst h3;exact zhb (hA j x h5)
  ·exact absurd (h2.trans h4.symm) hij
def tsOf (T:TV) (us:List Value):List Ln :=
 (Ln.mk 71 2 T.sc.length (zbQ T.sc us)::T.sc.map (fun s =>Ln.mk 73 2 s.2.length (zap s.2)))++[Ln.mk 73 2 T.co.length (zap T.co)]++[Ln.mk 93 2 T.ma.length (zco T.ma)]++[Ln.mk 96 3 T.pr.length (zch T.pr)]++[Ln.mk 75 2 T.fo.length (zbu T.fo)]++[Ln.mk 75 2 T.lk.length (zbu T.lk)]++[Ln.mk 73 2 T.dr.length (zap T.dr)]++[Ln.mk 73 2 T.al.length (zap T.al)]
def TabAt (w:World) (lo:Nat) (T:TV) (v:Value):Prop := ∃ v0 us v1 v2 v3 v4 v5 v6 v7,v=.agg #[v0,v1,v2,v3,v4,v5,v6,v7]∧us.length=T.sc.length∧Lst w lo ((v0::us)++[v1]++[v2]++[v3]++[v4]++[v5]++[v6]++[v7]) (tsOf T us)
theorem OsPost.lst {W w':World} {sc:List (ByteArray × List (Int × Int))} {v:Value} (h:OsPost W w' sc v):∃ us,us.length=sc.length∧Lst w' W.heap.size (v::us) (Ln.mk 71 2 sc.length (zbQ sc us)::sc.map (fun s =>Ln.mk 73 2 s.2.length (zap s.2)))∧Below W.heap.size W w':=by
 obtain ⟨us,hl,h1,h2,h3,h4⟩:=h
 refine ⟨us,hl,⟨by rw [List.length_cons,List.length_cons,List.length_map,hl], ?_, ?_⟩,h4⟩
 ·intro i x l hx hm
  cases i with
  | zero =>
   obtain rfl:=Option.some.inj hx
   obtain rfl:=Option.some.inj hm
   exact h1
  | succ i =>
   rw [List.getElem?_cons_succ] at hx hm
   rw [List.getElem?_map] at hm
   obtain ⟨s,hs,rfl⟩:=Option.map_eq_some_iff.1 hm
   exact h2 i x s hx hs
 ·have hA:∀ (j:Nat) (x:Value),us[j]?=some x→x.ownBlock=none∨x.ownBlock≠v.ownBlock:=by
   intro j x hx
   obtain ⟨s,hs⟩:∃ s,sc[j]?=some s:=⟨_,List.getElem?_eq_getElem (by have:=(List.getElem?_eq_some_iff.1 hx).1;omega)⟩
   exact zcA (h2 j x s hx hs) h1 (by decide)
  intro i j x y hij hx hy
  cases i with
  | zero =>cases j with
   | zero =>exact absurd rfl hij
   | succ j =>
    obtain rfl:=Option.some.inj hx
    exact zhb (hA j y hy)
  | succ i =>cases j with
   | zero =>
    obtain rfl:=Option.some.inj hy
    exact hA i x hx
   | succ j =>exact h3 i j x y (by omega) hx hy
theorem TbAt.fresh {W W':World} {lo Tx:Nat} {vs:List Value} {ls:List Ln} {eb el ec:Int} (h:TbAt W lo Tx vs ls eb el ec) (hg:W.grownBy W' none):TbAt W' lo Tx vs ls eb el ec :=
 ⟨h.lv,h.ll,h.blk.kept hg (by simp),fun i v l hv hl =>zat (h.own i v l hv hl) hg (opt_none _),h.apart,h.lt⟩
theorem drew_grown (W:World) (row:Option Nat):W.grownBy W.drew row:=⟨rfl,rfl,rfl,Nat.le_refl _,fun _ _ _ =>rfl⟩
theorem TbAt.cell2 {W W':World} {lo Tx N:Nat} {vs:List Value} {ls:List Ln} {eb el ec:Int} (h:TbAt W lo Tx vs ls eb el ec) (hg:W.grownBy W' (some N)) (hne:Tx≠N) {i:Nat} {v:Value} (hi:i < 17) (hv:vs[i]?=some v):W'.cell? ⟨Tx,i,none⟩=some v:=hg.cell (a:=⟨Tx,i,none⟩) (h.cell hi hv) (by show some Tx≠some N;intro e;exact hne (Option.some.inj e))
theorem Lst.lower {W:World} {lo lo':Nat} {vs:List Value} {ls:List Ln} (h:Lst W lo vs ls) (hl:lo'≤lo):Lst W lo' vs ls:=⟨h.ll,fun i v l hv hm =>zdk (h.own i v l hv hm) hl,h.apart⟩
theorem box8b {W:World} {N:Nat} {a0 a1 a2 a3 a4 a5 a6 a7:Value} {ty:TypeId} (h:Blk W N #[a0,a1,a2,a3,a4,a5,a6,a7] ty) (v0 v1 v2 v3 v4 v5 v6 v7:Value):Blk ((((((((W.setCell ⟨N,0,none⟩ v0).setCell ⟨N,1,none⟩ v1).setCell ⟨N,2,none⟩ v2).setCell ⟨N,3,none⟩ v3).setCell ⟨N,4,none⟩ v4).setCell ⟨N,5,none⟩ v5).setCell ⟨N,6,none⟩ v6).setCell ⟨N,7,none⟩ v7) N #[v0,v1,v2,v3,v4,v5,v6,v7] ty:=box8 h v0 v1 v2 v3 v4 v5 v6 v7
set_option maxRecDepth 100000 in
set_option maxHeartbeats 8000000 in
theorem zdf (lo Tx:Nat) (vs:List Value) (T:TV) (eb el ec:Int) (hT:T.Le 1000000) (hsp:∀ s ∈ T.sc,s.2.length≤1000000) (W:World) (h:TbAt W lo Tx vs (zeN T (vs.drop 17)) eb el ec) :
  Calls Tryz.prog 12 #[.pointer (some ⟨Tx,0,none⟩)] W fun e w' => ∃ v,e=.returned v∧TabAt w' W.heap.size T v∧Below W.heap.size W w':=by
 have hlv:=h.lv
 have hll:=h.ll
 rw [zkp] at hll
 obtain ⟨v0,hv0⟩:∃ v,vs[0]?=some v:=⟨_,List.getElem?_eq_getElem (by omega)⟩
 obtain ⟨v1,hv1⟩:∃ v,vs[1]?=some v:=⟨_,List.getElem?_eq_getElem (by omega)⟩
 obtain ⟨v2,hv2⟩:∃ v,vs[2]?=some v:=⟨_,List.getElem?_eq_getElem (by omega)⟩
 obtain ⟨v3,hv3⟩:∃ v,vs[3]?=some v:=⟨_,List.getElem?_eq_getElem (by omega)⟩
 obtain ⟨v4,hv4⟩:∃ v,vs[4]?=some v:=⟨_,List.getElem?_eq_getElem (by omega)⟩
 obtain ⟨v5,hv5⟩:∃ v,vs[5]?=some v:=⟨_,List.getElem?_eq_getElem (by omega)⟩
 obtain ⟨v6,hv6⟩:∃ v,vs[6]?=some v:=⟨_,List.getElem?_eq_getElem (by omega)⟩
 obtain ⟨v7,hv7⟩:∃ v,vs[7]?=some v:=⟨_,List.getElem?_eq_getElem (by omega)⟩
 obtain ⟨a0,c0,rfl⟩:=zab (h.own 0 _ _ hv0 rfl)
 obtain ⟨a1,c1,rfl⟩:=zab (h.own 1 _ _ hv1 rfl)
 obtain ⟨a2,c2,rfl⟩:=zab (h.own 2 _ _ hv2 rfl)
 obtain ⟨a3,c3,rfl⟩:=zab (h.own 3 _ _ hv3 rfl)
 obtain ⟨a4,c4,rfl⟩:=zab (h.own 4 _ _ hv4 rfl)
 obtain ⟨a5,c5,rfl⟩:=zab (h.own 5 _ _ hv5 rfl)
 obtain ⟨a6,c6,rfl⟩:=zab (h.own 6 _ _ hv6 rfl)
 obtain ⟨a7,c7,rfl⟩:=zab (h.own 7 _ _ hv7 rfl)
 have hmx:Tryz.prog.follows .mixedOrders=true:=by kernel_rfl
 have hTlt:Tx < W.heap.size:=h.blk.lt
 have hTne:Tx≠W.heap.size:=Nat.ne_of_lt hTlt
 have HU:Hz (∀ (j:Nat) (x:Value) (s:ByteArray × List (Int × Int)),(vs.drop 17)[j]?=some x→T.sc[j]?=some s→∀ w,TbAt w lo Tx vs (zeN T (vs.drop 17)) eb el ec→w.ownsRow lo 73 2 x s.2.length (zap s.2)∧s.2.length≤1000000):=kz (by
  intro j x s hx hs w hw
  refine ⟨?_,hsp s (List.mem_of_getElem? hs)⟩
  rw [List.getElem?_drop] at hx
  refine hw.own (17+j) x (Ln.mk 73 2 s.2.length (zap s.2)) hx ?_
  unfold zeN
  rw [Nat.add_comm]
  simp only [List.getElem?_cons_succ,List.getElem?_map,hs,Option.map_some])
 have HLD:Hz ((vs.drop 17).length=T.sc.length):=kz (by rw [List.length_drop];omega)
 have H0:=kz ((h.fresh (World.grownBy_alloc W (.cells #[.slice none 0 0,.slice none 0 0,.slice none 0 0,.slice none 0 0,.slice none 0 0,.slice none 0 0,.slice none 0 0,.slice none 0 0] 33) none)).fresh (drew_grown _ none))
 have HBX:Hz (Blk ((W.alloc (.cells #[.slice none 0 0,.slice none 0 0,.slice none 0 0,.slice none 0 0,.slice none 0 0,.slice none 0 0,.slice none 0 0,.slice none 0 0] 33)).drew) W.heap.size #[.slice none 0 0,.slice none 0 0,.slice none 0 0,.slice none 0 0,.slice none 0 0,.slice none 0 0,.slice none 0 0,.slice none 0 0] 33):=kz (Blk.new W _ _)
 have HBW:Hz (Below W.heap.size W ((W.alloc (.cells #[.slice none 0 0,.slice none 0 0,.slice none 0 0,.slice none 0 0,.slice none 0 0,.slice none 0 0,.slice none 0 0,.slice none 0 0] 33)).drew)):=kz (((Below.refl W.heap.size W).alloc (Nat.le_refl _) _).trans ⟨rfl,rfl,rfl,Nat.le_refl _,fun _ _ =>rfl⟩)
 have HSZ:Hz (((W.alloc (.cells #[.slice none 0 0,.slice none 0 0,.slice none 0 0,.slice none 0 0,.slice none 0 0,.slice none 0 0,.slice none 0 0,.slice none 0 0] 33)).drew).heap.size=W.heap.size+1):=kz (by show (W.alloc _).heap.size=_;simp)
 obtain ⟨b_sc,b_co,b_ma,b_pr,b_fo,b_lk,b_dr,b_al,b1,b2,b3,b4,b5,b6,b7,b8⟩:=hT
 clear h b1 b2 b3 b4 b5 b6 b7 b8 hsp
 go_enter Tryz.func12,Tryz.ntmps12
 go_wp2_with fail
 have t0:=(oz H0).cell (by omega) hv0
 have t1:=(oz H0).cell (by omega) hv1
 have t2:=(oz H0).cell (by omega) hv2
 have t3:=(oz H0).cell (by omega) hv3
 have t4:=(oz H0).cell (by omega) hv4
 have t5:=(oz H0).cell (by omega) hv5
 have t6:=(oz H0).cell (by omega) hv6
 have t7:=(oz H0).cell (by omega) hv7
 go_region_held3 (fun w' =>w'.cell? ⟨Tx,0,none⟩=some (.slice a0 T.sc.length c0)∧w'.cell? ⟨Tx,1,none⟩=some (.slice a1 T.co.length c1)∧w'.cell? ⟨Tx,2,none⟩=some (.slice a2 T.ma.length c2)∧w'.cell? ⟨Tx,3,none⟩=some (.slice a3 T.pr.length c3)∧w'.cell? ⟨Tx,4,none⟩=some (.slice a4 T.fo.length c4)∧w'.cell? ⟨Tx,5,none⟩=some (.slice a5 T.lk.length c5)∧w'.cell? ⟨Tx,6,none⟩=some (.slice a6 T.dr.length c6)∧w'.cell? ⟨Tx,7,none⟩=some (.slice a7 T.al.length c7)) (first | with_reducible exact ⟨(oz K9).2.1.cell2 (oz K9).2.2 (oz K9).1 (by omega) hv0,(oz K9).2.1.cell2 (oz K9).2.2 (oz K9).1 (by omega) hv1,(oz K9).2.1.cell2 (oz K9).2.2 (oz K9).1 (by omega) hv2,(oz K9).2.1.cell2 (oz K9).2.2 (oz K9).1 (by omega) hv3,(oz K9).2.1.cell2 (oz K9).2.2 (oz K9).1 (by omega) hv4,(oz K9).2.1.cell2 (oz K9).2.2 (oz K9).1 (by omega) hv5,(oz K9).2.1.cell2 (oz K9).2.2 (oz K9).1 (by omega) hv6,(oz K9).2.1.cell2 (oz K9).2.2 (oz K9).1 (by omega) hv7⟩ | with_reducible exact ⟨(oz H8).cell (by omega) hv0,(oz H8).cell (by omega) hv1,(oz H8).cell (by omega) hv2,(oz H8).cell (by omega) hv3,(oz H8).cell (by omega) hv4,(oz H8).cell (by omega) hv5,(oz H8).cell (by omega) hv6,(oz H8).cell (by omega) hv7⟩ | with_reducible exact ⟨(oz H7).cell (by omega) hv0,(oz H7).cell (by omega) hv1,(oz H7).cell (by omega) hv2,(oz H7).cell (by omega) hv3,(oz H7).cell (by omega) hv4,(oz H7).cell (by omega) hv5,(oz H7).cell (by omega) hv6,(oz H7).cell (by omega) hv7⟩ | with_reducible exact ⟨(oz H6).cell (by omega) hv0,(oz H6).cell (by omega) hv1,(oz H6).cell (by omega) hv2,(oz H6).cell (by omega) hv3,(oz H6).cell (by omega) hv4,(oz H6).cell (by omega) hv5,(oz H6).cell (by omega) hv6,(oz H6).cell (by omega) hv7⟩ | with_reducible exact ⟨(oz H5).cell (by omega) hv0,(oz H5).cell (by omega) hv1,(oz H5).cell (by omega) hv2,(oz H5).cell (by omega) hv3,(oz H5).cell (by omega) hv4,(oz H5).cell (by omega) hv5,(oz H5).cell (by omega) hv6,(oz H5).cell (by omega) hv7⟩ | with_reducible exact ⟨(oz H4).cell (by omega) hv0,(oz H4).cell (by omega) hv1,(oz H4).cell (by omega) hv2,(oz H4).cell (by omega) hv3,(oz H4).cell (by omega) hv4,(oz H4).cell (by omega) hv5,(oz H4).cell (by omega) hv6,(oz H4).cell (by omega) hv7⟩ | with_reducible exact ⟨(oz H3).cell (by omega) hv0,(oz H3).cell (by omega) hv1,(oz H3).cell (by omega) hv2,(oz H3).cell (by omega) hv3,(oz H3).cell (by omega) hv4,(oz H3).cell (by omega) hv5,(oz H3).cell (by omega) hv6,(oz H3).cell (by omega) hv7⟩ | with_reducible exact ⟨(oz H2).cell (by omega) hv0,(oz H2).cell (by omega) hv1,(oz H2).cell (by omega) hv2,(oz H2).cell (by omega) hv3,(oz H2).cell (by omega) hv4,(oz H2).cell (by omega) hv5,(oz H2).cell (by omega) hv6,(oz H2).cell (by omega) hv7⟩ | with_reducible exact ⟨(oz H1).cell (by omega) hv0,(oz H1).cell (by omega) hv1,(oz H1).cell (by omega) hv2,(oz H1).cell (by omega) hv3,(oz H1).cell (by omega) hv4,(oz H1).cell (by omega) hv5,(oz H1).cell (by omega) hv6,(oz H1).cell (by omega) hv7⟩ | with_reducible exact ⟨(oz H0).cell (by omega) hv0,(oz H0).cell (by omega) hv1,(oz H0).cell (by omega) hv2,(oz H0).cell (by omega) hv3,(oz H0).cell (by omega) hv4,(oz H0).cell (by omega) hv5,(oz H0).cell (by omega) hv6,(oz H0).cell (by omega) hv7⟩)
  (first
  | (go_at_call 33;refine (zcE lo T.al.length _ (zap T.al) w7 ((oz H7).own 7 _ _ hv7 rfl) (by omega) (zbU T.al)).mono ?_;rintro e w8 ⟨n7,rfl,ho7,hb8⟩;obtain ⟨x7,y7,rfl⟩:=zab ho7;have H8:=kz ((oz H7).fresh (zaS hb8));have HL8:=kz ((oz HL7).add (l:=Ln.mk 73 2 T.al.length (zap T.al)) hb8 (oz HB7).size ho7);have HB8:=kz ((oz HB7).trans (hb8.mono (oz HB7).size));clear ho7 hb8;have q8:=(oz HBX).kept (zaS (row:=none) (oz HB8)) (by simp);have g9:=zgg w8 W.heap.size (.slice x0 T.sc.length y0) (.slice x1 T.co.length y1) (.slice x2 T.ma.length y2) (.slice x3 T.pr.length y3) (.slice x4 T.fo.length y4) (.slice x5 T.lk.length y5) (.slice x6 T.dr.length y6) (.slice x7 T.al.length y7);have HQ8:=kz q8;have HG9:=kz g9;have e0:=(oz HQ8).cell 0;have f0:=(oz HQ8).frozen 0;have e1:=(oz HQ8).cell 1;have f1:=(oz HQ8).frozen 1;have e2:=(oz HQ8).cell 2;have f2:=(oz HQ8).frozen 2;have e3:=(oz HQ8).cell 3;have f3:=(oz HQ8).frozen 3;have e4:=(oz HQ8).cell 4;have f4:=(oz HQ8).frozen 4;have e5:=(oz HQ8).cell 5;have f5:=(oz HQ8).frozen 5;have e6:=(oz HQ8).cell 6;have f6:=(oz HQ8).frozen 6;have e7:=(oz HQ8).cell 7;have f7:=(oz HQ8).frozen 7;have K9:=kz (And.intro hTne (And.intro (oz H8) (oz HG9)));clear q8 g9)
  | (go_at_call 33;refine (zcE lo T.dr.length _ (zap T.dr) w6 ((oz H6).own 6 _ _ hv6 rfl) (by omega) (zbU T.dr)).mono ?_;rintro e w7 ⟨n6,rfl,ho6,hb7⟩;obtain ⟨x6,y6,rfl⟩:=zab ho6;have H7:=kz ((oz H6).fresh (zaS hb7));have HL7:=kz ((oz HL6).add (l:=Ln.mk 73 2 T.dr.length (zap T.dr)) hb7 (oz HB6).size ho6);have HB7:=kz ((oz HB6).trans (hb7.mono (oz HB6).size));clear ho6 hb7)
  | (go_at_call 36;refine (zfC lo T.lk.length _ (zbu T.lk) w5 ((oz H5).own 5 _ _ hv5 rfl) (by omega) (ziS T.lk)).mono ?_;rintro e w6 ⟨n5,rfl,ho5,hb6⟩;obtain ⟨x5,y5,rfl⟩:=zab ho5;have H6:=kz ((oz H5).fresh (zaS hb6));have HL6:=kz ((oz HL5).add (l:=Ln.mk 75 2 T.lk.length (zbu T.lk)) hb6 (oz HB5).size ho5);have HB6:=kz ((oz HB5).trans (hb6.mono (oz HB5).size));clear ho5 hb6)
  | (go_at_call 36;refine (zfC lo T.fo.length _ (zbu T.fo) w4 ((oz H4).own 4 _ _ hv4 rfl) (by omega) (ziS T.fo)).mono ?_;rintro e w5 ⟨n4,rfl,ho4,hb5⟩;obtain ⟨x4,y4,rfl⟩:=zab ho4;have H5:=kz ((oz H4).fresh (zaS hb5));have HL5:=kz ((oz HL4).add (l:=Ln.mk 75 2 T.fo.length (zbu T.fo)) hb5 (oz HB4).size ho4);have HB5:=kz ((oz HB4).trans (hb5.mono (oz HB4).size));clear ho4 hb5)
  | (go_at_call 35;refine (zhO lo T.pr.length _ (zch T.pr) w3 ((oz H3).own 3 _ _ hv3 rfl) (by omega) (encP3_one T.pr)).mono ?_;rintro e w4 ⟨n3,rfl,ho3,hb4⟩;obtain ⟨x3,y3,rfl⟩:=zab ho3;have H4:=kz ((oz H3).fresh (zaS hb4));have HL4:=kz ((oz HL3).add (l:=Ln.mk 96 3 T.pr.length (zch T.pr)) hb4 (oz HB3).size ho3);have HB4:=kz ((oz HB3).trans (hb4.mono (oz HB3).size));clear ho3 hb4)
  | (go_at_call 34;refine (zhP lo T.ma.length _ (zco T.ma) w2 ((oz H2).own 2 _ _ hv2 rfl) (by omega) (encM2_one T.ma)).mono ?_;rintro e w3 ⟨n2,rfl,ho2,hb3⟩;obtain ⟨x2,y2,rfl⟩:=zab ho2;have H3:=kz ((oz H2).fresh (zaS hb3));have HL3:=kz ((oz HL2).add (l:=Ln.mk 93 2 T.ma.length (zco T.ma)) hb3 (oz HB2).size ho2);have HB3:=kz ((oz HB2).trans (hb3.mono (oz HB2).size));clear ho2 hb3)
  | (go_at_call 33;refine (zcE lo T.co.length _ (zap T.co) w1 ((oz H1).own 1 _ _ hv1 rfl) (by omega) (zbU T.co)).mono ?_;rintro e w2 ⟨n1,rfl,ho1,hb2⟩;obtain ⟨x1,y1,rfl⟩:=zab ho1;have H2:=kz ((oz H1).fresh (zaS hb2));have HL2:=kz ((oz HL1).add (l:=Ln.mk 73 2 T.co.length (zap T.co)) hb2 (oz HB1).size ho1);have HB2:=kz ((oz HB1).trans (hb2.mono (oz HB1).size));clear ho1 hb2)
  | (go_at_call 32;refine (zgw lo _ T.sc (vs.drop 17) ((W.alloc (.cells #[.slice none 0 0,.slice none 0 0,.slice none 0 0,.slice none 0 0,.slice none 0 0,.slice none 0 0,.slice none 0 0,.slice none 0 0] 33)).drew) ((oz H0).own 0 _ _ hv0 rfl) (oz HLD) (by omega) (fun j x s hx hs =>oz HU j x s hx hs _ (oz H0))).mono ?_;rintro e w1 ⟨n0,rfl,hos⟩;obtain ⟨us,hus,hl1,hb1⟩:=hos.lst;obtain ⟨x0,y0,rfl⟩:=zab (hl1.own 0 _ _ rfl rfl);have H1:=kz ((oz H0).fresh (zaS hb1));have HL1:=kz hl1;have HB1:=kz hb1;have HSU:=kz hus;clear hl1 hb1 hus hos))
 all_goals
  have hN:W.heap.size < ((W.alloc (.cells #[.slice none 0 0,.slice none 0 0,.slice none 0 0,.slice none 0 0,.slice none 0 0,.slice none 0 0,.slice none 0 0,.slice none 0 0] 33)).drew).heap.size:=by have:=oz HSZ;omega
  have b9:=box8b (oz HQ8) (.slice x0 T.sc.length y0) (.slice x1 T.co.length y1) (.slice x2 T.ma.length y2) (.slice x3 T.pr.length y3) (.slice x4 T.fo.length y4) (.slice x5 T.lk.length y5) (.slice x6 T.dr.length y6) (.slice x7 T.al.length y7)
  have r0:=b9.cell 0
  have r1:=b9.cell 1
  have r2:=b9.cell 2
  have r3:=b9.cell 3
  have r4:=b9.cell 4
  have r5:=b9.cell 5
  have r6:=b9.cell 6
  have r7:=b9.cell 7
  have HL9:=kz (((oz HL8).kept (oz HG9) (fun b e =>by have:=Option.some.inj e;omega)).lower (Nat.le_of_lt hN))
  have HB9:=kz (((oz HBW).trans ((oz HB8).mono (Nat.le_of_lt hN))).grown (oz HG9) (by have:=(oz HB8).size;omega) (fun k hk =>by cases hk;exact Nat.le_refl _))
  clear b9 e0 e1 e2 e3 e4 e5 e6 e7 f0 f1 f2 f3 f4 f5 f6 f7 HQ8 HG9 K9
  go_wp2_with fail
  exact bodyPost_ret (v:=Value.agg #[Value.slice x0 T.sc.length y0,Value.slice x1 T.co.length y1,Value.slice x2 T.ma.length y2,Value.slice x3 T.pr.length y3,Value.slice x4 T.fo.length y4,Value.slice x5 T.lk.length y5,Value.slice x6 T.dr.length y6,Value.slice x7 T.al.length y7]) (by simp [results,Tryz.results12,go_sem,r0,r1,r2,r3,r4,r5,r6,r7]) rfl ⟨_,rfl,⟨_,us,_,_,_,_,_,_,_,rfl,oz HSU,oz HL9⟩,oz HB9⟩
end Go.Proofs.YtmdgejgokoadlaaGreatDoor
