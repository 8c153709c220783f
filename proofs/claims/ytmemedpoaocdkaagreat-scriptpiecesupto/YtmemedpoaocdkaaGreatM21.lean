/- Texts of this claim, one behind the other. -/
import Derived.Test.YtmemedpoaocdkaaGreatM20
import Derived.Test.YtmemedpoaocdkaaGreatM3
import Derived.Deep.RegionHeld3
import Derived.Test.YtmemedpoaocdkaaGreatM4
/- A Book of tables: what runes are folded to, and look like. -/
namespace Go.Proofs.YtmemedpoaocdkaaGreat
open Go.RowKit Go.Shelf Go.Maps
set_option linter.unusedVariables false
def MpAt (w:World) (kt:TypeId) (R:Value→Option (DataW Unit × List MemPlace)) (M n:Nat) (G:Lit→Option (DataW Unit)):Prop := ∃ D:DataW Unit,w.ownsMap Tryz.prog kt R M n D∧∀ kl,WideAt.IsKeyLit kl→Maps.has D kl=(G kl).isSome∧∀ z,D.atKey kl z=(G kl).getD z
theorem zho (w:World) (kt:TypeId) (R:Value→Option (DataW Unit × List MemPlace)):MpAt (w.alloc (.map #[] 0)) kt R w.heap.size 0 (fun _ =>none) :=
 ⟨.map [],World.ownsMap_made w Tryz.prog kt R,fun kl _ =>⟨by simp [Maps.has],fun z =>rfl⟩⟩
theorem MpAt.kept {w w':World} {kt:TypeId} {R:Value→Option (DataW Unit × List MemPlace)} {M n:Nat} {G:Lit→Option (DataW Unit)} {row:Option Nat} (h:MpAt w kt R M n G) (hg:w.grownBy w' row) (hne:some M≠row):MpAt w' kt R M n G:=by
 obtain ⟨D,h1,h2⟩:=h
 exact ⟨D,h1.kept hg hne,h2⟩
theorem MpAt.below {w w':World} {kt:TypeId} {R:Value→Option (DataW Unit × List MemPlace)} {M n:Nat} {G:Lit→Option (DataW Unit)} (h:MpAt w kt R M n G) (hb:Below w.heap.size w w'):MpAt w' kt R M n G:=h.kept (zfB (row:=none) hb) (by simp)
theorem MpAt.lt {w:World} {kt:TypeId} {R:Value→Option (DataW Unit × List MemPlace)} {M n:Nat} {G:Lit→Option (DataW Unit)} (h:MpAt w kt R M n G):M < w.heap.size:=by
 obtain ⟨D,h1,_⟩:=h
 exact h1.lt
noncomputable def putG (G:Lit→Option (DataW Unit)) (k:Lit) (d:DataW Unit):Lit→Option (DataW Unit):=fun kl =>@ite _ (kl=k) (Classical.propDecidable _) (some d) (G kl)
theorem MpAt.update {w:World} {kt mt et:TypeId} {R:Value→Option (DataW Unit × List MemPlace)} {M n:Nat} {G:Lit→Option (DataW Unit)} (h:MpAt w kt R M n G) (K:Keyed Tryz.prog kt) (ht:Tryz.prog.underlying mt=some (.map kt et)) (hn:n < maxLen) {key val:Value} {k:Lit} {d:DataW Unit} {ps:List MemPlace} (hk:keyOf Tryz.prog kt key=some k) (hv:R val=some (d,ps)) :
  ∃ w',(Instr.mapUpdate mt (.map (some M)) key val).run Tryz.prog w=.ok () w'∧MpAt w' kt R M (n+1) (putG G k d)∧w.grownBy w' (some M):=by
 obtain ⟨D,h1,h2⟩:=h
 obtain ⟨w',hr,h3,h4⟩:=h1.update K ht hn hk hv
 refine ⟨w',hr,⟨_,h3,fun kl hkl =>?_⟩,h4⟩
 unfold putG
 by_cases e:kl=k
 ·subst e
  rw [if_pos rfl]
  exact ⟨has_put_same h1.isMap hkl _,fun z =>atKey_put_same h1.isMap hkl _ _⟩
 ·rw [if_neg e,has_put_other e]
  exact ⟨(h2 kl hkl).1,fun z =>by rw [atKey_put_other e];exact (h2 kl hkl).2 z⟩
theorem MpAt.look {w:World} {kt mt et:TypeId} {R:Value→Option (DataW Unit × List MemPlace)} {M n:Nat} {G:Lit→Option (DataW Unit)} (h:MpAt w kt R M n G) (K:Keyed Tryz.prog kt) (ht:Tryz.prog.underlying mt=some (.map kt et)) {z:Value} (hz:(zeroValue et).run Tryz.prog w=.ok z w) {zd:DataW Unit} {zp:List MemPlace} (hzd:R z=some (zd,zp)) {key:Value} {k:Lit} (hk:keyOf Tryz.prog kt key=some k) (hkl:WideAt.IsKeyLit k) :
  ∃ v ps,(Instr.lookup mt (.map (some M)) key true).run Tryz.prog w=.ok (.tuple #[v,.bool (G k).isSome]) w∧R v=some ((G k).getD zd,ps):=by
 obtain ⟨D,h1,h2⟩:=h
 obtain ⟨v,ps,hr,hv⟩:=h1.look_ok K ht hz hzd hk
 rw [(h2 k hkl).1] at hr
 rw [(h2 k hkl).2] at hv
 exact ⟨v,ps,hr,hv⟩
def hdr (g n c:Nat):DataW Unit := .agg [.lit (.int .i64 (g:Int)),.lit (.int .i64 (n:Int)),.lit (.int .i64 (c:Int))]
def zd5:Value→Option (DataW Unit × List MemPlace)
 | .slice (some ⟨g,0,none⟩) n c =>some (hdr g n c,[])
 | .slice none 0 0 =>some (.agg [],[])
 | _ =>none
theorem zkc (g n c:Nat):zd5 (.slice (some ⟨g,0,none⟩) n c)=some (hdr g n c,[]):=rfl
theorem zi0:zd5 (.slice none 0 0)=some (.agg [],[]):=rfl
def RnG (w:World) (g:Nat) (l:List Int):Prop:=g < w.heap.size∧∀ (j:Nat) (y:Int),l[j]?=some y→w.cell? ⟨g,j,none⟩=some (.int .i32 y)
theorem RnG.below {w w':World} {g:Nat} {l:List Int} (h:RnG w g l) (hb:Below w.heap.size w w'):RnG w' g l:=⟨Nat.lt_of_lt_of_le h.1 hb.size,fun j y hy =>(hb.cell (p:=⟨g,j,none⟩) h.1).trans (h.2 j y hy)⟩
theorem RnG.kept {w w':World} {g M:Nat} {l:List Int} (h:RnG w g l) (hg:w.grownBy w' (some M)) (hne:g≠M):RnG w' g l:=⟨Nat.lt_of_lt_of_le h.1 hg.size,fun j y hy =>by
 have e:=hg.block g h.1 (fun e =>hne (Option.some.inj e))
 have:=h.2 j y hy
 unfold World.cell? at this ⊢
 rw [e]
 exact this⟩
def FoG (w:World) (M:Nat) (zs:List (Int × ByteArray)) (G:Lit→Option (DataW Unit)):Prop := ∀ r,R32 r→((∀ x ∈ zs,x.1≠r)∧G (.int .i32 r)=none)∨∃ x ∈ zs,x.1=r∧∃ g c,G (.int .i32 r)=some (hdr g (zai x.2).length c)∧g≠M∧RnG w g (zai x.2)
theorem FoG.below {w w':World} {M:Nat} {zs:List (Int × ByteArray)} {G:Lit→Option (DataW Unit)} (h:FoG w M zs G) (hb:Below w.heap.size w w'):FoG w' M zs G:=fun r hr =>by
 rcases h r hr with h1 | ⟨x,hx,e,g,c,h2,h3,h4⟩
 ·exact .inl h1
 ·exact .inr ⟨x,hx,e,g,c,h2,h3,h4.below hb⟩
theorem FoG.put {w w':World} {M g c:Nat} {zs:List (Int × ByteArray)} {G:Lit→Option (DataW Unit)} {x:Int × ByteArray} (h:FoG w M zs G) (hg:w.grownBy w' (some M)) (hgM:g≠M) (hr:RnG w g (zai x.2)):FoG w' M (zs++[x]) (putG G (.int .i32 x.1) (hdr g (zai x.2).length c)):=fun r h32 =>by
 unfold putG
 by_cases e:x.1=r
 ·subst e
  exact .inr ⟨x,by simp,rfl,g,c,if_pos rfl,hgM,hr.kept hg hgM⟩
 ·rw [if_neg (fun q =>e (by injection q with _ q;exact q.symm))]
  rcases h r h32 with ⟨h1,h2⟩ | ⟨y,hy,e2,g2,c2,h2,h3,h4⟩
  ·exact .inl ⟨fun y hy =>by rcases List.mem_append.1 hy with q | q;exact h1 y q;(obtain rfl:y=x:=by simpa using q);exact e,h2⟩
  ·exact .inr ⟨y,List.mem_append.2 (.inl hy),e2,g2,c2,h2,h3,h4.kept hg h3⟩
structure FoAt (w:World) (M n:Nat) (zs:List (Int × ByteArray)):Prop where
 mp:∃ G,MpAt w 21 zd5 M n G∧FoG w M zs G
theorem FoAt.below {w w':World} {M n:Nat} {zs:List (Int × ByteArray)} (h:FoAt w M n zs) (hb:Below w.heap.size w w'):FoAt w' M n zs:=by
 obtain ⟨G,h1,h2⟩:=h.mp
 exact ⟨G,h1.below hb,h2.below hb⟩
theorem zhO (s:ByteArray) (hs:s.size≤1048576) (w:World):Calls Tryz.prog 134 #[.string s] w fun e w' => ∃ g c,e=.returned (.slice (some ⟨g,0,none⟩) (zai s).length c)∧w.heap.size≤g∧RnG w' g (zai s)∧Below w.heap.size w w' :=
 (zkN s (by omega) w).mono (fun e w' ⟨cap,he,_,cs,hw⟩ =>by
  subst hw
  refine ⟨w.heap.size,cap,he,Nat.le_refl _,⟨by rw [World.size_alloc];exact Nat.lt_succ_self _,fun j y hy =>?_⟩, ?_⟩
  ·have hB:=Blk.new w.drew (((zai s).map (Value.int .i32)).toArray++cs) 21
   have:=hB.cell j
   rw [show w.drew.heap.size=w.heap.size from rfl] at this
   rw [this,Array.getElem?_append_left (by have:=(List.getElem?_eq_some_iff.1 hy).1;simpa using this)]
   simp [hy]
  ·exact ((show Below w.heap.size w w.drew from ⟨rfl,rfl,rfl,Nat.le_refl _,fun _ _ =>rfl⟩)).alloc (Nat.le_refl _) _)
def bfD (M:Nat) (B:Nat) (lo:Nat) (x1:Int) (x2:ByteArray):Nat→Value→World→Prop
 | 0,v,w =>v=.map (some M)
 | 1,v,w =>v=.pointer (some ⟨B,0,none⟩)
 | 2,v,w =>v=.int .i32 x1
 | 3,v,w =>v=.pointer (some ⟨B,1,none⟩)
 | 4,v,w =>v=.string x2
 | 5,v,w => ∃ g2 c2,v=.slice (some ⟨g2,0,none⟩) (zai x2).length c2∧lo≤g2∧RnG w g2 (zai x2)
 | _,v,w =>True
def zqQ (j:Nat):Bool:=false
theorem zg6 {M:Nat} {B:Nat} {lo:Nat} {x1:Int} {x2:ByteArray} {w w':World} (hb:Below w.heap.size w w'):∀ (j:Nat) (v:Value),bfD M B lo x1 x2 j v w→bfD M B lo x1 x2 j v w'
 | 0,v,h =>h
 | 1,v,h =>h
 | 2,v,h =>h
 | 3,v,h =>h
 | 4,v,h =>h
 | 5,v,h =>let ⟨g2,c2,e,h1,h2⟩:=h; ⟨g2,c2,e,h1,h2.below hb⟩
 | _+6,v,h =>h
theorem zg7 {M:Nat} {B:Nat} {lo:Nat} {x1:Int} {x2:ByteArray} {w:World} (j:Nat) (v:Value) (hm:zqQ j=true) (h:bfD M B lo x1 x2 j v w):∀ b,v.ownBlock=some b→b < w.heap.size:=by
 cases hm
set_option maxRecDepth 100000 in
set_option maxHeartbeats 4000000 in
theorem zg3 (zs:List (Int × ByteArray)) (hn:zs.length≤1000000) (hz:∀ x ∈ zs,x.2.size≤1048576∧R32 x.1) (a:Option Addr) (c:Nat) (W:World) (hr:RowC W W.heap.size a (zbH zs)) :
  Calls Tryz.prog 76 #[.slice a zs.length c] W fun e w' => ∃ M n,e=.returned (.map (some M))∧W.heap.size≤M∧n≤zs.length∧FoAt w' M n zs∧Below W.heap.size W w':=by
 have hmx:Tryz.prog.follows .mixedOrders=true:=by kernel_rfl
 have hmm:=@run_makeMap Tryz.prog
 have h0:=zho W 21 zd5
 have hB0:Below W.heap.size W (W.alloc (.map #[] 0)):=(Below.refl _ W).alloc (Nat.le_refl _) _
 have H0:Hz (FoAt (W.alloc (.map #[] 0)) W.heap.size 0 (zs.take 0)∧Below W.heap.size W (W.alloc (.map #[] 0))):=kz ⟨⟨_,h0,fun r _ =>.inl ⟨fun x hx =>by simp at hx,rfl⟩⟩,hB0⟩
 have HA:=kz hr
 have HZ:=kz hz
 clear hr hz h0 hB0
 go_enter Tryz.func76,Tryz.ntmps76
 go_wp2_with fail
 generalize W.alloc (.map #[] 0)=w1 at *
 obtain ⟨M,hM⟩:∃ M,M=W.heap.size:=⟨_,rfl⟩
 have H0:Hz (FoAt w1 M 0 (zs.take 0)∧Below W.heap.size W w1):=kz ⟨by rw [hM];exact (oz H0).1,(oz H0).2⟩
 rw [← hM]
 have HM:=kz hM
 clear hM
 go_loopw [5,9] (fun _ s9 wr => ∃ k:Nat,k≤zs.length∧s9=.int .i64 k∧Hz (FoAt wr M k (zs.take k)∧Below W.heap.size W wr)) (fun _ s9 _ =>zs.length - (intOf s9).toNat)
 case atStart =>exact ⟨0,Nat.zero_le _,rfl,H0⟩
 case round =>
  obtain ⟨k,hk,rfl,HS⟩:=hrel
  clear H0
  by_cases hkn:k < zs.length
  ·obtain ⟨x,hx⟩:∃ x,zs[k]?=some x:=⟨_,List.getElem?_eq_getElem hkn⟩
   obtain ⟨g,q,rfl,hg,hc⟩:=oz HA (by rw [zea];omega)
   have e0:=hc _ _ (zdM zs k x hx).1
   have e1:=hc _ _ (zdM zs k x hx).2
   have c0:wr.cell? ⟨g,q+k*2,none⟩=some (.int .i32 x.1):=((oz HS).2.cell (p:=⟨g,q+k*2,none⟩) hg).trans e0
   have c1:wr.cell? ⟨g,q+k*2+1,none⟩=some (.string x.2):=((oz HS).2.cell (p:=⟨g,q+k*2+1,none⟩) hg).trans e1
   have hk1:(k:Int) < (zs.length:Int):=by omega
   have hk2:((k:Nat):Int).toNat=k:=by omega
   have HX:=kz (And.intro hx (oz HZ x (List.mem_of_getElem? hx)))
   obtain ⟨x1,x2⟩:=x
   dsimp only at c0 c1 HX
   have hbd:Below wr.heap.size wr (wr.alloc (.cells #[.int .i32 x1,.string x2] 119)).drew:=((Below.refl _ wr).alloc (Nat.le_refl _) _).trans ⟨rfl,rfl,rfl,Nat.le_refl _,fun _ _ =>rfl⟩
   have bX:Blk (wr.alloc (.cells #[.int .i32 x1,.string x2] 119)).drew wr.heap.size #[.int .i32 x1,.string x2] 119:=Blk.new wr #[.int .i32 x1,.string x2] 119
   have HF:Hz (∀ w2,Below (wr.alloc (.cells #[.int .i32 x1,.string x2] 119)).drew.heap.size (wr.alloc (.cells #[.int .i32 x1,.string x2] 119)).drew w2→Blk w2 wr.heap.size #[.int .i32 x1,.string x2] 119∧FoAt w2 M k (zs.take k)∧Below W.heap.size W w2):=kz (fun w2 h2 =>⟨bX.below h2 bX.lt,((oz HS).1.below hbd).below h2,((oz HS).2.trans (hbd.mono (oz HS).2.size)).trans (h2.mono (Nat.le_trans (oz HS).2.size hbd.size))⟩)
   have HMl:Hz (M < wr.heap.size∧W.heap.size≤M):=kz ⟨by obtain ⟨G,h1,_⟩:=(oz HS).1.mp;exact h1.lt,by have:=oz HM;omega⟩
   clear hx hc e0 e1 hbd bX HS hg
   go_wp2_with fail
   have HZS:Hz ((wr.alloc (.cells #[.int .i32 x1,.string x2] 119)).heap.size=wr.heap.size+1):=kz (by simp)
   generalize wr.alloc (.cells #[.int .i32 x1,.string x2] 119)=wz at *
   refine zaB hmx 6 (by decide) (by kernel_rfl) (by kernel_rfl) (fun l a w => ∃ U:Nat→Value,a = { tmps:=#[.slice (some ⟨g,q,none⟩) zs.length c,undef,.map none,.map (some M),undef,.pointer (some ⟨wr.heap.size,0,none⟩),.map (some M),.slice (some ⟨g,q,none⟩) zs.length c,.int .i64 (zs.length:Nat),.int .i64 (k:Nat),.bool true,.pointer (some ⟨g,q+k*2,none⟩),.agg #[.int .i32 x1,.string x2],U 0,U 1,U 2,U 3,U 4,U 5,u19,undef],defers := [] }∧RgJ (wz.drew) (wz.drew.heap.size) (bfD M wr.heap.size wz.drew.heap.size x1 x2) zqQ l U w) ⟨fun x =>match x with | 0 =>u13 | 1 =>u14 | 2 =>u15 | 3 =>u16 | 4 =>u17 | _ =>u18,rfl,RgJ.start _ _ (Nat.le_refl _)⟩ ?_ ?_
   ·rintro l a w i ⟨U,rfl,hJ⟩ hl hi hif
    have h0:=(mem_ready.1 hi).1
    have hlt:=zeN hl h0
    have HJ:=kz hJ
    clear hJ hl
    replace hlt:i < 7:=hlt
    obtain rfl | rfl | rfl | rfl | rfl | rfl:i=0∨i=1∨i=2∨i=3∨i=4∨i=5:=by omega
    ·refine wpOp_step rfl (fun K hK =>?_)
     clear hlt hif
     go_simp
     exact hK _ _ ⟨zaa U 0 _,rfl,(oz HJ).put 0 _ h0 (Below.refl _ _) (zg6 (Below.refl _ _)) rfl zg7 (fun h =>absurd h (by decide))⟩
    ·refine wpOp_step rfl (fun K hK =>?_)
     clear hlt hif
     go_simp
     exact hK _ _ ⟨zaa U 1 _,rfl,(oz HJ).put 1 _ h0 (Below.refl _ _) (zg6 (Below.refl _ _)) rfl zg7 (fun h =>absurd h (by decide))⟩
    ·refine wpOp_step rfl (fun K hK =>?_)
     clear hlt hif
     have d1:U 1=.pointer (some ⟨wr.heap.size,0,none⟩):=(oz HJ).val 1 (zab hi 1 (by kernel_rfl))
     have q0:=(oz HF w (oz HJ).bel).1.cell 0
     go_simp
     exact hK _ _ ⟨zaa U 2 _,(by rw [zac d1];rfl),(oz HJ).put 2 _ h0 (Below.refl _ _) (zg6 (Below.refl _ _)) rfl zg7 (fun h =>absurd h (by decide))⟩
    ·refine wpOp_step rfl (fun K hK =>?_)
     clear hlt hif
     go_simp
     exact hK _ _ ⟨zaa U 3 _,rfl,(oz HJ).put 3 _ h0 (Below.refl _ _) (zg6 (Below.refl _ _)) rfl zg7 (fun h =>absurd h (by decide))⟩
    ·refine wpOp_step rfl (fun K hK =>?_)
     clear hlt hif
     have d3:U 3=.pointer (some ⟨wr.heap.size,1,none⟩):=(oz HJ).val 3 (zab hi 3 (by kernel_rfl))
     have q1:=(oz HF w (oz HJ).bel).1.cell 1
     go_simp
     exact hK _ _ ⟨zaa U 4 _,(by rw [zac d3];rfl),(oz HJ).put 4 _ h0 (Below.refl _ _) (zg6 (Below.refl _ _)) rfl zg7 (fun h =>absurd h (by decide))⟩
    ·refine wpOp_step rfl (fun K hK =>?_)
     clear hlt hif
     have d4:U 4=.string x2:=(oz HJ).val 4 (zab hi 4 (by kernel_rfl))
     go_simp
     refine (zhO x2 (oz HX).2.1 _).mono ?_
     rintro e w' ⟨g2,c2,rfl,hg2,hrn,hb⟩
     exact hK _ _ ⟨zaa U 5 _,(by rw [zac d4];rfl),(oz HJ).put 5 _ h0 hb (zg6 hb) ⟨g2,c2,rfl,Nat.le_trans (oz HJ).sz hg2,hrn⟩ zg7 (fun h =>absurd h (by decide))⟩
   ·rintro l a w ⟨U,rfl,hJ⟩ hall
    have d0:U 0=.map (some M):=hJ.val 0 (hall 0 (by decide) (by decide))
    have d2:U 2=.int .i32 x1:=hJ.val 2 (hall 2 (by decide) (by decide))
    obtain ⟨g2,c2,d5,hl5,hr5⟩:=hJ.val 5 (hall 5 (by decide) (by decide))
    obtain ⟨hbx,hfo,hbl⟩:=oz HF w hJ.bel
    obtain ⟨G,hmp,hfg⟩:=hfo.mp
    have hgM:g2≠M:=fun e =>by have:=(oz HMl).1;rw [show (wz.drew).heap.size=wz.heap.size from rfl,oz HZS] at hl5;omega
    obtain ⟨w5,hu,hm5,hg5⟩:=hmp.update (int_keyed Tryz.underlying21) Tryz.underlying105 (by unfold maxLen;omega) (keyOf_int_mk Tryz.underlying21 (zhI (oz HX).2.2)) (zkc g2 (zai x2).length c2)
    have HN:Hz (FoAt w5 M (k+1) (zs.take (k+1))∧Below W.heap.size W w5):=kz ⟨⟨_,hm5,by rw [List.take_add_one,(oz HX).1];exact hfg.put hg5 hgM hr5⟩,hbl.grown hg5 hbl.size (fun b hb =>by have:=Option.some.inj hb;have:=(oz HMl).2;omega)⟩
    clear hJ hall hbx hfo hbl hmp hfg hm5 hg5 hl5 hr5
    refine wpOp_step rfl (fun K hK =>?_)
    go_simp
    refine hK _ _ ?_
    clear hK hu
    go_wp2_with fail
    exact ⟨⟨k+1,by omega,by go_num,HN⟩,by simp [intOf];omega⟩
  ·have hk1:¬ (k:Int) < (zs.length:Int):=by omega
   go_wp2_with fail
   go_ret
   refine ⟨M,rfl,by have:=oz HM;omega,k,hk, ?_,(oz HS).2⟩
   have:=(oz HS).1
   rwa [List.take_of_length_le (by omega)] at this
end Go.Proofs.YtmemedpoaocdkaaGreat
namespace Go.Proofs.YtmemedpoaocdkaaGreat
open Go.RowKit Go.Shelf
set_option linter.unusedVariables false
structure Lst (W:World) (lo:Nat) (vs:List Value) (ls:List Ln):Prop where
 ll:ls.length=vs.length
 own:∀ (i:Nat) (v:Value) (l:Ln),vs[i]?=some v→ls[i]?=some l→W.ownsRow lo l.E l.sz v l.n l.xs
 apart:∀ (i j:Nat) (v u:Value),i≠j→vs[i]?=some v→vs[j]?=some u→v.ownBlock=none∨v.ownBlock≠u.ownBlock
theorem zqe (a:Option Nat):a=none∨a≠none:=by cases a with | none =>exact .inl rfl | some b =>exact .inr (by simp)
theorem zpr {a b:Option Nat} (h:a=none∨a≠b):b=none∨b≠a:=by
 cases b with
 | none =>exact .inl rfl
 | some y => rcases h with e | e
             · rw [e];exact .inr (by simp)
             · exact .inr (Ne.symm e)
theorem Lst.kept {W W':World} {lo:Nat} {vs:List Value} {ls:List Ln} {row:Option Nat} (h:Lst W lo vs ls) (hg:W.grownBy W' row) (hr:∀ b,row=some b→b < lo):Lst W' lo vs ls :=
 ⟨h.ll,fun i v l hv hl =>zjo (h.own i v l hv hl) hg (by
  cases hb:v.ownBlock with
  | none =>exact .inl rfl
  | some b =>
   refine .inr fun e =>?_
   have:=hr b e.symm
   have:=zhj (h.own i v l hv hl) b hb
   omega),h.apart⟩
def zl1 (T:TV) (us:List Value):List Ln :=
 (Ln.mk 109 2 T.sc.length (zcb T.sc us)::T.sc.map (fun s =>Ln.mk 113 2 s.2.length (za6 s.2)))++[Ln.mk 113 2 T.co.length (za6 T.co)]++[Ln.mk 115 2 T.ma.length (zdQ T.ma)]++[Ln.mk 117 3 T.pr.length (zdv T.pr)]++[Ln.mk 119 2 T.fo.length (zbH T.fo)]++[Ln.mk 119 2 T.lk.length (zbH T.lk)]++[Ln.mk 113 2 T.dr.length (za6 T.dr)]++[Ln.mk 113 2 T.al.length (za6 T.al)]
def TabAt (w:World) (lo:Nat) (T:TV) (v:Value):Prop := ∃ v0 us v1 v2 v3 v4 v5 v6 v7,v=.agg #[v0,v1,v2,v3,v4,v5,v6,v7]∧us.length=T.sc.length∧Lst w lo ((v0::us)++[v1]++[v2]++[v3]++[v4]++[v5]++[v6]++[v7]) (zl1 T us)
theorem Lst.lower {W:World} {lo lo':Nat} {vs:List Value} {ls:List Ln} (h:Lst W lo vs ls) (hl:lo'≤lo):Lst W lo' vs ls:=⟨h.ll,fun i v l hv hm =>za8 (h.own i v l hv hm) hl,h.apart⟩
theorem zq5 {W:World} {N:Nat} {a0 a1 a2 a3 a4 a5 a6 a7:Value} {ty:TypeId} (h:Blk W N #[a0,a1,a2,a3,a4,a5,a6,a7] ty) (v0 v1 v2 v3 v4 v5 v6 v7:Value):Blk ((((((((W.setCell ⟨N,0,none⟩ v0).setCell ⟨N,1,none⟩ v1).setCell ⟨N,2,none⟩ v2).setCell ⟨N,3,none⟩ v3).setCell ⟨N,4,none⟩ v4).setCell ⟨N,5,none⟩ v5).setCell ⟨N,6,none⟩ v6).setCell ⟨N,7,none⟩ v7) N #[v0,v1,v2,v3,v4,v5,v6,v7] ty:=zq6 h v0 v1 v2 v3 v4 v5 v6 v7
structure OwF (w:World) (P R:Nat) (T:TV) (a0 a1 a2 a3 a4 a5 a6 a7:Option Addr) (c0 c1 c2 c3 c4 c5 c6 c7:Nat) (us:List Value):Prop where
 bx:Blk w P #[.slice a0 T.sc.length c0,.slice a1 T.co.length c1,.slice a2 T.ma.length c2,.slice a3 T.pr.length c3,.slice a4 T.fo.length c4,.slice a5 T.lk.length c5,.slice a6 T.dr.length c6,.slice a7 T.al.length c7] 28
 rs:Blk w R #[.slice none 0 0,.slice none 0 0,.slice none 0 0,.slice none 0 0,.slice none 0 0,.slice none 0 0,.slice none 0 0,.slice none 0 0] 28
 ti:TabIn w T a0 a1 a2 a3 a4 a5 a6 a7 us
theorem OwF.below {w w':World} {P R:Nat} {T:TV} {a0 a1 a2 a3 a4 a5 a6 a7:Option Addr} {c0 c1 c2 c3 c4 c5 c6 c7:Nat} {us:List Value} (h:OwF w P R T a0 a1 a2 a3 a4 a5 a6 a7 c0 c1 c2 c3 c4 c5 c6 c7 us) (hb:Below w.heap.size w w'):OwF w' P R T a0 a1 a2 a3 a4 a5 a6 a7 c0 c1 c2 c3 c4 c5 c6 c7 us :=
 ⟨h.bx.below hb h.bx.lt,h.rs.below hb h.rs.lt,h.ti.lower hb⟩
def owL (T:TV) (us:List Value):List Ln := [Ln.mk 109 2 T.sc.length (zbC T.sc us),Ln.mk 113 2 T.co.length (zaX T.co),Ln.mk 115 2 T.ma.length (zdP T.ma),Ln.mk 117 3 T.pr.length (zdc T.pr),Ln.mk 119 2 T.fo.length (zbp T.fo),Ln.mk 119 2 T.lk.length (zbp T.lk),Ln.mk 113 2 T.dr.length (zaX T.dr),Ln.mk 113 2 T.al.length (zaX T.al)]
def owD (P lo:Nat) (T:TV) (a0 a1 a2 a3 a4 a5 a6 a7:Option Addr) (c0 c1 c2 c3 c4 c5 c6 c7:Nat) (us:List Value):Nat→Value→World→Prop
 | 0,v,w =>v=.pointer (some ⟨P,0,none⟩)
 | 1,v,w =>v=.slice a0 T.sc.length c0
 | 2,v,w =>w.ownsRow lo 109 2 v T.sc.length (zbC T.sc us)
 | 3,v,w =>v=.pointer (some ⟨P,1,none⟩)
 | 4,v,w =>v=.slice a1 T.co.length c1
 | 5,v,w =>w.ownsRow lo 113 2 v T.co.length (zaX T.co)
 | 6,v,w =>v=.pointer (some ⟨P,2,none⟩)
 | 7,v,w =>v=.slice a2 T.ma.length c2
 | 8,v,w =>w.ownsRow lo 115 2 v T.ma.length (zdP T.ma)
 | 9,v,w =>v=.pointer (some ⟨P,3,none⟩)
 | 10,v,w =>v=.slice a3 T.pr.length c3
 | 11,v,w =>w.ownsRow lo 117 3 v T.pr.length (zdc T.pr)
 | 12,v,w =>v=.pointer (some ⟨P,4,none⟩)
 | 13,v,w =>v=.slice a4 T.fo.length c4
 | 14,v,w =>w.ownsRow lo 119 2 v T.fo.length (zbp T.fo)
 | 15,v,w =>v=.pointer (some ⟨P,5,none⟩)
 | 16,v,w =>v=.slice a5 T.lk.length c5
 | 17,v,w =>w.ownsRow lo 119 2 v T.lk.length (zbp T.lk)
 | 18,v,w =>v=.pointer (some ⟨P,6,none⟩)
 | 19,v,w =>v=.slice a6 T.dr.length c6
 | 20,v,w =>w.ownsRow lo 113 2 v T.dr.length (zaX T.dr)
 | 21,v,w =>v=.pointer (some ⟨P,7,none⟩)
 | 22,v,w =>v=.slice a7 T.al.length c7
 | 23,v,w =>w.ownsRow lo 113 2 v T.al.length (zaX T.al)
 | 24,v,w => ∃ x0 y0 x1 y1 x2 y2 x3 y3 x4 y4 x5 y5 x6 y6 x7 y7,v=.agg #[.slice x0 T.sc.length y0,.slice x1 T.co.length y1,.slice x2 T.ma.length y2,.slice x3 T.pr.length y3,.slice x4 T.fo.length y4,.slice x5 T.lk.length y5,.slice x6 T.dr.length y6,.slice x7 T.al.length y7]∧Lst w lo [.slice x0 T.sc.length y0,.slice x1 T.co.length y1,.slice x2 T.ma.length y2,.slice x3 T.pr.length y3,.slice x4 T.fo.length y4,.slice x5 T.lk.length y5,.slice x6 T.dr.length y6,.slice x7 T.al.length y7] (owL T us)
 | _,v,w =>True
structure OuSt (w9 wr:World) (lo g cap:Nat) (sc:List (ByteArray × List (Int × Int))) (us:List Value) (i:Nat) (cu:List Value):Prop where
 row:wr.ownsRow lo 109 2 (.slice (some ⟨g,0,none⟩) sc.length cap) sc.length (zbC sc cu)
 len:cu.length=sc.length
 old:∀ j,i≤j→cu[j]?=us[j]?
 new:∀ (j:Nat) (x:Value) (s:ByteArray × List (Int × Int)),j < i→cu[j]?=some x→sc[j]?=some s→wr.ownsRow w9.heap.size 113 2 x s.2.length (zaX s.2)
 apart:∀ (j k:Nat) (x y:Value),j < i→k < i→j≠k→cu[j]?=some x→cu[k]?=some y→x.ownBlock=none∨x.ownBlock≠y.ownBlock
 gr:w9.grownBy wr (some g)
theorem OuSt.next {w9 wr w1:World} {lo g cap:Nat} {sc:List (ByteArray × List (Int × Int))} {us:List Value} {i:Nat} {cu:List Value} {v':Value} {s:ByteArray × List (Int × Int)} (h:OuSt w9 wr lo g cap sc us i cu) (hs:sc[i]?=some s) (hn:w1.ownsRow wr.heap.size 113 2 v' s.2.length (zaX s.2)) (hb:Below wr.heap.size wr w1) :
 OuSt w9 (w1.setCell ⟨g,i*2+1,none⟩ v') lo g cap sc us (i+1) (cu.set i v'):=by
 rw [show i*2+1=2*i+1 by omega]
 have hi:=(List.getElem?_eq_some_iff.1 hs).1
 have hlen:=h.len
 have hsz:=h.gr.size
 have hgl:g < wr.heap.size:=zb5 h.row g rfl
 have hg1:wr.grownBy w1 none:=zex hb
 have hq:=zaV w1 g (2*i+1) v'
 have hvg:v'.ownBlock=none∨v'.ownBlock≠some g := .inr fun e =>by have:=zbI hn g e;omega
 refine ⟨?_,by rw [List.length_set];exact hlen,fun j hj =>by rw [List.getElem?_set_ne (by omega)];exact h.old j (by omega), ?_, ?_, ?_⟩
 ·have r1:=zm0 (zdb h.row hg1 (.inr (by simp [Value.ownBlock]))) (2*i+1) (by omega) v'
  rw [znD _ _ hlen] at r1
  exact r1
 ·intro j x t hj hx ht
  by_cases e:j=i
  ·subst e
   rw [List.getElem?_set_self (by omega)] at hx
   obtain rfl:=Option.some.inj hx
   obtain rfl:=Option.some.inj (hs.symm.trans ht)
   exact zdb (zaE hn hsz) hq hvg
  ·rw [List.getElem?_set_ne (Ne.symm e)] at hx
   have o1:=h.new j x t (by omega) hx ht
   refine zdb (zdb o1 hg1 (zk1 _)) hq ?_
   exact zkW (zdb o1 hg1 (zk1 _)) (zdb h.row hg1 (.inr (by simp [Value.ownBlock]))) (by decide)
 ·intro j k x y hj hk hjk hx hy
  by_cases e:j=i
  ·subst e
   rw [List.getElem?_set_self (by omega)] at hx
   rw [List.getElem?_set_ne hjk] at hy
   obtain rfl:=Option.some.inj hx
   obtain ⟨t,ht⟩:∃ t,sc[k]?=some t:=⟨_,List.getElem?_eq_getElem (by omega)⟩
   cases hvb:v'.ownBlock with
   | none =>exact .inl rfl
   | some b =>
    refine .inr fun e2 =>?_
    have h3:=zbI hn b hvb
    have h4:=zb5 (h.new k y t (by omega) hy ht) b e2.symm
    omega
  ·rw [List.getElem?_set_ne (Ne.symm e)] at hx
   by_cases e3:k=i
   ·subst e3
    rw [List.getElem?_set_self (by omega)] at hy
    obtain rfl:=Option.some.inj hy
    obtain ⟨t,ht⟩:∃ t,sc[j]?=some t:=⟨_,List.getElem?_eq_getElem (by omega)⟩
    cases hxb:x.ownBlock with
    | none =>exact .inl rfl
    | some b =>
     refine .inr fun e2 =>?_
     have h3:=zbI hn b e2.symm
     have h4:=zb5 (h.new j x t (by omega) hx ht) b hxb
     omega
   ·rw [List.getElem?_set_ne (Ne.symm e3)] at hy
    exact h.apart j k x y (by omega) (by omega) hjk hx hy
 ·exact (h.gr.trans (zex hb)).trans hq
theorem Lst.append {W:World} {lo:Nat} {vs us:List Value} {ls ms:List Ln} (h:Lst W lo vs ls) (k:Lst W lo us ms) (hx:∀ (i j:Nat) (v u:Value),vs[i]?=some v→us[j]?=some u→v.ownBlock=none∨v.ownBlock≠u.ownBlock):Lst W lo (vs++us) (ls++ms):=by
 have h1:=h.ll
 have h2:=k.ll
 have key:∀ (i:Nat) (y:Value),(vs++us)[i]?=some y→(i < vs.length∧vs[i]?=some y)∨(vs.length≤i∧us[i - vs.length]?=some y):=by
 intro i y hy
 by_cases hi:i < vs.length
 ·rw [List.getElem?_append_left hi] at hy;exact .inl ⟨hi,hy⟩
 ·rw [List.getElem?_append_right (by omega)] at hy;exact .inr ⟨by omega,hy⟩
 refine ⟨by rw [List.length_append,List.length_append,h1,h2],fun i v l hv hl =>?_,fun i j v u hij hv hu =>?_⟩
 ·rcases key i v hv with ⟨h3,h4⟩ | ⟨h3,h4⟩
  ·rw [List.getElem?_append_left (by omega)] at hl
   exact h.own i v l h4 hl
  ·rw [List.getElem?_append_right (by omega),h1] at hl
   exact k.own _ v l h4 hl
 ·rcases key i v hv with ⟨h3,h4⟩ | ⟨h3,h4⟩ <;> rcases key j u hu with ⟨h5,h6⟩ | ⟨h5,h6⟩
  ·exact h.apart i j v u hij h4 h6
  ·exact hx _ _ v u h4 h6
  ·exact zgp (hx _ _ u v h6 h4)
  ·exact k.apart _ _ v u (by omega) h4 h6
theorem Lst.tail {W:World} {lo:Nat} {v:Value} {vs:List Value} {l:Ln} {ls:List Ln} (h:Lst W lo (v::vs) (l::ls)):Lst W lo vs ls :=
 ⟨by have:=h.ll;simpa using this,fun i x m hx hm =>h.own (i+1) x m (by rw [List.getElem?_cons_succ];exact hx) (by rw [List.getElem?_cons_succ];exact hm),fun i j x y hij hx hy =>h.apart (i+1) (j+1) x y (by omega) (by rw [List.getElem?_cons_succ];exact hx) (by rw [List.getElem?_cons_succ];exact hy)⟩
theorem Lst.keptA {W W':World} {lo:Nat} {vs:List Value} {ls:List Ln} {row:Option Nat} (h:Lst W lo vs ls) (hg:W.grownBy W' row) (hne:∀ (i:Nat) (v:Value),vs[i]?=some v→v.ownBlock=none∨v.ownBlock≠row):Lst W' lo vs ls :=
 ⟨h.ll,fun i v l hv hl =>zdb (h.own i v l hv hl) hg (hne i v hv),h.apart⟩
structure OwN (W w9:World) (T:TV) (us:List Value) (x0 x1 x2 x3 x4 x5 x6 x7:Option Addr) (y0 y1 y2 y3 y4 y5 y6 y7:Nat):Prop where
 bx:Blk w9 W.heap.size #[.slice x0 T.sc.length y0,.slice x1 T.co.length y1,.slice x2 T.ma.length y2,.slice x3 T.pr.length y3,.slice x4 T.fo.length y4,.slice x5 T.lk.length y5,.slice x6 T.dr.length y6,.slice x7 T.al.length y7] 28
 ls:Lst w9 (W.heap.size+2) [.slice x0 T.sc.length y0,.slice x1 T.co.length y1,.slice x2 T.ma.length y2,.slice x3 T.pr.length y3,.slice x4 T.fo.length y4,.slice x5 T.lk.length y5,.slice x6 T.dr.length y6,.slice x7 T.al.length y7] (owL T us)
 rs:Blk w9 (W.heap.size+1) #[.slice none 0 0,.slice none 0 0,.slice none 0 0,.slice none 0 0,.slice none 0 0,.slice none 0 0,.slice none 0 0,.slice none 0 0] 28
 bel:Below W.heap.size W w9
 sz:W.heap.size+2≤w9.heap.size
def osD (P:Nat) (B:Nat) (lo:Nat) (g:Nat) (n:Nat) (y:Nat) (k:Nat) (s1:ByteArray) (s2:List (Int × Int)) (b:Option Addr) (d:Nat):Nat→Value→World→Prop
 | 0,v,w =>v=.pointer (some ⟨P,0,none⟩)
 | 1,v,w =>v=.slice (some ⟨g,0,none⟩) n y
 | 2,v,w =>v=.int .i64 (k:Nat)
 | 3,v,w =>v=.pointer (some ⟨B,0,none⟩)
 | 4,v,w =>v=.string s1
 | 5,v,w =>v=.string s1
 | 6,v,w =>v=.pointer (some ⟨B,1,none⟩)
 | 7,v,w =>v=.slice b s2.length d
 | 8,v,w => ∃ p q,v=.slice p s2.length q∧w.ownsRow lo 113 2 (.slice p s2.length q) s2.length (zaX s2)
 | 9,v,w => ∃ p q,v=.agg #[.string s1,.slice p s2.length q]∧w.ownsRow lo 113 2 (.slice p s2.length q) s2.length (zaX s2)
 | 10,v,w =>v=.pointer (some ⟨g,k*2,none⟩)
 | _,v,w =>True
end Go.Proofs.YtmemedpoaocdkaaGreat
namespace Go.Proofs.YtmemedpoaocdkaaGreat
open Go.RowKit Go.Shelf Go.Maps
set_option linter.unusedVariables false
structure RgK (W0:World) (lo:Nat) (D:Nat→Value→World→Prop) (ob:Value→Option Nat) (m:Nat→Bool) (l:Array Bool) (U:Nat→Value) (w:World):Prop where
 bel:Below lo W0 w
 sz:lo≤w.heap.size
 val:∀ i,l.getD i false=true→D i (U i) w
 ap:∀ i j,m i=true→m j=true→i≠j→l.getD i false=true→l.getD j false=true→ob (U i)=none∨ob (U i)≠ob (U j)
theorem RgK.start {W0:World} {lo:Nat} {D:Nat→Value→World→Prop} {ob:Value→Option Nat} {m:Nat→Bool} (U:Nat→Value) (n:Nat) (h:lo≤W0.heap.size):RgK W0 lo D ob m (Array.replicate n false) U W0:=by
 have h0:∀ i,(Array.replicate n false).getD i false=false:=fun i =>by
  rcases Nat.lt_or_ge i n with h' | h' <;> simp [h']
 exact ⟨Below.refl _ _,h,fun i hi =>by (rw [h0] at hi;cases hi),fun i j _ _ _ hi =>by (rw [h0] at hi;cases hi)⟩
theorem RgK.put {W0:World} {lo:Nat} {D:Nat→Value→World→Prop} {ob:Value→Option Nat} {m:Nat→Bool} {l:Array Bool} {U:Nat→Value} {w w':World} (h:RgK W0 lo D ob m l U w) (i:Nat) (v:Value)
  (hi:l.getD i true=false) (hb:Below w.heap.size w w') (hst:∀ j u,D j u w→D j u w') (hD:D i v w')
  (hlt:∀ j u,m j=true→D j u w→∀ b,ob u=some b→b < w.heap.size) (hm:m i=true→∀ b,ob v=some b→w.heap.size≤b) :
  RgK W0 lo D ob m (l.setIfInBounds i true) (zaa U i v) w':=by
 have hcase:∀ j,(l.setIfInBounds i true).getD j false=true→j=i∨(j≠i∧l.getD j false=true):=fun j hj =>by
  by_cases hji:j=i
  ·exact .inl hji
  ·rw [getD_set_ne false (Ne.symm hji)] at hj
   exact .inr ⟨hji,hj⟩
 refine ⟨h.bel.trans (hb.mono h.sz),Nat.le_trans h.sz hb.size,fun j hj =>?_,fun j k mj mk hjk hj hk =>?_⟩
 ·rcases hcase j hj with rfl | ⟨hji,h1⟩
  ·rw [zaQ];exact hD
  ·rw [zaT _ _ hji];exact hst j _ (h.val j h1)
 ·rcases hcase j hj with rfl | ⟨hji,h1⟩
  ·rcases hcase k hk with rfl | ⟨hki,h2⟩
   ·exact absurd rfl hjk
   ·rw [zaQ,zaT _ _ hki]
    cases hb:ob v with
    | none =>exact .inl rfl
    | some b =>
     refine .inr fun e =>?_
     have h3:=hm mj b hb
     have h4:=hlt k _ mk (h.val k h2) b e.symm
     omega
  ·rcases hcase k hk with rfl | ⟨hki,h2⟩
   ·rw [zaQ,zaT _ _ hji]
    cases hb:ob (U j) with
    | none =>exact .inl rfl
    | some b =>
     refine .inr fun e =>?_
     have h3:=hm mk b e.symm
     have h4:=hlt j _ mj (h.val j h1) b hb
     omega
   ·rw [zaT _ _ hji,zaT _ _ hki]
    exact h.ap j k mj mk hjk h1 h2
def zpN:Value→Option Nat
 | .map (some M) =>some M
 | _ =>none
def SetV (w:World) (l:List (Int × Int)) (B:Nat):Prop := ∃ zs lo0,Made w B lo0 zs∧Spread zs∧zs.length≤l.length∧∀ r,zal zs r=zal l r
theorem SetV.below {w w':World} {l:List (Int × Int)} {B:Nat} (h:SetV w l B) (hb:Below w.heap.size w w'):SetV w' l B :=
 let ⟨zs,lo0,h1,h2⟩:=h; ⟨zs,lo0,h1.below hb,h2⟩
set_option maxRecDepth 100000 in
theorem zdi (a:Option Addr) (c:Nat) (l:List (Int × Int)) (hl:l.length≤1000000) (hR:za0 l) (w:World) (hr:RowP w a l) :
  Calls Tryz.prog 75 #[.slice a l.length c] w fun e w' => ∃ (B:Nat),e=.returned (.pointer (some ⟨B,0,none⟩))∧SetV w' l B∧Below w.heap.size w w':=by
 have HC:=kz (zhn a c l hl hR w hr)
 clear hr hR
 go_enter Tryz.func75,Tryz.ntmps75
 go_wp2_with fail
 refine (oz HC).mono ?_
 rintro e w1 ⟨B,lo0,zs,rfl,h1,h2,h3,h4,h5,h6⟩
 have HP:=kz (And.intro h2 (And.intro h3 (And.intro h4 (And.intro h5 h6))))
 clear h1 h2 h3 h4 h5 h6 HC
 go_wp2_with fail
 go_ret
 exact ⟨B,rfl,⟨zs,lo0,(oz HP).1,(oz HP).2.1,(oz HP).2.2.1,(oz HP).2.2.2.1⟩,(oz HP).2.2.2.2⟩
def NoneV (w:World) (M:Nat):Prop := ∀ kt R,MpAt w kt R M 0 (fun _ =>none)
theorem NoneV.below {w w':World} {M:Nat} (h:NoneV w M) (hb:Below w.heap.size w w'):NoneV w' M:=fun kt R =>(h kt R).below hb
theorem TabAt.below {w w':World} {lo:Nat} {T:TV} {v:Value} (h:TabAt w lo T v) (hb:Below w.heap.size w w'):TabAt w' lo T v:=by
 obtain ⟨v0,us,v1,v2,v3,v4,v5,v6,v7,e,hl,h1⟩:=h
 exact ⟨v0,us,v1,v2,v3,v4,v5,v6,v7,e,hl,h1.kept (zi9 (row:=none) hb) (fun b e =>by cases e)⟩
theorem TabAt.lower {w:World} {lo lo':Nat} {T:TV} {v:Value} (h:TabAt w lo T v) (hl:lo'≤lo):TabAt w lo' T v:=by
 obtain ⟨v0,us,v1,v2,v3,v4,v5,v6,v7,e,h0,h1⟩:=h
 exact ⟨v0,us,v1,v2,v3,v4,v5,v6,v7,e,h0,h1.lower hl⟩
structure BkC (w:World) (lo:Nat) (T:TV) (t0 t1 t2 t3 t4 t5 t6 t7:Value) (Bc Bd Ba M5 M6 M7 MF nF ML nL:Nat):Prop where
 tb:TabAt w lo T (.agg #[t0,t1,t2,t3,t4,t5,t6,t7])
 co:SetV w T.co Bc
 dr:SetV w T.dr Bd
 al:SetV w T.al Ba
 m5:NoneV w M5
 m6:NoneV w M6
 m7:NoneV w M7
 mF:FoAt w MF nF T.fo
 mL:FoAt w ML nL T.lk
 lows:lo≤M5∧lo≤M6∧lo≤M7∧lo≤MF∧lo≤ML
 n56:M5≠M6
 n57:M5≠M7
 n5F:M5≠MF
 n5L:M5≠ML
 n67:M6≠M7
 n6F:M6≠MF
 n6L:M6≠ML
 n7F:M7≠MF
 n7L:M7≠ML
 nFL:MF≠ML
theorem BkC.below {w w':World} {lo:Nat} {T:TV} {t0 t1 t2 t3 t4 t5 t6 t7:Value} {Bc Bd Ba M5 M6 M7 MF nF ML nL:Nat} (h:BkC w lo T t0 t1 t2 t3 t4 t5 t6 t7 Bc Bd Ba M5 M6 M7 MF nF ML nL) (hb:Below w.heap.size w w'):BkC w' lo T t0 t1 t2 t3 t4 t5 t6 t7 Bc Bd Ba M5 M6 M7 MF nF ML nL :=
 { h with tb:=h.tb.below hb,co:=h.co.below hb,dr:=h.dr.below hb,al:=h.al.below hb,m5:=h.m5.below hb,m6:=h.m6.below hb,m7:=h.m7.below hb,mF:=h.mF.below hb,mL:=h.mL.below hb }
def zoY (t0 t1 t2 t3 t4 t5 t6 t7 sc:Value) (Bc Bd Ba M5 M6 M7 MF ML:Nat):Array Value:=#[t0,t1,t2,t3,t4,t5,t6,t7,sc,.pointer (some ⟨Bc,0,none⟩),.pointer (some ⟨Bd,0,none⟩),.pointer (some ⟨Ba,0,none⟩),.map (some M5),.map (some M6),.map (some M7),.map (some MF),.map (some ML)]
structure BoF (w:World) (P:Nat) (T:TV) (a0 a1 a2 a3 a4 a5 a6 a7:Option Addr) (c0 c1 c2 c3 c4 c5 c6 c7:Nat) (us:List Value):Prop where
 bx:Blk w P #[.slice a0 T.sc.length c0,.slice a1 T.co.length c1,.slice a2 T.ma.length c2,.slice a3 T.pr.length c3,.slice a4 T.fo.length c4,.slice a5 T.lk.length c5,.slice a6 T.dr.length c6,.slice a7 T.al.length c7] 28
 ti:TabIn w T a0 a1 a2 a3 a4 a5 a6 a7 us
theorem BoF.below {w w':World} {P:Nat} {T:TV} {a0 a1 a2 a3 a4 a5 a6 a7:Option Addr} {c0 c1 c2 c3 c4 c5 c6 c7:Nat} {us:List Value} (h:BoF w P T a0 a1 a2 a3 a4 a5 a6 a7 c0 c1 c2 c3 c4 c5 c6 c7 us) (hb:Below w.heap.size w w'):BoF w' P T a0 a1 a2 a3 a4 a5 a6 a7 c0 c1 c2 c3 c4 c5 c6 c7 us :=
 ⟨h.bx.below hb h.bx.lt,h.ti.lower hb⟩
def boD (P lo:Nat) (T:TV) (a0 a1 a2 a3 a4 a5 a6 a7:Option Addr) (c0 c1 c2 c3 c4 c5 c6 c7:Nat):Nat→Value→World→Prop
 | 0,v,w =>v=.agg #[.slice a0 T.sc.length c0,.slice a1 T.co.length c1,.slice a2 T.ma.length c2,.slice a3 T.pr.length c3,.slice a4 T.fo.length c4,.slice a5 T.lk.length c5,.slice a6 T.dr.length c6,.slice a7 T.al.length c7]
 | 1,v,w =>TabAt w lo T v
 | 2,v,w =>v=.pointer (some ⟨P,1,none⟩)
 | 3,v,w =>v=.slice a1 T.co.length c1
 | 4,v,w => ∃ B,v=.pointer (some ⟨B,0,none⟩)∧SetV w T.co B
 | 5,v,w =>v=.pointer (some ⟨P,6,none⟩)
 | 6,v,w =>v=.slice a6 T.dr.length c6
 | 7,v,w => ∃ B,v=.pointer (some ⟨B,0,none⟩)∧SetV w T.dr B
 | 8,v,w =>v=.pointer (some ⟨P,7,none⟩)
 | 9,v,w =>v=.slice a7 T.al.length c7
 | 10,v,w => ∃ B,v=.pointer (some ⟨B,0,none⟩)∧SetV w T.al B
 | 11,v,w => ∃ M,v=.map (some M)∧lo≤M∧NoneV w M
 | 12,v,w => ∃ M,v=.map (some M)∧lo≤M∧NoneV w M
 | 13,v,w => ∃ M,v=.map (some M)∧lo≤M∧NoneV w M
 | 14,v,w =>v=.pointer (some ⟨P,4,none⟩)
 | 15,v,w =>v=.slice a4 T.fo.length c4
 | 16,v,w => ∃ M n,v=.map (some M)∧lo≤M∧FoAt w M n T.fo
 | 17,v,w =>v=.pointer (some ⟨P,5,none⟩)
 | 18,v,w =>v=.slice a5 T.lk.length c5
 | 19,v,w => ∃ M n,v=.map (some M)∧lo≤M∧FoAt w M n T.lk
 | 20,v,w => ∃ t0 t1 t2 t3 t4 t5 t6 t7 Bc Bd Ba M5 M6 M7 MF nF ML nL,v=.agg #[t0,t1,t2,t3,t4,t5,t6,t7,.slice none 0 0,.pointer (some ⟨Bc,0,none⟩),.pointer (some ⟨Bd,0,none⟩),.pointer (some ⟨Ba,0,none⟩),.map (some M5),.map (some M6),.map (some M7),.map (some MF),.map (some ML)]∧BkC w lo T t0 t1 t2 t3 t4 t5 t6 t7 Bc Bd Ba M5 M6 M7 MF nF ML nL
 | 21,v,w => ∃ B t0 t1 t2 t3 t4 t5 t6 t7 Bc Bd Ba M5 M6 M7 MF nF ML nL,v=.pointer (some ⟨B,0,none⟩)∧lo≤B∧Blk w B #[t0,t1,t2,t3,t4,t5,t6,t7,.slice none 0 0,.pointer (some ⟨Bc,0,none⟩),.pointer (some ⟨Bd,0,none⟩),.pointer (some ⟨Ba,0,none⟩),.map (some M5),.map (some M6),.map (some M7),.map (some MF),.map (some ML)] 107∧BkC w lo T t0 t1 t2 t3 t4 t5 t6 t7 Bc Bd Ba M5 M6 M7 MF nF ML nL
 | _,v,w =>True
def zqF (j:Nat):Bool:=j == 11 || j == 12 || j == 13 || j == 16 || j == 19
theorem zbE {P lo:Nat} {T:TV} {a0 a1 a2 a3 a4 a5 a6 a7:Option Addr} {c0 c1 c2 c3 c4 c5 c6 c7:Nat} {w w':World} (hb:Below w.heap.size w w'):∀ (j:Nat) (v:Value),boD P lo T a0 a1 a2 a3 a4 a5 a6 a7 c0 c1 c2 c3 c4 c5 c6 c7 j v w→boD P lo T a0 a1 a2 a3 a4 a5 a6 a7 c0 c1 c2 c3 c4 c5 c6 c7 j v w'
 | 0,v,h =>h
 | 1,v,h =>h.below hb
 | 2,v,h =>h
 | 3,v,h =>h
 | 4,v,h =>let ⟨B,e,h1⟩:=h; ⟨B,e,h1.below hb⟩
 | 5,v,h =>h
 | 6,v,h =>h
 | 7,v,h =>let ⟨B,e,h1⟩:=h; ⟨B,e,h1.below hb⟩
 | 8,v,h =>h
 | 9,v,h =>h
 | 10,v,h =>let ⟨B,e,h1⟩:=h; ⟨B,e,h1.below hb⟩
 | 11,v,h =>let ⟨M,e,h0,h1⟩:=h; ⟨M,e,h0,h1.below hb⟩
 | 12,v,h =>let ⟨M,e,h0,h1⟩:=h; ⟨M,e,h0,h1.below hb⟩
 | 13,v,h =>let ⟨M,e,h0,h1⟩:=h; ⟨M,e,h0,h1.below hb⟩
 | 14,v,h =>h
 | 15,v,h =>h
 | 16,v,h =>let ⟨M,n,e,h0,h1⟩:=h; ⟨M,n,e,h0,h1.below hb⟩
 | 17,v,h =>h
 | 18,v,h =>h
 | 19,v,h =>let ⟨M,n,e,h0,h1⟩:=h; ⟨M,n,e,h0,h1.below hb⟩
 | 20,v,h =>let ⟨t0,t1,t2,t3,t4,t5,t6,t7,Bc,Bd,Ba,M5,M6,M7,MF,nF,ML,nL,e,h1⟩:=h; ⟨t0,t1,t2,t3,t4,t5,t6,t7,Bc,Bd,Ba,M5,M6,M7,MF,nF,ML,nL,e,h1.below hb⟩
 | 21,v,h =>let ⟨B,t0,t1,t2,t3,t4,t5,t6,t7,Bc,Bd,Ba,M5,M6,M7,MF,nF,ML,nL,e,h0,h2,h1⟩:=h; ⟨B,t0,t1,t2,t3,t4,t5,t6,t7,Bc,Bd,Ba,M5,M6,M7,MF,nF,ML,nL,e,h0,h2.below hb h2.lt,h1.below hb⟩
 | _+22,v,h =>h
theorem zbF {P lo:Nat} {T:TV} {a0 a1 a2 a3 a4 a5 a6 a7:Option Addr} {c0 c1 c2 c3 c4 c5 c6 c7:Nat} {w:World}:∀ (j:Nat) (v:Value) (hm:zqF j=true) (h:boD P lo T a0 a1 a2 a3 a4 a5 a6 a7 c0 c1 c2 c3 c4 c5 c6 c7 j v w), ∀ b,zpN v=some b→b < w.heap.size
 | 0,v,hm,h =>absurd hm (by decide)
 | 1,v,hm,h =>absurd hm (by decide)
 | 2,v,hm,h =>absurd hm (by decide)
 | 3,v,hm,h =>absurd hm (by decide)
 | 4,v,hm,h =>absurd hm (by decide)
 | 5,v,hm,h =>absurd hm (by decide)
 | 6,v,hm,h =>absurd hm (by decide)
 | 7,v,hm,h =>absurd hm (by decide)
 | 8,v,hm,h =>absurd hm (by decide)
 | 9,v,hm,h =>absurd hm (by decide)
 | 10,v,hm,h =>absurd hm (by decide)
 | 11,v,hm,h =>fun b hq =>by
  obtain ⟨M,rfl,_,h1⟩:=h
  obtain rfl:M=b:=Option.some.inj hq
  exact (h1 0 (fun _ =>none)).lt
 | 12,v,hm,h =>fun b hq =>by
  obtain ⟨M,rfl,_,h1⟩:=h
  obtain rfl:M=b:=Option.some.inj hq
  exact (h1 0 (fun _ =>none)).lt
 | 13,v,hm,h =>fun b hq =>by
  obtain ⟨M,rfl,_,h1⟩:=h
  obtain rfl:M=b:=Option.some.inj hq
  exact (h1 0 (fun _ =>none)).lt
 | 14,v,hm,h =>absurd hm (by decide)
 | 15,v,hm,h =>absurd hm (by decide)
 | 16,v,hm,h =>fun b hq =>by
  obtain ⟨M,n,rfl,_,h1⟩:=h
  obtain rfl:M=b:=Option.some.inj hq
  obtain ⟨G,h2,_⟩:=h1.mp
  exact h2.lt
 | 17,v,hm,h =>absurd hm (by decide)
 | 18,v,hm,h =>absurd hm (by decide)
 | 19,v,hm,h =>fun b hq =>by
  obtain ⟨M,n,rfl,_,h1⟩:=h
  obtain rfl:M=b:=Option.some.inj hq
  obtain ⟨G,h2,_⟩:=h1.mp
  exact h2.lt
 | 20,v,hm,h =>absurd hm (by decide)
 | 21,v,hm,h =>absurd hm (by decide)
 | _+22,v,hm,h =>absurd hm (by simp [zqF])
theorem zgH {u v:Value} {M N:Nat} (h:zpN u=none∨zpN u≠zpN v) (hu:u=.map (some M)) (hv:v=.map (some N)):M≠N:=by
 subst hu hv
 rintro rfl
 rcases h with h | h
 ·cases h
 ·exact h rfl
structure zqS (T:TV):Prop where
 ok:zgy T
 z0:∀ x ∈ T.sc,x.1.size≤1048576
 z4:∀ x ∈ T.fo,x.2.size≤1048576∧R32 x.1
 z5:∀ x ∈ T.lk,x.2.size≤1048576∧R32 x.1
 z2:∀ x ∈ T.ma,R32 x.1
 z3:∀ x ∈ T.pr,R32 x.1∧R32 x.2.1∧R32 x.2.2
 r1:za0 T.co
 r6:za0 T.dr
 r7:za0 T.al
 rs:∀ x ∈ T.sc,za0 x.2
end Go.Proofs.YtmemedpoaocdkaaGreat
