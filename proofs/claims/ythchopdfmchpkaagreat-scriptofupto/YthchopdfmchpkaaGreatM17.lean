/- Texts of this claim, one behind the other. -/
import Derived.Test.YthchopdfmchpkaaGreatM16
namespace Go.Proofs.YthchopdfmchpkaaGreat
set_option linter.unusedVariables false
section
open Go.RowKit Go.Shelf Go.Maps
set_option maxRecDepth 100000
set_option maxHeartbeats 8000000
def MpAt (w:World) (kt:TypeId) (R:Value→Option (DataW Unit × List MemPlace)) (M n:Nat) (G:Lit→Option (DataW Unit)):Prop := ∃ D:DataW Unit,w.ownsMap Tryz.prog kt R M n D∧∀ kl,WideAt.IsKeyLit kl→Maps.has D kl=(G kl).isSome∧∀ z,D.atKey kl z=(G kl).getD z
theorem KP (w:World) (kt:TypeId) (R:Value→Option (DataW Unit × List MemPlace)):MpAt (w.alloc (.map #[] 0)) kt R w.heap.size 0 (fun _ =>none) :=
 ⟨.map [],World.ownsMap_made w Tryz.prog kt R,fun kl _ =>⟨by simp [Maps.has],fun z =>rfl⟩⟩
theorem MpAt.kept {w w':World} {kt:TypeId} {R:Value→Option (DataW Unit × List MemPlace)} {M n:Nat} {G:Lit→Option (DataW Unit)} {row:Option Nat} (h:MpAt w kt R M n G) (hg:w.grownBy w' row) (hne:some M≠row):MpAt w' kt R M n G:=by
 obtain ⟨D,h1,h2⟩:=h;exact ⟨D,h1.kept hg hne,h2⟩
theorem MpAt.below {w w':World} {kt:TypeId} {R:Value→Option (DataW Unit × List MemPlace)} {M n:Nat} {G:Lit→Option (DataW Unit)} (h:MpAt w kt R M n G) (hb:Below w.heap.size w w'):MpAt w' kt R M n G:=h.kept (J6 (row:=none) hb) (by simp)
theorem MpAt.lt {w:World} {kt:TypeId} {R:Value→Option (DataW Unit × List MemPlace)} {M n:Nat} {G:Lit→Option (DataW Unit)} (h:MpAt w kt R M n G):M < w.heap.size:=by
 obtain ⟨D,h1,_⟩:=h;exact h1.lt
noncomputable def putG (G:Lit→Option (DataW Unit)) (k:Lit) (d:DataW Unit):Lit→Option (DataW Unit):=fun kl =>@ite _ (kl=k) (Classical.propDecidable _) (some d) (G kl)
theorem MpAt.update {w:World} {kt mt et:TypeId} {R:Value→Option (DataW Unit × List MemPlace)} {M n:Nat} {G:Lit→Option (DataW Unit)} (h:MpAt w kt R M n G) (K:Keyed Tryz.prog kt) (ht:Tryz.prog.underlying mt=some (.map kt et)) (hn:n < maxLen) {key val:Value} {k:Lit} {d:DataW Unit} {ps:List MemPlace} (hk:keyOf Tryz.prog kt key=some k) (hv:R val=some (d,ps)) :
  ∃ w',(Instr.mapUpdate mt (.map (some M)) key val).run Tryz.prog w=.ok () w'∧MpAt w' kt R M (n+1) (putG G k d)∧w.grownBy w' (some M):=by
 obtain ⟨D,h1,h2⟩:=h;obtain ⟨w',hr,h3,h4⟩:=h1.update K ht hn hk hv;refine ⟨w',hr,⟨_,h3,fun kl hkl =>?_⟩,h4⟩;unfold putG;by_cases e:kl=k
 ·subst e;rw [if_pos rfl];exact ⟨has_put_same h1.isMap hkl _,fun z =>atKey_put_same h1.isMap hkl _ _⟩
 ·rw [if_neg e,has_put_other e];exact ⟨(h2 kl hkl).1,fun z =>by rw [atKey_put_other e];exact (h2 kl hkl).2 z⟩
theorem MpAt.look {w:World} {kt mt et:TypeId} {R:Value→Option (DataW Unit × List MemPlace)} {M n:Nat} {G:Lit→Option (DataW Unit)} (h:MpAt w kt R M n G) (K:Keyed Tryz.prog kt) (ht:Tryz.prog.underlying mt=some (.map kt et)) {z:Value} (hz:(zeroValue et).run Tryz.prog w=.ok z w) {zd:DataW Unit} {zp:List MemPlace} (hzd:R z=some (zd,zp)) {key:Value} {k:Lit} (hk:keyOf Tryz.prog kt key=some k) (hkl:WideAt.IsKeyLit k) :
  ∃ v ps,(Instr.lookup mt (.map (some M)) key true).run Tryz.prog w=.ok (.tuple #[v,.bool (G k).isSome]) w∧R v=some ((G k).getD zd,ps):=by
 obtain ⟨D,h1,h2⟩:=h;obtain ⟨v,ps,hr,hv⟩:=h1.look_ok K ht hz hzd hk;rw [(h2 k hkl).1] at hr;rw [(h2 k hkl).2] at hv;exact ⟨v,ps,hr,hv⟩
def hdr (g n c:Nat):DataW Unit := .agg [.lit (.int .i64 (g:Int)),.lit (.int .i64 (n:Int)),.lit (.int .i64 (c:Int))]
def Y7:Value→Option (DataW Unit × List MemPlace)
 | .slice (some ⟨g,0,none⟩) n c =>some (hdr g n c,[])
 | .slice none 0 0 =>some (.agg [],[])
 | _ =>none
theorem zef (g n c:Nat):Y7 (.slice (some ⟨g,0,none⟩) n c)=some (hdr g n c,[]):=rfl
theorem zcJ:Y7 (.slice none 0 0)=some (.agg [],[]):=rfl
def RnG (w:World) (g:Nat) (l:List Int):Prop:=g < w.heap.size∧∀ (j:Nat) (y:Int),l[j]?=some y→w.cell? ⟨g,j,none⟩=some (.int .i32 y)
theorem RnG.below {w w':World} {g:Nat} {l:List Int} (h:RnG w g l) (hb:Below w.heap.size w w'):RnG w' g l:=⟨zaY h.1 hb.size,fun j y hy =>(hb.cell (p:=⟨g,j,none⟩) h.1).trans (h.2 j y hy)⟩
theorem RnG.kept {w w':World} {g M:Nat} {l:List Int} (h:RnG w g l) (hg:w.grownBy w' (some M)) (hne:g≠M):RnG w' g l:=⟨zaY h.1 hg.size,fun j y hy =>by
 have e:=hg.block g h.1 (fun e =>hne (Zo e));have:=h.2 j y hy;unfold World.cell? at this ⊢;rw [e];exact this⟩
def FoG (w:World) (M:Nat) (zs:List (Int × ByteArray)) (G:Lit→Option (DataW Unit)):Prop := ∀ r,R32 r→((∀ x ∈ zs,x.1≠r)∧G (.int .i32 r)=none)∨∃ x ∈ zs,x.1=r∧∃ g c,G (.int .i32 r)=some (hdr g (zk x.2).length c)∧g≠M∧RnG w g (zk x.2)
theorem FoG.below {w w':World} {M:Nat} {zs:List (Int × ByteArray)} {G:Lit→Option (DataW Unit)} (h:FoG w M zs G) (hb:Below w.heap.size w w'):FoG w' M zs G:=fun r hr =>by
 rcases h r hr with h1 | ⟨x,hx,e,g,c,h2,h3,h4⟩
 ·exact .inl h1
 ·exact .inr ⟨x,hx,e,g,c,h2,h3,h4.below hb⟩
theorem FoG.put {w w':World} {M g c:Nat} {zs:List (Int × ByteArray)} {G:Lit→Option (DataW Unit)} {x:Int × ByteArray} (h:FoG w M zs G) (hg:w.grownBy w' (some M)) (hgM:g≠M) (hr:RnG w g (zk x.2)):FoG w' M (zs++[x]) (putG G (.int .i32 x.1) (hdr g (zk x.2).length c)):=fun r h32 =>by
 unfold putG;by_cases e:x.1=r
 ·subst e;exact .inr ⟨x,by simp,rfl,g,c,if_pos rfl,hgM,hr.kept hg hgM⟩
 ·rw [if_neg (fun q =>e (by injection q with _ q;exact q.symm))];rcases h r h32 with ⟨h1,h2⟩ | ⟨y,hy,e2,g2,c2,h2,h3,h4⟩
  ·exact .inl ⟨fun y hy =>by rcases List.mem_append.1 hy with q | q;exact h1 y q;(obtain rfl:y=x:=by simpa using q);exact e,h2⟩
  ·exact .inr ⟨y,List.mem_append.2 (.inl hy),e2,g2,c2,h2,h3,h4.kept hg h3⟩
structure FoAt (w:World) (M n:Nat) (zs:List (Int × ByteArray)):Prop where
 mp:∃ G,MpAt w 21 Y7 M n G∧FoG w M zs G
theorem FoAt.below {w w':World} {M n:Nat} {zs:List (Int × ByteArray)} (h:FoAt w M n zs) (hb:Below w.heap.size w w'):FoAt w' M n zs:=by
 obtain ⟨G,h1,h2⟩:=h.mp;exact ⟨G,h1.below hb,h2.below hb⟩
theorem zaz (s:ByteArray) (hs:s.size≤1048576) (w:World):Calls Tryz.prog 152 #[.string s] w fun e w' => ∃ g c,e=.returned (.slice (some ⟨g,0,none⟩) (zk s).length c)∧w.heap.size≤g∧RnG w' g (zk s)∧Below w.heap.size w w' :=
 (zfJ s (by omega) w).mono (fun e w' ⟨cap,he,_,cs,hw⟩ =>by
  subst hw;refine ⟨w.heap.size,cap,he,zD,⟨by rw [World.size_alloc];exact Nat.lt_succ_self _,fun j y hy =>?_⟩, ?_⟩
  ·have hB:=Blk.new w.drew (((zk s).map (Value.int .i32)).toArray++cs) 21;have:=hB.cell j;rw [show w.drew.heap.size=w.heap.size from rfl] at this;rw [this,Array.getElem?_append_left (by have:=(Ze.1 hy).1;simpa using this)];simp [hy]
  ·exact ((show Below w.heap.size w w.drew from ⟨rfl,rfl,rfl,zD,fun _ _ =>rfl⟩)).alloc zD _)
def bfD (M B lo:Nat) (x1:Int) (x2:ByteArray):Nat→Value→World→Prop
 | 0,v,w =>v=.map (some M)
 | 1,v,w =>v=.pointer (some ⟨B,0,none⟩)
 | 2,v,w =>v=.int .i32 x1
 | 3,v,w =>v=.pointer (some ⟨B,1,none⟩)
 | 4,v,w =>v=.string x2
 | 5,v,w => ∃ g2 c2,v=.slice (some ⟨g2,0,none⟩) (zk x2).length c2∧lo≤g2∧RnG w g2 (zk x2)
 | _,v,w =>True
def zkY (j:Nat):Bool:=false
theorem Ku {M B lo:Nat} {x1:Int} {x2:ByteArray} {w w':World} (hb:Below w.heap.size w w'):∀ (j:Nat) (v:Value),bfD M B lo x1 x2 j v w→bfD M B lo x1 x2 j v w'
 | 0,v,h =>h
 | 1,v,h =>h
 | 2,v,h =>h
 | 3,v,h =>h
 | 4,v,h =>h
 | 5,v,h =>let ⟨g2,c2,e,h1,h2⟩:=h; ⟨g2,c2,e,h1,h2.below hb⟩
 | _+6,v,h =>h
theorem Kv {M B lo:Nat} {x1:Int} {x2:ByteArray} {w:World} (j:Nat) (v:Value) (hm:zkY j=true) (h:bfD M B lo x1 x2 j v w):∀ b,v.ownBlock=some b→b < w.heap.size:=by
 cases hm
theorem zab (zs:List (Int × ByteArray)) (hn:zs.length≤1000000) (hz:∀ x ∈ zs,x.2.size≤1048576∧R32 x.1) (a:Option Addr) (c:Nat) (W:World) (hr:RowC W W.heap.size a (yW zs)) :
  Calls Tryz.prog 87 #[.slice a zs.length c] W fun e w' => ∃ M n,e=.returned (.map (some M))∧W.heap.size≤M∧n≤zs.length∧FoAt w' M n zs∧Below W.heap.size W w':=by
 have hmx:=zdA
 have hmm:=@run_makeMap Tryz.prog;have h0:=KP W 21 Y7;have hB0:Below W.heap.size W (W.alloc (.map #[] 0)):=(Below.refl _ W).alloc zD _;have H0:Hz (FoAt (W.alloc (.map #[] 0)) W.heap.size 0 (zs.take 0)∧Below W.heap.size W (W.alloc (.map #[] 0))):=kz ⟨⟨_,h0,fun r _ =>.inl ⟨fun x hx =>by simp at hx,rfl⟩⟩,hB0⟩;have HA:=kz hr;have HZ:=kz hz;clear hr hz h0 hB0;go_enter Tryz.func87,Tryz.ntmps87;go_wp2_with fail
 generalize W.alloc (.map #[] 0)=w1 at *;obtain ⟨M,hM⟩:∃ M,M=W.heap.size:=⟨_,rfl⟩;have H0:Hz (FoAt w1 M 0 (zs.take 0)∧Below W.heap.size W w1):=kz ⟨by rw [hM];exact (oz H0).1,(oz H0).2⟩;rw [← hM];have HM:=kz hM;clear hM;go_loopw [5,9] (fun _ s9 wr => ∃ k:Nat,k≤zs.length∧s9=.int .i64 k∧Hz (FoAt wr M k (zs.take k)∧Below W.heap.size W wr)) (fun _ s9 _ =>zs.length - (intOf s9).toNat)
 case atStart =>exact ⟨0,Zn _,rfl,H0⟩
 case round =>
  obtain ⟨k,hk,rfl,HS⟩:=hrel;clear H0;by_cases hkn:k < zs.length
  ·obtain ⟨x,hx⟩:∃ x,zs[k]?=some x:=⟨_,qR hkn⟩;obtain ⟨g,q,rfl,hg,hc⟩:=oz HA (by rw [Zx];omega);have e0:=hc _ _ (YI zs k x hx).1;have e1:=hc _ _ (YI zs k x hx).2;have c0:wr.cell? ⟨g,q+k*2,none⟩=some (.int .i32 x.1):=((oz HS).2.cell (p:=⟨g,q+k*2,none⟩) hg).trans e0;have c1:wr.cell? ⟨g,q+k*2+1,none⟩=some (.string x.2):=((oz HS).2.cell (p:=⟨g,q+k*2+1,none⟩) hg).trans e1;have hk1:(k:Int) < (zs.length:Int):=by omega
   have hk2:=Zp k
   have HX:=kz (yB hx (oz HZ x (YH hx)));obtain ⟨x1,x2⟩:=x;dsimp only at c0 c1 HX;have hbd:Below wr.heap.size wr (wr.alloc (.cells #[.int .i32 x1,.string x2] 102)).drew:=((Below.refl _ wr).alloc zD _).trans ⟨rfl,rfl,rfl,zD,fun _ _ =>rfl⟩;have bX:Blk (wr.alloc (.cells #[.int .i32 x1,.string x2] 102)).drew wr.heap.size #[.int .i32 x1,.string x2] 102:=Blk.new wr #[.int .i32 x1,.string x2] 102;have HF:Hz (∀ w2,Below (wr.alloc (.cells #[.int .i32 x1,.string x2] 102)).drew.heap.size (wr.alloc (.cells #[.int .i32 x1,.string x2] 102)).drew w2→Blk w2 wr.heap.size #[.int .i32 x1,.string x2] 102∧FoAt w2 M k (zs.take k)∧Below W.heap.size W w2):=kz (fun w2 h2 =>⟨bX.below h2 bX.lt,((oz HS).1.below hbd).below h2,((oz HS).2.trans (hbd.mono (oz HS).2.size)).trans (h2.mono (Nat.le_trans (oz HS).2.size hbd.size))⟩);have HMl:Hz (M < wr.heap.size∧W.heap.size≤M):=kz ⟨by obtain ⟨G,h1,_⟩:=(oz HS).1.mp;exact h1.lt,by have:=oz HM;omega⟩;clear hx hc e0 e1 hbd bX HS hg;go_wp2_with fail
   have HZS:Hz ((wr.alloc (.cells #[.int .i32 x1,.string x2] 102)).heap.size=wr.heap.size+1):=kz (by simp);generalize wr.alloc _=wz at *;refine zn hmx 6 (by decide) (by kernel_rfl) (by kernel_rfl) (fun l a w => ∃ U:Nat→Value,a = { tmps:=#[.slice (some ⟨g,q,none⟩) zs.length c,undef,.map none,.map (some M),undef,.pointer (some ⟨wr.heap.size,0,none⟩),.map (some M),.slice (some ⟨g,q,none⟩) zs.length c,.int .i64 (zs.length:Nat),.int .i64 (k:Nat),.bool true,.pointer (some ⟨g,q+k*2,none⟩),.agg #[.int .i32 x1,.string x2],U 0,U 1,U 2,U 3,U 4,U 5,u19,undef],defers := [] }∧RgJ (wz.drew) (wz.drew.heap.size) (bfD M wr.heap.size wz.drew.heap.size x1 x2) zkY l U w) ⟨fun x =>match x with | 0 =>u13 | 1 =>u14 | 2 =>u15 | 3 =>u16 | 4 =>u17 | _ =>u18,rfl,RgJ.start _ _ zD⟩ ?_ ?_
   ·rintro l a w i ⟨U,rfl,hJ⟩ hl hi hif;have h0:=(mem_ready.1 hi).1;have hlt:=Xo hl h0;have HJ:=kz hJ;clear hJ hl
    replace hlt:i < 7:=hlt
    obtain rfl | rfl | rfl | rfl | rfl | rfl:i=0∨i=1∨i=2∨i=3∨i=4∨i=5:=by omega
    any_goals refine Ky rfl (fun K hK =>?_)
    ·clear hlt hif;go_simp;exact hK _ _ ⟨za U 0 _,rfl,(oz HJ).put 0 _ h0 zl (Ku zl) rfl Kv (zJ rfl)⟩
    ·clear hlt hif;go_simp;exact hK _ _ ⟨za U 1 _,rfl,(oz HJ).put 1 _ h0 zl (Ku zl) rfl Kv (zJ rfl)⟩
    ·clear hlt hif;have d1:U 1=.pointer (some ⟨wr.heap.size,0,none⟩):=(oz HJ).val 1 (zb hi 1 (by kernel_rfl));have q0:=(oz HF w (oz HJ).bel).1.cell 0;go_simp;exact hK _ _ ⟨za U 2 _,(by rw [zc d1];rfl),(oz HJ).put 2 _ h0 zl (Ku zl) rfl Kv (zJ rfl)⟩
    ·clear hlt hif;go_simp;exact hK _ _ ⟨za U 3 _,rfl,(oz HJ).put 3 _ h0 zl (Ku zl) rfl Kv (zJ rfl)⟩
    ·clear hlt hif;have d3:U 3=.pointer (some ⟨wr.heap.size,1,none⟩):=(oz HJ).val 3 (zb hi 3 (by kernel_rfl));have q1:=(oz HF w (oz HJ).bel).1.cell 1;go_simp;exact hK _ _ ⟨za U 4 _,(by rw [zc d3];rfl),(oz HJ).put 4 _ h0 zl (Ku zl) rfl Kv (zJ rfl)⟩
    ·clear hlt hif;have d4:U 4=.string x2:=(oz HJ).val 4 (zb hi 4 (by kernel_rfl));go_simp;refine (zaz x2 (oz HX).2.1 _).mono ?_;rintro e w' ⟨g2,c2,rfl,hg2,hrn,hb⟩;exact hK _ _ ⟨za U 5 _,(by rw [zc d4];rfl),(oz HJ).put 5 _ h0 hb (Ku hb) ⟨g2,c2,rfl,Nat.le_trans (oz HJ).sz hg2,hrn⟩ Kv (zJ rfl)⟩
   ·rintro l a w ⟨U,rfl,hJ⟩ hall;have d0:U 0=.map (some M):=hJ.val 0 (hall 0 (by decide) (by decide));have d2:U 2=.int .i32 x1:=hJ.val 2 (hall 2 (by decide) (by decide));obtain ⟨g2,c2,d5,hl5,hr5⟩:=hJ.val 5 (hall 5 (by decide) (by decide));obtain ⟨hbx,hfo,hbl⟩:=oz HF w hJ.bel;obtain ⟨G,hmp,hfg⟩:=hfo.mp;have hgM:g2≠M:=fun e =>by have:=(oz HMl).1;rw [show (wz.drew).heap.size=wz.heap.size from rfl,oz HZS] at hl5;omega
    obtain ⟨w5,hu,hm5,hg5⟩:=hmp.update (int_keyed Tryz.underlying21) Tryz.underlying152 (by unfold maxLen;omega) (keyOf_int_mk Tryz.underlying21 (JU (oz HX).2.2)) (zef g2 (zk x2).length c2);have HN:Hz (FoAt w5 M (k+1) (zs.take (k+1))∧Below W.heap.size W w5):=kz ⟨⟨_,hm5,by rw [List.take_add_one,(oz HX).1];exact hfg.put hg5 hgM hr5⟩,hbl.grown hg5 hbl.size (fun b hb =>by have:=Zo hb;have:=(oz HMl).2;omega)⟩;clear hJ hall hbx hfo hbl hmp hfg hm5 hg5 hl5 hr5;refine Ky rfl (fun K hK =>?_);go_simp;refine hK _ _ ?_;clear hK hu;go_wp2_with fail
    exact ⟨⟨k+1,by omega,by go_num,HN⟩,by simp [intOf];omega⟩
  ·have hk1:¬ (k:Int) < (zs.length:Int):=by omega
   go_wp2_with fail
   go_ret;refine ⟨M,rfl,by have:=oz HM;omega,k,hk, ?_,(oz HS).2⟩;have:=(oz HS).1
   rwa [List.take_of_length_le (by omega)] at this
end
section
open Go.RowKit Go.Shelf
structure Lst (W:World) (lo:Nat) (vs:List Value) (ls:List Ln):Prop where
 ll:ls.length=vs.length
 own:∀ (i:Nat) (v:Value) (l:Ln),vs[i]?=some v→ls[i]?=some l→W.ownsRow lo l.E l.sz v l.n l.xs
 apart:∀ (i j:Nat) (v u:Value),i≠j→vs[i]?=some v→vs[j]?=some u→v.ownBlock=none∨v.ownBlock≠u.ownBlock
theorem zde (a:Option Nat):a=none∨a≠none:=by cases a with | none =>exact .inl rfl | some b =>exact .inr (by simp)
theorem JQ {a b:Option Nat} (h:a=none∨a≠b):b=none∨b≠a:=by
 cases b with
 | none =>exact .inl rfl
 | some y => rcases h with e | e
             · rw [e];exact .inr (by simp)
             · exact .inr (Ne.symm e)
theorem Lst.kept {W W':World} {lo:Nat} {vs:List Value} {ls:List Ln} {row:Option Nat} (h:Lst W lo vs ls) (hg:W.grownBy W' row) (hr:∀ b,row=some b→b < lo):Lst W' lo vs ls :=
 ⟨h.ll,fun i v l hv hl =>XN (h.own i v l hv hl) hg (by
  cases hb:v.ownBlock with
  | none =>exact .inl rfl
  | some b =>
   refine .inr fun e =>?_
   have:=hr b e.symm;have:=jO (h.own i v l hv hl) b hb;omega),h.apart⟩
def Qv (T:TV) (us:List Value):List Ln :=
 (Ln.mk 96 2 T.sc.length (jE T.sc us)::T.sc.map (fun s =>Ln.mk 94 2 s.2.length (zM s.2)))++[Ln.mk 94 2 T.co.length (zM T.co)]++[Ln.mk 98 2 T.ma.length (XP T.ma)]++[Ln.mk 100 3 T.pr.length (Xh T.pr)]++[Ln.mk 102 2 T.fo.length (yW T.fo)]++[Ln.mk 102 2 T.lk.length (yW T.lk)]++[Ln.mk 94 2 T.dr.length (zM T.dr)]++[Ln.mk 94 2 T.al.length (zM T.al)]
def TabAt (w:World) (lo:Nat) (T:TV) (v:Value):Prop := ∃ v0 us v1 v2 v3 v4 v5 v6 v7,v=.agg #[v0,v1,v2,v3,v4,v5,v6,v7]∧us.length=T.sc.length∧Lst w lo ((v0::us)++[v1]++[v2]++[v3]++[v4]++[v5]++[v6]++[v7]) (Qv T us)
theorem Lst.lower {W:World} {lo lo':Nat} {vs:List Value} {ls:List Ln} (h:Lst W lo vs ls) (hl:lo'≤lo):Lst W lo' vs ls:=⟨h.ll,fun i v l hv hm =>yH (h.own i v l hv hm) hl,h.apart⟩
theorem ziJ {W:World} {N:Nat} {a0 a1 a2 a3 a4 a5 a6 a7:Value} {ty:TypeId} (h:Blk W N #[a0,a1,a2,a3,a4,a5,a6,a7] ty) (v0 v1 v2 v3 v4 v5 v6 v7:Value):Blk ((((((((W.setCell ⟨N,0,none⟩ v0).setCell ⟨N,1,none⟩ v1).setCell ⟨N,2,none⟩ v2).setCell ⟨N,3,none⟩ v3).setCell ⟨N,4,none⟩ v4).setCell ⟨N,5,none⟩ v5).setCell ⟨N,6,none⟩ v6).setCell ⟨N,7,none⟩ v7) N #[v0,v1,v2,v3,v4,v5,v6,v7] ty:=zlc h v0 v1 v2 v3 v4 v5 v6 v7
end
end Go.Proofs.YthchopdfmchpkaaGreat
