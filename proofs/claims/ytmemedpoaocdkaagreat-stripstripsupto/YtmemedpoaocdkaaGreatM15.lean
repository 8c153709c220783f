/- Texts of this claim, one behind the other. -/
import Derived.Test.YtmemedpoaocdkaaGreatM14
import Derived.WideKeyPair
import Derived.Test.YtmemedpoaocdkaaGreatM5
import Derived.StringKeys
namespace Go.Proofs.YtmemedpoaocdkaaGreat
open Go.RowKit Go.Shelf Go.Maps
set_option linter.unusedVariables false
set_option maxRecDepth 100000
set_option maxHeartbeats 8000000
def SeenAt (w:World) (kt:TypeId) (M n:Nat) (S:Lit→Prop):Prop := ∃ D:DataW Unit,w.ownsMap Tryz.prog kt unitElem M n D∧∀ kl,WideAt.IsKeyLit kl→(Maps.has D kl=true ↔ S kl)
theorem zd5 (w:World) (kt:TypeId):SeenAt (w.alloc (.map #[] 0)) kt w.heap.size 0 (fun _ =>False) :=
 ⟨.map [],World.ownsMap_made w Tryz.prog kt unitElem,fun kl _ =>by simp [Maps.has]⟩
theorem SeenAt.kept {w w':World} {kt:TypeId} {M n:Nat} {S:Lit→Prop} {row:Option Nat} (h:SeenAt w kt M n S) (hg:w.grownBy w' row) (hne:some M≠row):SeenAt w' kt M n S:=by
 obtain ⟨D,h1,h2⟩:=h
 exact ⟨D,h1.kept hg hne,h2⟩
theorem SeenAt.below {w w':World} {kt:TypeId} {M n:Nat} {S:Lit→Prop} (h:SeenAt w kt M n S) (hb:Below w.heap.size w w'):SeenAt w' kt M n S:=h.kept (zfK (row:=none) hb) (by simp)
theorem SeenAt.lt {w:World} {kt:TypeId} {M n:Nat} {S:Lit→Prop} (h:SeenAt w kt M n S):M < w.heap.size:=by
 obtain ⟨D,h1,_⟩:=h
 exact h1.lt
theorem zeO {w:World} {kt:TypeId} {M n:Nat} {D:DataW Unit} {S:Lit→Prop} {k:Lit} {w0:World} (h0:w0.ownsMap Tryz.prog kt unitElem M n D) (hs:∀ kl,WideAt.IsKeyLit kl→(Maps.has D kl=true ↔ S kl)) (hk:WideAt.IsKeyLit k) (h:w.ownsMap Tryz.prog kt unitElem M (n+1) (D.put k (.agg []))):SeenAt w kt M (n+1) (fun kl =>kl=k∨S kl):=by
 refine ⟨_,h,fun kl hkl =>?_⟩
 by_cases e:kl=k
 ·subst e
  simp [has_put_same h0.isMap hk]
 ·rw [has_put_other e,hs kl hkl]
  simp [e]
structure AgAt (w:World) (KB SB M kf n:Nat) (ft mt kt:TypeId) (S:Lit→Prop):Prop where
 kb:Blk w KB #[.func (.func kf) #[] #[]] ft
 sb:Blk w SB #[.map (some M)] mt
 se:SeenAt w kt M n S
 ks:KB≠M
 ss:SB≠M
theorem AgAt.below {w w':World} {KB SB M kf n:Nat} {ft mt kt:TypeId} {S:Lit→Prop} (h:AgAt w KB SB M kf n ft mt kt S) (hb:Below w.heap.size w w'):AgAt w' KB SB M kf n ft mt kt S:=⟨h.kb.below hb h.kb.lt,h.sb.below hb h.sb.lt,h.se.below hb,h.ks,h.ss⟩
theorem zec {w w':World} {M:Nat} (h:w.grownBy w' (some M)):KeptX (fun b =>b=M) w w':=⟨h.os,h.tape,h.output,h.size,fun k hk hx =>h.block k hk (fun e =>hx (Option.some.inj e))⟩
theorem zjM (x1 x2 x3:Int) (w:World):Calls Tryz.prog 116 #[.agg #[.int .i32 x1,.int .i32 x2,.int .i32 x3]] w fun e w' =>e=.returned (.int .i32 x1)∧Below w.heap.size w w':=by
 go_enter Tryz.func116,Tryz.ntmps116
 go_wp2
 go_ret
 exact ⟨rfl,(Below.refl _ w).alloc (Nat.le_refl _) _⟩
theorem zjK (x1:Int) (x2:ByteArray) (w:World):Calls Tryz.prog 119 #[.agg #[.int .i32 x1,.string x2]] w fun e w' =>e=.returned (.int .i32 x1)∧Below w.heap.size w w':=by
 go_enter Tryz.func119,Tryz.ntmps119
 go_wp2
 go_ret
 exact ⟨rfl,(Below.refl _ w).alloc (Nat.le_refl _) _⟩
theorem zjJ (x1:ByteArray) (p:Option Addr) (n d:Nat) (w:World):Calls Tryz.prog 121 #[.agg #[.string x1,.slice p n d]] w fun e w' =>e=.returned (.string x1)∧Below w.heap.size w w':=by
 go_enter Tryz.func121,Tryz.ntmps121
 go_wp2
 go_ret
 exact ⟨rfl,(Below.refl _ w).alloc (Nat.le_refl _) _⟩
theorem zjI (x1 x2:Int) (w:World):Calls Tryz.prog 123 #[.agg #[.int .i32 x1,.int .i64 x2]] w fun e w' =>e=.returned (.int .i32 x1)∧Below w.heap.size w w':=by
 go_enter Tryz.func123,Tryz.ntmps123
 go_wp2
 go_ret
 exact ⟨rfl,(Below.refl _ w).alloc (Nat.le_refl _) _⟩
theorem zjL (x1 x2 x3:Int) (w:World):Calls Tryz.prog 118 #[.agg #[.int .i32 x1,.int .i32 x2,.int .i32 x3]] w fun e w' =>e=.returned (.agg #[.int .i32 x2,.int .i32 x3])∧Below w.heap.size w w':=by
 go_enter Tryz.func118,Tryz.ntmps118
 go_wp2
 exact bodyPost_ret (v := .agg #[.int .i32 x2,.int .i32 x3]) (by simp [results,Tryz.results118,go_sem]) rfl ⟨rfl,((Below.refl _ w).alloc (Nat.le_refl _) _).alloc (by simp) _⟩
theorem zlF (x1 x2:Int) (k:Lit) (hk:keyOf Tryz.prog 21 (.int .i32 x1)=some k) (hkl:WideAt.IsKeyLit k) (KB SB M n:Nat) (hn:n≤1000000) (S:Lit→Prop) (w:World) (h:AgAt w KB SB M 123 n 173 200 21 S) :
  Calls Tryz.prog 177 #[.agg #[.int .i32 x1,.int .i64 x2],.pointer (some ⟨KB,0,none⟩),.pointer (some ⟨SB,0,none⟩)] w fun e w' =>(∃ b:Bool,e=.returned (.int .i64 (if b=true then 14 else 0))∧(b=true ↔ S k))∧AgAt w' KB SB M 123 (n+1) 173 200 21 (fun kl =>kl=k∨S kl)∧KeptX (fun b =>b=M) w w':=by
 have hB0:Below w.heap.size w (w.alloc (.cells #[.int .i32 x1,.int .i64 x2] 115)):=(Below.refl _ w).alloc (Nat.le_refl _) _
 have H0:=kz (And.intro (h.below hB0) hB0)
 have b1:=(oz H0).1.kb.cell 0
 have HK:=kz (And.intro hk hkl)
 clear hB0 h hk hkl
 go_enter Tryz.func177,Tryz.ntmps177
 go_wp2_with fail
 generalize w.alloc (.cells #[.int .i32 x1,.int .i64 x2] 115)=w1 at *
 refine (zjI x1 x2 w1).mono ?_
 rintro e w2 ⟨rfl,hb⟩
 have H2:=kz (And.intro ((oz H0).1.below hb) ((oz H0).2.trans (hb.mono (oz H0).2.size)))
 have b2:=(oz H2).1.sb.cell 0
 clear hb H0 b1
 obtain ⟨D,hD,hS⟩:=(oz H2).1.se
 have HD:=kz (And.intro hD hS)
 clear hD hS
 obtain ⟨v,ps,hl,hv⟩:=(oz HD).1.look_ok (int_keyed Tryz.underlying21) Tryz.underlying200 (z := .agg #[]) (by kernel_rfl) unitElem_mk (oz HK).1
 obtain ⟨rfl,_⟩:=unitElem_inv hv
 have HS2:=kz ((oz HD).2 k (oz HK).2)
 clear hv
 generalize Maps.has D k=b at *
 have HD2:=kz ((oz HD).1.alloc (.cells #[] 201))
 obtain ⟨w3,hu,r1,r2⟩:=(oz HD2).update (int_keyed Tryz.underlying21) Tryz.underlying200 (by unfold maxLen;omega) (oz HK).1 unitElem_mk
 have b3:(w2.alloc (.cells #[] 201)).cell? ⟨SB,0,none⟩=some (.map (some M)):=((oz H2).1.sb.alloc _).cell 0
 have HR:=kz (And.intro r1 r2)
 clear r1 r2
 obtain ⟨z,hz⟩:∃ z:Int,(if b=true then 14 else 0)=z:=⟨_,rfl⟩
 have HZ:=kz hz
 clear hz
 have HW:=kz (zaF b 14 w3)
 rw [oz HZ] at HW
 go_wp2_with fail
 refine (oz HW).mono ?_
 rintro e w4 ⟨rfl,hw4⟩
 rw [hw4]
 clear hw4 HW hl hu b2 b3
 go_wp2_with fail
 go_ret
 have h2:=(oz H2).1
 have hg:=(oz HR).2
 refine ⟨⟨b,by rw [oz HZ];rfl,oz HS2⟩,⟨(h2.kb.alloc _).kept hg (fun e =>h2.ks (Option.some.inj e)),(h2.sb.alloc _).kept hg (fun e =>h2.ss (Option.some.inj e)),zeO (oz HD2) (oz HD).2 (oz HK).2 (oz HR).1,h2.ks,h2.ss⟩, ?_⟩
 exact (zaw (zcv (oz H2).2 (oz H2).2.size _) _).trans (zec hg)
theorem zj6 (x1 x2 x3:Int) (k:Lit) (hk:keyOf Tryz.prog 21 (.int .i32 x1)=some k) (hkl:WideAt.IsKeyLit k) (KB SB M n:Nat) (hn:n≤1000000) (S:Lit→Prop) (w:World) (h:AgAt w KB SB M 116 n 166 200 21 S) :
  Calls Tryz.prog 174 #[.agg #[.int .i32 x1,.int .i32 x2,.int .i32 x3],.pointer (some ⟨KB,0,none⟩),.pointer (some ⟨SB,0,none⟩)] w fun e w' =>(∃ b:Bool,e=.returned (.int .i64 (if b=true then 14 else 0))∧(b=true ↔ S k))∧AgAt w' KB SB M 116 (n+1) 166 200 21 (fun kl =>kl=k∨S kl)∧KeptX (fun b =>b=M) w w':=by
 have hB0:Below w.heap.size w (w.alloc (.cells #[.int .i32 x1,.int .i32 x2,.int .i32 x3] 117)):=(Below.refl _ w).alloc (Nat.le_refl _) _
 have H0:=kz (And.intro (h.below hB0) hB0)
 have b1:=(oz H0).1.kb.cell 0
 have HK:=kz (And.intro hk hkl)
 clear hB0 h hk hkl
 go_enter Tryz.func174,Tryz.ntmps174
 go_wp2_with fail
 generalize w.alloc (.cells #[.int .i32 x1,.int .i32 x2,.int .i32 x3] 117)=w1 at *
 refine (zjM x1 x2 x3 w1).mono ?_
 rintro e w2 ⟨rfl,hb⟩
 have H2:=kz (And.intro ((oz H0).1.below hb) ((oz H0).2.trans (hb.mono (oz H0).2.size)))
 have b2:=(oz H2).1.sb.cell 0
 clear hb H0 b1
 obtain ⟨D,hD,hS⟩:=(oz H2).1.se
 have HD:=kz (And.intro hD hS)
 clear hD hS
 obtain ⟨v,ps,hl,hv⟩:=(oz HD).1.look_ok (int_keyed Tryz.underlying21) Tryz.underlying200 (z := .agg #[]) (by kernel_rfl) unitElem_mk (oz HK).1
 obtain ⟨rfl,_⟩:=unitElem_inv hv
 have HS2:=kz ((oz HD).2 k (oz HK).2)
 clear hv
 generalize Maps.has D k=b at *
 have HD2:=kz ((oz HD).1.alloc (.cells #[] 201))
 obtain ⟨w3,hu,r1,r2⟩:=(oz HD2).update (int_keyed Tryz.underlying21) Tryz.underlying200 (by unfold maxLen;omega) (oz HK).1 unitElem_mk
 have b3:(w2.alloc (.cells #[] 201)).cell? ⟨SB,0,none⟩=some (.map (some M)):=((oz H2).1.sb.alloc _).cell 0
 have HR:=kz (And.intro r1 r2)
 clear r1 r2
 obtain ⟨z,hz⟩:∃ z:Int,(if b=true then 14 else 0)=z:=⟨_,rfl⟩
 have HZ:=kz hz
 clear hz
 have HW:=kz (zaF b 14 w3)
 rw [oz HZ] at HW
 go_wp2_with fail
 refine (oz HW).mono ?_
 rintro e w4 ⟨rfl,hw4⟩
 rw [hw4]
 clear hw4 HW hl hu b2 b3
 go_wp2_with fail
 go_ret
 have h2:=(oz H2).1
 have hg:=(oz HR).2
 refine ⟨⟨b,by rw [oz HZ];rfl,oz HS2⟩,⟨(h2.kb.alloc _).kept hg (fun e =>h2.ks (Option.some.inj e)),(h2.sb.alloc _).kept hg (fun e =>h2.ss (Option.some.inj e)),zeO (oz HD2) (oz HD).2 (oz HK).2 (oz HR).1,h2.ks,h2.ss⟩, ?_⟩
 exact (zaw (zcv (oz H2).2 (oz H2).2.size _) _).trans (zec hg)
theorem zny (x1:Int) (x2:ByteArray) (k:Lit) (hk:keyOf Tryz.prog 21 (.int .i32 x1)=some k) (hkl:WideAt.IsKeyLit k) (KB SB M n:Nat) (hn:n≤1000000) (S:Lit→Prop) (w:World) (h:AgAt w KB SB M 119 n 169 200 21 S) :
  Calls Tryz.prog 178 #[.agg #[.int .i32 x1,.string x2],.pointer (some ⟨KB,0,none⟩),.pointer (some ⟨SB,0,none⟩)] w fun e w' =>(∃ b:Bool,e=.returned (.int .i64 (if b=true then 14 else 0))∧(b=true ↔ S k))∧AgAt w' KB SB M 119 (n+1) 169 200 21 (fun kl =>kl=k∨S kl)∧KeptX (fun b =>b=M) w w':=by
 have hB0:Below w.heap.size w (w.alloc (.cells #[.int .i32 x1,.string x2] 119)):=(Below.refl _ w).alloc (Nat.le_refl _) _
 have H0:=kz (And.intro (h.below hB0) hB0)
 have b1:=(oz H0).1.kb.cell 0
 have HK:=kz (And.intro hk hkl)
 clear hB0 h hk hkl
 go_enter Tryz.func178,Tryz.ntmps178
 go_wp2_with fail
 generalize w.alloc (.cells #[.int .i32 x1,.string x2] 119)=w1 at *
 refine (zjK x1 x2 w1).mono ?_
 rintro e w2 ⟨rfl,hb⟩
 have H2:=kz (And.intro ((oz H0).1.below hb) ((oz H0).2.trans (hb.mono (oz H0).2.size)))
 have b2:=(oz H2).1.sb.cell 0
 clear hb H0 b1
 obtain ⟨D,hD,hS⟩:=(oz H2).1.se
 have HD:=kz (And.intro hD hS)
 clear hD hS
 obtain ⟨v,ps,hl,hv⟩:=(oz HD).1.look_ok (int_keyed Tryz.underlying21) Tryz.underlying200 (z := .agg #[]) (by kernel_rfl) unitElem_mk (oz HK).1
 obtain ⟨rfl,_⟩:=unitElem_inv hv
 have HS2:=kz ((oz HD).2 k (oz HK).2)
 clear hv
 generalize Maps.has D k=b at *
 have HD2:=kz ((oz HD).1.alloc (.cells #[] 201))
 obtain ⟨w3,hu,r1,r2⟩:=(oz HD2).update (int_keyed Tryz.underlying21) Tryz.underlying200 (by unfold maxLen;omega) (oz HK).1 unitElem_mk
 have b3:(w2.alloc (.cells #[] 201)).cell? ⟨SB,0,none⟩=some (.map (some M)):=((oz H2).1.sb.alloc _).cell 0
 have HR:=kz (And.intro r1 r2)
 clear r1 r2
 obtain ⟨z,hz⟩:∃ z:Int,(if b=true then 14 else 0)=z:=⟨_,rfl⟩
 have HZ:=kz hz
 clear hz
 have HW:=kz (zaF b 14 w3)
 rw [oz HZ] at HW
 go_wp2_with fail
 refine (oz HW).mono ?_
 rintro e w4 ⟨rfl,hw4⟩
 rw [hw4]
 clear hw4 HW hl hu b2 b3
 go_wp2_with fail
 go_ret
 have h2:=(oz H2).1
 have hg:=(oz HR).2
 refine ⟨⟨b,by rw [oz HZ];rfl,oz HS2⟩,⟨(h2.kb.alloc _).kept hg (fun e =>h2.ks (Option.some.inj e)),(h2.sb.alloc _).kept hg (fun e =>h2.ss (Option.some.inj e)),zeO (oz HD2) (oz HD).2 (oz HK).2 (oz HR).1,h2.ks,h2.ss⟩, ?_⟩
 exact (zaw (zcv (oz H2).2 (oz H2).2.size _) _).trans (zec hg)
theorem zi8 (x1:ByteArray) (pp:Option Addr) (nn dd:Nat) (k:Lit) (hk:keyOf Tryz.prog 9 (.string x1)=some k) (hkl:WideAt.IsKeyLit k) (KB SB M n:Nat) (hn:n≤1000000) (S:Lit→Prop) (w:World) (h:AgAt w KB SB M 121 n 171 204 9 S) :
  Calls Tryz.prog 176 #[.agg #[.string x1,.slice pp nn dd],.pointer (some ⟨KB,0,none⟩),.pointer (some ⟨SB,0,none⟩)] w fun e w' =>(∃ b:Bool,e=.returned (.int .i64 (if b=true then 14 else 0))∧(b=true ↔ S k))∧AgAt w' KB SB M 121 (n+1) 171 204 9 (fun kl =>kl=k∨S kl)∧KeptX (fun b =>b=M) w w':=by
 have hB0:Below w.heap.size w (w.alloc (.cells #[.string x1,.slice pp nn dd] 109)):=(Below.refl _ w).alloc (Nat.le_refl _) _
 have H0:=kz (And.intro (h.below hB0) hB0)
 have b1:=(oz H0).1.kb.cell 0
 have HK:=kz (And.intro hk hkl)
 clear hB0 h hk hkl
 go_enter Tryz.func176,Tryz.ntmps176
 go_wp2_with fail
 generalize w.alloc (.cells #[.string x1,.slice pp nn dd] 109)=w1 at *
 refine (zjJ x1 pp nn dd w1).mono ?_
 rintro e w2 ⟨rfl,hb⟩
 have H2:=kz (And.intro ((oz H0).1.below hb) ((oz H0).2.trans (hb.mono (oz H0).2.size)))
 have b2:=(oz H2).1.sb.cell 0
 clear hb H0 b1
 obtain ⟨D,hD,hS⟩:=(oz H2).1.se
 have HD:=kz (And.intro hD hS)
 clear hD hS
 obtain ⟨v,ps,hl,hv⟩:=(oz HD).1.look_ok (string_keyed Tryz.underlying9) Tryz.underlying204 (z := .agg #[]) (by kernel_rfl) unitElem_mk (oz HK).1
 obtain ⟨rfl,_⟩:=unitElem_inv hv
 have HS2:=kz ((oz HD).2 k (oz HK).2)
 clear hv
 generalize Maps.has D k=b at *
 have HD2:=kz ((oz HD).1.alloc (.cells #[] 201))
 obtain ⟨w3,hu,r1,r2⟩:=(oz HD2).update (string_keyed Tryz.underlying9) Tryz.underlying204 (by unfold maxLen;omega) (oz HK).1 unitElem_mk
 have b3:(w2.alloc (.cells #[] 201)).cell? ⟨SB,0,none⟩=some (.map (some M)):=((oz H2).1.sb.alloc _).cell 0
 have HR:=kz (And.intro r1 r2)
 clear r1 r2
 obtain ⟨z,hz⟩:∃ z:Int,(if b=true then 14 else 0)=z:=⟨_,rfl⟩
 have HZ:=kz hz
 clear hz
 have HW:=kz (zaF b 14 w3)
 rw [oz HZ] at HW
 go_wp2_with fail
 refine (oz HW).mono ?_
 rintro e w4 ⟨rfl,hw4⟩
 rw [hw4]
 clear hw4 HW hl hu b2 b3
 go_wp2_with fail
 go_ret
 have h2:=(oz H2).1
 have hg:=(oz HR).2
 refine ⟨⟨b,by rw [oz HZ];rfl,oz HS2⟩,⟨(h2.kb.alloc _).kept hg (fun e =>h2.ks (Option.some.inj e)),(h2.sb.alloc _).kept hg (fun e =>h2.ss (Option.some.inj e)),zeO (oz HD2) (oz HD).2 (oz HK).2 (oz HR).1,h2.ks,h2.ss⟩, ?_⟩
 exact (zaw (zcv (oz H2).2 (oz H2).2.size _) _).trans (zec hg)
theorem zq2:WideMaps.ArrKey Tryz.prog 134 21 2:=⟨Tryz.underlying134,by kernel_rfl,by kernel_rfl,by kernel_rfl⟩
theorem arr_keyed:Keyed Tryz.prog 134:=Keyed.of_law (WideMaps.ArrKey.law zq2)
theorem zj7 (x1 x2 x3:Int) (k:Lit) (hk:keyOf Tryz.prog 134 (.agg #[.int .i32 x2,.int .i32 x3])=some k) (hkl:WideAt.IsKeyLit k) (KB SB M n:Nat) (hn:n≤1000000) (S:Lit→Prop) (w:World) (h:AgAt w KB SB M 118 n 168 203 134 S) :
  Calls Tryz.prog 175 #[.agg #[.int .i32 x1,.int .i32 x2,.int .i32 x3],.pointer (some ⟨KB,0,none⟩),.pointer (some ⟨SB,0,none⟩)] w fun e w' =>(∃ b:Bool,e=.returned (.int .i64 (if b=true then 14 else 0))∧(b=true ↔ S k))∧AgAt w' KB SB M 118 (n+1) 168 203 134 (fun kl =>kl=k∨S kl)∧KeptX (fun b =>b=M) w w':=by
 have hB0:Below w.heap.size w (w.alloc (.cells #[.int .i32 x1,.int .i32 x2,.int .i32 x3] 117)):=(Below.refl _ w).alloc (Nat.le_refl _) _
 have H0:=kz (And.intro (h.below hB0) hB0)
 have b1:=(oz H0).1.kb.cell 0
 have HK:=kz (And.intro hk hkl)
 clear hB0 h hk hkl
 go_enter Tryz.func175,Tryz.ntmps175
 go_wp2_with fail
 generalize w.alloc (.cells #[.int .i32 x1,.int .i32 x2,.int .i32 x3] 117)=w1 at *
 refine (zjL x1 x2 x3 w1).mono ?_
 rintro e w2 ⟨rfl,hb⟩
 have H2:=kz (And.intro ((oz H0).1.below hb) ((oz H0).2.trans (hb.mono (oz H0).2.size)))
 clear hb H0 b1
 have H2:=kz (And.intro ((oz H2).1.below ((Below.refl _ w2).alloc (Nat.le_refl _) (.cells #[.int .i32 x2,.int .i32 x3] 134))) ((oz H2).2.alloc (oz H2).2.size (.cells #[.int .i32 x2,.int .i32 x3] 134)))
 have b2:=(oz H2).1.sb.cell 0
 obtain ⟨D,hD,hS⟩:=(oz H2).1.se
 have HD:=kz (And.intro hD hS)
 clear hD hS
 obtain ⟨v,ps,hl,hv⟩:=(oz HD).1.look_ok arr_keyed Tryz.underlying203 (z := .agg #[]) (by kernel_rfl) unitElem_mk (oz HK).1
 obtain ⟨rfl,_⟩:=unitElem_inv hv
 have HS2:=kz ((oz HD).2 k (oz HK).2)
 clear hv
 generalize Maps.has D k=b at *
 have HD2:=kz ((oz HD).1.alloc (.cells #[] 201))
 obtain ⟨w3,hu,r1,r2⟩:=(oz HD2).update arr_keyed Tryz.underlying203 (by unfold maxLen;omega) (oz HK).1 unitElem_mk
 have b3:((w2.alloc (.cells #[.int .i32 x2,.int .i32 x3] 134)).alloc (.cells #[] 201)).cell? ⟨SB,0,none⟩=some (.map (some M)):=((oz H2).1.sb.alloc _).cell 0
 have HR:=kz (And.intro r1 r2)
 clear r1 r2
 obtain ⟨z,hz⟩:∃ z:Int,(if b=true then 14 else 0)=z:=⟨_,rfl⟩
 have HZ:=kz hz
 clear hz
 have HW:=kz (zaF b 14 w3)
 rw [oz HZ] at HW
 go_wp2_with fail
 refine (oz HW).mono ?_
 rintro e w4 ⟨rfl,hw4⟩
 rw [hw4]
 clear hw4 HW hl hu b2 b3
 go_wp2_with fail
 go_ret
 have h2:=(oz H2).1
 have hg:=(oz HR).2
 refine ⟨⟨b,by rw [oz HZ];rfl,oz HS2⟩,⟨(h2.kb.alloc _).kept hg (fun e =>h2.ks (Option.some.inj e)),(h2.sb.alloc _).kept hg (fun e =>h2.ss (Option.some.inj e)),zeO (oz HD2) (oz HD).2 (oz HK).2 (oz HR).1,h2.ks,h2.ss⟩, ?_⟩
 exact (zaw (zcv (oz H2).2 (oz H2).2.size _) _).trans (zec hg)
structure zgX (w0 w:World) (G kf:Nat) (ft mt kt:TypeId) (v:Value) (KB SB M:Nat):Prop where
 v:v=.func (.func G) #[] #[.pointer (some ⟨KB,0,none⟩),.pointer (some ⟨SB,0,none⟩)]
 ag:AgAt w KB SB M kf 0 ft mt kt (fun _ =>False)
 kb:w0.heap.size≤KB
 sb:w0.heap.size≤SB
 mb:w0.heap.size≤M
theorem zpW (w:World):Calls Tryz.prog 122 #[.func (.func 123) #[] #[]] w fun e w' =>(∃ v KB SB M,e=.returned v∧zgX w w' 177 123 173 200 21 v KB SB M)∧Below w.heap.size w w':=by
 have hmf:∀ (fn:Fn) (first cap:Array Value) (w:World),(Instr.makeFunc fn first cap).run Tryz.prog w=.ok (.func fn first cap) w:=fun _ _ _ _ =>rfl
 have hmm:=@run_makeMap Tryz.prog
 have h1:=Blk.new w #[.func (.func 123) #[] #[]] 173
 have h2:=zd5 (w.alloc (.cells #[.func (.func 123) #[] #[]] 173)) 21
 rw [World.size_alloc] at h2
 have h3:=Blk.new ((w.alloc (.cells #[.func (.func 123) #[] #[]] 173)).alloc (.map #[] 0)) #[.map (some (w.heap.size+1))] 200
 rw [World.size_alloc,World.size_alloc] at h3
 have H:Hz (AgAt (((w.alloc (.cells #[.func (.func 123) #[] #[]] 173)).alloc (.map #[] 0)).alloc (.cells #[.map (some (w.heap.size+1))] 200)) w.heap.size (w.heap.size+1+1) (w.heap.size+1) 123 0 173 200 21 (fun _ =>False)):=kz ⟨(h1.alloc _).alloc _,h3,h2.below ((Below.refl _ _).alloc (Nat.le_refl _) _),by omega,by omega⟩
 have HB:Hz (Below w.heap.size w (((w.alloc (.cells #[.func (.func 123) #[] #[]] 173)).alloc (.map #[] 0)).alloc (.cells #[.map (some (w.heap.size+1))] 200))):=kz ((((Below.refl _ w).alloc (Nat.le_refl _) _).alloc (by simp) _).alloc (by simp;omega) _)
 clear h1 h2 h3
 go_enter Tryz.func122,Tryz.ntmps122
 go_wp2
 go_ret
 exact ⟨⟨_,w.heap.size,w.heap.size+1+1,w.heap.size+1,rfl,rfl,oz H,by omega,by omega,by omega⟩,oz HB⟩
theorem zoN (w:World):Calls Tryz.prog 115 #[.func (.func 116) #[] #[]] w fun e w' =>(∃ v KB SB M,e=.returned v∧zgX w w' 174 116 166 200 21 v KB SB M)∧Below w.heap.size w w':=by
 have hmf:∀ (fn:Fn) (first cap:Array Value) (w:World),(Instr.makeFunc fn first cap).run Tryz.prog w=.ok (.func fn first cap) w:=fun _ _ _ _ =>rfl
 have hmm:=@run_makeMap Tryz.prog
 have h1:=Blk.new w #[.func (.func 116) #[] #[]] 166
 have h2:=zd5 (w.alloc (.cells #[.func (.func 116) #[] #[]] 166)) 21
 rw [World.size_alloc] at h2
 have h3:=Blk.new ((w.alloc (.cells #[.func (.func 116) #[] #[]] 166)).alloc (.map #[] 0)) #[.map (some (w.heap.size+1))] 200
 rw [World.size_alloc,World.size_alloc] at h3
 have H:Hz (AgAt (((w.alloc (.cells #[.func (.func 116) #[] #[]] 166)).alloc (.map #[] 0)).alloc (.cells #[.map (some (w.heap.size+1))] 200)) w.heap.size (w.heap.size+1+1) (w.heap.size+1) 116 0 166 200 21 (fun _ =>False)):=kz ⟨(h1.alloc _).alloc _,h3,h2.below ((Below.refl _ _).alloc (Nat.le_refl _) _),by omega,by omega⟩
 have HB:Hz (Below w.heap.size w (((w.alloc (.cells #[.func (.func 116) #[] #[]] 166)).alloc (.map #[] 0)).alloc (.cells #[.map (some (w.heap.size+1))] 200))):=kz ((((Below.refl _ w).alloc (Nat.le_refl _) _).alloc (by simp) _).alloc (by simp;omega) _)
 clear h1 h2 h3
 go_enter Tryz.func115,Tryz.ntmps115
 go_wp2
 go_ret
 exact ⟨⟨_,w.heap.size,w.heap.size+1+1,w.heap.size+1,rfl,rfl,oz H,by omega,by omega,by omega⟩,oz HB⟩
theorem zoO (w:World):Calls Tryz.prog 117 #[.func (.func 118) #[] #[]] w fun e w' =>(∃ v KB SB M,e=.returned v∧zgX w w' 175 118 168 203 134 v KB SB M)∧Below w.heap.size w w':=by
 have hmf:∀ (fn:Fn) (first cap:Array Value) (w:World),(Instr.makeFunc fn first cap).run Tryz.prog w=.ok (.func fn first cap) w:=fun _ _ _ _ =>rfl
 have hmm:=@run_makeMap Tryz.prog
 have h1:=Blk.new w #[.func (.func 118) #[] #[]] 168
 have h2:=zd5 (w.alloc (.cells #[.func (.func 118) #[] #[]] 168)) 134
 rw [World.size_alloc] at h2
 have h3:=Blk.new ((w.alloc (.cells #[.func (.func 118) #[] #[]] 168)).alloc (.map #[] 0)) #[.map (some (w.heap.size+1))] 203
 rw [World.size_alloc,World.size_alloc] at h3
 have H:Hz (AgAt (((w.alloc (.cells #[.func (.func 118) #[] #[]] 168)).alloc (.map #[] 0)).alloc (.cells #[.map (some (w.heap.size+1))] 203)) w.heap.size (w.heap.size+1+1) (w.heap.size+1) 118 0 168 203 134 (fun _ =>False)):=kz ⟨(h1.alloc _).alloc _,h3,h2.below ((Below.refl _ _).alloc (Nat.le_refl _) _),by omega,by omega⟩
 have HB:Hz (Below w.heap.size w (((w.alloc (.cells #[.func (.func 118) #[] #[]] 168)).alloc (.map #[] 0)).alloc (.cells #[.map (some (w.heap.size+1))] 203))):=kz ((((Below.refl _ w).alloc (Nat.le_refl _) _).alloc (by simp) _).alloc (by simp;omega) _)
 clear h1 h2 h3
 go_enter Tryz.func117,Tryz.ntmps117
 go_wp2
 go_ret
 exact ⟨⟨_,w.heap.size,w.heap.size+1+1,w.heap.size+1,rfl,rfl,oz H,by omega,by omega,by omega⟩,oz HB⟩
theorem zph (w:World):Calls Tryz.prog 126 #[.func (.func 119) #[] #[]] w fun e w' =>(∃ v KB SB M,e=.returned v∧zgX w w' 178 119 169 200 21 v KB SB M)∧Below w.heap.size w w':=by
 have hmf:∀ (fn:Fn) (first cap:Array Value) (w:World),(Instr.makeFunc fn first cap).run Tryz.prog w=.ok (.func fn first cap) w:=fun _ _ _ _ =>rfl
 have hmm:=@run_makeMap Tryz.prog
 have h1:=Blk.new w #[.func (.func 119) #[] #[]] 169
 have h2:=zd5 (w.alloc (.cells #[.func (.func 119) #[] #[]] 169)) 21
 rw [World.size_alloc] at h2
 have h3:=Blk.new ((w.alloc (.cells #[.func (.func 119) #[] #[]] 169)).alloc (.map #[] 0)) #[.map (some (w.heap.size+1))] 200
 rw [World.size_alloc,World.size_alloc] at h3
 have H:Hz (AgAt (((w.alloc (.cells #[.func (.func 119) #[] #[]] 169)).alloc (.map #[] 0)).alloc (.cells #[.map (some (w.heap.size+1))] 200)) w.heap.size (w.heap.size+1+1) (w.heap.size+1) 119 0 169 200 21 (fun _ =>False)):=kz ⟨(h1.alloc _).alloc _,h3,h2.below ((Below.refl _ _).alloc (Nat.le_refl _) _),by omega,by omega⟩
 have HB:Hz (Below w.heap.size w (((w.alloc (.cells #[.func (.func 119) #[] #[]] 169)).alloc (.map #[] 0)).alloc (.cells #[.map (some (w.heap.size+1))] 200))):=kz ((((Below.refl _ w).alloc (Nat.le_refl _) _).alloc (by simp) _).alloc (by simp;omega) _)
 clear h1 h2 h3
 go_enter Tryz.func126,Tryz.ntmps126
 go_wp2
 go_ret
 exact ⟨⟨_,w.heap.size,w.heap.size+1+1,w.heap.size+1,rfl,rfl,oz H,by omega,by omega,by omega⟩,oz HB⟩
theorem zmJ (w:World):Calls Tryz.prog 120 #[.func (.func 121) #[] #[]] w fun e w' =>(∃ v KB SB M,e=.returned v∧zgX w w' 176 121 171 204 9 v KB SB M)∧Below w.heap.size w w':=by
 have hmf:∀ (fn:Fn) (first cap:Array Value) (w:World),(Instr.makeFunc fn first cap).run Tryz.prog w=.ok (.func fn first cap) w:=fun _ _ _ _ =>rfl
 have hmm:=@run_makeMap Tryz.prog
 have h1:=Blk.new w #[.func (.func 121) #[] #[]] 171
 have h2:=zd5 (w.alloc (.cells #[.func (.func 121) #[] #[]] 171)) 9
 rw [World.size_alloc] at h2
 have h3:=Blk.new ((w.alloc (.cells #[.func (.func 121) #[] #[]] 171)).alloc (.map #[] 0)) #[.map (some (w.heap.size+1))] 204
 rw [World.size_alloc,World.size_alloc] at h3
 have H:Hz (AgAt (((w.alloc (.cells #[.func (.func 121) #[] #[]] 171)).alloc (.map #[] 0)).alloc (.cells #[.map (some (w.heap.size+1))] 204)) w.heap.size (w.heap.size+1+1) (w.heap.size+1) 121 0 171 204 9 (fun _ =>False)):=kz ⟨(h1.alloc _).alloc _,h3,h2.below ((Below.refl _ _).alloc (Nat.le_refl _) _),by omega,by omega⟩
 have HB:Hz (Below w.heap.size w (((w.alloc (.cells #[.func (.func 121) #[] #[]] 171)).alloc (.map #[] 0)).alloc (.cells #[.map (some (w.heap.size+1))] 204))):=kz ((((Below.refl _ w).alloc (Nat.le_refl _) _).alloc (by simp) _).alloc (by simp;omega) _)
 clear h1 h2 h3
 go_enter Tryz.func120,Tryz.ntmps120
 go_wp2
 go_ret
 exact ⟨⟨_,w.heap.size,w.heap.size+1+1,w.heap.size+1,rfl,rfl,oz H,by omega,by omega,by omega⟩,oz HB⟩
theorem zin {r:Int} (h:R32 r):(Lit.int .i32 r).wf=true:=by
 obtain ⟨h1,h2⟩:=h
 simp [Lit.wf,IntKind.min,IntKind.max,IntKind.signed,IntKind.bits]
 omega
def zeK {α : Type} (lit : α→Lit) (zs:List α) (i:Nat):Lit→Prop:=fun kl => ∃ y ∈ zs.take i,lit y=kl
theorem zds {α : Type} (lit : α→Lit) (zs:List α):zeK lit zs 0=fun _ =>False:=by
 funext kl
 simp [zeK]
theorem zdt {α : Type} (lit : α→Lit) (zs:List α) (i:Nat) (x : α) (hx:zs[i]?=some x):zeK lit zs (i+1)=fun kl =>kl=lit x∨zeK lit zs i kl:=by
 funext kl
 simp only [zeK,eq_iff_iff]
 rw [List.take_add_one,hx]
 constructor
 ·rintro ⟨y,hy,rfl⟩
  rcases List.mem_append.1 hy with h | h
  ·exact .inr ⟨y,h,rfl⟩
  ·obtain rfl:y=x:=by simpa using h
   exact .inl rfl
 ·rintro (rfl | ⟨y,hy,rfl⟩)
  ·exact ⟨x,List.mem_append.2 (.inr (by simp)),rfl⟩
  ·exact ⟨y,List.mem_append.2 (.inl hy),rfl⟩
theorem zjk {α β : Type} [BEq β] [LawfulBEq β] {lit : α→Lit} {key : α→β} {zs:List α} {d : α} {i:Nat} {x : α} {b:Bool} (hx:zs[i]?=some x) (hinj:∀ y ∈ zs,lit y=lit x ↔ key y=key x) (h:b=true ↔ zeK lit zs i (lit x)):(if b=true then (14:Int) else 0)=twF zs d key i:=by
 unfold twF
 rw [zcB d hx]
 have e:b=(zs.take i).any (fun y =>key y == key x):=by
  rw [Bool.eq_iff_iff,h,List.any_eq_true]
  constructor
  ·rintro ⟨y,hy,hl⟩
   exact ⟨y,hy,by rw [(hinj y (List.mem_of_mem_take hy)).1 hl];simp⟩
  ·rintro ⟨y,hy,hk⟩
   exact ⟨y,hy,(hinj y (List.mem_of_mem_take hy)).2 (by simpa using hk)⟩
 rw [e]
theorem zjX:∀ args w,(callFunc 177 args).run Tryz.prog w=.ok (.enter 177 args) w:=enters_of Tryz.func177 (by kernel_rfl) rfl
theorem zli:∀ args w,(callFunc 178 args).run Tryz.prog w=.ok (.enter 178 args) w:=enters_of Tryz.func178 (by kernel_rfl) rfl
theorem zia:∀ args w,(callFunc 176 args).run Tryz.prog w=.ok (.enter 176 args) w:=enters_of Tryz.func176 (by kernel_rfl) rfl
theorem zpv (zs:List (Int × Int)) (hn:zs.length≤1000000) (hd:∀ x ∈ zs,R32 x.1) (a:Option Addr) (c lo:Nat) (W0 W:World) (v:Value) (KB SB M:Nat) (hlo:W0.heap.size≤lo) (hlw:lo≤W.heap.size) (hr:RowC W W0.heap.size a (zdk zs)) (ha:zgX W0 W 177 123 173 200 21 v KB SB M) :
  Calls Tryz.prog 109 #[.int .i64 3,.slice a zs.length c,v] W fun e w' =>e=.returned (wrV (zaG 3 zs.length (twF zs ma0 (fun x:Int × Int =>x.1))))∧KeptX (fun b =>b=M) W w':=by
 obtain ⟨rfl,hag,hkb,hsb,hmb⟩:=ha
 refine zdP 3 zs hn a c 177 _ zjX (twF zs ma0 (fun x:Int × Int =>x.1)) (fun b =>b=M) (fun i w =>AgAt w KB SB M 123 i 173 200 21 (zeK (fun x:Int × Int =>Lit.int .i32 x.1) zs i)) W0.heap.size W (by omega) (fun b hb =>by subst hb;exact ⟨hmb,hag.se.lt⟩) hr (by rw [zds];exact hag) (fun i w w' h hb =>h.below hb) (fun i x w hx hk hJ =>?_)
 have hi:i < zs.length:=(List.getElem?_eq_some_iff.1 hx).1
 have hmem:=List.mem_of_getElem? hx
 refine (zlF x.1 x.2 ((fun x:Int × Int =>Lit.int .i32 x.1) x) (keyOf_int_mk Tryz.underlying21 (zin (hd x hmem))) trivial KB SB M i (by omega) _ w hJ).mono ?_
 rintro e w' ⟨⟨b,rfl,hb⟩,h1,h2⟩
 refine ⟨by rw [zjk (lit:=(fun x:Int × Int =>Lit.int .i32 x.1)) (key:=(fun x:Int × Int =>x.1)) (d:=ma0) hx (fun y hy =>by simp) hb], ?_,h2⟩
 rw [zdt (fun x:Int × Int =>Lit.int .i32 x.1) zs i x hx]
 exact h1
theorem zqx (list:Int) (zs:List (Int × ByteArray)) (hn:zs.length≤1000000) (hd:∀ x ∈ zs,R32 x.1) (a:Option Addr) (c lo:Nat) (W0 W:World) (v:Value) (KB SB M:Nat) (hlo:W0.heap.size≤lo) (hlw:lo≤W.heap.size) (hr:RowC W W0.heap.size a (zbl zs)) (ha:zgX W0 W 178 119 169 200 21 v KB SB M) :
  Calls Tryz.prog 113 #[.int .i64 list,.slice a zs.length c,v] W fun e w' =>e=.returned (wrV (zaG list zs.length (twF zs mp0 (fun x:Int × ByteArray =>x.1))))∧KeptX (fun b =>b=M) W w':=by
 obtain ⟨rfl,hag,hkb,hsb,hmb⟩:=ha
 refine zeg list zs hn a c 178 _ zli (twF zs mp0 (fun x:Int × ByteArray =>x.1)) (fun b =>b=M) (fun i w =>AgAt w KB SB M 119 i 169 200 21 (zeK (fun x:Int × ByteArray =>Lit.int .i32 x.1) zs i)) W0.heap.size W (by omega) (fun b hb =>by subst hb;exact ⟨hmb,hag.se.lt⟩) hr (by rw [zds];exact hag) (fun i w w' h hb =>h.below hb) (fun i x w hx hk hJ =>?_)
 have hi:i < zs.length:=(List.getElem?_eq_some_iff.1 hx).1
 have hmem:=List.mem_of_getElem? hx
 refine (zny x.1 x.2 ((fun x:Int × ByteArray =>Lit.int .i32 x.1) x) (keyOf_int_mk Tryz.underlying21 (zin (hd x hmem))) trivial KB SB M i (by omega) _ w hJ).mono ?_
 rintro e w' ⟨⟨b,rfl,hb⟩,h1,h2⟩
 refine ⟨by rw [zjk (lit:=(fun x:Int × ByteArray =>Lit.int .i32 x.1)) (key:=(fun x:Int × ByteArray =>x.1)) (d:=mp0) hx (fun y hy =>by simp) hb], ?_,h2⟩
 rw [zdt (fun x:Int × ByteArray =>Lit.int .i32 x.1) zs i x hx]
 exact h1
theorem zlW (zs:List (ByteArray × List (Int × Int))) (us:List Value) (hus:us.length=zs.length) (hn:zs.length≤1000000) (hd:∀ x ∈ zs,x.1.size≤maxLen) (a:Option Addr) (c lo:Nat) (W0 W:World) (v:Value) (KB SB M:Nat) (hlo:W0.heap.size≤lo) (hlw:lo≤W.heap.size) (hr:RowC W W0.heap.size a (zbG zs us)) (ha:zgX W0 W 176 121 171 204 9 v KB SB M) (hs:ScR W zs us) :
  Calls Tryz.prog 104 #[.int .i64 1,.slice a zs.length c,v] W fun e w' =>e=.returned (wrV (zaG 1 zs.length (twF zs sc0 (fun x:ByteArray × List (Int × Int) =>x.1.data.toList))))∧KeptX (fun b =>b=M) W w':=by
 obtain ⟨rfl,hag,hkb,hsb,hmb⟩:=ha
 refine zc1 1 zs us hus (hs.sl hus) hn a c 176 _ zia (twF zs sc0 (fun x:ByteArray × List (Int × Int) =>x.1.data.toList)) (fun b =>b=M) (fun i w =>AgAt w KB SB M 121 i 171 204 9 (zeK (fun x:ByteArray × List (Int × Int) =>Lit.string x.1.data.toList) zs i)) W0.heap.size W (by omega) (fun b hb =>by subst hb;exact ⟨hmb,hag.se.lt⟩) hr (by rw [zds];exact hag) (fun i w w' h hb =>h.below hb) (fun i x u w hx hu hk hJ =>?_)
 have hi:i < zs.length:=(List.getElem?_eq_some_iff.1 hx).1
 have hmem:=List.mem_of_getElem? hx
 obtain ⟨pb,pd,rfl,_⟩:=hs i x u hx hu
 refine (zi8 x.1 pb _ pd ((fun x:ByteArray × List (Int × Int) =>Lit.string x.1.data.toList) x) (Go.WideMaps.keyOf_string_mk Tryz.underlying9 (hd x hmem)) trivial KB SB M i (by omega) _ w hJ).mono ?_
 rintro e w' ⟨⟨b,rfl,hb⟩,h1,h2⟩
 refine ⟨by rw [zjk (lit:=(fun x:ByteArray × List (Int × Int) =>Lit.string x.1.data.toList)) (key:=(fun x:ByteArray × List (Int × Int) =>x.1.data.toList)) (d:=sc0) hx (fun y hy =>by simp) hb], ?_,h2⟩
 rw [zdt (fun x:ByteArray × List (Int × Int) =>Lit.string x.1.data.toList) zs i x hx]
 exact h1
theorem zb4 {M:Nat} {w w':World} (h:KeptX (fun b =>b=M) w w'):w.grownBy w' (some M):=⟨h.os,h.tape,h.output,h.size,fun k hk hne =>h.block k hk (fun e =>hne (by rw [e]))⟩
theorem AgAt.kept {w w':World} {KB SB M kf n N:Nat} {ft mt kt:TypeId} {S:Lit→Prop} (h:AgAt w KB SB M kf n ft mt kt S) (hg:w.grownBy w' (some N)) (h1:KB≠N) (h2:SB≠N) (h3:M≠N):AgAt w' KB SB M kf n ft mt kt S :=
 ⟨h.kb.kept hg (fun e =>h1 (Option.some.inj e)),h.sb.kept hg (fun e =>h2 (Option.some.inj e)),h.se.kept hg (fun e =>h3 (Option.some.inj e)),h.ks,h.ss⟩
theorem zfV:∃ m,Tryz.prog.types.size=m+1:=⟨Tryz.prog.types.size - 1,by kernel_rfl⟩
theorem zhZ {a b c d:Int} (ha:R32 a) (hb:R32 b) (hc:R32 c) (hd:R32 d) (h:keyBytes [Lit.int .i32 a,Lit.int .i32 b]=keyBytes [Lit.int .i32 c,Lit.int .i32 d]):a=c∧b=d:=by
 have k1:=WideMaps.keyOf_pair zq2 Tryz.underlying21 zfV (zin ha) (zin hb)
 have k2:=WideMaps.keyOf_pair zq2 Tryz.underlying21 zfV (zin hc) (zin hd)
 rw [← h] at k2
 have:=arr_keyed.inj k1 k2
 simpa using this
structure PrS (w:World) (WB PB KB1 SB1 M1 KB2 SB2 M2:Nat) (zs:List (Int × Int × Int)) (i j:Nat):Prop where
 wb:Blk w WB #[.func (.func 174) #[] #[.pointer (some ⟨KB1,0,none⟩),.pointer (some ⟨SB1,0,none⟩)]] 162
 pb:Blk w PB #[.func (.func 175) #[] #[.pointer (some ⟨KB2,0,none⟩),.pointer (some ⟨SB2,0,none⟩)]] 162
 a1:AgAt w KB1 SB1 M1 116 i 166 200 21 (zeK (fun x:Int × Int × Int =>Lit.int .i32 x.1) zs i)
 a2:AgAt w KB2 SB2 M2 118 j 168 203 134 (zeK (fun x:Int × Int × Int =>Lit.string (keyBytes [.int .i32 x.2.1,.int .i32 x.2.2])) zs j)
 ne:WB≠M1∧WB≠M2∧PB≠M1∧PB≠M2∧KB1≠M2∧SB1≠M2∧KB2≠M1∧SB2≠M1∧M1≠M2
theorem PrS.below {w w':World} {WB PB KB1 SB1 M1 KB2 SB2 M2:Nat} {zs:List (Int × Int × Int)} {i j:Nat} (h:PrS w WB PB KB1 SB1 M1 KB2 SB2 M2 zs i j) (hb:Below w.heap.size w w'):PrS w' WB PB KB1 SB1 M1 KB2 SB2 M2 zs i j:=⟨h.wb.below hb h.wb.lt,h.pb.below hb h.pb.lt,h.a1.below hb,h.a2.below hb,h.ne⟩
theorem zqF (b1 b2:Bool):orE [if b1=true then 14 else 0,if b2=true then 14 else 0]=if (b1 || b2)=true then 14 else 0:=by
 cases b1 <;> cases b2 <;> rfl
theorem zqy {zs:List (Int × Int × Int)} {i:Nat} {x:Int × Int × Int} {b1 b2:Bool} (hx:zs[i]?=some x) (hd:∀ x ∈ zs,R32 x.1∧R32 x.2.1∧R32 x.2.2) (h1:b1=true ↔ zeK (fun x:Int × Int × Int =>Lit.int .i32 x.1) zs i ((fun x:Int × Int × Int =>Lit.int .i32 x.1) x)) (h2:b2=true ↔ zeK (fun x:Int × Int × Int =>Lit.string (keyBytes [.int .i32 x.2.1,.int .i32 x.2.2])) zs i ((fun x:Int × Int × Int =>Lit.string (keyBytes [.int .i32 x.2.1,.int .i32 x.2.2])) x)):(if (b1 || b2)=true then (14:Int) else 0)=twP zs i:=by
 unfold twP
 rw [zcB pr0 hx]
 have hm:=hd x (List.mem_of_getElem? hx)
 have e:(b1 || b2)=(zs.take i).any (fun y =>decide (y.1=x.1∨(y.2.1=x.2.1∧y.2.2=x.2.2))):=by
  rw [Bool.eq_iff_iff,Bool.or_eq_true,h1,h2,List.any_eq_true]
  constructor
  ·rintro (⟨y,hy,hl⟩ | ⟨y,hy,hl⟩)
   ·exact ⟨y,hy,by simp at hl;simp [hl]⟩
   ·have hym:=hd y (List.mem_of_mem_take hy)
    have hl2:keyBytes [.int .i32 y.2.1,.int .i32 y.2.2]=keyBytes [.int .i32 x.2.1,.int .i32 x.2.2]:=by injection hl
    have:=zhZ hym.2.1 hym.2.2 hm.2.1 hm.2.2 hl2
    exact ⟨y,hy,by simp [this.1,this.2]⟩
  ·rintro ⟨y,hy,hk⟩
   rcases of_decide_eq_true hk with h | ⟨ha,hb⟩
   ·exact .inl ⟨y,hy,by show Lit.int .i32 y.1=Lit.int .i32 x.1;rw [h]⟩
   ·exact .inr ⟨y,hy,by show Lit.string _=Lit.string _;rw [ha,hb]⟩
 rw [e]
theorem zkG (x1 x2 x3:Int) (zs:List (Int × Int × Int)) (i:Nat) (hi:i≤1000000) (hx:zs[i]?=some (x1,x2,x3)) (hd:∀ x ∈ zs,R32 x.1∧R32 x.2.1∧R32 x.2.2) (WB PB KB1 SB1 M1 KB2 SB2 M2:Nat) (W:World) (hP:PrS W WB PB KB1 SB1 M1 KB2 SB2 M2 zs i i) :
  Calls Tryz.prog 124 #[.agg #[.int .i32 x1,.int .i32 x2,.int .i32 x3],.pointer (some ⟨WB,0,none⟩),.pointer (some ⟨PB,0,none⟩)] W fun e w' =>e=.returned (.int .i64 (twP zs i))∧PrS w' WB PB KB1 SB1 M1 KB2 SB2 M2 zs (i+1) (i+1)∧KeptX (fun b =>b=M1∨b=M2) W w':=by
 have hB0:Below W.heap.size W (W.alloc (.cells #[.int .i32 x1,.int .i32 x2,.int .i32 x3] 117)).drew:=((Below.refl _ W).alloc (Nat.le_refl _) _).trans ⟨rfl,rfl,rfl,Nat.le_refl _,fun _ _ =>rfl⟩
 have bX:Blk (W.alloc (.cells #[.int .i32 x1,.int .i32 x2,.int .i32 x3] 117)).drew W.heap.size #[.int .i32 x1,.int .i32 x2,.int .i32 x3] 117:=Blk.new W #[.int .i32 x1,.int .i32 x2,.int .i32 x3] 117
 have H0:=kz (And.intro (hP.below hB0) (And.intro bX hB0))
 have hm:=hd _ (List.mem_of_getElem? hx)
 have HL:=kz (And.intro hm.1 (And.intro hm.2.1 hm.2.2))
 have HT:Hz (∀ b1 b2:Bool,(b1=true ↔ zeK (fun x:Int × Int × Int =>Lit.int .i32 x.1) zs i (Lit.int .i32 x1))→(b2=true ↔ zeK (fun x:Int × Int × Int =>Lit.string (keyBytes [.int .i32 x.2.1,.int .i32 x.2.2])) zs i (Lit.string (keyBytes [.int .i32 x2,.int .i32 x3])))→orE [if b1=true then 14 else 0,if b2=true then 14 else 0]=twP zs i):=kz (fun b1 b2 h1 h2 =>by rw [zqF];exact zqy hx hd h1 h2)
 have HS1:=kz (zdt (fun x:Int × Int × Int =>Lit.int .i32 x.1) zs i _ hx)
 have HS2:=kz (zdt (fun x:Int × Int × Int =>Lit.string (keyBytes [.int .i32 x.2.1,.int .i32 x.2.2])) zs i _ hx)
 have HNM:Hz (M1 < W.heap.size∧M2 < W.heap.size):=kz ⟨hP.a1.se.lt,hP.a2.se.lt⟩
 have z0:(W.alloc (.cells #[.int .i32 x1,.int .i32 x2,.int .i32 x3] 117)).drew.cell? ⟨WB,0,none⟩=some (.func (.func 174) #[] #[.pointer (some ⟨KB1,0,none⟩),.pointer (some ⟨SB1,0,none⟩)]):=(oz H0).1.wb.cell 0
 have z1:(W.alloc (.cells #[.int .i32 x1,.int .i32 x2,.int .i32 x3] 117)).drew.cell? ⟨PB,0,none⟩=some (.func (.func 175) #[] #[.pointer (some ⟨KB2,0,none⟩),.pointer (some ⟨SB2,0,none⟩)]):=(oz H0).1.pb.cell 0
 have z2:(W.alloc (.cells #[.int .i32 x1,.int .i32 x2,.int .i32 x3] 117)).drew.cell? ⟨W.heap.size,0,none⟩=some (.int .i32 x1):=(oz H0).2.1.cell 0
 have z3:(W.alloc (.cells #[.int .i32 x1,.int .i32 x2,.int .i32 x3] 117)).drew.cell? ⟨W.heap.size,1,none⟩=some (.int .i32 x2):=(oz H0).2.1.cell 1
 have z4:(W.alloc (.cells #[.int .i32 x1,.int .i32 x2,.int .i32 x3] 117)).drew.cell? ⟨W.heap.size,2,none⟩=some (.int .i32 x3):=(oz H0).2.1.cell 2
 clear hB0 bX hP hx hd hm
 go_enter Tryz.func124,Tryz.ntmps124
 go_wp2_with fail
 generalize W.alloc (.cells #[.int .i32 x1,.int .i32 x2,.int .i32 x3] 117)=w0 at *
 go_region_held3 (fun w' =>w'.cell? ⟨WB,0,none⟩=some (.func (.func 174) #[] #[.pointer (some ⟨KB1,0,none⟩),.pointer (some ⟨SB1,0,none⟩)])∧w'.cell? ⟨PB,0,none⟩=some (.func (.func 175) #[] #[.pointer (some ⟨KB2,0,none⟩),.pointer (some ⟨SB2,0,none⟩)])∧w'.cell? ⟨W.heap.size,0,none⟩=some (.int .i32 x1)∧w'.cell? ⟨W.heap.size,1,none⟩=some (.int .i32 x2)∧w'.cell? ⟨W.heap.size,2,none⟩=some (.int .i32 x3)) (first | with_reducible exact ⟨z0,z1,z2,z3,z4⟩ | with_reducible exact ⟨y0,y1,y2,y3,y4⟩ | with_reducible exact ⟨t0,t1,t2,t3,t4⟩ | with_reducible exact ⟨zaU _ t0,zaU _ t1,zaU _ t2,zaU _ t3,zaU _ t4⟩)
  (first
  | (go_at_call 125;refine (zbo [zz1,zz2] (by simp) _ 0 _ _ (zjc _ _ _ _ _ (by first | rfl | simp))).mono ?_;rintro e w4 ⟨rfl,rfl⟩)
  | (go_at_call 175;refine (zj7 x1 x2 x3 (Lit.string (keyBytes [.int .i32 x2,.int .i32 x3])) (WideMaps.keyOf_pair zq2 Tryz.underlying21 zfV (zin (oz HL).2.1) (zin (oz HL).2.2)) trivial KB2 SB2 M2 i hi _ wa (oz HA).1.a2).mono ?_;rintro e wb ⟨⟨b2,he2,hb2⟩,h1,h2⟩;obtain ⟨zz2,hz2⟩:∃ z:Int,(if b2=true then 14 else 0)=z:=⟨_,rfl⟩;rw [hz2] at he2;subst he2;have HB:=kz (And.intro (show PrS wb WB PB KB1 SB1 M1 KB2 SB2 M2 zs (i+1) (i+1) from ⟨(oz HA).1.wb.kept (zb4 h2) (fun e =>(oz HA).1.ne.2.1 (Option.some.inj e)),(oz HA).1.pb.kept (zb4 h2) (fun e =>(oz HA).1.ne.2.2.2.1 (Option.some.inj e)),(oz HA).1.a1.kept (zb4 h2) (oz HA).1.ne.2.2.2.2.1 (oz HA).1.ne.2.2.2.2.2.1 (oz HA).1.ne.2.2.2.2.2.2.2.2,(by rw [oz HS2];exact h1),(oz HA).1.ne⟩) (And.intro ((oz HA).2.1.kept (zb4 h2) (fun e =>by have:=Option.some.inj e;have:=(oz HNM).2;omega)) (And.intro ((oz HA).2.2.1.trans (h2.mono (fun k q =>.inr q))) (And.intro (oz HA).2.2.2 (And.intro hz2 hb2)))));have t0:wb.cell? ⟨WB,0,none⟩=some (.func (.func 174) #[] #[.pointer (some ⟨KB1,0,none⟩),.pointer (some ⟨SB1,0,none⟩)]):=(oz HB).1.wb.cell 0;have t1:wb.cell? ⟨PB,0,none⟩=some (.func (.func 175) #[] #[.pointer (some ⟨KB2,0,none⟩),.pointer (some ⟨SB2,0,none⟩)]):=(oz HB).1.pb.cell 0;have t2:wb.cell? ⟨W.heap.size,0,none⟩=some (.int .i32 x1):=(oz HB).2.1.cell 0;have t3:wb.cell? ⟨W.heap.size,1,none⟩=some (.int .i32 x2):=(oz HB).2.1.cell 1;have t4:wb.cell? ⟨W.heap.size,2,none⟩=some (.int .i32 x3):=(oz HB).2.1.cell 2;clear h1 h2 hb2 hz2)
  | (go_at_call 174;refine (zj6 x1 x2 x3 (Lit.int .i32 x1) (keyOf_int_mk Tryz.underlying21 (zin (oz HL).1)) trivial KB1 SB1 M1 i hi _ w0.drew (oz H0).1.a1).mono ?_;rintro e wa ⟨⟨b1,he1,hb1⟩,h1,h2⟩;obtain ⟨zz1,hz1⟩:∃ z:Int,(if b1=true then 14 else 0)=z:=⟨_,rfl⟩;rw [hz1] at he1;subst he1;have HA:=kz (And.intro (show PrS wa WB PB KB1 SB1 M1 KB2 SB2 M2 zs (i+1) i from ⟨(oz H0).1.wb.kept (zb4 h2) (fun e =>(oz H0).1.ne.1 (Option.some.inj e)),(oz H0).1.pb.kept (zb4 h2) (fun e =>(oz H0).1.ne.2.2.1 (Option.some.inj e)),(by rw [oz HS1];exact h1),(oz H0).1.a2.kept (zb4 h2) (oz H0).1.ne.2.2.2.2.2.2.1 (oz H0).1.ne.2.2.2.2.2.2.2.1 (fun e =>(oz H0).1.ne.2.2.2.2.2.2.2.2 e.symm),(oz H0).1.ne⟩) (And.intro ((oz H0).2.1.kept (zb4 h2) (fun e =>by have:=Option.some.inj e;have:=(oz HNM).1;omega)) (And.intro ((zaw (oz H0).2.2 (fun b =>b=M1∨b=M2)).trans (h2.mono (fun k q =>.inl q))) (And.intro hz1 hb1))));have y0:wa.cell? ⟨WB,0,none⟩=some (.func (.func 174) #[] #[.pointer (some ⟨KB1,0,none⟩),.pointer (some ⟨SB1,0,none⟩)]):=(oz HA).1.wb.cell 0;have y1:wa.cell? ⟨PB,0,none⟩=some (.func (.func 175) #[] #[.pointer (some ⟨KB2,0,none⟩),.pointer (some ⟨SB2,0,none⟩)]):=(oz HA).1.pb.cell 0;have y2:wa.cell? ⟨W.heap.size,0,none⟩=some (.int .i32 x1):=(oz HA).2.1.cell 0;have y3:wa.cell? ⟨W.heap.size,1,none⟩=some (.int .i32 x2):=(oz HA).2.1.cell 1;have y4:wa.cell? ⟨W.heap.size,2,none⟩=some (.int .i32 x3):=(oz HA).2.1.cell 2;clear h1 h2 hb1 hz1))
 all_goals
  go_wp2_with fail
  go_ret
  have hB:=oz HB
  refine ⟨?_,hB.1.below ((Below.refl _ wb).alloc (Nat.le_refl _) _),hB.2.2.1.trans (zaw ((Below.refl _ wb).alloc (Nat.le_refl _) _) _)⟩
  rw [← oz HT b1 b2 hB.2.2.2.1.2 hB.2.2.2.2.2,hB.2.2.2.1.1,hB.2.2.2.2.1]
  rfl
theorem zqe:∀ args w,(callFunc 124 args).run Tryz.prog w=.ok (.enter 124 args) w:=enters_of Tryz.func124 (by kernel_rfl) rfl
theorem zpu (zs:List (Int × Int × Int)) (hn:zs.length≤1000000) (hd:∀ x ∈ zs,R32 x.1∧R32 x.2.1∧R32 x.2.2) (a:Option Addr) (c lo:Nat) (W:World) (WB PB KB1 SB1 M1 KB2 SB2 M2:Nat) (hr:RowC W lo a (zcL zs)) (h:PrS W WB PB KB1 SB1 M1 KB2 SB2 M2 zs 0 0) (hlo:lo≤W.heap.size) (hm:lo≤M1∧lo≤M2) :
  Calls Tryz.prog 111 #[.int .i64 4,.slice a zs.length c,.func (.func 124) #[] #[.pointer (some ⟨WB,0,none⟩),.pointer (some ⟨PB,0,none⟩)]] W fun e w' =>e=.returned (wrV (zaG 4 zs.length (twP zs)))∧KeptX (fun b =>b=M1∨b=M2) W w' :=
 zdO 4 zs hn a c 124 _ zqe (twP zs) (fun b =>b=M1∨b=M2) (fun i w =>PrS w WB PB KB1 SB1 M1 KB2 SB2 M2 zs i i) lo W hlo (fun b hb =>by
  rcases hb with rfl | rfl
  ·exact ⟨hm.1,h.a1.se.lt⟩
  ·exact ⟨hm.2,h.a2.se.lt⟩) hr h (fun i w w' hJ hb =>hJ.below hb) (fun i x w hx hk hJ =>zkG x.1 x.2.1 x.2.2 zs i (by have:=(List.getElem?_eq_some_iff.1 hx).1;omega) hx hd WB PB KB1 SB1 M1 KB2 SB2 M2 w hJ)
end Go.Proofs.YtmemedpoaocdkaaGreat
