/- The runes of a text, as the reference reads them. -/
import Derived.Test.YtmemedpoaocdkaaGreatM5
import Derived.Test.YtmemedpoaocdkaaGreatM3
namespace Go.Proofs.YtmemedpoaocdkaaGreat
open Go.RowKit Go.Shelf
set_option linter.unusedVariables false
set_option maxRecDepth 100000 in
set_option maxHeartbeats 2000000 in
theorem zha (v:Nat) (hv:v≤8388607) (w:World):Calls Tryz.prog 62 #[.int .i32 v] w fun e w' =>e=.returned (.bool (zef v))∧w'=w:=by
 have h0:(0:Int)≤(v:Int):=by omega
 have HV:Hz (zef v=decide (v≤1114111∧(v < 55296∨57343 < v))):=kz rfl
 generalize zef v=B at *
 by_cases h1:v≤1114111
 ·have k1:(v:Int)≤1114111:=by omega
  by_cases h2:v < 55296
  ·have k2:(v:Int) < 55296:=by omega
   go_enter Tryz.func62,Tryz.ntmps62
   go_wp2_with fail
   go_ret
   exact ⟨by rw [oz HV,decide_eq_true (show v≤1114111∧(v < 55296∨57343 < v) by omega)];rfl,rfl⟩
  ·have k2:¬ (v:Int) < 55296:=by omega
   by_cases h3:57343 < v
   ·have k3:(57343:Int) < (v:Int):=by omega
    go_enter Tryz.func62,Tryz.ntmps62
    go_wp2_with fail
    go_ret
    exact ⟨by rw [oz HV,decide_eq_true (show v≤1114111∧(v < 55296∨57343 < v) by omega)];rfl,rfl⟩
   ·have k3:¬ (57343:Int) < (v:Int):=by omega
    go_enter Tryz.func62,Tryz.ntmps62
    go_wp2_with fail
    go_ret
    exact ⟨by rw [oz HV,decide_eq_false (show ¬ (v≤1114111∧(v < 55296∨57343 < v)) by omega)];rfl,rfl⟩
 ·have k1:¬ (v:Int)≤1114111:=by omega
  go_enter Tryz.func62,Tryz.ntmps62
  go_wp2_with fail
  go_ret
  exact ⟨by rw [oz HV,decide_eq_false (show ¬ (v≤1114111∧(v < 55296∨57343 < v)) by omega)];rfl,rfl⟩
theorem zmo (a:Int) (h0:0≤a) (h1:a < 2147483648):wrap32 a=a:=by unfold wrap32;omega
theorem zqm (r c:Nat) (h1:c < 192) (h2:128≤c) (h3:r < 131072):wrap32 (wrap32 ((r:Int)*64)+((c:Int) - 128))=((r*64+(c - 128):Nat):Int):=by
 rw [zmo ((r:Int)*64) (by omega) (by omega),zmo _ (by omega) (by omega)]
 omega
theorem zf1 {w:World} {ops:Array Oper} {rest:List Oper} {o:Oper} {a:Act} {Q:Exit→Act→World→Prop} (hgd:o.guard=none) (s x:Operand) (T E:TypeId)
  (ho:o.op=.call { callee := .builtin .append,args:=#[s,x],argTypes:=#[T,T] }) (i:TypeInfo) (z:Value) (sz bytes:Nat) (hT:Tryz.prog.underlying T=some (.slice E)) (hi:Tryz.prog.info? E=some i∧i.zero=some z∧i.size=sz∧i.bytes=bytes) (hzs:z.cells.size=sz) (hsz:0 < sz) (hb8:bytes≤64)
  (lo:Nat) (v:Value) (n:Nat) (xs:List Value) (cs:List Value) (hcs:cs.length=sz) (hs:a.eval s=v) (hl:n≤4000000) (W:World) (hW:w=W.alloc (.cells cs.toArray E)) (hu:∀ u ∈ cs,u.oneCell'=true) (hv:W.ownsRow lo E sz v n xs) (hlo:lo≤W.heap.size) (m:Nat) (hm:m=W.heap.size) (hx:a.eval x=.slice (some ⟨m,0,none⟩) 1 1)
  (h:∀ v' w',w'.ownsRow lo E sz v' (n+1) (xs++cs)→(W.alloc (.cells cs.toArray E)).grownBy w' v.ownBlock→wpList Tryz.prog ops Q rest (a.put o.dst v') w'):wpList Tryz.prog ops Q (o::rest) a w:=by
 subst hW
 subst hm
 have b:=Blk.new W cs.toArray E
 refine wpList_append_own _ hgd s x T ho lo E i z sz bytes hT hi.1 hi.2.1 hi.2.2.1 hi.2.2.2 hzs hsz v n xs hs (hv.alloc _) ⟨W.heap.size,0,none⟩ 1 1 cs hx (by omega) (fun j y hj =>?_) hu (by unfold maxLen;omega) ?_ (by simp;omega) (fun v' w' h4 h5 _ =>h v' w' h4 h5)
 ·have e:=b.cell j
  rw [List.getElem?_toArray,hj] at e
  have ea:(⟨W.heap.size,0,none⟩:Addr).add j=⟨W.heap.size,j,none⟩:=by cases j <;> simp [Addr.add]
  rw [ea]
  exact e
 ·have:(n+1)*bytes≤4000001*64:=Nat.mul_le_mul (by omega) hb8
  omega
/-- The list that is being made. -/
structure R6 (W wr:World) (v:Value) (zs:List Int):Prop where
 o:wr.ownsRow W.heap.size 21 1 v zs.length (znM zs)
 b:Below W.heap.size W wr
theorem R6.put {W w w':World} {v v':Value} {zs:List Int} {z:Int} {c:Obj} (h:R6 W w v zs) (ho:w'.ownsRow W.heap.size 21 1 v' (zs.length+1) (znM zs++[.int .i32 z])) (hg:(w.alloc c).grownBy w' v.ownBlock):R6 W w' v' (zs++[z]):=by
 refine ⟨?_,(h.b.trans ((Below.refl _ w).alloc h.b.size c)).grown hg (by have:=h.b.size;simp;omega) (fun k hk =>zbH h.o k hk)⟩
 rw [List.length_append]
 unfold znM
 rw [List.map_append]
 exact ho
set_option maxRecDepth 100000 in
set_option maxHeartbeats 4000000 in
theorem zcB (s:ByteArray) (hs:s.size≤1048576) (W:World):Calls Tryz.prog 90 #[.string s] W fun e w' =>(okU s=true→∃ v,e=.returned (.tuple #[v,.bool true])∧w'.ownsRow W.heap.size 21 1 v (zah s).length (znM (zah s)))∧(okU s=false→e=.returned (.tuple #[.slice none 0 0,.bool false]))∧Below W.heap.size W w':=by
 obtain ⟨ii,hii,hi0,hi1,hi2⟩:=info_parts zqQ
 have HII:=kz (And.intro hii (And.intro hi0 (And.intro hi1 hi2)))
 clear hii hi0 hi1 hi2
 have HS0:Hz (R6 W W (.slice none 0 0) []):=kz ⟨World.ownsRow_nil _ _ _ _,Below.refl _ _⟩
 have HR0:=kz (RuQ.start s)
 go_enter Tryz.func90,Tryz.ntmps90
 go_wp2_with fail
 generalize hOK:okU s=OK at *
 have HOK:=kz hOK
 clear hOK
 go_loopw [4,5] (fun ov iv wr => ∃ (i f:Nat) (zs:List Int),iv=.int .i64 i∧i≤s.size∧Hz (RuQ s i f zs)∧Hz (R6 W wr ov zs)) (fun _ iv _ =>s.size - (intOf iv).toNat)
 case atStart =>exact ⟨0,_,[],rfl,Nat.zero_le _,HR0,HS0⟩
 case round =>
  obtain ⟨i,f,zs,rfl,hi,HR,HS⟩:=hrel
  clear HR0 HS0
  by_cases hin:i < s.size
  ·have k1:(i:Int) < (s.size:Int):=by omega
   have k2:((i:Nat):Int).toNat=i:=by omega
   obtain ⟨b,hb⟩:∃ b,bt s i=b:=⟨_,rfl⟩
   have hg:(s[i]'hin).toNat=b:=by rw [← zhz s i hin];exact hb
   have hb256:=zfX s i
   rw [hb] at hb256
   have hw:wrap32 ((b:Nat):Int)=(b:Nat):=by unfold wrap32;omega
   by_cases h128:b < 128
   ·have k3:((b:Nat):Int) < 128:=by omega
    obtain ⟨d1,d2,d3⟩:=zq4 s i (by rw [hb];exact h128)
    obtain ⟨f2,hf2⟩:=(oz HR).next hin d3
    rw [d1,d2,hb] at hf2
    have HR2:=kz hf2
    have hzl:=(oz HR).ln
    have ho:=(oz HS).o
    have HO:=kz ho
    obtain ⟨va,vc,rfl⟩:=zaL ho
    clear d1 d2 d3 hf2 ho hb
    go_wp2_with (at_builtin;refine zf1 rfl _ _ 88 21 rfl ii (.int .i32 0) 1 4 Tryz.underlying88 (oz HII) rfl (by decide) (by decide) W.heap.size _ zs.length (znM zs) [.int .i32 b] rfl rfl (by omega) wr rfl (by intro u hu;simp at hu;rw [hu];rfl) (oz HO) (oz HS).b.size _ rfl rfl ?_)
    intro v' w' hown hgrow
    have HS2:=kz ((oz HS).put (z:=((b:Nat):Int)) hown hgrow)
    clear hown hgrow
    go_wp2_with fail
    exact ⟨⟨i+1,f2,_,by first | rfl | (congr 1;omega),by omega,HR2,HS2⟩,by simp [intOf];omega⟩
   ·have k3:¬ ((b:Nat):Int) < 128:=by omega
    by_cases c1:192≤b∧b < 224
    ·obtain ⟨c1a,c1b⟩:=c1
     have t1a:(192:Int)≤((b:Nat):Int):=by omega
     have t1b:((b:Nat):Int) < 224:=by omega
     obtain ⟨r0,hr0⟩:∃ r0:Nat,r0=zdi s i 192 0:=⟨_,rfl⟩
     have hr1:((b:Nat):Int) - 192=((r0:Nat):Int):=by
      rw [hr0]
      show _=((bt s i - 192:Nat):Int)
      omega
     have HR1:Hz (r0=zdi s i 192 (1 - 1)∧∀ q,1≤q→q < 1→zgl s (i+q)):=kz ⟨hr0,fun q a c =>by omega⟩
     have hw2:wrap32 (((b:Nat):Int) - 192)=((b:Nat):Int) - 192:=by unfold wrap32;omega
     clear hr0
     go_wp2_with fail
     go_loopw [8,9] (fun rv kv wq => ∃ (r k:Nat),rv=.int .i32 r∧kv=.int .i64 k∧1≤k∧k≤1+1∧wq=wr∧Hz (r=zdi s i 192 (k - 1)∧∀ q,1≤q→q < k→zgl s (i+q))) (fun _ kv _ =>1+1 - (intOf kv).toNat)
     case atStart =>exact ⟨r0,1,by first | rfl | rw [hr1],rfl,Nat.le_refl _,by omega,rfl,HR1⟩
     case round =>
      obtain ⟨r,k,rfl,rfl,hk1,hk2,rfl,HC⟩:=hrel
      clear HR1 hr1 hw2
      have hrb:r < 32*64 ^ (k - 1):=by rw [(oz HC).1];exact zis s i 192 (by omega) (k - 1) (fun q a c =>(oz HC).2 q a (by omega))
      by_cases hkn:k≤1
      ·have k5:((k:Nat):Int)≤1:=by omega
       obtain ⟨e,he0⟩:∃ e:Nat,e=i+k:=⟨_,rfl⟩
       have k6:((i:Nat):Int)+((k:Nat):Int)=((e:Nat):Int):=by omega
       have k7:((e:Nat):Int).toNat=e:=by omega
       have HE:=kz he0
       clear he0
       by_cases hes:e < s.size
       ·have k8:¬ ((s.size:Nat):Int)≤((e:Nat):Int):=by omega
        have k8b:((e:Nat):Int) < ((s.size:Nat):Int):=by omega
        obtain ⟨c,hc⟩:∃ c,bt s e=c:=⟨_,rfl⟩
        have hgc:(s[e]'hes).toNat=c:=by rw [← zhz s e hes];exact hc
        have hc256:=zfX s e
        rw [hc] at hc256
        by_cases hc1:c < 128
        ·have k9:((c:Nat):Int) < 128:=by omega
         have HF:=kz ((oz HR).bad hin (zdw s i 1 (by decide) (by rw [hb];show 192≤b;omega) (by rw [hb];show b < 224;omega) (fun z =>by have:=z.1 k hk1 hkn;rw [← oz HE] at this;have:=this.2.1;rw [hc] at this;omega)))
         have HB:=kz (oz HS).b
         clear hb hc hrb
         go_wp2_with fail
         refine bodyPost_ret (v := .tuple #[.slice none 0 0,.bool false]) (by simp [results,Tryz.results90,go_sem]) rfl ⟨fun h =>?_,fun _ =>rfl,oz HB⟩
         rw [oz HF] at h
         cases h
        ·have k9:¬ ((c:Nat):Int) < 128:=by omega
         by_cases hc2:c < 192
         ·have k10:¬ (192:Int)≤((c:Nat):Int):=by omega
          have hrb3:r < 131072:=Nat.lt_of_lt_of_le hrb (Nat.le_trans (Nat.mul_le_mul_left 32 (Nat.pow_le_pow_right (by decide) (show k - 1≤2 by omega))) (by decide))
          have HN:Hz (r*64+(c - 128)=zdi s i 192 (k+1 - 1)∧∀ q,1≤q→q < k+1→zgl s (i+q)):=kz ⟨by
           obtain ⟨j,rfl⟩:∃ j,k=j+1:=⟨k - 1,by omega⟩
           show _=zdi s i 192 j*64+(bt s (i+(j+1)) - 128)
           rw [(oz HC).1, ← oz HE,hc]
           rfl,fun q a d =>by
           rcases Nat.lt_or_ge q k with z | z
           ·exact (oz HC).2 q a z
           ·obtain rfl:q=k:=by omega
            rw [← oz HE]
            exact ⟨hes,by rw [hc];omega,by rw [hc];omega⟩⟩
          have HDD:Hz (c < 192∧128≤c∧r < 131072):=kz ⟨hc2,by omega,hrb3⟩
          clear hrb hrb3 hc1 hc2 hc256 hc hb HC
          go_wp2_with fail
          obtain ⟨x1,x2,x3⟩:=oz HDD
          exact ⟨⟨r*64+(c - 128),k+1,by rw [zqm r c x1 x2 x3],rfl,by omega,by omega,trivial,HN⟩,by simp [intOf];omega⟩
         ·have k10:(192:Int)≤((c:Nat):Int):=by omega
          have HF:=kz ((oz HR).bad hin (zdw s i 1 (by decide) (by rw [hb];show 192≤b;omega) (by rw [hb];show b < 224;omega) (fun z =>by have:=z.1 k hk1 hkn;rw [← oz HE] at this;have:=this.2.2;rw [hc] at this;omega)))
          have HB:=kz (oz HS).b
          clear hb hc hrb
          go_wp2_with fail
          refine bodyPost_ret (v := .tuple #[.slice none 0 0,.bool false]) (by simp [results,Tryz.results90,go_sem]) rfl ⟨fun h =>?_,fun _ =>rfl,oz HB⟩
          rw [oz HF] at h
          cases h
       ·have k8:((s.size:Nat):Int)≤((e:Nat):Int):=by omega
        have HF:=kz ((oz HR).bad hin (zdw s i 1 (by decide) (by rw [hb];show 192≤b;omega) (by rw [hb];show b < 224;omega) (fun z =>by have:=z.1 k hk1 hkn;rw [← oz HE] at this;exact hes this.1)))
        have HB:=kz (oz HS).b
        clear hb hrb
        go_wp2_with fail
        refine bodyPost_ret (v := .tuple #[.slice none 0 0,.bool false]) (by simp [results,Tryz.results90,go_sem]) rfl ⟨fun h =>?_,fun _ =>rfl,oz HB⟩
        rw [oz HF] at h
        cases h
      ·have k5:¬ ((k:Nat):Int)≤1:=by omega
       obtain rfl:k=2:=by omega
       have hrb3:r < 8388608:=Nat.lt_of_lt_of_le hrb (by decide)
       have hrv:r=zdi s i 192 1:=(oz HC).1
       have hcc:∀ q,1≤q→q≤1→zgl s (i+q):=fun q a c =>(oz HC).2 q a (by omega)
       by_cases hl:r < 128
       ·have k6:((r:Nat):Int) < 128:=by omega
        have HF:=kz ((oz HR).bad hin (zdw s i 1 (by decide) (by rw [hb];show 192≤b;omega) (by rw [hb];show b < 224;omega) (fun z =>by have z2:128≤zdi s i 192 1:=z.2.1;rw [← hrv] at z2;omega)))
        have HB:=kz (oz HS).b
        clear hb hrb hrv hcc hrb3 HC
        go_wp2_with fail
        refine bodyPost_ret (v := .tuple #[.slice none 0 0,.bool false]) (by simp [results,Tryz.results90,go_sem]) rfl ⟨fun h =>?_,fun _ =>rfl,oz HB⟩
        rw [oz HF] at h
        cases h
       ·have k6:¬ ((r:Nat):Int) < 128:=by omega
        have HRU:=kz (zha r (by omega) wr)
        cases hsc:zef r with
        | false =>
         rw [hsc] at HRU
         have HF:=kz ((oz HR).bad hin (zdw s i 1 (by decide) (by rw [hb];show 192≤b;omega) (by rw [hb];show b < 224;omega) (fun z =>by have z2:zef (zdi s i 192 1)=true:=z.2.2;rw [← hrv,hsc] at z2;cases z2)))
         have HB:=kz (oz HS).b
         clear hb hrb hrv hcc hrb3 HC hsc
         go_wp2_with (go_at_call 62;refine (oz HRU).mono ?_;rintro e wn ⟨rfl,hwn⟩;subst wn)
         refine bodyPost_ret (v := .tuple #[.slice none 0 0,.bool false]) (by simp [results,Tryz.results90,go_sem]) rfl ⟨fun h =>?_,fun _ =>rfl,oz HB⟩
         rw [oz HF] at h
         cases h
        | true =>
         rw [hsc] at HRU
         obtain ⟨d1,d2,d3⟩:=zkG s i 1 (by decide) (by rw [hb];show 192≤b;omega) (by rw [hb];show b < 224;omega) hcc (by show 128≤zdi s i 192 1;rw [← hrv];omega) (by show zef (zdi s i 192 1)=true;rw [← hrv];exact hsc)
         obtain ⟨f2,hf2⟩:=(oz HR).next hin d3
         have d1b:rn s i=r:=d1.trans hrv.symm
         rw [d1b,d2] at hf2
         have HR2:=kz hf2
         have hwr:i+2≤s.size:=by have:=zdh s i hin;rw [d2] at this;exact this
         have hzl:=(oz HR).ln
         have ho:=(oz HS).o
         have HO:=kz ho
         obtain ⟨va,vc,rfl⟩:=zaL ho
         clear d1 d2 d3 d1b hf2 ho hb hrb hrv hcc hrb3 HC hsc
         go_wp2_with (first | (go_at_call 62;refine (oz HRU).mono ?_;rintro e wn ⟨rfl,hwn⟩;subst wn) | (at_builtin;refine zf1 rfl _ _ 88 21 rfl ii (.int .i32 0) 1 4 Tryz.underlying88 (oz HII) rfl (by decide) (by decide) W.heap.size _ zs.length (znM zs) [.int .i32 r] rfl rfl (by omega) wr rfl (by intro u hu;simp at hu;rw [hu];rfl) (oz HO) (oz HS).b.size _ rfl rfl ?_))
         intro v' w' hown hgrow
         have HS2:=kz ((oz HS).put (z:=((r:Nat):Int)) hown hgrow)
         clear hown hgrow
         go_wp2_with fail
         exact ⟨⟨i+2,f2,_,by first | rfl | (congr 1;omega),hwr,HR2,HS2⟩,by simp [intOf];omega⟩
    ·have z1:=c1
     clear c1
     by_cases c1:224≤b∧b < 240
     ·obtain ⟨c1a,c1b⟩:=c1
      have t1a:(192:Int)≤((b:Nat):Int):=by omega
      have t1b:¬ ((b:Nat):Int) < 224:=by omega
      have t2a:(224:Int)≤((b:Nat):Int):=by omega
      have t2b:((b:Nat):Int) < 240:=by omega
      obtain ⟨r0,hr0⟩:∃ r0:Nat,r0=zdi s i 224 0:=⟨_,rfl⟩
      have hr1:((b:Nat):Int) - 224=((r0:Nat):Int):=by
       rw [hr0]
       show _=((bt s i - 224:Nat):Int)
       omega
      have HR1:Hz (r0=zdi s i 224 (1 - 1)∧∀ q,1≤q→q < 1→zgl s (i+q)):=kz ⟨hr0,fun q a c =>by omega⟩
      have hw2:wrap32 (((b:Nat):Int) - 224)=((b:Nat):Int) - 224:=by unfold wrap32;omega
      clear hr0
      go_wp2_with fail
      go_loopw [8,9] (fun rv kv wq => ∃ (r k:Nat),rv=.int .i32 r∧kv=.int .i64 k∧1≤k∧k≤2+1∧wq=wr∧Hz (r=zdi s i 224 (k - 1)∧∀ q,1≤q→q < k→zgl s (i+q))) (fun _ kv _ =>2+1 - (intOf kv).toNat)
      case atStart =>exact ⟨r0,1,by first | rfl | rw [hr1],rfl,Nat.le_refl _,by omega,rfl,HR1⟩
      case round =>
       obtain ⟨r,k,rfl,rfl,hk1,hk2,rfl,HC⟩:=hrel
       clear HR1 hr1 hw2
       have hrb:r < 32*64 ^ (k - 1):=by rw [(oz HC).1];exact zis s i 224 (by omega) (k - 1) (fun q a c =>(oz HC).2 q a (by omega))
       by_cases hkn:k≤2
       ·have k5:((k:Nat):Int)≤2:=by omega
        obtain ⟨e,he0⟩:∃ e:Nat,e=i+k:=⟨_,rfl⟩
        have k6:((i:Nat):Int)+((k:Nat):Int)=((e:Nat):Int):=by omega
        have k7:((e:Nat):Int).toNat=e:=by omega
        have HE:=kz he0
        clear he0
        by_cases hes:e < s.size
        ·have k8:¬ ((s.size:Nat):Int)≤((e:Nat):Int):=by omega
         have k8b:((e:Nat):Int) < ((s.size:Nat):Int):=by omega
         obtain ⟨c,hc⟩:∃ c,bt s e=c:=⟨_,rfl⟩
         have hgc:(s[e]'hes).toNat=c:=by rw [← zhz s e hes];exact hc
         have hc256:=zfX s e
         rw [hc] at hc256
         by_cases hc1:c < 128
         ·have k9:((c:Nat):Int) < 128:=by omega
          have HF:=kz ((oz HR).bad hin (zdw s i 2 (by decide) (by rw [hb];show 224≤b;omega) (by rw [hb];show b < 240;omega) (fun z =>by have:=z.1 k hk1 hkn;rw [← oz HE] at this;have:=this.2.1;rw [hc] at this;omega)))
          have HB:=kz (oz HS).b
          clear hb hc hrb
          go_wp2_with fail
          refine bodyPost_ret (v := .tuple #[.slice none 0 0,.bool false]) (by simp [results,Tryz.results90,go_sem]) rfl ⟨fun h =>?_,fun _ =>rfl,oz HB⟩
          rw [oz HF] at h
          cases h
         ·have k9:¬ ((c:Nat):Int) < 128:=by omega
          by_cases hc2:c < 192
          ·have k10:¬ (192:Int)≤((c:Nat):Int):=by omega
           have hrb3:r < 131072:=Nat.lt_of_lt_of_le hrb (Nat.le_trans (Nat.mul_le_mul_left 32 (Nat.pow_le_pow_right (by decide) (show k - 1≤2 by omega))) (by decide))
           have HN:Hz (r*64+(c - 128)=zdi s i 224 (k+1 - 1)∧∀ q,1≤q→q < k+1→zgl s (i+q)):=kz ⟨by
            obtain ⟨j,rfl⟩:∃ j,k=j+1:=⟨k - 1,by omega⟩
            show _=zdi s i 224 j*64+(bt s (i+(j+1)) - 128)
            rw [(oz HC).1, ← oz HE,hc]
            rfl,fun q a d =>by
            rcases Nat.lt_or_ge q k with z | z
            ·exact (oz HC).2 q a z
            ·obtain rfl:q=k:=by omega
             rw [← oz HE]
             exact ⟨hes,by rw [hc];omega,by rw [hc];omega⟩⟩
           have HDD:Hz (c < 192∧128≤c∧r < 131072):=kz ⟨hc2,by omega,hrb3⟩
           clear hrb hrb3 hc1 hc2 hc256 hc hb HC
           go_wp2_with fail
           obtain ⟨x1,x2,x3⟩:=oz HDD
           exact ⟨⟨r*64+(c - 128),k+1,by rw [zqm r c x1 x2 x3],rfl,by omega,by omega,trivial,HN⟩,by simp [intOf];omega⟩
          ·have k10:(192:Int)≤((c:Nat):Int):=by omega
           have HF:=kz ((oz HR).bad hin (zdw s i 2 (by decide) (by rw [hb];show 224≤b;omega) (by rw [hb];show b < 240;omega) (fun z =>by have:=z.1 k hk1 hkn;rw [← oz HE] at this;have:=this.2.2;rw [hc] at this;omega)))
           have HB:=kz (oz HS).b
           clear hb hc hrb
           go_wp2_with fail
           refine bodyPost_ret (v := .tuple #[.slice none 0 0,.bool false]) (by simp [results,Tryz.results90,go_sem]) rfl ⟨fun h =>?_,fun _ =>rfl,oz HB⟩
           rw [oz HF] at h
           cases h
        ·have k8:((s.size:Nat):Int)≤((e:Nat):Int):=by omega
         have HF:=kz ((oz HR).bad hin (zdw s i 2 (by decide) (by rw [hb];show 224≤b;omega) (by rw [hb];show b < 240;omega) (fun z =>by have:=z.1 k hk1 hkn;rw [← oz HE] at this;exact hes this.1)))
         have HB:=kz (oz HS).b
         clear hb hrb
         go_wp2_with fail
         refine bodyPost_ret (v := .tuple #[.slice none 0 0,.bool false]) (by simp [results,Tryz.results90,go_sem]) rfl ⟨fun h =>?_,fun _ =>rfl,oz HB⟩
         rw [oz HF] at h
         cases h
       ·have k5:¬ ((k:Nat):Int)≤2:=by omega
        obtain rfl:k=3:=by omega
        have hrb3:r < 8388608:=Nat.lt_of_lt_of_le hrb (by decide)
        have hrv:r=zdi s i 224 2:=(oz HC).1
        have hcc:∀ q,1≤q→q≤2→zgl s (i+q):=fun q a c =>(oz HC).2 q a (by omega)
        by_cases hl:r < 2048
        ·have k6:((r:Nat):Int) < 2048:=by omega
         have HF:=kz ((oz HR).bad hin (zdw s i 2 (by decide) (by rw [hb];show 224≤b;omega) (by rw [hb];show b < 240;omega) (fun z =>by have z2:2048≤zdi s i 224 2:=z.2.1;rw [← hrv] at z2;omega)))
         have HB:=kz (oz HS).b
         clear hb hrb hrv hcc hrb3 HC
         go_wp2_with fail
         refine bodyPost_ret (v := .tuple #[.slice none 0 0,.bool false]) (by simp [results,Tryz.results90,go_sem]) rfl ⟨fun h =>?_,fun _ =>rfl,oz HB⟩
         rw [oz HF] at h
         cases h
        ·have k6:¬ ((r:Nat):Int) < 2048:=by omega
         have HRU:=kz (zha r (by omega) wr)
         cases hsc:zef r with
         | false =>
          rw [hsc] at HRU
          have HF:=kz ((oz HR).bad hin (zdw s i 2 (by decide) (by rw [hb];show 224≤b;omega) (by rw [hb];show b < 240;omega) (fun z =>by have z2:zef (zdi s i 224 2)=true:=z.2.2;rw [← hrv,hsc] at z2;cases z2)))
          have HB:=kz (oz HS).b
          clear hb hrb hrv hcc hrb3 HC hsc
          go_wp2_with (go_at_call 62;refine (oz HRU).mono ?_;rintro e wn ⟨rfl,hwn⟩;subst wn)
          refine bodyPost_ret (v := .tuple #[.slice none 0 0,.bool false]) (by simp [results,Tryz.results90,go_sem]) rfl ⟨fun h =>?_,fun _ =>rfl,oz HB⟩
          rw [oz HF] at h
          cases h
         | true =>
          rw [hsc] at HRU
          obtain ⟨d1,d2,d3⟩:=zkG s i 2 (by decide) (by rw [hb];show 224≤b;omega) (by rw [hb];show b < 240;omega) hcc (by show 2048≤zdi s i 224 2;rw [← hrv];omega) (by show zef (zdi s i 224 2)=true;rw [← hrv];exact hsc)
          obtain ⟨f2,hf2⟩:=(oz HR).next hin d3
          have d1b:rn s i=r:=d1.trans hrv.symm
          rw [d1b,d2] at hf2
          have HR2:=kz hf2
          have hwr:i+3≤s.size:=by have:=zdh s i hin;rw [d2] at this;exact this
          have hzl:=(oz HR).ln
          have ho:=(oz HS).o
          have HO:=kz ho
          obtain ⟨va,vc,rfl⟩:=zaL ho
          clear d1 d2 d3 d1b hf2 ho hb hrb hrv hcc hrb3 HC hsc
          go_wp2_with (first | (go_at_call 62;refine (oz HRU).mono ?_;rintro e wn ⟨rfl,hwn⟩;subst wn) | (at_builtin;refine zf1 rfl _ _ 88 21 rfl ii (.int .i32 0) 1 4 Tryz.underlying88 (oz HII) rfl (by decide) (by decide) W.heap.size _ zs.length (znM zs) [.int .i32 r] rfl rfl (by omega) wr rfl (by intro u hu;simp at hu;rw [hu];rfl) (oz HO) (oz HS).b.size _ rfl rfl ?_))
          intro v' w' hown hgrow
          have HS2:=kz ((oz HS).put (z:=((r:Nat):Int)) hown hgrow)
          clear hown hgrow
          go_wp2_with fail
          exact ⟨⟨i+3,f2,_,by first | rfl | (congr 1;omega),hwr,HR2,HS2⟩,by simp [intOf];omega⟩
     ·have z2:=c1
      clear c1
      by_cases c1:240≤b∧b < 248
      ·obtain ⟨c1a,c1b⟩:=c1
       have t1a:(192:Int)≤((b:Nat):Int):=by omega
       have t1b:¬ ((b:Nat):Int) < 224:=by omega
       have t2a:(224:Int)≤((b:Nat):Int):=by omega
       have t2b:¬ ((b:Nat):Int) < 240:=by omega
       have t3a:(240:Int)≤((b:Nat):Int):=by omega
       have t3b:((b:Nat):Int) < 248:=by omega
       obtain ⟨r0,hr0⟩:∃ r0:Nat,r0=zdi s i 240 0:=⟨_,rfl⟩
       have hr1:((b:Nat):Int) - 240=((r0:Nat):Int):=by
        rw [hr0]
        show _=((bt s i - 240:Nat):Int)
        omega
       have HR1:Hz (r0=zdi s i 240 (1 - 1)∧∀ q,1≤q→q < 1→zgl s (i+q)):=kz ⟨hr0,fun q a c =>by omega⟩
       have hw2:wrap32 (((b:Nat):Int) - 240)=((b:Nat):Int) - 240:=by unfold wrap32;omega
       clear hr0
       go_wp2_with fail
       go_loopw [8,9] (fun rv kv wq => ∃ (r k:Nat),rv=.int .i32 r∧kv=.int .i64 k∧1≤k∧k≤3+1∧wq=wr∧Hz (r=zdi s i 240 (k - 1)∧∀ q,1≤q→q < k→zgl s (i+q))) (fun _ kv _ =>3+1 - (intOf kv).toNat)
       case atStart =>exact ⟨r0,1,by first | rfl | rw [hr1],rfl,Nat.le_refl _,by omega,rfl,HR1⟩
       case round =>
        obtain ⟨r,k,rfl,rfl,hk1,hk2,rfl,HC⟩:=hrel
        clear HR1 hr1 hw2
        have hrb:r < 32*64 ^ (k - 1):=by rw [(oz HC).1];exact zis s i 240 (by omega) (k - 1) (fun q a c =>(oz HC).2 q a (by omega))
        by_cases hkn:k≤3
        ·have k5:((k:Nat):Int)≤3:=by omega
         obtain ⟨e,he0⟩:∃ e:Nat,e=i+k:=⟨_,rfl⟩
         have k6:((i:Nat):Int)+((k:Nat):Int)=((e:Nat):Int):=by omega
         have k7:((e:Nat):Int).toNat=e:=by omega
         have HE:=kz he0
         clear he0
         by_cases hes:e < s.size
         ·have k8:¬ ((s.size:Nat):Int)≤((e:Nat):Int):=by omega
          have k8b:((e:Nat):Int) < ((s.size:Nat):Int):=by omega
          obtain ⟨c,hc⟩:∃ c,bt s e=c:=⟨_,rfl⟩
          have hgc:(s[e]'hes).toNat=c:=by rw [← zhz s e hes];exact hc
          have hc256:=zfX s e
          rw [hc] at hc256
          by_cases hc1:c < 128
          ·have k9:((c:Nat):Int) < 128:=by omega
           have HF:=kz ((oz HR).bad hin (zdw s i 3 (by decide) (by rw [hb];show 240≤b;omega) (by rw [hb];show b < 248;omega) (fun z =>by have:=z.1 k hk1 hkn;rw [← oz HE] at this;have:=this.2.1;rw [hc] at this;omega)))
           have HB:=kz (oz HS).b
           clear hb hc hrb
           go_wp2_with fail
           refine bodyPost_ret (v := .tuple #[.slice none 0 0,.bool false]) (by simp [results,Tryz.results90,go_sem]) rfl ⟨fun h =>?_,fun _ =>rfl,oz HB⟩
           rw [oz HF] at h
           cases h
          ·have k9:¬ ((c:Nat):Int) < 128:=by omega
           by_cases hc2:c < 192
           ·have k10:¬ (192:Int)≤((c:Nat):Int):=by omega
            have hrb3:r < 131072:=Nat.lt_of_lt_of_le hrb (Nat.le_trans (Nat.mul_le_mul_left 32 (Nat.pow_le_pow_right (by decide) (show k - 1≤2 by omega))) (by decide))
            have HN:Hz (r*64+(c - 128)=zdi s i 240 (k+1 - 1)∧∀ q,1≤q→q < k+1→zgl s (i+q)):=kz ⟨by
             obtain ⟨j,rfl⟩:∃ j,k=j+1:=⟨k - 1,by omega⟩
             show _=zdi s i 240 j*64+(bt s (i+(j+1)) - 128)
             rw [(oz HC).1, ← oz HE,hc]
             rfl,fun q a d =>by
             rcases Nat.lt_or_ge q k with z | z
             ·exact (oz HC).2 q a z
             ·obtain rfl:q=k:=by omega
              rw [← oz HE]
              exact ⟨hes,by rw [hc];omega,by rw [hc];omega⟩⟩
            have HDD:Hz (c < 192∧128≤c∧r < 131072):=kz ⟨hc2,by omega,hrb3⟩
            clear hrb hrb3 hc1 hc2 hc256 hc hb HC
            go_wp2_with fail
            obtain ⟨x1,x2,x3⟩:=oz HDD
            exact ⟨⟨r*64+(c - 128),k+1,by rw [zqm r c x1 x2 x3],rfl,by omega,by omega,trivial,HN⟩,by simp [intOf];omega⟩
           ·have k10:(192:Int)≤((c:Nat):Int):=by omega
            have HF:=kz ((oz HR).bad hin (zdw s i 3 (by decide) (by rw [hb];show 240≤b;omega) (by rw [hb];show b < 248;omega) (fun z =>by have:=z.1 k hk1 hkn;rw [← oz HE] at this;have:=this.2.2;rw [hc] at this;omega)))
            have HB:=kz (oz HS).b
            clear hb hc hrb
            go_wp2_with fail
            refine bodyPost_ret (v := .tuple #[.slice none 0 0,.bool false]) (by simp [results,Tryz.results90,go_sem]) rfl ⟨fun h =>?_,fun _ =>rfl,oz HB⟩
            rw [oz HF] at h
            cases h
         ·have k8:((s.size:Nat):Int)≤((e:Nat):Int):=by omega
          have HF:=kz ((oz HR).bad hin (zdw s i 3 (by decide) (by rw [hb];show 240≤b;omega) (by rw [hb];show b < 248;omega) (fun z =>by have:=z.1 k hk1 hkn;rw [← oz HE] at this;exact hes this.1)))
          have HB:=kz (oz HS).b
          clear hb hrb
          go_wp2_with fail
          refine bodyPost_ret (v := .tuple #[.slice none 0 0,.bool false]) (by simp [results,Tryz.results90,go_sem]) rfl ⟨fun h =>?_,fun _ =>rfl,oz HB⟩
          rw [oz HF] at h
          cases h
        ·have k5:¬ ((k:Nat):Int)≤3:=by omega
         obtain rfl:k=4:=by omega
         have hrb3:r < 8388608:=Nat.lt_of_lt_of_le hrb (by decide)
         have hrv:r=zdi s i 240 3:=(oz HC).1
         have hcc:∀ q,1≤q→q≤3→zgl s (i+q):=fun q a c =>(oz HC).2 q a (by omega)
         by_cases hl:r < 65536
         ·have k6:((r:Nat):Int) < 65536:=by omega
          have HF:=kz ((oz HR).bad hin (zdw s i 3 (by decide) (by rw [hb];show 240≤b;omega) (by rw [hb];show b < 248;omega) (fun z =>by have z2:65536≤zdi s i 240 3:=z.2.1;rw [← hrv] at z2;omega)))
          have HB:=kz (oz HS).b
          clear hb hrb hrv hcc hrb3 HC
          go_wp2_with fail
          refine bodyPost_ret (v := .tuple #[.slice none 0 0,.bool false]) (by simp [results,Tryz.results90,go_sem]) rfl ⟨fun h =>?_,fun _ =>rfl,oz HB⟩
          rw [oz HF] at h
          cases h
         ·have k6:¬ ((r:Nat):Int) < 65536:=by omega
          have HRU:=kz (zha r (by omega) wr)
          cases hsc:zef r with
          | false =>
           rw [hsc] at HRU
           have HF:=kz ((oz HR).bad hin (zdw s i 3 (by decide) (by rw [hb];show 240≤b;omega) (by rw [hb];show b < 248;omega) (fun z =>by have z2:zef (zdi s i 240 3)=true:=z.2.2;rw [← hrv,hsc] at z2;cases z2)))
           have HB:=kz (oz HS).b
           clear hb hrb hrv hcc hrb3 HC hsc
           go_wp2_with (go_at_call 62;refine (oz HRU).mono ?_;rintro e wn ⟨rfl,hwn⟩;subst wn)
           refine bodyPost_ret (v := .tuple #[.slice none 0 0,.bool false]) (by simp [results,Tryz.results90,go_sem]) rfl ⟨fun h =>?_,fun _ =>rfl,oz HB⟩
           rw [oz HF] at h
           cases h
          | true =>
           rw [hsc] at HRU
           obtain ⟨d1,d2,d3⟩:=zkG s i 3 (by decide) (by rw [hb];show 240≤b;omega) (by rw [hb];show b < 248;omega) hcc (by show 65536≤zdi s i 240 3;rw [← hrv];omega) (by show zef (zdi s i 240 3)=true;rw [← hrv];exact hsc)
           obtain ⟨f2,hf2⟩:=(oz HR).next hin d3
           have d1b:rn s i=r:=d1.trans hrv.symm
           rw [d1b,d2] at hf2
           have HR2:=kz hf2
           have hwr:i+4≤s.size:=by have:=zdh s i hin;rw [d2] at this;exact this
           have hzl:=(oz HR).ln
           have ho:=(oz HS).o
           have HO:=kz ho
           obtain ⟨va,vc,rfl⟩:=zaL ho
           clear d1 d2 d3 d1b hf2 ho hb hrb hrv hcc hrb3 HC hsc
           go_wp2_with (first | (go_at_call 62;refine (oz HRU).mono ?_;rintro e wn ⟨rfl,hwn⟩;subst wn) | (at_builtin;refine zf1 rfl _ _ 88 21 rfl ii (.int .i32 0) 1 4 Tryz.underlying88 (oz HII) rfl (by decide) (by decide) W.heap.size _ zs.length (znM zs) [.int .i32 r] rfl rfl (by omega) wr rfl (by intro u hu;simp at hu;rw [hu];rfl) (oz HO) (oz HS).b.size _ rfl rfl ?_))
           intro v' w' hown hgrow
           have HS2:=kz ((oz HS).put (z:=((r:Nat):Int)) hown hgrow)
           clear hown hgrow
           go_wp2_with fail
           exact ⟨⟨i+4,f2,_,by first | rfl | (congr 1;omega),hwr,HR2,HS2⟩,by simp [intOf];omega⟩
      ·have z3:=c1
       clear c1
       by_cases c1:b < 192
       ·have t1:¬ (192:Int)≤((b:Nat):Int):=by omega
        have t2:¬ (224:Int)≤((b:Nat):Int):=by omega
        have t3:¬ (240:Int)≤((b:Nat):Int):=by omega
        have HF:=kz ((oz HR).bad hin (zld s i (by rw [hb];omega)))
        have HB:=kz (oz HS).b
        clear hb
        go_wp2_with fail
        refine bodyPost_ret (v := .tuple #[.slice none 0 0,.bool false]) (by simp [results,Tryz.results90,go_sem]) rfl ⟨fun h =>?_,fun _ =>rfl,oz HB⟩
        rw [oz HF] at h
        cases h
       ·have t1:(192:Int)≤((b:Nat):Int):=by omega
        have t1b:¬ ((b:Nat):Int) < 224:=by omega
        have t2:(224:Int)≤((b:Nat):Int):=by omega
        have t2b:¬ ((b:Nat):Int) < 240:=by omega
        have t3:(240:Int)≤((b:Nat):Int):=by omega
        have t3b:¬ ((b:Nat):Int) < 248:=by omega
        have HF:=kz ((oz HR).bad hin (zld s i (by rw [hb];omega)))
        have HB:=kz (oz HS).b
        clear hb
        go_wp2_with fail
        refine bodyPost_ret (v := .tuple #[.slice none 0 0,.bool false]) (by simp [results,Tryz.results90,go_sem]) rfl ⟨fun h =>?_,fun _ =>rfl,oz HB⟩
        rw [oz HF] at h
        cases h
  ·have k1:¬ (i:Int) < (s.size:Int):=by omega
   obtain ⟨h1,h2⟩:=(oz HR).fin hin
   rw [oz HOK] at h1
   subst h1
   have H2:=kz h2
   clear h2
   go_wp2_with fail
   refine bodyPost_ret (v := .tuple #[u4,.bool true]) (by simp [results,Tryz.results90,go_sem]) rfl ⟨fun _ =>⟨_,rfl,by rw [oz H2];exact (oz HS).o⟩,fun h =>?_,(oz HS).b⟩
   rw [oz HOK] at h
   cases h
end Go.Proofs.YtmemedpoaocdkaaGreat
