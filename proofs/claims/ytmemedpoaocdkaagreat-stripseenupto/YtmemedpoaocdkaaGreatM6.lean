/- Texts of this claim, one behind the other. -/
import Derived.Test.YtmemedpoaocdkaaGreatM5
namespace Go.Proofs.YtmemedpoaocdkaaGreat
open Go.RowKit Go.Shelf
set_option linter.unusedVariables false
set_option maxRecDepth 100000
set_option maxHeartbeats 8000000
theorem zgl (v:Nat) (hv:v≤8388607) (w:World):Calls Tryz.prog 62 #[.int .i32 v] w fun e w' =>e=.returned (.bool (zdI v))∧w'=w:=by
 have h0:(0:Int)≤(v:Int):=by omega
 have HV:Hz (zdI v=decide (v≤1114111∧(v < 55296∨57343 < v))):=kz rfl
 generalize zdI v=B at *
 by_cases h1:v≤1114111
 ·have k1:(v:Int)≤1114111:=by omega
  by_cases h2:v < 55296
  ·have k2:(v:Int) < 55296:=by omega
   go_enter Tryz.func62,Tryz.ntmps62
   go_wp2_with fail
   go_ret
   exact ⟨by rw [oz HV,decide_eq_true (show v≤1114111∧(v < 55296∨57343 < v) by omega)];rfl,rfl⟩
  ·have k2:¬ (v:Int) < 55296:=by omega
   by_cases h3:57343 < v
   ·have k3:(57343:Int) < (v:Int):=by omega
    go_enter Tryz.func62,Tryz.ntmps62
    go_wp2_with fail
    go_ret
    exact ⟨by rw [oz HV,decide_eq_true (show v≤1114111∧(v < 55296∨57343 < v) by omega)];rfl,rfl⟩
   ·have k3:¬ (57343:Int) < (v:Int):=by omega
    go_enter Tryz.func62,Tryz.ntmps62
    go_wp2_with fail
    go_ret
    exact ⟨by rw [oz HV,decide_eq_false (show ¬ (v≤1114111∧(v < 55296∨57343 < v)) by omega)];rfl,rfl⟩
 ·have k1:¬ (v:Int)≤1114111:=by omega
  go_enter Tryz.func62,Tryz.ntmps62
  go_wp2_with fail
  go_ret
  exact ⟨by rw [oz HV,decide_eq_false (show ¬ (v≤1114111∧(v < 55296∨57343 < v)) by omega)];rfl,rfl⟩
theorem zlN (a:Int) (h0:0≤a) (h1:a < 2147483648):wrap32 a=a:=by unfold wrap32;omega
theorem zpC (r c:Nat) (h1:c < 192) (h2:128≤c) (h3:r < 131072):wrap32 (wrap32 ((r:Int)*64)+((c:Int) - 128))=((r*64+(c - 128):Nat):Int):=by
 rw [zlN ((r:Int)*64) (by omega) (by omega),zlN _ (by omega) (by omega)]
 omega
theorem ze7 {w:World} {ops:Array Oper} {rest:List Oper} {o:Oper} {a:Act} {Q:Exit→Act→World→Prop} (hgd:o.guard=none) (s x:Operand) (T E:TypeId)
  (ho:o.op=.call { callee := .builtin .append,args:=#[s,x],argTypes:=#[T,T] }) (i:TypeInfo) (z:Value) (sz bytes:Nat) (hT:Tryz.prog.underlying T=some (.slice E)) (hi:Tryz.prog.info? E=some i∧i.zero=some z∧i.size=sz∧i.bytes=bytes) (hzs:z.cells.size=sz) (hsz:0 < sz) (hb8:bytes≤64)
  (lo:Nat) (v:Value) (n:Nat) (xs:List Value) (cs:List Value) (hcs:cs.length=sz) (hs:a.eval s=v) (hl:n≤4000000) (W:World) (hW:w=W.alloc (.cells cs.toArray E)) (hu:∀ u ∈ cs,u.oneCell'=true) (hv:W.ownsRow lo E sz v n xs) (hlo:lo≤W.heap.size) (m:Nat) (hm:m=W.heap.size) (hx:a.eval x=.slice (some ⟨m,0,none⟩) 1 1)
  (h:∀ v' w',w'.ownsRow lo E sz v' (n+1) (xs++cs)→(W.alloc (.cells cs.toArray E)).grownBy w' v.ownBlock→wpList Tryz.prog ops Q rest (a.put o.dst v') w'):wpList Tryz.prog ops Q (o::rest) a w:=by
 subst hW
 subst hm
 have b:=Blk.new W cs.toArray E
 refine wpList_append_own _ hgd s x T ho lo E i z sz bytes hT hi.1 hi.2.1 hi.2.2.1 hi.2.2.2 hzs hsz v n xs hs (hv.alloc _) ⟨W.heap.size,0,none⟩ 1 1 cs hx (by omega) (fun j y hj =>?_) hu (by unfold maxLen;omega) ?_ (by simp;omega) (fun v' w' h4 h5 _ =>h v' w' h4 h5)
 ·have e:=b.cell j
  rw [List.getElem?_toArray,hj] at e
  have ea:(⟨W.heap.size,0,none⟩:Addr).add j=⟨W.heap.size,j,none⟩:=by cases j <;> simp [Addr.add]
  rw [ea]
  exact e
 ·have:(n+1)*bytes≤4000001*64:=Nat.mul_le_mul (by omega) hb8
  omega
structure R6 (W wr:World) (v:Value) (zs:List Int):Prop where
 o:wr.ownsRow W.heap.size 21 1 v zs.length (znk zs)
 b:Below W.heap.size W wr
theorem R6.put {W w w':World} {v v':Value} {zs:List Int} {z:Int} {c:Obj} (h:R6 W w v zs) (ho:w'.ownsRow W.heap.size 21 1 v' (zs.length+1) (znk zs++[.int .i32 z])) (hg:(w.alloc c).grownBy w' v.ownBlock):R6 W w' v' (zs++[z]):=by
 refine ⟨?_,(h.b.trans ((Below.refl _ w).alloc h.b.size c)).grown hg (by have:=h.b.size;simp;omega) (fun k hk =>zbx h.o k hk)⟩
 rw [List.length_append]
 unfold znk
 rw [List.map_append]
 exact ho
theorem zck (s:ByteArray) (hs:s.size≤1048576) (W:World):Calls Tryz.prog 90 #[.string s] W fun e w' =>(okU s=true→∃ v,e=.returned (.tuple #[v,.bool true])∧w'.ownsRow W.heap.size 21 1 v (zak s).length (znk (zak s)))∧(okU s=false→e=.returned (.tuple #[.slice none 0 0,.bool false]))∧Below W.heap.size W w':=by
 obtain ⟨ii,hii,hi0,hi1,hi2⟩:=info_parts zp4
 have HII:=kz (And.intro hii (And.intro hi0 (And.intro hi1 hi2)))
 clear hii hi0 hi1 hi2
 have HS0:Hz (R6 W W (.slice none 0 0) []):=kz ⟨World.ownsRow_nil _ _ _ _,Below.refl _ _⟩
 have HR0:=kz (RuQ.start s)
 go_enter Tryz.func90,Tryz.ntmps90
 go_wp2_with fail
 generalize hOK:okU s=OK at *
 have HOK:=kz hOK
 clear hOK
 go_loopw [4,5] (fun ov iv wr => ∃ (i f:Nat) (zs:List Int),iv=.int .i64 i∧i≤s.size∧Hz (RuQ s i f zs)∧Hz (R6 W wr ov zs)) (fun _ iv _ =>s.size - (intOf iv).toNat)
 case atStart =>exact ⟨0,_,[],rfl,Nat.zero_le _,HR0,HS0⟩
 case round =>
  obtain ⟨i,f,zs,rfl,hi,HR,HS⟩:=hrel
  clear HR0 HS0
  by_cases hin:i < s.size
  ·have k1:(i:Int) < (s.size:Int):=by omega
   have k2:((i:Nat):Int).toNat=i:=by omega
   obtain ⟨b,hb⟩:∃ b,bt s i=b:=⟨_,rfl⟩
   have hg:(s[i]'hin).toNat=b:=by rw [← zcd s i hin];exact hb
   have hb256:=zd2 s i
   rw [hb] at hb256
   have hw:wrap32 ((b:Nat):Int)=(b:Nat):=by unfold wrap32;omega
   by_cases h128:b < 128
   ·have k3:((b:Nat):Int) < 128:=by omega
    obtain ⟨d1,d2,d3⟩:=zqh s i (by rw [hb];exact h128)
    obtain ⟨f2,hf2⟩:=(oz HR).next hin d3
    rw [d1,d2,hb] at hf2
    have HR2:=kz hf2
    have hzl:=(oz HR).ln
    have ho:=(oz HS).o
    have HO:=kz ho
    obtain ⟨va,vc,rfl⟩:=zas ho
    clear d1 d2 d3 hf2 ho hb
    go_wp2_with (at_builtin;refine ze7 rfl _ _ 88 21 rfl ii (.int .i32 0) 1 4 Tryz.underlying88 (oz HII) rfl (by decide) (by decide) W.heap.size _ zs.length (znk zs) [.int .i32 b] rfl rfl (by omega) wr rfl (by intro u hu;simp at hu;rw [hu];rfl) (oz HO) (oz HS).b.size _ rfl rfl ?_)
    intro v' w' hown hgrow
    have HS2:=kz ((oz HS).put (z:=((b:Nat):Int)) hown hgrow)
    clear hown hgrow
    go_wp2_with fail
    exact ⟨⟨i+1,f2,_,by first | rfl | (congr 1;omega),by omega,HR2,HS2⟩,by simp [intOf];omega⟩
   ·have k3:¬ ((b:Nat):Int) < 128:=by omega
    by_cases c1:192≤b∧b < 224
    ·obtain ⟨c1a,c1b⟩:=c1
     have t1a:(192:Int)≤((b:Nat):Int):=by omega
     have t1b:((b:Nat):Int) < 224:=by omega
     obtain ⟨r0,hr0⟩:∃ r0:Nat,r0=zcQ s i 192 0:=⟨_,rfl⟩
     have hr1:((b:Nat):Int) - 192=((r0:Nat):Int):=by
      rw [hr0]
      show _=((bt s i - 192:Nat):Int)
      omega
     have HR1:Hz (r0=zcQ s i 192 (1 - 1)∧∀ q,1≤q→q < 1→zfu s (i+q)):=kz ⟨hr0,fun q a c =>by omega⟩
     have hw2:wrap32 (((b:Nat):Int) - 192)=((b:Nat):Int) - 192:=by unfold wrap32;omega
     clear hr0
     go_wp2_with fail
     go_loopw [8,9] (fun rv kv wq => ∃ (r k:Nat),rv=.int .i32 r∧kv=.int .i64 k∧1≤k∧k≤1+1∧wq=wr∧Hz (r=zcQ s i 192 (k - 1)∧∀ q,1≤q→q < k→zfu s (i+q))) (fun _ kv _ =>1+1 - (intOf kv).toNat)
     case atStart =>exact ⟨r0,1,by first | rfl | rw [hr1],rfl,Nat.le_refl _,by omega,rfl,HR1⟩
     case round =>
      obtain ⟨r,k,rfl,rfl,hk1,hk2,rfl,HC⟩:=hrel
      clear HR1 hr1 hw2
      have hrb:r < 32*64 ^ (k - 1):=by rw [(oz HC).1];exact zhH s i 192 (by omega) (k - 1) (fun q a c =>(oz HC).2 q a (by omega))
      by_cases hkn:k≤1
      ·have k5:((k:Nat):Int)≤1:=by omega
       obtain ⟨e,he0⟩:∃ e:Nat,e=i+k:=⟨_,rfl⟩
       have k6:((i:Nat):Int)+((k:Nat):Int)=((e:Nat):Int):=by omega
       have k7:((e:Nat):Int).toNat=e:=by omega
       have HE:=kz he0
       clear he0
       by_cases hes:e < s.size
       ·have k8:¬ ((s.size:Nat):Int)≤((e:Nat):Int):=by omega
        have k8b:((e:Nat):Int) < ((s.size:Nat):Int):=by omega
        obtain ⟨c,hc⟩:∃ c,bt s e=c:=⟨_,rfl⟩
        have hgc:(s[e]'hes).toNat=c:=by rw [← zcd s e hes];exact hc
        have hc256:=zd2 s e
        rw [hc] at hc256
        by_cases hc1:c < 128
        ·have k9:((c:Nat):Int) < 128:=by omega
         have HF:=kz ((oz HR).bad hin (zc3 s i 1 (by decide) (by rw [hb];show 192≤b;omega) (by rw [hb];show b < 224;omega) (fun z =>by have:=z.1 k hk1 hkn;rw [← oz HE] at this;have:=this.2.1;rw [hc] at this;omega)))
         have HB:=kz (oz HS).b
         clear hb hc hrb
         go_wp2_with fail
         refine bodyPost_ret (v := .tuple #[.slice none 0 0,.bool false]) (by simp [results,Tryz.results90,go_sem]) rfl ⟨fun h =>?_,fun _ =>rfl,oz HB⟩
         rw [oz HF] at h
         cases h
        ·have k9:¬ ((c:Nat):Int) < 128:=by omega
         by_cases hc2:c < 192
         ·have k10:¬ (192:Int)≤((c:Nat):Int):=by omega
          have hrb3:r < 131072:=Nat.lt_of_lt_of_le hrb (Nat.le_trans (Nat.mul_le_mul_left 32 (Nat.pow_le_pow_right (by decide) (show k - 1≤2 by omega))) (by decide))
          have HN:Hz (r*64+(c - 128)=zcQ s i 192 (k+1 - 1)∧∀ q,1≤q→q < k+1→zfu s (i+q)):=kz ⟨by
           obtain ⟨j,rfl⟩:∃ j,k=j+1:=⟨k - 1,by omega⟩
           show _=zcQ s i 192 j*64+(bt s (i+(j+1)) - 128)
           rw [(oz HC).1, ← oz HE,hc]
           rfl,fun q a d =>by
           rcases Nat.lt_or_ge q k with z | z
           ·exact (oz HC).2 q a z
           ·obtain rfl:q=k:=by omega
            rw [← oz HE]
            exact ⟨hes,by rw [hc];omega,by rw [hc];omega⟩⟩
          have HDD:Hz (c < 192∧128≤c∧r < 131072):=kz ⟨hc2,by omega,hrb3⟩
          clear hrb hrb3 hc1 hc2 hc256 hc hb HC
          go_wp2_with fail
          obtain ⟨x1,x2,x3⟩:=oz HDD
          exact ⟨⟨r*64+(c - 128),k+1,by rw [zpC r c x1 x2 x3],rfl,by omega,by omega,trivial,HN⟩,by simp [intOf];omega⟩
         ·have k10:(192:Int)≤((c:Nat):Int):=by omega
          have HF:=kz ((oz HR).bad hin (zc3 s i 1 (by decide) (by rw [hb];show 192≤b;omega) (by rw [hb];show b < 224;omega) (fun z =>by have:=z.1 k hk1 hkn;rw [← oz HE] at this;have:=this.2.2;rw [hc] at this;omega)))
          have HB:=kz (oz HS).b
          clear hb hc hrb
          go_wp2_with fail
          refine bodyPost_ret (v := .tuple #[.slice none 0 0,.bool false]) (by simp [results,Tryz.results90,go_sem]) rfl ⟨fun h =>?_,fun _ =>rfl,oz HB⟩
          rw [oz HF] at h
          cases h
       ·have k8:((s.size:Nat):Int)≤((e:Nat):Int):=by omega
        have HF:=kz ((oz HR).bad hin (zc3 s i 1 (by decide) (by rw [hb];show 192≤b;omega) (by rw [hb];show b < 224;omega) (fun z =>by have:=z.1 k hk1 hkn;rw [← oz HE] at this;exact hes this.1)))
        have HB:=kz (oz HS).b
        clear hb hrb
        go_wp2_with fail
        refine bodyPost_ret (v := .tuple #[.slice none 0 0,.bool false]) (by simp [results,Tryz.results90,go_sem]) rfl ⟨fun h =>?_,fun _ =>rfl,oz HB⟩
        rw [oz HF] at h
        cases h
      ·have k5:¬ ((k:Nat):Int)≤1:=by omega
       obtain rfl:k=2:=by omega
       have hrb3:r < 8388608:=Nat.lt_of_lt_of_le hrb (by decide)
       have hrv:r=zcQ s i 192 1:=(oz HC).1
       have hcc:∀ q,1≤q→q≤1→zfu s (i+q):=fun q a c =>(oz HC).2 q a (by omega)
       by_cases hl:r < 128
       ·have k6:((r:Nat):Int) < 128:=by omega
        have HF:=kz ((oz HR).bad hin (zc3 s i 1 (by decide) (by rw [hb];show 192≤b;omega) (by rw [hb];show b < 224;omega) (fun z =>by have z2:128≤zcQ s i 192 1:=z.2.1;rw [← hrv] at z2;omega)))
        have HB:=kz (oz HS).b
        clear hb hrb hrv hcc hrb3 HC
        go_wp2_with fail
        refine bodyPost_ret (v := .tuple #[.slice none 0 0,.bool false]) (by simp [results,Tryz.results90,go_sem]) rfl ⟨fun h =>?_,fun _ =>rfl,oz HB⟩
        rw [oz HF] at h
        cases h
       ·have k6:¬ ((r:Nat):Int) < 128:=by omega
        have HRU:=kz (zgl r (by omega) wr)
        cases hsc:zdI r with
        | false =>
         rw [hsc] at HRU
         have HF:=kz ((oz HR).bad hin (zc3 s i 1 (by decide) (by rw [hb];show 192≤b;omega) (by rw [hb];show b < 224;omega) (fun z =>by have z2:zdI (zcQ s i 192 1)=true:=z.2.2;rw [← hrv,hsc] at z2;cases z2)))
         have HB:=kz (oz HS).b
         clear hb hrb hrv hcc hrb3 HC hsc
         go_wp2_with (go_at_call 62;refine (oz HRU).mono ?_;rintro e wn ⟨rfl,hwn⟩;subst wn)
         refine bodyPost_ret (v := .tuple #[.slice none 0 0,.bool false]) (by simp [results,Tryz.results90,go_sem]) rfl ⟨fun h =>?_,fun _ =>rfl,oz HB⟩
         rw [oz HF] at h
         cases h
        | true =>
         rw [hsc] at HRU
         obtain ⟨d1,d2,d3⟩:=zj0 s i 1 (by decide) (by rw [hb];show 192≤b;omega) (by rw [hb];show b < 224;omega) hcc (by show 128≤zcQ s i 192 1;rw [← hrv];omega) (by show zdI (zcQ s i 192 1)=true;rw [← hrv];exact hsc)
         obtain ⟨f2,hf2⟩:=(oz HR).next hin d3
         have d1b:rn s i=r:=d1.trans hrv.symm
         rw [d1b,d2] at hf2
         have HR2:=kz hf2
         have hwr:i+2≤s.size:=by have:=zdg s i hin;rw [d2] at this;exact this
         have hzl:=(oz HR).ln
         have ho:=(oz HS).o
         have HO:=kz ho
         obtain ⟨va,vc,rfl⟩:=zas ho
         clear d1 d2 d3 d1b hf2 ho hb hrb hrv hcc hrb3 HC hsc
         go_wp2_with (first | (go_at_call 62;refine (oz HRU).mono ?_;rintro e wn ⟨rfl,hwn⟩;subst wn) | (at_builtin;refine ze7 rfl _ _ 88 21 rfl ii (.int .i32 0) 1 4 Tryz.underlying88 (oz HII) rfl (by decide) (by decide) W.heap.size _ zs.length (znk zs) [.int .i32 r] rfl rfl (by omega) wr rfl (by intro u hu;simp at hu;rw [hu];rfl) (oz HO) (oz HS).b.size _ rfl rfl ?_))
         intro v' w' hown hgrow
         have HS2:=kz ((oz HS).put (z:=((r:Nat):Int)) hown hgrow)
         clear hown hgrow
         go_wp2_with fail
         exact ⟨⟨i+2,f2,_,by first | rfl | (congr 1;omega),hwr,HR2,HS2⟩,by simp [intOf];omega⟩
    ·have z1:=c1
     clear c1
     by_cases c1:224≤b∧b < 240
     ·obtain ⟨c1a,c1b⟩:=c1
      have t1a:(192:Int)≤((b:Nat):Int):=by omega
      have t1b:¬ ((b:Nat):Int) < 224:=by omega
      have t2a:(224:Int)≤((b:Nat):Int):=by omega
      have t2b:((b:Nat):Int) < 240:=by omega
      obtain ⟨r0,hr0⟩:∃ r0:Nat,r0=zcQ s i 224 0:=⟨_,rfl⟩
      have hr1:((b:Nat):Int) - 224=((r0:Nat):Int):=by
       rw [hr0]
       show _=((bt s i - 224:Nat):Int)
       omega
      have HR1:Hz (r0=zcQ s i 224 (1 - 1)∧∀ q,1≤q→q < 1→zfu s (i+q)):=kz ⟨hr0,fun q a c =>by omega⟩
      have hw2:wrap32 (((b:Nat):Int) - 224)=((b:Nat):Int) - 224:=by unfold wrap32;omega
      clear hr0
      go_wp2_with fail
      go_loopw [8,9] (fun rv kv wq => ∃ (r k:Nat),rv=.int .i32 r∧kv=.int .i64 k∧1≤k∧k≤2+1∧wq=wr∧Hz (r=zcQ s i 224 (k - 1)∧∀ q,1≤q→q < k→zfu s (i+q))) (fun _ kv _ =>2+1 - (intOf kv).toNat)
      case atStart =>exact ⟨r0,1,by first | rfl | rw [hr1],rfl,Nat.le_refl _,by omega,rfl,HR1⟩
      case round =>
       obtain ⟨r,k,rfl,rfl,hk1,hk2,rfl,HC⟩:=hrel
       clear HR1 hr1 hw2
       have hrb:r < 32*64 ^ (k - 1):=by rw [(oz HC).1];exact zhH s i 224 (by omega) (k - 1) (fun q a c =>(oz HC).2 q a (by omega))
       by_cases hkn:k≤2
       ·have k5:((k:Nat):Int)≤2:=by omega
        obtain ⟨e,he0⟩:∃ e:Nat,e=i+k:=⟨_,rfl⟩
        have k6:((i:Nat):Int)+((k:Nat):Int)=((e:Nat):Int):=by omega
        have k7:((e:Nat):Int).toNat=e:=by omega
        have HE:=kz he0
        clear he0
        by_cases hes:e < s.size
        ·have k8:¬ ((s.size:Nat):Int)≤((e:Nat):Int):=by omega
         have k8b:((e:Nat):Int) < ((s.size:Nat):Int):=by omega
         obtain ⟨c,hc⟩:∃ c,bt s e=c:=⟨_,rfl⟩
         have hgc:(s[e]'hes).toNat=c:=by rw [← zcd s e hes];exact hc
         have hc256:=zd2 s e
         rw [hc] at hc256
         by_cases hc1:c < 128
         ·have k9:((c:Nat):Int) < 128:=by omega
          have HF:=kz ((oz HR).bad hin (zc3 s i 2 (by decide) (by rw [hb];show 224≤b;omega) (by rw [hb];show b < 240;omega) (fun z =>by have:=z.1 k hk1 hkn;rw [← oz HE] at this;have:=this.2.1;rw [hc] at this;omega)))
          have HB:=kz (oz HS).b
          clear hb hc hrb
          go_wp2_with fail
          refine bodyPost_ret (v := .tuple #[.slice none 0 0,.bool false]) (by simp [results,Tryz.results90,go_sem]) rfl ⟨fun h =>?_,fun _ =>rfl,oz HB⟩
          rw [oz HF] at h
          cases h
         ·have k9:¬ ((c:Nat):Int) < 128:=by omega
          by_cases hc2:c < 192
          ·have k10:¬ (192:Int)≤((c:Nat):Int):=by omega
           have hrb3:r < 131072:=Nat.lt_of_lt_of_le hrb (Nat.le_trans (Nat.mul_le_mul_left 32 (Nat.pow_le_pow_right (by decide) (show k - 1≤2 by omega))) (by decide))
           have HN:Hz (r*64+(c - 128)=zcQ s i 224 (k+1 - 1)∧∀ q,1≤q→q < k+1→zfu s (i+q)):=kz ⟨by
            obtain ⟨j,rfl⟩:∃ j,k=j+1:=⟨k - 1,by omega⟩
            show _=zcQ s i 224 j*64+(bt s (i+(j+1)) - 128)
            rw [(oz HC).1, ← oz HE,hc]
            rfl,fun q a d =>by
            rcases Nat.lt_or_ge q k with z | z
            ·exact (oz HC).2 q a z
            ·obtain rfl:q=k:=by omega
             rw [← oz HE]
             exact ⟨hes,by rw [hc];omega,by rw [hc];omega⟩⟩
           have HDD:Hz (c < 192∧128≤c∧r < 131072):=kz ⟨hc2,by omega,hrb3⟩
           clear hrb hrb3 hc1 hc2 hc256 hc hb HC
           go_wp2_with fail
           obtain ⟨x1,x2,x3⟩:=oz HDD
           exact ⟨⟨r*64+(c - 128),k+1,by rw [zpC r c x1 x2 x3],rfl,by omega,by omega,trivial,HN⟩,by simp [intOf];omega⟩
          ·have k10:(192:Int)≤((c:Nat):Int):=by omega
           have HF:=kz ((oz HR).bad hin (zc3 s i 2 (by decide) (by rw [hb];show 224≤b;omega) (by rw [hb];show b < 240;omega) (fun z =>by have:=z.1 k hk1 hkn;rw [← oz HE] at this;have:=this.2.2;rw [hc] at this;omega)))
           have HB:=kz (oz HS).b
           clear hb hc hrb
           go_wp2_with fail
           refine bodyPost_ret (v := .tuple #[.slice none 0 0,.bool false]) (by simp [results,Tryz.results90,go_sem]) rfl ⟨fun h =>?_,fun _ =>rfl,oz HB⟩
           rw [oz HF] at h
           cases h
        ·have k8:((s.size:Nat):Int)≤((e:Nat):Int):=by omega
         have HF:=kz ((oz HR).bad hin (zc3 s i 2 (by decide) (by rw [hb];show 224≤b;omega) (by rw [hb];show b < 240;omega) (fun z =>by have:=z.1 k hk1 hkn;rw [← oz HE] at this;exact hes this.1)))
         have HB:=kz (oz HS).b
         clear hb hrb
         go_wp2_with fail
         refine bodyPost_ret (v := .tuple #[.slice none 0 0,.bool false]) (by simp [results,Tryz.results90,go_sem]) rfl ⟨fun h =>?_,fun _ =>rfl,oz HB⟩
         rw [oz HF] at h
         cases h
       ·have k5:¬ ((k:Nat):Int)≤2:=by omega
        obtain rfl:k=3:=by omega
        have hrb3:r < 8388608:=Nat.lt_of_lt_of_le hrb (by decide)
        have hrv:r=zcQ s i 224 2:=(oz HC).1
        have hcc:∀ q,1≤q→q≤2→zfu s (i+q):=fun q a c =>(oz HC).2 q a (by omega)
        by_cases hl:r < 2048
        ·have k6:((r:Nat):Int) < 2048:=by omega
         have HF:=kz ((oz HR).bad hin (zc3 s i 2 (by decide) (by rw [hb];show 224≤b;omega) (by rw [hb];show b < 240;omega) (fun z =>by have z2:2048≤zcQ s i 224 2:=z.2.1;rw [← hrv] at z2;omega)))
         have HB:=kz (oz HS).b
         clear hb hrb hrv hcc hrb3 HC
         go_wp2_with fail
         refine bodyPost_ret (v := .tuple #[.slice none 0 0,.bool false]) (by simp [results,Tryz.results90,go_sem]) rfl ⟨fun h =>?_,fun _ =>rfl,oz HB⟩
         rw [oz HF] at h
         cases h
        ·have k6:¬ ((r:Nat):Int) < 2048:=by omega
         have HRU:=kz (zgl r (by omega) wr)
         cases hsc:zdI r with
         | false =>
          rw [hsc] at HRU
          have HF:=kz ((oz HR).bad hin (zc3 s i 2 (by decide) (by rw [hb];show 224≤b;omega) (by rw [hb];show b < 240;omega) (fun z =>by have z2:zdI (zcQ s i 224 2)=true:=z.2.2;rw [← hrv,hsc] at z2;cases z2)))
          have HB:=kz (oz HS).b
          clear hb hrb hrv hcc hrb3 HC hsc
          go_wp2_with (go_at_call 62;refine (oz HRU).mono ?_;rintro e wn ⟨rfl,hwn⟩;subst wn)
          refine bodyPost_ret (v := .tuple #[.slice none 0 0,.bool false]) (by simp [results,Tryz.results90,go_sem]) rfl ⟨fun h =>?_,fun _ =>rfl,oz HB⟩
          rw [oz HF] at h
          cases h
         | true =>
          rw [hsc] at HRU
          obtain ⟨d1,d2,d3⟩:=zj0 s i 2 (by decide) (by rw [hb];show 224≤b;omega) (by rw [hb];show b < 240;omega) hcc (by show 2048≤zcQ s i 224 2;rw [← hrv];omega) (by show zdI (zcQ s i 224 2)=true;rw [← hrv];exact hsc)
          obtain ⟨f2,hf2⟩:=(oz HR).next hin d3
          have d1b:rn s i=r:=d1.trans hrv.symm
          rw [d1b,d2] at hf2
          have HR2:=kz hf2
          have hwr:i+3≤s.size:=by have:=zdg s i hin;rw [d2] at this;exact this
          have hzl:=(oz HR).ln
          have ho:=(oz HS).o
          have HO:=kz ho
          obtain ⟨va,vc,rfl⟩:=zas ho
          clear d1 d2 d3 d1b hf2 ho hb hrb hrv hcc hrb3 HC hsc
          go_wp2_with (first | (go_at_call 62;refine (oz HRU).mono ?_;rintro e wn ⟨rfl,hwn⟩;subst wn) | (at_builtin;refine ze7 rfl _ _ 88 21 rfl ii (.int .i32 0) 1 4 Tryz.underlying88 (oz HII) rfl (by decide) (by decide) W.heap.size _ zs.length (znk zs) [.int .i32 r] rfl rfl (by omega) wr rfl (by intro u hu;simp at hu;rw [hu];rfl) (oz HO) (oz HS).b.size _ rfl rfl ?_))
          intro v' w' hown hgrow
          have HS2:=kz ((oz HS).put (z:=((r:Nat):Int)) hown hgrow)
          clear hown hgrow
          go_wp2_with fail
          exact ⟨⟨i+3,f2,_,by first | rfl | (congr 1;omega),hwr,HR2,HS2⟩,by simp [intOf];omega⟩
     ·have z2:=c1
      clear c1
      by_cases c1:240≤b∧b < 248
      ·obtain ⟨c1a,c1b⟩:=c1
       have t1a:(192:Int)≤((b:Nat):Int):=by omega
       have t1b:¬ ((b:Nat):Int) < 224:=by omega
       have t2a:(224:Int)≤((b:Nat):Int):=by omega
       have t2b:¬ ((b:Nat):Int) < 240:=by omega
       have t3a:(240:Int)≤((b:Nat):Int):=by omega
       have t3b:((b:Nat):Int) < 248:=by omega
       obtain ⟨r0,hr0⟩:∃ r0:Nat,r0=zcQ s i 240 0:=⟨_,rfl⟩
       have hr1:((b:Nat):Int) - 240=((r0:Nat):Int):=by
        rw [hr0]
        show _=((bt s i - 240:Nat):Int)
        omega
       have HR1:Hz (r0=zcQ s i 240 (1 - 1)∧∀ q,1≤q→q < 1→zfu s (i+q)):=kz ⟨hr0,fun q a c =>by omega⟩
       have hw2:wrap32 (((b:Nat):Int) - 240)=((b:Nat):Int) - 240:=by unfold wrap32;omega
       clear hr0
       go_wp2_with fail
       go_loopw [8,9] (fun rv kv wq => ∃ (r k:Nat),rv=.int .i32 r∧kv=.int .i64 k∧1≤k∧k≤3+1∧wq=wr∧Hz (r=zcQ s i 240 (k - 1)∧∀ q,1≤q→q < k→zfu s (i+q))) (fun _ kv _ =>3+1 - (intOf kv).toNat)
       case atStart =>exact ⟨r0,1,by first | rfl | rw [hr1],rfl,Nat.le_refl _,by omega,rfl,HR1⟩
       case round =>
        obtain ⟨r,k,rfl,rfl,hk1,hk2,rfl,HC⟩:=hrel
        clear HR1 hr1 hw2
        have hrb:r < 32*64 ^ (k - 1):=by rw [(oz HC).1];exact zhH s i 240 (by omega) (k - 1) (fun q a c =>(oz HC).2 q a (by omega))
        by_cases hkn:k≤3
        ·have k5:((k:Nat):Int)≤3:=by omega
         obtain ⟨e,he0⟩:∃ e:Nat,e=i+k:=⟨_,rfl⟩
         have k6:((i:Nat):Int)+((k:Nat):Int)=((e:Nat):Int):=by omega
         have k7:((e:Nat):Int).toNat=e:=by omega
         have HE:=kz he0
         clear he0
         by_cases hes:e < s.size
         ·have k8:¬ ((s.size:Nat):Int)≤((e:Nat):Int):=by omega
          have k8b:((e:Nat):Int) < ((s.size:Nat):Int):=by omega
          obtain ⟨c,hc⟩:∃ c,bt s e=c:=⟨_,rfl⟩
          have hgc:(s[e]'hes).toNat=c:=by rw [← zcd s e hes];exact hc
          have hc256:=zd2 s e
          rw [hc] at hc256
          by_cases hc1:c < 128
          ·have k9:((c:Nat):Int) < 128:=by omega
           have HF:=kz ((oz HR).bad hin (zc3 s i 3 (by decide) (by rw [hb];show 240≤b;omega) (by rw [hb];show b < 248;omega) (fun z =>by have:=z.1 k hk1 hkn;rw [← oz HE] at this;have:=this.2.1;rw [hc] at this;omega)))
           have HB:=kz (oz HS).b
           clear hb hc hrb
           go_wp2_with fail
           refine bodyPost_ret (v := .tuple #[.slice none 0 0,.bool false]) (by simp [results,Tryz.results90,go_sem]) rfl ⟨fun h =>?_,fun _ =>rfl,oz HB⟩
           rw [oz HF] at h
           cases h
          ·have k9:¬ ((c:Nat):Int) < 128:=by omega
           by_cases hc2:c < 192
           ·have k10:¬ (192:Int)≤((c:Nat):Int):=by omega
            have hrb3:r < 131072:=Nat.lt_of_lt_of_le hrb (Nat.le_trans (Nat.mul_le_mul_left 32 (Nat.pow_le_pow_right (by decide) (show k - 1≤2 by omega))) (by decide))
            have HN:Hz (r*64+(c - 128)=zcQ s i 240 (k+1 - 1)∧∀ q,1≤q→q < k+1→zfu s (i+q)):=kz ⟨by
             obtain ⟨j,rfl⟩:∃ j,k=j+1:=⟨k - 1,by omega⟩
             show _=zcQ s i 240 j*64+(bt s (i+(j+1)) - 128)
             rw [(oz HC).1, ← oz HE,hc]
             rfl,fun q a d =>by
             rcases Nat.lt_or_ge q k with z | z
             ·exact (oz HC).2 q a z
             ·obtain rfl:q=k:=by omega
              rw [← oz HE]
              exact ⟨hes,by rw [hc];omega,by rw [hc];omega⟩⟩
            have HDD:Hz (c < 192∧128≤c∧r < 131072):=kz ⟨hc2,by omega,hrb3⟩
            clear hrb hrb3 hc1 hc2 hc256 hc hb HC
            go_wp2_with fail
            obtain ⟨x1,x2,x3⟩:=oz HDD
            exact ⟨⟨r*64+(c - 128),k+1,by rw [zpC r c x1 x2 x3],rfl,by omega,by omega,trivial,HN⟩,by simp [intOf];omega⟩
           ·have k10:(192:Int)≤((c:Nat):Int):=by omega
            have HF:=kz ((oz HR).bad hin (zc3 s i 3 (by decide) (by rw [hb];show 240≤b;omega) (by rw [hb];show b < 248;omega) (fun z =>by have:=z.1 k hk1 hkn;rw [← oz HE] at this;have:=this.2.2;rw [hc] at this;omega)))
            have HB:=kz (oz HS).b
            clear hb hc hrb
            go_wp2_with fail
            refine bodyPost_ret (v := .tuple #[.slice none 0 0,.bool false]) (by simp [results,Tryz.results90,go_sem]) rfl ⟨fun h =>?_,fun _ =>rfl,oz HB⟩
            rw [oz HF] at h
            cases h
         ·have k8:((s.size:Nat):Int)≤((e:Nat):Int):=by omega
          have HF:=kz ((oz HR).bad hin (zc3 s i 3 (by decide) (by rw [hb];show 240≤b;omega) (by rw [hb];show b < 248;omega) (fun z =>by have:=z.1 k hk1 hkn;rw [← oz HE] at this;exact hes this.1)))
          have HB:=kz (oz HS).b
          clear hb hrb
          go_wp2_with fail
          refine bodyPost_ret (v := .tuple #[.slice none 0 0,.bool false]) (by simp [results,Tryz.results90,go_sem]) rfl ⟨fun h =>?_,fun _ =>rfl,oz HB⟩
          rw [oz HF] at h
          cases h
        ·have k5:¬ ((k:Nat):Int)≤3:=by omega
         obtain rfl:k=4:=by omega
         have hrb3:r < 8388608:=Nat.lt_of_lt_of_le hrb (by decide)
         have hrv:r=zcQ s i 240 3:=(oz HC).1
         have hcc:∀ q,1≤q→q≤3→zfu s (i+q):=fun q a c =>(oz HC).2 q a (by omega)
         by_cases hl:r < 65536
         ·have k6:((r:Nat):Int) < 65536:=by omega
          have HF:=kz ((oz HR).bad hin (zc3 s i 3 (by decide) (by rw [hb];show 240≤b;omega) (by rw [hb];show b < 248;omega) (fun z =>by have z2:65536≤zcQ s i 240 3:=z.2.1;rw [← hrv] at z2;omega)))
          have HB:=kz (oz HS).b
          clear hb hrb hrv hcc hrb3 HC
          go_wp2_with fail
          refine bodyPost_ret (v := .tuple #[.slice none 0 0,.bool false]) (by simp [results,Tryz.results90,go_sem]) rfl ⟨fun h =>?_,fun _ =>rfl,oz HB⟩
          rw [oz HF] at h
          cases h
         ·have k6:¬ ((r:Nat):Int) < 65536:=by omega
          have HRU:=kz (zgl r (by omega) wr)
          cases hsc:zdI r with
          | false =>
           rw [hsc] at HRU
           have HF:=kz ((oz HR).bad hin (zc3 s i 3 (by decide) (by rw [hb];show 240≤b;omega) (by rw [hb];show b < 248;omega) (fun z =>by have z2:zdI (zcQ s i 240 3)=true:=z.2.2;rw [← hrv,hsc] at z2;cases z2)))
           have HB:=kz (oz HS).b
           clear hb hrb hrv hcc hrb3 HC hsc
           go_wp2_with (go_at_call 62;refine (oz HRU).mono ?_;rintro e wn ⟨rfl,hwn⟩;subst wn)
           refine bodyPost_ret (v := .tuple #[.slice none 0 0,.bool false]) (by simp [results,Tryz.results90,go_sem]) rfl ⟨fun h =>?_,fun _ =>rfl,oz HB⟩
           rw [oz HF] at h
           cases h
          | true =>
           rw [hsc] at HRU
           obtain ⟨d1,d2,d3⟩:=zj0 s i 3 (by decide) (by rw [hb];show 240≤b;omega) (by rw [hb];show b < 248;omega) hcc (by show 65536≤zcQ s i 240 3;rw [← hrv];omega) (by show zdI (zcQ s i 240 3)=true;rw [← hrv];exact hsc)
           obtain ⟨f2,hf2⟩:=(oz HR).next hin d3
           have d1b:rn s i=r:=d1.trans hrv.symm
           rw [d1b,d2] at hf2
           have HR2:=kz hf2
           have hwr:i+4≤s.size:=by have:=zdg s i hin;rw [d2] at this;exact this
           have hzl:=(oz HR).ln
           have ho:=(oz HS).o
           have HO:=kz ho
           obtain ⟨va,vc,rfl⟩:=zas ho
           clear d1 d2 d3 d1b hf2 ho hb hrb hrv hcc hrb3 HC hsc
           go_wp2_with (first | (go_at_call 62;refine (oz HRU).mono ?_;rintro e wn ⟨rfl,hwn⟩;subst wn) | (at_builtin;refine ze7 rfl _ _ 88 21 rfl ii (.int .i32 0) 1 4 Tryz.underlying88 (oz HII) rfl (by decide) (by decide) W.heap.size _ zs.length (znk zs) [.int .i32 r] rfl rfl (by omega) wr rfl (by intro u hu;simp at hu;rw [hu];rfl) (oz HO) (oz HS).b.size _ rfl rfl ?_))
           intro v' w' hown hgrow
           have HS2:=kz ((oz HS).put (z:=((r:Nat):Int)) hown hgrow)
           clear hown hgrow
           go_wp2_with fail
           exact ⟨⟨i+4,f2,_,by first | rfl | (congr 1;omega),hwr,HR2,HS2⟩,by simp [intOf];omega⟩
      ·have z3:=c1
       clear c1
       by_cases c1:b < 192
       ·have t1:¬ (192:Int)≤((b:Nat):Int):=by omega
        have t2:¬ (224:Int)≤((b:Nat):Int):=by omega
        have t3:¬ (240:Int)≤((b:Nat):Int):=by omega
        have HF:=kz ((oz HR).bad hin (zkw s i (by rw [hb];omega)))
        have HB:=kz (oz HS).b
        clear hb
        go_wp2_with fail
        refine bodyPost_ret (v := .tuple #[.slice none 0 0,.bool false]) (by simp [results,Tryz.results90,go_sem]) rfl ⟨fun h =>?_,fun _ =>rfl,oz HB⟩
        rw [oz HF] at h
        cases h
       ·have t1:(192:Int)≤((b:Nat):Int):=by omega
        have t1b:¬ ((b:Nat):Int) < 224:=by omega
        have t2:(224:Int)≤((b:Nat):Int):=by omega
        have t2b:¬ ((b:Nat):Int) < 240:=by omega
        have t3:(240:Int)≤((b:Nat):Int):=by omega
        have t3b:¬ ((b:Nat):Int) < 248:=by omega
        have HF:=kz ((oz HR).bad hin (zkw s i (by rw [hb];omega)))
        have HB:=kz (oz HS).b
        clear hb
        go_wp2_with fail
        refine bodyPost_ret (v := .tuple #[.slice none 0 0,.bool false]) (by simp [results,Tryz.results90,go_sem]) rfl ⟨fun h =>?_,fun _ =>rfl,oz HB⟩
        rw [oz HF] at h
        cases h
  ·have k1:¬ (i:Int) < (s.size:Int):=by omega
   obtain ⟨h1,h2⟩:=(oz HR).fin hin
   rw [oz HOK] at h1
   subst h1
   have H2:=kz h2
   clear h2
   go_wp2_with fail
   refine bodyPost_ret (v := .tuple #[u4,.bool true]) (by simp [results,Tryz.results90,go_sem]) rfl ⟨fun _ =>⟨_,rfl,by rw [oz H2];exact (oz HS).o⟩,fun h =>?_,(oz HS).b⟩
   rw [oz HOK] at h
   cases h
def NoneB {α : Type} (l:List α) (p : α→Bool) (k:Nat):Prop := ∀ j y,j < k→l[j]?=some y→p y=false
theorem NoneB.zero {α : Type} (l:List α) (p : α→Bool):NoneB l p 0:=fun j y h _ =>by omega
theorem NoneB.next {α : Type} {l:List α} {p : α→Bool} {k:Nat} {x : α} (h:NoneB l p k) (hx:l[k]?=some x) (hp:p x=false):NoneB l p (k+1):=fun j y hj hy =>by
 by_cases e:j=k
 ·subst e
  rw [hx] at hy
  injection hy with hy
  rw [← hy]
  exact hp
 ·exact h j y (by omega) hy
theorem NoneB.any {α : Type} {l:List α} {p : α→Bool} {k:Nat} (h:NoneB l p k) (hk:l.length≤k):l.any p=false:=by
 rw [List.any_eq_false]
 intro y hy
 obtain ⟨i,hi,e⟩:=List.getElem_of_mem hy
 have:=h i y (by omega) (by rw [List.getElem?_eq_getElem hi,e])
 rw [this]
 decide
theorem zdV {α : Type} {l:List α} {p : α→Bool} {k:Nat} {x : α} (hx:l[k]?=some x) (hp:p x=true):l.any p=true:=List.any_eq_true.2 ⟨x,List.mem_of_getElem? hx,hp⟩
theorem NoneB.hit {α : Type} {p : α→Bool} {x : α}:∀ {l:List α} {k:Nat},NoneB l p k→l[k]?=some x→p x=true→l.find? p=some x
 | [],k,_,hx,_ =>by simp at hx
 | y::l,0,_,hx,hp =>by
  simp at hx
  subst hx
  rw [List.find?_cons,hp]
 | y::l,k+1,h,hx,hp =>by
  rw [List.find?_cons,h 0 y (by omega) rfl]
  exact NoneB.hit (l:=l) (k:=k) (fun j z hj hz =>h (j+1) z (by omega) (by simpa using hz)) (by simpa using hx) hp
def zd1 {α : Type} (l:List α) (p : α→Bool):Int:=match l.findIdx? p with
 | some k =>(k:Int)
 | none => -1
theorem NoneB.idx {α : Type} {p : α→Bool} {x : α} {l:List α} {k:Nat} (h:NoneB l p k) (hx:l[k]?=some x) (hp:p x=true):zd1 l p=(k:Int):=by
 have:l.findIdx? p=some k:=by
  obtain ⟨hk,e⟩:=List.getElem?_eq_some_iff.1 hx
  rw [List.findIdx?_eq_some_iff_getElem]
  refine ⟨hk,by rw [e];exact hp,fun j hj =>?_⟩
  rw [h j _ hj (List.getElem?_eq_getElem (by omega))]
  decide
 unfold zd1
 rw [this]
theorem NoneB.idx0 {α : Type} {p : α→Bool} {l:List α} {k:Nat} (h:NoneB l p k) (hk:l.length≤k):zd1 l p = -1:=by
 have:l.findIdx? p=none:=by
  rw [List.findIdx?_eq_none_iff]
  intro y hy
  obtain ⟨i,hi,e⟩:=List.getElem_of_mem hy
  exact h i y (by omega) (by rw [List.getElem?_eq_getElem hi,e])
 unfold zd1
 rw [this]
theorem zfs {α : Type} (l:List α) (p : α→Bool):(zd1 l p = -1∧l.any p=false∧l.find? p=none)∨∃ (k:Nat) (x : α),zd1 l p=(k:Int)∧k < l.length∧l[k]?=some x∧p x=true∧l.any p=true∧l.find? p=some x∧NoneB l p k:=by
 cases h:l.findIdx? p with
 | none =>
  refine .inl ⟨by unfold zd1;rw [h], ?_, ?_⟩
  ·rw [List.findIdx?_eq_none_iff] at h
   rw [List.any_eq_false]
   intro x hx
   simp [h x hx]
  ·rw [List.findIdx?_eq_none_iff] at h
   rw [List.find?_eq_none]
   intro x hx
   simp [h x hx]
 | some k =>
  obtain ⟨hk,h1,h2⟩:=List.findIdx?_eq_some_iff_getElem.1 h
  have hx:l[k]?=some l[k]:=List.getElem?_eq_getElem hk
  have hn:NoneB l p k:=fun j y hj hy =>by
   rw [List.getElem?_eq_getElem (by omega)] at hy
   injection hy with hy
   rw [← hy]
   simpa using h2 j hj
  exact .inr ⟨k,l[k],by unfold zd1;rw [h],hk,hx,h1,zdV hx h1,hn.hit hx h1,hn⟩
theorem zcp {α : Type} (l:List α) (p : α→Bool):decide (zd1 l p < 0) = !l.any p:=by
 rcases zfs l p with ⟨e,h,_⟩ | ⟨k,x,e,hk,_,_,h,_⟩
 ·rw [e,h];decide
 ·rw [e,h];simp
def OkTo {α : Type} (l:List α) (d : α) (f : α→Int) (k:Nat):Prop := ∀ j,j < k→f (l.getD j d)=0
theorem OkTo.zero {α : Type} (l:List α) (d : α) (f : α→Int):OkTo l d f 0:=fun j h =>by omega
theorem OkTo.next {α : Type} {l:List α} {d : α} {f : α→Int} {k:Nat} {x : α} (h:OkTo l d f k) (hx:l[k]?=some x) (hf:f x=0):OkTo l d f (k+1):=fun j hj =>by
 by_cases e:j=k
 ·subst e
  rw [zb1 hx]
  exact hf
 ·exact h j (by omega)
theorem OkTo.bad {α : Type} {l:List α} {d : α} {f : α→Int} {k:Nat} {x : α} (h:OkTo l d f k) (hx:l[k]?=some x) (list:Int) (hf:f x≠0):zaf list l d f=(f x,list,(k:Int)):=by
 have:=zba (list:=list) (n:=l.length) (f:=fun i =>f (l.getD i d)) k (List.getElem?_eq_some_iff.1 hx).1 h (by rw [zb1 hx];exact hf)
 rw [zb1 hx] at this
 exact this
theorem OkTo.ok {α : Type} {l:List α} {d : α} {f : α→Int} {k:Nat} (h:OkTo l d f k) (hk:l.length≤k) (list:Int):zaf list l d f=(0,0,0):=zbE (fun i hi =>h i (by omega))
def OkR (f:Nat→Int) (k:Nat):Prop := ∀ j,j < k→f j=0
theorem OkR.zero (f:Nat→Int):OkR f 0:=fun j h =>by omega
theorem OkR.next {f:Nat→Int} {k:Nat} (h:OkR f k) (hf:f k=0):OkR f (k+1):=fun j hj =>by
 by_cases e:j=k
 ·subst e;exact hf
 ·exact h j (by omega)
theorem zqq {W:World} {hi:Nat} {a:Option Addr} {zs:List (Int × Int)} {k:Nat} {x:Int × Int} (h:RowC W hi a (zdk zs)) (hx:zs[k]?=some x):∃ g o,a=some ⟨g,o,none⟩∧g < hi∧W.cell? ⟨g,o+k*2,none⟩=some (.int .i32 x.1)∧W.cell? ⟨g,o+k*2+1,none⟩=some (.int .i64 x.2):=by
 obtain ⟨e1,e2⟩:=zf6 zs k x hx
 obtain ⟨g,o,e,hg,hc⟩:=h (by have:=(List.getElem?_eq_some_iff.1 e1).1;omega)
 exact ⟨g,o,e,hg,hc _ _ e1,by have:=hc _ _ e2;rwa [← Nat.add_assoc] at this⟩
theorem zqp {W:World} {hi:Nat} {a:Option Addr} {zs:List (Int × Int)} {k:Nat} {x:Int × Int} (h:RowC W hi a (zaQ zs)) (hx:zs[k]?=some x):∃ g o,a=some ⟨g,o,none⟩∧g < hi∧W.cell? ⟨g,o+k*2,none⟩=some (.int .i32 x.1)∧W.cell? ⟨g,o+k*2+1,none⟩=some (.int .i32 x.2):=by
 obtain ⟨e1,e2⟩:=ze4 zs k x hx
 obtain ⟨g,o,e,hg,hc⟩:=h (by have:=(List.getElem?_eq_some_iff.1 e1).1;omega)
 exact ⟨g,o,e,hg,hc _ _ e1,by have:=hc _ _ e2;rwa [← Nat.add_assoc] at this⟩
theorem zlH {W:World} {hi:Nat} {a:Option Addr} {zs:List (Int × ByteArray)} {k:Nat} {x:Int × ByteArray} (h:RowC W hi a (zbl zs)) (hx:zs[k]?=some x):∃ g o,a=some ⟨g,o,none⟩∧g < hi∧W.cell? ⟨g,o+k*2,none⟩=some (.int .i32 x.1)∧W.cell? ⟨g,o+k*2+1,none⟩=some (.string x.2):=by
 obtain ⟨e1,e2⟩:=zdR zs k x hx
 obtain ⟨g,o,e,hg,hc⟩:=h (by have:=(List.getElem?_eq_some_iff.1 e1).1;omega)
 exact ⟨g,o,e,hg,hc _ _ e1,by have:=hc _ _ e2;rwa [← Nat.add_assoc] at this⟩
theorem zoz {W:World} {hi:Nat} {a:Option Addr} {zs:List (Int × Int × Int)} {k:Nat} {x:Int × Int × Int} (h:RowC W hi a (zcL zs)) (hx:zs[k]?=some x):∃ g o,a=some ⟨g,o,none⟩∧g < hi∧W.cell? ⟨g,o+k*3,none⟩=some (.int .i32 x.1)∧W.cell? ⟨g,o+k*3+1,none⟩=some (.int .i32 x.2.1)∧W.cell? ⟨g,o+k*3+2,none⟩=some (.int .i32 x.2.2):=by
 obtain ⟨e1,e2,e3⟩:=zdf zs k x hx
 obtain ⟨g,o,e,hg,hc⟩:=h (by have:=(List.getElem?_eq_some_iff.1 e1).1;omega)
 exact ⟨g,o,e,hg,hc _ _ e1,by have:=hc _ _ e2;rwa [← Nat.add_assoc] at this,by have:=hc _ _ e3;rwa [← Nat.add_assoc] at this⟩
structure TbA where
 a0:Option Addr
 a1:Option Addr
 a2:Option Addr
 a3:Option Addr
 a4:Option Addr
 a5:Option Addr
 a6:Option Addr
 a7:Option Addr
 c0:Nat
 c1:Nat
 c2:Nat
 c3:Nat
 c4:Nat
 c5:Nat
 c6:Nat
 c7:Nat
 us:List Value
abbrev zfM (W:World) (T:TV) (A:TbA):Prop:=TabIn W T A.a0 A.a1 A.a2 A.a3 A.a4 A.a5 A.a6 A.a7 A.us
theorem zoy {W:World} {T:TV} {A:TbA} {k:Nat} {x:ByteArray × List (Int × Int)} (h:zfM W T A) (hx:T.sc[k]?=some x):∃ g o b d,A.a0=some ⟨g,o,none⟩∧g < W.heap.size∧W.cell? ⟨g,o+k*2,none⟩=some (.string x.1)∧W.cell? ⟨g,o+k*2+1,none⟩=some (.slice b x.2.length d)∧RowC W W.heap.size b (zaQ x.2):=by
 have hk:=(List.getElem?_eq_some_iff.1 hx).1
 obtain ⟨u,hu⟩:∃ u,A.us[k]?=some u:=⟨_,List.getElem?_eq_getElem (by rw [h.lu];exact hk)⟩
 obtain ⟨b,d,rfl,hr⟩:=h.rs k x u hx hu
 have e1:=ziX T.sc A.us h.lu k x hx
 have e2:=(ze3 T.sc A.us h.lu k).trans hu
 obtain ⟨g,o,e,hg,hc⟩:=h.r0 (by have:=(List.getElem?_eq_some_iff.1 e1).1;omega)
 refine ⟨g,o,b,d,e,hg,hc _ _ e1, ?_,hr⟩
 have:=hc _ _ e2
 rw [show o+(2*k+1)=o+k*2+1 by omega] at this
 exact this
def TbV (W:World) (T:TV) (v:Value):Prop := ∃ A,v=.agg #[.slice A.a0 T.sc.length A.c0,.slice A.a1 T.co.length A.c1,.slice A.a2 T.ma.length A.c2,.slice A.a3 T.pr.length A.c3,.slice A.a4 T.fo.length A.c4,.slice A.a5 T.lk.length A.c5,.slice A.a6 T.dr.length A.c6,.slice A.a7 T.al.length A.c7]∧zfM W T A
theorem TbV.below {W W':World} {T:TV} {v:Value} (h:TbV W T v) (hb:Below W.heap.size W W'):TbV W' T v:=by
 obtain ⟨A,e,h⟩:=h
 exact ⟨A,e,h.lower hb⟩
structure TbX (W w:World) (T:TV) (A:TbA):Prop where
 bl:Below W.heap.size W w
 bx:Blk w W.heap.size #[.slice A.a0 T.sc.length A.c0,.slice A.a1 T.co.length A.c1,.slice A.a2 T.ma.length A.c2,.slice A.a3 T.pr.length A.c3,.slice A.a4 T.fo.length A.c4,.slice A.a5 T.lk.length A.c5,.slice A.a6 T.dr.length A.c6,.slice A.a7 T.al.length A.c7] 28
 ti:zfM w T A
section
variable {W w w':World} {T:TV} {A:TbA}
theorem TbX.below (h:TbX W w T A) (hb:Below w.heap.size w w'):TbX W w' T A:=⟨h.bl.trans (hb.mono h.bl.size),h.bx.below hb h.bx.lt,h.ti.lower hb⟩
theorem TbX.start (h:zfM W T A):TbX W (W.alloc (.cells #[.slice A.a0 T.sc.length A.c0,.slice A.a1 T.co.length A.c1,.slice A.a2 T.ma.length A.c2,.slice A.a3 T.pr.length A.c3,.slice A.a4 T.fo.length A.c4,.slice A.a5 T.lk.length A.c5,.slice A.a6 T.dr.length A.c6,.slice A.a7 T.al.length A.c7] 28)) T A :=
 have hB:Below W.heap.size W (W.alloc (.cells #[.slice A.a0 T.sc.length A.c0,.slice A.a1 T.co.length A.c1,.slice A.a2 T.ma.length A.c2,.slice A.a3 T.pr.length A.c3,.slice A.a4 T.fo.length A.c4,.slice A.a5 T.lk.length A.c5,.slice A.a6 T.dr.length A.c6,.slice A.a7 T.al.length A.c7] 28)):=(Below.refl _ W).alloc (Nat.le_refl _) _
 ⟨hB,Blk.new W _ _,h.lower hB⟩
theorem TbX.tv (h:TbX W w T A):TbV w T (.agg #[.slice A.a0 T.sc.length A.c0,.slice A.a1 T.co.length A.c1,.slice A.a2 T.ma.length A.c2,.slice A.a3 T.pr.length A.c3,.slice A.a4 T.fo.length A.c4,.slice A.a5 T.lk.length A.c5,.slice A.a6 T.dr.length A.c6,.slice A.a7 T.al.length A.c7]):=⟨A,rfl,h.ti⟩
theorem TbX.z0 (h:TbX W w T A):w.cell? ⟨W.heap.size,0,none⟩=some (.slice A.a0 T.sc.length A.c0):=h.bx.cell 0
theorem TbX.z1 (h:TbX W w T A):w.cell? ⟨W.heap.size,1,none⟩=some (.slice A.a1 T.co.length A.c1):=h.bx.cell 1
theorem TbX.z2 (h:TbX W w T A):w.cell? ⟨W.heap.size,2,none⟩=some (.slice A.a2 T.ma.length A.c2):=h.bx.cell 2
theorem TbX.z3 (h:TbX W w T A):w.cell? ⟨W.heap.size,3,none⟩=some (.slice A.a3 T.pr.length A.c3):=h.bx.cell 3
theorem TbX.z4 (h:TbX W w T A):w.cell? ⟨W.heap.size,4,none⟩=some (.slice A.a4 T.fo.length A.c4):=h.bx.cell 4
theorem TbX.z5 (h:TbX W w T A):w.cell? ⟨W.heap.size,5,none⟩=some (.slice A.a5 T.lk.length A.c5):=h.bx.cell 5
theorem TbX.z6 (h:TbX W w T A):w.cell? ⟨W.heap.size,6,none⟩=some (.slice A.a6 T.dr.length A.c6):=h.bx.cell 6
theorem TbX.z7 (h:TbX W w T A):w.cell? ⟨W.heap.size,7,none⟩=some (.slice A.a7 T.al.length A.c7):=h.bx.cell 7
end
abbrev wrC (x:Int × Int × Int):Array Value:=#[.int .i64 x.1,.int .i64 x.2.1,.int .i64 x.2.2]
structure RxS (W w:World) (T:TV) (A:TbA):Prop where
 tb:TbX W w T A
 rs:Blk w (W.heap.size+1) #[.int .i64 0,.int .i64 0,.int .i64 0] 76
theorem RxS.below {W w w':World} {T:TV} {A:TbA} (h:RxS W w T A) (hb:Below w.heap.size w w'):RxS W w' T A:=⟨h.tb.below hb,h.rs.below hb h.rs.lt⟩
theorem RxS.start {W:World} {T:TV} {A:TbA} (h:zfM W T A):RxS W ((W.alloc (.cells #[.slice A.a0 T.sc.length A.c0,.slice A.a1 T.co.length A.c1,.slice A.a2 T.ma.length A.c2,.slice A.a3 T.pr.length A.c3,.slice A.a4 T.fo.length A.c4,.slice A.a5 T.lk.length A.c5,.slice A.a6 T.dr.length A.c6,.slice A.a7 T.al.length A.c7] 28)).alloc (.cells #[.int .i64 0,.int .i64 0,.int .i64 0] 76)) T A :=
 have hX:=TbX.start h
 ⟨hX.below ((Below.refl _ _).alloc (Nat.le_refl _) _),by
  have h:=Blk.new (W.alloc (.cells #[.slice A.a0 T.sc.length A.c0,.slice A.a1 T.co.length A.c1,.slice A.a2 T.ma.length A.c2,.slice A.a3 T.pr.length A.c3,.slice A.a4 T.fo.length A.c4,.slice A.a5 T.lk.length A.c5,.slice A.a6 T.dr.length A.c6,.slice A.a7 T.al.length A.c7] 28)) #[.int .i64 0,.int .i64 0,.int .i64 0] 76
  rw [World.size_alloc] at h
  exact h⟩
structure RxD (W w:World) (x:Int × Int × Int):Prop where
 bl:Below W.heap.size W w
 rs:Blk w (W.heap.size+1) (wrC x) 76
theorem RxS.put {W w:World} {T:TV} {A:TbA} (h:RxS W w T A) (x:Int × Int × Int):RxD W (((w.setCell ⟨W.heap.size+1,0,none⟩ (.int .i64 x.1)).setCell ⟨W.heap.size+1,1,none⟩ (.int .i64 x.2.1)).setCell ⟨W.heap.size+1,2,none⟩ (.int .i64 x.2.2)) x :=
 ⟨zaW h.tb.bl (by omega) h.tb.bl.size _ _ _,zcf h.rs _ _ _⟩
structure RxT (W w0 w:World) (T:TV) (A:TbA):Prop where
 rx:RxS W w T A
 fr:Below w0.heap.size w0 w
theorem RxT.refl {W w:World} {T:TV} {A:TbA} (h:RxS W w T A):RxT W w w T A:=⟨h,Below.refl _ _⟩
theorem RxT.below {W w0 w w':World} {T:TV} {A:TbA} (h:RxT W w0 w T A) (hb:Below w.heap.size w w'):RxT W w0 w' T A:=⟨h.rx.below hb,h.fr.trans (hb.mono h.fr.size)⟩
theorem RxT.put {W w0 w:World} {T:TV} {A:TbA} (h:RxT W w0 w T A) (y l k:Int):RxD W (((w.setCell ⟨W.heap.size+1,0,none⟩ (.int .i64 y)).setCell ⟨W.heap.size+1,1,none⟩ (.int .i64 l)).setCell ⟨W.heap.size+1,2,none⟩ (.int .i64 k)) (y,l,k):=h.rx.put (y,l,k)
theorem zbi {w w':World} {g i:Nat} {v:Value} (h:w.cell? ⟨g,i,none⟩=some v) (hb:Below w.heap.size w w') (hg:g < w.heap.size):w'.cell? ⟨g,i,none⟩=some v:=(hb.cell (p:=⟨g,i,none⟩) hg).trans h
set_option maxRecDepth 100000
set_option maxHeartbeats 8000000
theorem zax (r:Int) (w:World):Calls Tryz.prog 62 #[.int .i32 r] w fun e w' =>e=.returned (.bool (zan r))∧w'=w:=by
 by_cases h0:0≤r
 ·by_cases h1:r≤1114111
  ·by_cases h2:r < 55296
   ·have e:zan r=true:=decide_eq_true ⟨h0,h1,.inl h2⟩
    rw [e]
    clear e
    go_enter Tryz.func62,Tryz.ntmps62
    go_wp2_with fail
    go_ret
    exact ⟨rfl,rfl⟩
   ·by_cases h3:57343 < r
    ·have e:zan r=true:=decide_eq_true ⟨h0,h1,.inr h3⟩
     rw [e]
     clear e
     go_enter Tryz.func62,Tryz.ntmps62
     go_wp2_with fail
     go_ret
     exact ⟨rfl,rfl⟩
    ·have e:zan r=false:=decide_eq_false (by omega)
     rw [e]
     clear e
     go_enter Tryz.func62,Tryz.ntmps62
     go_wp2_with fail
     go_ret
     exact ⟨rfl,rfl⟩
  ·have e:zan r=false:=decide_eq_false (by omega)
   rw [e]
   clear e
   go_enter Tryz.func62,Tryz.ntmps62
   go_wp2_with fail
   go_ret
   exact ⟨rfl,rfl⟩
 ·have e:zan r=false:=decide_eq_false (by omega)
  rw [e]
  clear e
  go_enter Tryz.func62,Tryz.ntmps62
  go_wp2_with fail
  go_ret
  exact ⟨rfl,rfl⟩
theorem zes (T:TV) (hT:T.ma.length≤1048576) (v:Value) (r:Int) (W:World) (hv:TbV W T v) :
  Calls Tryz.prog 87 #[v,.int .i32 r] W fun e w' =>e=.returned (.bool (za7 T r))∧Below W.heap.size W w':=by
 obtain ⟨A,rfl,hA⟩:=hv
 have HX:=kz (TbX.start hA)
 have HV:Hz (T.ma.any (fun x =>x.1 == r)=za7 T r):=kz rfl
 generalize za7 T r=mb at *
 clear hA
 go_enter Tryz.func87,Tryz.ntmps87
 go_wp2_with fail
 generalize W.alloc (.cells #[.slice A.a0 T.sc.length A.c0,.slice A.a1 T.co.length A.c1,.slice A.a2 T.ma.length A.c2,.slice A.a3 T.pr.length A.c3,.slice A.a4 T.fo.length A.c4,.slice A.a5 T.lk.length A.c5,.slice A.a6 T.dr.length A.c6,.slice A.a7 T.al.length A.c7] 28)=w0 at *
 go_loopw [5] (fun i wr => ∃ k:Nat,k≤T.ma.length∧i=.int .i64 k∧Hz (NoneB T.ma (fun x =>x.1 == r) k)∧Hz (TbX W wr T A)) (fun i _ =>T.ma.length - (intOf i).toNat)
 case atStart =>exact ⟨0,Nat.zero_le _,rfl,kz (NoneB.zero _ _),HX⟩
 case round =>
  clear HX
  obtain ⟨k,hk,rfl,HN,HX⟩:=hrel
  have z:=(oz HX).z2
  by_cases hkn:k < T.ma.length
  ·obtain ⟨x,hx⟩:∃ x,T.ma[k]?=some x:=⟨_,List.getElem?_eq_getElem hkn⟩
   obtain ⟨g,o,ea,hg,c0,c1⟩:=zqq (oz HX).ti.r2 hx
   rw [ea] at z
   have HK:=kz hx
   have k1:(k:Int) < (T.ma.length:Int):=by omega
   have k2:((k:Nat):Int).toNat=k:=by omega
   clear hg ea hx
   by_cases hc:x.1=r
   ·obtain rfl:=hc
    have e0:(x.1 == x.1)=true:=by simp
    have hm:mb=true:=by rw [← oz HV];exact zdV (oz HK) (by simp)
    subst hm
    clear HV HK HN
    go_wp2_with fail
    go_ret
    exact ⟨rfl,(oz HX).bl⟩
   ·have e0:(x.1 == r)=false:=by simpa using hc
    have HN2:=kz ((oz HN).next (oz HK) (by simpa using hc))
    clear HK HN
    go_wp2_with fail
    exact ⟨⟨k+1,by omega,by first | rfl | go_num,HN2,HX⟩,by simp [intOf];omega⟩
  ·have k1:¬ (k:Int) < (T.ma.length:Int):=by omega
   have hm:mb=false:=by rw [← oz HV];exact (oz HN).any (by omega)
   subst hm
   clear HV HN
   go_wp2_with fail
   go_ret
   exact ⟨rfl,(oz HX).bl⟩
theorem zdK (T:TV) (hT:T.pr.length≤1048576) (v:Value) (r:Int) (W:World) (hv:TbV W T v) :
  Calls Tryz.prog 89 #[v,.int .i32 r] W fun e w' =>e=.returned (.int .i64 (zd1 T.pr (fun x =>x.1 == r)))∧Below W.heap.size W w':=by
 obtain ⟨A,rfl,hA⟩:=hv
 have HX:=kz (TbX.start hA)
 have HV:∃ mb,Hz (zd1 T.pr (fun x =>x.1 == r)=mb):=⟨_,kz rfl⟩
 obtain ⟨mb,HV⟩:=HV
 rw [oz HV]
 clear hA
 go_enter Tryz.func89,Tryz.ntmps89
 go_wp2_with fail
 generalize W.alloc (.cells #[.slice A.a0 T.sc.length A.c0,.slice A.a1 T.co.length A.c1,.slice A.a2 T.ma.length A.c2,.slice A.a3 T.pr.length A.c3,.slice A.a4 T.fo.length A.c4,.slice A.a5 T.lk.length A.c5,.slice A.a6 T.dr.length A.c6,.slice A.a7 T.al.length A.c7] 28)=w0 at *
 go_loopw [5] (fun i wr => ∃ k:Nat,k≤T.pr.length∧i=.int .i64 k∧Hz (NoneB T.pr (fun x =>x.1 == r) k)∧Hz (TbX W wr T A)) (fun i _ =>T.pr.length - (intOf i).toNat)
 case atStart =>exact ⟨0,Nat.zero_le _,rfl,kz (NoneB.zero _ _),HX⟩
 case round =>
  clear HX
  obtain ⟨k,hk,rfl,HN,HX⟩:=hrel
  have z:=(oz HX).z3
  by_cases hkn:k < T.pr.length
  ·obtain ⟨x,hx⟩:∃ x,T.pr[k]?=some x:=⟨_,List.getElem?_eq_getElem hkn⟩
   obtain ⟨g,o,ea,hg,c0,c1,c2⟩:=zoz (oz HX).ti.r3 hx
   rw [ea] at z
   have HK:=kz hx
   have k1:(k:Int) < (T.pr.length:Int):=by omega
   have k2:((k:Nat):Int).toNat=k:=by omega
   clear hg ea hx
   by_cases hc:x.1=r
   ·obtain rfl:=hc
    have e0:(x.1 == x.1)=true:=by simp
    have hm:mb=(k:Int):=by rw [← oz HV];exact (oz HN).idx (oz HK) (by simp)
    subst hm
    clear HV HK HN
    go_wp2_with fail
    go_ret
    exact ⟨rfl,(oz HX).bl⟩
   ·have e0:(x.1 == r)=false:=by simpa using hc
    have HN2:=kz ((oz HN).next (oz HK) (by simpa using hc))
    clear HK HN
    go_wp2_with fail
    exact ⟨⟨k+1,by omega,by first | rfl | go_num,HN2,HX⟩,by simp [intOf];omega⟩
  ·have k1:¬ (k:Int) < (T.pr.length:Int):=by omega
   have hm:mb = -1:=by rw [← oz HV];exact (oz HN).idx0 (by omega)
   subst hm
   clear HV HN
   go_wp2_with fail
   go_ret
   exact ⟨rfl,(oz HX).bl⟩
theorem zb2 (l:List (Int × ByteArray)) (hl:l.length≤1048576) (a:Option Addr) (c:Nat) (r:Int) (W:World) (hv:RowC W W.heap.size a (zbl l)) :
  Calls Tryz.prog 86 #[.slice a l.length c,.int .i32 r] W fun e w' =>e=.returned (.int .i64 (zd1 l (fun x =>x.1 == r)))∧w'=W:=by
 have HL:=kz hv
 have HV:∃ mb,Hz (zd1 l (fun x =>x.1 == r)=mb):=⟨_,kz rfl⟩
 obtain ⟨mb,HV⟩:=HV
 rw [oz HV]
 clear hv
 go_enter Tryz.func86,Tryz.ntmps86
 go_wp2_with fail
 go_loopw [5] (fun i wr => ∃ k:Nat,k≤l.length∧i=.int .i64 k∧Hz (NoneB l (fun x =>x.1 == r) k)∧wr=W) (fun i _ =>l.length - (intOf i).toNat)
 case atStart =>exact ⟨0,Nat.zero_le _,rfl,kz (NoneB.zero _ _),rfl⟩
 case round =>
  obtain ⟨k,hk,rfl,HN,rfl⟩:=hrel
  by_cases hkn:k < l.length
  ·obtain ⟨x,hx⟩:∃ x,l[k]?=some x:=⟨_,List.getElem?_eq_getElem hkn⟩
   obtain ⟨g,o,rfl,hg,c0,c1⟩:=zlH (oz HL) hx
   have HK:=kz hx
   have k1:(k:Int) < (l.length:Int):=by omega
   have k2:((k:Nat):Int).toNat=k:=by omega
   clear hg hx
   by_cases hc:x.1=r
   ·obtain rfl:=hc
    have e0:(x.1 == x.1)=true:=by simp
    have hm:mb=(k:Int):=by rw [← oz HV];exact (oz HN).idx (oz HK) (by simp)
    subst hm
    clear HV HK HN
    go_wp2_with fail
    go_ret
    exact ⟨rfl,rfl⟩
   ·have e0:(x.1 == r)=false:=by simpa using hc
    have HN2:=kz ((oz HN).next (oz HK) (by simpa using hc))
    clear HK HN
    go_wp2_with fail
    exact ⟨⟨k+1,by omega,by first | rfl | go_num,HN2,by first | trivial | rfl⟩,by simp [intOf];omega⟩
  ·have k1:¬ (k:Int) < (l.length:Int):=by omega
   have hm:mb = -1:=by rw [← oz HV];exact (oz HN).idx0 (by omega)
   subst hm
   clear HV HN
   go_wp2_with fail
   go_ret
   exact ⟨rfl,rfl⟩
theorem zbk (l:List (Int × Int)) (hl:l.length≤1048576) (a:Option Addr) (c:Nat) (r:Int) (W:World) (hv:RowC W W.heap.size a (zaQ l)) :
  Calls Tryz.prog 40 #[.int .i32 r,.slice a l.length c] W fun e w' =>e=.returned (.bool (zam l r))∧w'=W:=by
 have HL:=kz hv
 have HV:∃ mb,Hz ((l.any (fun x =>decide (x.1≤r∧r≤x.2)) && zan r)=mb):=⟨_,kz rfl⟩
 obtain ⟨mb,HV⟩:=HV
 rw [show zam l r=mb from oz HV]
 have HR:=kz (zax r)
 clear hv
 cases hr:zan r with
 | true =>
  rw [hr] at HR HV
  clear hr
  go_enter Tryz.func40,Tryz.ntmps40
  go_wp2_with fail
  go_loopw [5] (fun i wr => ∃ k:Nat,k≤l.length∧i=.int .i64 k∧Hz (NoneB l (fun x =>decide (x.1≤r∧r≤x.2)) k)∧wr=W) (fun i _ =>l.length - (intOf i).toNat)
  case atStart =>exact ⟨0,Nat.zero_le _,rfl,kz (NoneB.zero _ _),rfl⟩
  case round =>
   obtain ⟨k,hk,rfl,HN,rfl⟩:=hrel
   by_cases hkn:k < l.length
   ·obtain ⟨x,hx⟩:∃ x,l[k]?=some x:=⟨_,List.getElem?_eq_getElem hkn⟩
    obtain ⟨g,o,rfl,hg,c0,c1⟩:=zqp (oz HL) hx
    have HK:=kz hx
    have k1:(k:Int) < (l.length:Int):=by omega
    have k2:((k:Nat):Int).toNat=k:=by omega
    clear hg hx
    by_cases h0:x.1≤r
    ·by_cases h1:r≤x.2
     ·have hm:mb=true:=by rw [← oz HV,zdV (oz HK) (by simp [h0,h1])];rfl
      subst hm
      clear HV HK HN
      go_wp2_with fail
      refine (oz HR _).mono ?_
      rintro e w1 ⟨rfl,rfl⟩
      go_wp2_with fail
      go_ret
      exact ⟨rfl,rfl⟩
     ·have HN2:=kz ((oz HN).next (oz HK) (by simp [h1]))
      clear HK HN
      go_wp2_with fail
      refine (oz HR _).mono ?_
      rintro e w1 ⟨rfl,rfl⟩
      go_wp2_with fail
      exact ⟨⟨k+1,by omega,by first | rfl | go_num,HN2,by first | trivial | rfl⟩,by simp [intOf];omega⟩
    ·have HN2:=kz ((oz HN).next (oz HK) (by simp [h0]))
     clear HK HN
     go_wp2_with fail
     refine (oz HR _).mono ?_
     rintro e w1 ⟨rfl,rfl⟩
     go_wp2_with fail
     exact ⟨⟨k+1,by omega,by first | rfl | go_num,HN2,by first | trivial | rfl⟩,by simp [intOf];omega⟩
   ·have k1:¬ (k:Int) < (l.length:Int):=by omega
    have hm:mb=false:=by rw [← oz HV,(oz HN).any (by omega)];rfl
    subst hm
    clear HV HN
    go_wp2_with fail
    go_ret
    exact ⟨rfl,rfl⟩
 | false =>
  rw [hr] at HR HV
  clear hr
  go_enter Tryz.func40,Tryz.ntmps40
  go_wp2_with fail
  go_loopw [5] (fun i wr => ∃ k:Nat,k≤l.length∧i=.int .i64 k∧Hz (NoneB l (fun _ =>false) k)∧wr=W) (fun i _ =>l.length - (intOf i).toNat)
  case atStart =>exact ⟨0,Nat.zero_le _,rfl,kz (NoneB.zero _ _),rfl⟩
  case round =>
   obtain ⟨k,hk,rfl,HN,rfl⟩:=hrel
   by_cases hkn:k < l.length
   ·obtain ⟨x,hx⟩:∃ x,l[k]?=some x:=⟨_,List.getElem?_eq_getElem hkn⟩
    obtain ⟨g,o,rfl,hg,c0,c1⟩:=zqp (oz HL) hx
    have HK:=kz hx
    have k1:(k:Int) < (l.length:Int):=by omega
    have k2:((k:Nat):Int).toNat=k:=by omega
    clear hg hx
    have HN2:Hz (NoneB l (fun _ =>false) (k+1)):=kz (fun _ _ _ _ =>rfl)
    clear HK HN
    go_wp2_with fail
    refine (oz HR _).mono ?_
    rintro e w1 ⟨rfl,rfl⟩
    go_wp2_with fail
    exact ⟨⟨k+1,by omega,by first | rfl | go_num,HN2,by first | trivial | rfl⟩,by simp [intOf];omega⟩
   ·have k1:¬ (k:Int) < (l.length:Int):=by omega
    have hm:mb=false:=by rw [← oz HV];simp
    subst hm
    clear HV HN
    go_wp2_with fail
    go_ret
    exact ⟨rfl,rfl⟩
end Go.Proofs.YtmemedpoaocdkaaGreat
