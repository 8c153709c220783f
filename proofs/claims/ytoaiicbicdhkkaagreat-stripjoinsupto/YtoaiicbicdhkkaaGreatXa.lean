/- Texts of this claim, one behind the other. -/
import Derived.Test.YtoaiicbicdhkkaaGreatRows
import Derived.Test.YtoaiicbicdhkkaaGreatM1
import Derived.Test.YtoaiicbicdhkkaaGreatM2
import Derived.Test.YtoaiicbicdhkkaaGreatM3
import Derived.Test.YtoaiicbicdhkkaaGreatM4
import Derived.Test.YtoaiicbicdhkkaaGreatM5
import Derived.Test.YtoaiicbicdhkkaaGreatRuB
import Derived.Test.YtoaiicbicdhkkaaGreatM6
import Derived.Test.YtoaiicbicdhkkaaGreatM7
import Derived.Test.YtoaiicbicdhkkaaGreatM8
import Derived.Test.YtoaiicbicdhkkaaGreatUaH
import Derived.Test.YtoaiicbicdhkkaaGreatUaI
import Derived.Test.YtoaiicbicdhkkaaGreatM9
import Derived.Test.YtoaiicbicdhkkaaGreatM10
import Derived.Test.YtoaiicbicdhkkaaGreatM11
import Derived.Test.YtoaiicbicdhkkaaGreatUaQ
import Derived.Test.YtoaiicbicdhkkaaGreatM12
import Derived.Test.YtoaiicbicdhkkaaGreatM13
import Derived.Test.YtoaiicbicdhkkaaGreatM14
import Derived.Test.YtoaiicbicdhkkaaGreatTkK
import Derived.Test.YtoaiicbicdhkkaaGreatM15
import Derived.Test.YtoaiicbicdhkkaaGreatM16
import Derived.Test.YtoaiicbicdhkkaaGreatM17
import Derived.Test.YtoaiicbicdhkkaaGreatM18
import Derived.Test.YtoaiicbicdhkkaaGreatM19
import Derived.Test.YtoaiicbicdhkkaaGreatM20
import Derived.Test.YtoaiicbicdhkkaaGreatTkU
import Derived.Test.YtoaiicbicdhkkaaGreatM21
import Derived.Test.YtoaiicbicdhkkaaGreatM22
import Derived.Test.YtoaiicbicdhkkaaGreatM23
import Derived.Test.YtoaiicbicdhkkaaGreatM24
import Derived.Test.YtoaiicbicdhkkaaGreatTlJ
import Derived.Test.YtoaiicbicdhkkaaGreatM25
import Derived.Test.YtoaiicbicdhkkaaGreatM26
import Derived.Test.YtoaiicbicdhkkaaGreatM27
import Derived.Test.YtoaiicbicdhkkaaGreatTlN
import Derived.Test.YtoaiicbicdhkkaaGreatM28
import Derived.Test.YtoaiicbicdhkkaaGreatM29
import Derived.Test.YtoaiicbicdhkkaaGreatM30
import Derived.Test.YtoaiicbicdhkkaaGreatM31
import Derived.Test.YtoaiicbicdhkkaaGreatM32
import Derived.Lib.DecodeN
import Derived.Laws.Strings
import Derived.Laws.RangeAny
import Derived.Deep.QuietTactic
import Derived.BigQuiet
import Derived.WalkSmall
import Derived.ProofKit
import Derived.OpenShut
import Derived.ChangeOld
import Derived.Deep.SlicePairs
namespace Go.Proofs.YtoaiicbicdhkkaaGreat
set_option linter.unusedVariables false
open Go.Lib (decodeN decode_at)

/-- Of the room only whether it is 1, 2, 3 or more counts. -/
theorem decodeN_room (n m b0 b1 b2 b3:Nat) (h:n=m∨(4≤n∧4≤m)):decodeN n b0 b1 b2 b3=decodeN m b0 b1 b2 b3:=by
  rcases h with rfl | ⟨h,k⟩
  · rfl
  · have e1:(1 < n)=(1 < m):=propext ⟨fun _ =>by omega,fun _ =>by omega⟩
    have e2:(2 < n)=(2 < m):=propext ⟨fun _ =>by omega,fun _ =>by omega⟩
    have e3:(3 < n)=(3 < m):=propext ⟨fun _ =>by omega,fun _ =>by omega⟩
    unfold decodeN
    simp only [e1,e2,e3]

/-- Only the bytes that are there count. -/
theorem decodeN_cong (n b0 b1 b2 b3 c1 c2 c3:Nat) (h1:1 < n→b1=c1) (h2:2 < n→b2=c2) (h3:3 < n→b3=c3):decodeN n b0 b1 b2 b3=decodeN n b0 c1 c2 c3:=by
  by_cases k1:1 < n
  · by_cases k2:2 < n
    · by_cases k3:3 < n
      · rw [h1 k1,h2 k2,h3 k3]
      · rw [h1 k1,h2 k2];unfold decodeN;simp only [k3,false_and,and_false,if_false]
    · have k3:¬ 3 < n:=by omega
      rw [h1 k1];unfold decodeN;simp only [k2,k3,false_and,and_false,if_false]
  · have k2:¬ 2 < n:=by omega
    have k3:¬ 3 < n:=by omega
    unfold decodeN;simp only [k1,k2,k3,false_and,and_false,if_false]

theorem decode_suffix (s:ByteArray) (a j:Nat) (ha:a≤s.size):Utf8.decode (s.extract a s.size) j=Utf8.decode s (a+j):=by
  rw [decode_at,decode_at,ByteArray.size_extract]
  simp only [zjQ s a _ ha,Nat.min_self,Nat.sub_sub,Nat.add_assoc]

theorem wd_cont (s:ByteArray) (i k:Nat) (h0:0 < k) (h:k < wd s i):bt s (i+k) / 64=2:=by
  have t:=zeT s i
  have f:=wd_four s i
  have:k=1∨k=2∨k=3:=by omega
  rcases this with rfl | rfl | rfl
  · exact t.c1 h
  · exact t.c2 h
  · exact t.c3 h
theorem wd_lead (s:ByteArray) (i:Nat) (h:2≤wd s i):192≤bt s i:=(zeT s i).lead h

/-- No sequence that began shortly ahead of p goes on behind it. -/
def bdB (s:ByteArray) (p:Nat):Bool:=decide ((1≤p→wd s (p - 1)≤1)∧(2≤p→wd s (p - 2)≤2)∧(3≤p→wd s (p - 3)≤3))
theorem bd_iff (s:ByteArray) (p:Nat):bdB s p=true ↔ ∀ n,n < 4→1≤n→n≤p→wd s (p - n)≤n:=by
  unfold bdB
  rw [decide_eq_true_iff]
  constructor
  · rintro ⟨a,b,c⟩ n h4 h1 hn
    have:n=1∨n=2∨n=3:=by omega
    rcases this with rfl | rfl | rfl
    · exact a hn
    · exact b hn
    · exact c hn
  · intro h
    exact ⟨h 1 (by omega) (by omega),h 2 (by omega) (by omega),h 3 (by omega) (by omega)⟩
theorem bd_zero (s:ByteArray):bdB s 0=true:=(bd_iff s 0).2 fun n _ h1 h2 =>by omega
theorem bd_step (s:ByteArray) (p:Nat) (h:bdB s p=true) (hp:p < s.size):bdB s (p+wd s p)=true:=by
  rw [bd_iff] at h ⊢
  intro n h4 h1 hn
  have hw:=zcW s p
  rcases Nat.lt_or_ge n (wd s p+1) with hlt | hge
  · by_cases e:n=wd s p
    · rw [show p+wd s p - n=p by omega];omega
    · -- within the sequence of p: a byte that begins none of more than one byte
      have hk:=wd_cont s p (wd s p - n) (by omega) (by omega)
      rcases Nat.lt_or_ge (wd s (p+wd s p - n)) 2 with h2 | h2
      · omega
      · have:=wd_lead s _ h2
        rw [show p+(wd s p - n)=p+wd s p - n by omega] at hk
        omega
  · have hh:=h (n - wd s p) (by omega) (by omega) (by omega)
    rw [show p+wd s p - n=p - (n - wd s p) by omega]
    omega
/-- The same, zgf of a part of the text with three bytes at each side. -/
theorem bd_near (s u:ByteArray) (p q:Nat) (hp:p≤s.size) (hq:q≤u.size) (hl:p=q∨(3≤p∧3≤q)) (hr:s.size - p=u.size - q∨(3≤s.size - p∧3≤u.size - q))
    (hb:∀ i j,p+j=q+i→i < s.size→j < u.size→i+3 ≥ p→i < p+3→bt s i=bt u j):bdB s p=bdB u q:=by
  have hd:∀ n,n < 4→1≤n→n≤p→n≤q→wd s (p - n)=wd u (q - n):=by
    intro n h4 h1 hnp hnq
    show (Utf8.decode s (p - n)).2=(Utf8.decode u (q - n)).2
    rw [decode_at,decode_at]
    rw [decodeN_room (u.size - (q - n)) (s.size - (p - n)) _ _ _ _ (by omega)]
    rw [show (s.get! (p - n)).toNat=(u.get! (q - n)).toNat from hb _ _ (by omega) (by omega) (by omega) (by omega) (by omega)]
    rw [decodeN_cong (s.size - (p - n)) _ _ _ _ (u.get! (q - n+1)).toNat (u.get! (q - n+2)).toNat (u.get! (q - n+3)).toNat]
    · intro h;exact hb _ _ (by omega) (by omega) (by omega) (by omega) (by omega)
    · intro h;exact hb _ _ (by omega) (by omega) (by omega) (by omega) (by omega)
    · intro h;exact hb _ _ (by omega) (by omega) (by omega) (by omega) (by omega)
  rw [Bool.eq_iff_iff,bd_iff,bd_iff]
  constructor
  · intro h n h4 h1 hn
    rw [← hd n h4 h1 (by omega) hn]
    exact h n h4 h1 (by omega)
  · intro h n h4 h1 hn
    rw [hd n h4 h1 hn (by omega)]
    exact h n h4 h1 (by omega)
end Go.Proofs.YtoaiicbicdhkkaaGreat
namespace Go.Proofs.YtoaiicbicdhkkaaGreat
open Go.RowKit Go.Shelf
attribute [local go_sem] Oper.semAt_some
set_option linter.unusedVariables false

/-- What First answers. -/
def firstV (s:ByteArray):Value:=if 0 < s.size then .tuple #[zeP (zgJ s 0),.bool true] else .tuple #[zeP (0,0,false),.bool false]
theorem firstV_pos {s:ByteArray} (h:0 < s.size):firstV s=.tuple #[zeP (zgJ s 0),.bool true]:=if_pos h
theorem firstV_neg {s:ByteArray} (h:¬ 0 < s.size):firstV s=.tuple #[zeP (0,0,false),.bool false]:=if_neg h
theorem starts_head (s:ByteArray) (h:0 < s.size):∃ r,zav s=0::r:=by
  unfold zav
  obtain ⟨m,hm⟩:∃ m,s.size=m+1:=⟨s.size - 1,by omega⟩
  rw [hm,zaF s m 0 h]
  exact ⟨_,rfl⟩
theorem starts_empty (s:ByteArray) (h:¬ 0 < s.size):zav s=[]:=zaZ s _ _ h

set_option maxRecDepth 100000 in
set_option maxHeartbeats 2000000 in
theorem first_in (n:Nat) (hn:3≤n) (s:ByteArray) (hs:s.size≤maxLen) (w:World) :
    CallsIn Fence.wide n Tryz.prog 29 #[.string s] w fun e W' =>e=.returned (firstV s)∧Below w.heap.size w W':=by
  have h1:1≤n:=by omega
  refine callsIn_of_wp_marks Tryz.func29 rfl trivial ?_ rfl
  simp only [Tryz.ntmps29,List.size_toArray,List.length_cons,List.length_nil,Nat.reduceAdd,Nat.reduceSub,Array.replicate_succ,Array.replicate_zero,List.push_toArray,List.append_toArray,List.nil_append,List.cons_append]
  gi_wp2_with (refine ⟨trivial, ?_⟩;gi_at_call 33;refine (callsIn_wide.2 (zhj _ _)).mono ?_;rintro e w' ⟨rfl,rfl⟩)
  have b2:=((Blk.new w (zfv (0,0,false)) 66).alloc (.cells #[.bool false] 4)).alloc (.cells #[.string s] 9)
  have b3:=(Blk.new (w.alloc (.cells (zfv (0,0,false)) 66)) #[.bool false] 4).alloc (.cells #[.string s] 9)
  have bS:=Blk.new ((w.alloc (.cells (zfv (0,0,false)) 66)).alloc (.cells #[.bool false] 4)) #[.string s] 9
  simp only [World.size_alloc] at b3 bS
  have hB0:Below w.heap.size w (((w.alloc (.cells (zfv (0,0,false)) 66)).alloc (.cells #[.bool false] 4)).alloc (.cells #[.string s] 9)):=(((Below.refl _ w).alloc (Nat.le_refl _) _).alloc (by simp) _).alloc (by simp;omega) _
  have hsz:(((w.alloc (.cells (zfv (0,0,false)) 66)).alloc (.cells #[.bool false] 4)).alloc (.cells #[.string s] 9)).heap.size=w.heap.size+3:=by simp
  obtain ⟨W0,hW0⟩:∃ W0,((w.alloc (.cells (zfv (0,0,false)) 66)).alloc (.cells #[.bool false] 4)).alloc (.cells #[.string s] 9)=W0:=⟨_,rfl⟩
  rw [hW0] at b2 b3 bS hB0 hsz ⊢
  clear hW0
  refine wpIn_rangeFunc_ownH rfl h1 (gf:=51) (lb:=#[.pointer (some ⟨w.heap.size+1+1,0,none⟩)]) rfl trivial (enters_of Tryz.func51 (by kernel_rfl) rfl)
    (zh2 (n - 1) (w.heap.size+1+1) (by omega) s hs W0 (bS.cell 0)) KpS_t (KpS_b (by omega)) (Below.refl _ _) (fun _ =>rfl)
    (fun pre W =>(pre=[]∧Blk W w.heap.size (zfv (0,0,false)) 66∧Blk W (w.heap.size+1) #[.bool false] 4∧Blk W (w.heap.size+1+1) #[.string s] 9)∧Below w.heap.size w W)
    (fun c pre W =>(c=.ret∧∃ x,pre=[x]∧Blk W w.heap.size (zfv (zgJ s x)) 66∧Blk W (w.heap.size+1) #[.bool true] 4)∧Below w.heap.size w W)
    (OwnFrom.and (Own.from (fun s A B row hs hg hr =>⟨hs.1,Blk.own _ (fun _ =>_) _ () A B row hs.2.1 hg hr,Blk.own _ (fun _ =>_) _ () A B row hs.2.2.1 hg hr,Blk.own _ (fun _ =>_) _ () A B row hs.2.2.2 hg hr⟩) _) (ownFrom_below (Nat.le_refl _) (by omega)))
    (fun c =>OwnFrom.and (Own.from (fun s A B row hs hg hr =>by
      obtain ⟨hc,x,hx,k2,k3⟩:=hs
      exact ⟨hc,x,hx,Blk.own _ (fun _ =>_) _ () A B row k2 hg hr,Blk.own _ (fun _ =>_) _ () A B row k3 hg hr⟩) _) (ownFrom_below (Nat.le_refl _) (by omega)))
    ⟨⟨rfl,b2,b3,bS⟩,hB0⟩
    (fun x a' W => ∃ Bx,w.heap.size+1+1 < Bx∧Blk W Bx (zfv (zgJ s x)) 66∧a' = { tmps:=#[.string s,undef,.pointer (some ⟨w.heap.size,0,none⟩),.pointer (some ⟨w.heap.size+1,0,none⟩),undef,.pointer (some ⟨Bx,0,none⟩),.string s,.func (.func 51) #[] #[.pointer (some ⟨w.heap.size+1+1,0,none⟩)],.int .i64 x,zeP (zgJ s x),undef,undef],defers := [] })
    (fun x a' =>Own.from (fun u A B row hs hg hr =>by
      obtain ⟨Bx,h1,h2,h3⟩:=hs
      exact ⟨Bx,h1,Blk.own _ (fun _ =>_) _ () A B row h2 hg hr,h3⟩) _)
    ?assign ?body ?done ?stop
  case assign =>
    rintro l pre x W K ⟨⟨hp,k2,k3,kS⟩,hB⟩ hK
    gi_wp2
    exact hK _ _ ((KeepsOthers.alloc _ _).from _) ⟨(kS.alloc _).cell 0 |>.trans (kS.cell 0).symm,KeepsWalks.alloc _ _⟩ ⟨⟨hp,k2.alloc _,k3.alloc _,kS.alloc _⟩,hB.alloc hB.size _⟩ ⟨W.heap.size,kS.lt,Blk.new W _ 66,rfl⟩
  case body =>
    rintro l pre x a' W hl ⟨r,hr⟩ ⟨⟨rfl,k2,k3,kS⟩,hB⟩ ⟨Bx,hBx,bX,rfl⟩ hlt
    have x0:=bX.cell 0
    have x1:=bX.cell 1
    have x2:=bX.cell 2
    have c0:=k2.cell 0
    have c1:=k2.cell 1
    have c2:=k2.cell 2
    have c3:=k3.cell 0
    have f0:=k2.frozen
    have f3:=k3.frozen
    gi_wp2
    refine ⟨((((KeepsOthers.setCell _ _ _).trans (KeepsOthers.setCell _ _ _)).trans (KeepsOthers.setCell _ _ _)).trans (KeepsOthers.setCell _ _ _)).from _,⟨rfl,x,rfl, ?_, ?_⟩, ?_⟩
    · exact Blk.other (((k2.set 0 _).set 1 _).set 2 _) (by omega) _
    · exact (((k3.other (by omega) _).other (by omega) _).other (by omega) _).set 0 _
    · exact (((hB.setCell (p:=⟨w.heap.size,0,none⟩) (Nat.le_refl _) _).setCell (p:=⟨w.heap.size,1,none⟩) (Nat.le_refl _) _).setCell (p:=⟨w.heap.size,2,none⟩) (Nat.le_refl _) _).setCell (p:=⟨w.heap.size+1,0,none⟩) (by simp) _
  case done =>
    rintro D ys W hD hys ⟨⟨hne,k2,k3,_⟩,hB⟩ hK
    have hz:¬ 0 < s.size:=fun h =>by
      obtain ⟨r,hr⟩:=starts_head s h
      rw [hys,hr] at hne
      cases hne
    have c0:=k2.cell 0
    have c1:=k2.cell 1
    have c2:=k2.cell 2
    have c3:=k3.cell 0
    have f0:=k2.frozen
    have f3:=k3.frozen
    clear hys hne
    gi_wp2
    have hK':=((((KeepsOthers.setCell W ⟨w.heap.size,0,none⟩ (.int .i32 0)).trans (KeepsOthers.setCell _ ⟨w.heap.size,1,none⟩ (.int .i64 0))).trans (KeepsOthers.setCell _ ⟨w.heap.size,2,none⟩ (.bool false))).trans (KeepsOthers.setCell _ ⟨w.heap.size+1,0,none⟩ (.bool false))).same D _ hK rfl
    have k2':=Blk.other (i:=0) (((k2.set 0 (.int .i32 0)).set 1 (.int .i64 0)).set 2 (.bool false)) (B':=w.heap.size+1) (by omega) (.bool false)
    have k3':=(((k3.other (B':=w.heap.size) (i:=0) (by omega) (.int .i32 0)).other (B':=w.heap.size) (i:=1) (by omega) (.int .i64 0)).other (B':=w.heap.size) (i:=2) (by omega) (.bool false)).set 0 (.bool false)
    have hB':=(((hB.setCell (p:=⟨w.heap.size,0,none⟩) (Nat.le_refl _) (.int .i32 0)).setCell (p:=⟨w.heap.size,1,none⟩) (Nat.le_refl _) (.int .i64 0)).setCell (p:=⟨w.heap.size,2,none⟩) (Nat.le_refl _) (.bool false)).setCell (p:=⟨w.heap.size+1,0,none⟩) (by simp) (.bool false)
    clear hK k2 k3 hB c0 c1 c2 c3 f0 f3
    refine ⟨by simp,.inl ⟨_,_,rfl,run_takeDeferred hK', ?_⟩⟩
    have q2:=k2'.put (.deferred Option.none) hK' rfl
    have q3:=k3'.put (.deferred Option.none) hK' rfl
    have c0:=q2.cell 0
    have c1:=q2.cell 1
    have c2:=q2.cell 2
    have c3:=q3.cell 0
    refine ⟨.tuple #[zeP (0,0,false),.bool false], ?_,by rw [firstV_neg hz],hB'.trans (belowK_b (w:=w) (Nat.le_refl _) _ D _ _ (by omega) hK' rfl rfl)⟩
    simp [results,Tryz.f29,go_sem,c0,c1,c2,c3]
  case stop =>
    rintro D c pre W hD hpre ⟨⟨rfl,x,rfl,k2,k3⟩,hB⟩ hK
    have hz:0 < s.size:=by
      rcases Nat.eq_zero_or_pos s.size with h | h
      · rw [starts_empty s (by omega)] at hpre;simp at hpre
      · exact h
    obtain ⟨r,hr⟩:=starts_head s hz
    rw [hr] at hpre
    obtain rfl:x=0:=by obtain ⟨t,ht⟩:=hpre;simp at ht;exact ht.1
    clear hpre hr
    gi_wp2
    refine ⟨by simp,.inl ⟨_,_,rfl,run_takeDeferred hK, ?_⟩⟩
    have q2:=k2.put (.deferred Option.none) hK rfl
    have q3:=k3.put (.deferred Option.none) hK rfl
    have c0:=q2.cell 0
    have c1:=q2.cell 1
    have c2:=q2.cell 2
    have c3:=q3.cell 0
    refine ⟨.tuple #[zeP (zgJ s 0),.bool true], ?_,by rw [firstV_pos hz],hB.trans (belowK_b (w:=w) (Nat.le_refl _) W D _ _ (by omega) hK rfl rfl)⟩
    simp [results,Tryz.f29,go_sem,c0,c1,c2,c3]
end Go.Proofs.YtoaiicbicdhkkaaGreat
namespace Go.Proofs.YtoaiicbicdhkkaaGreat
open Go.RowKit Go.Shelf
set_option linter.unusedVariables false

theorem first_any (s:ByteArray) (hs:s.size≤maxLen) (w:World):Calls Tryz.prog 29 #[.string s] w fun e W' =>e=.returned (firstV s)∧Below w.heap.size w W' :=
  callsIn_wide.1 (first_in 3 (Nat.le_refl _) s hs w)

/-- What First answers of the text from i on. -/
theorem firstV_at (s:ByteArray) (i:Nat) (h:i < s.size):firstV (s.extract i s.size)=.tuple #[.agg #[.int .i32 (rn s i),.int .i64 (wd s i),.bool (decide (rn s i=65533∧wd s i=1))],.bool true]:=by
  rw [firstV_pos (by rw [ByteArray.size_extract];omega)]
  simp only [zeP,zgJ,rn,wd,decode_suffix s i 0 (Nat.le_of_lt h),Nat.add_zero]

set_option maxHeartbeats 1000000 in
theorem bound_out (s:ByteArray) (hs:s.size≤maxLen) (a:Int) (ha:a < 0∨(s.size:Int) < a) (w:World) :
    Calls Tryz.prog 40 #[.string s,.int .i64 a] w fun e w' =>e=.returned (.bool false)∧w'=w:=by
  unfold maxLen at hs
  rcases ha with ha | ha
  · go_enter Tryz.func40,Tryz.ntmps40
    go_wp2
    go_ret
    exact ⟨rfl,rfl⟩
  · have h0:¬ a < 0:=by omega
    go_enter Tryz.func40,Tryz.ntmps40
    go_wp2
    go_ret
    exact ⟨rfl,rfl⟩

set_option maxHeartbeats 1000000 in
theorem bound_in (s:ByteArray) (hs:s.size≤maxLen) (p:Nat) (hp:p≤s.size) (w:World) :
    Calls Tryz.prog 40 #[.string s,.int .i64 p] w fun e w' =>e=.returned (.bool (bdB s p))∧Below w.heap.size w w':=by
  unfold maxLen at hs
  have h0:¬ (p:Int) < 0:=by omega
  have h1:¬ (s.size:Int) < (p:Int):=by omega
  go_enter Tryz.func40,Tryz.ntmps40
  go_wp2
  go_loopw [5] (fun i wr => ∃ k:Nat,1≤k∧k≤4∧i=.int .i64 k∧Hz (∀ m,m < k→1≤m→m≤p→wd s (p - m)≤m)∧Below w.heap.size w wr) (fun i _ =>4 - (intOf i).toNat)
  case atStart =>exact ⟨1,by omega,by omega,rfl,kz (fun m h1 h2 =>by omega),Below.refl _ _⟩
  case round =>
    obtain ⟨k,hk1,hk4,rfl,H,hB⟩:=hrel
    by_cases h4:k < 4
    · by_cases hkp:k≤p
      · have hfv:=firstV_at s (p - k) (by omega)
        generalize decide (rn s (p - k)=65533∧wd s (p - k)=1)=b at hfv
        generalize rn s (p - k)=r at hfv
        obtain ⟨d,hd⟩:∃ d,wd s (p - k)=d:=⟨_,rfl⟩
        rw [hd] at hfv
        have HF:=kz hfv
        have HD:=kz hd
        clear hfv hd
        go_wp2_with fail
        refine (first_any _ (by rw [ByteArray.size_extract];unfold maxLen;omega) _).mono ?_
        rintro e w1 ⟨rfl,hb1⟩
        rw [HF.out]
        have hB1:Below w.heap.size w w1:=hB.trans (hb1.mono hB.size)
        clear hb1
        by_cases hdk:(k:Int) < d
        · go_wp2
          go_ret
          refine ⟨?_,hB1.alloc hB1.size _⟩
          have:bdB s p=false:=by
            rw [← Bool.not_eq_true,bd_iff]
            intro h
            have:=h k h4 hk1 hkp
            rw [HD.out] at this
            omega
          rw [this]
          rfl
        · go_wp2
          go_roundw
          case rel =>
            refine ⟨k+1,by omega,by omega,by go_num,kz (fun m h1 h2 h3 =>?_),hB1.alloc hB1.size _⟩
            by_cases e:m=k
            · subst e;rw [HD.out];omega
            · exact H.out m (by omega) h2 h3
          case measure =>simp [intOf];omega
      · go_wp2
        go_ret
        refine ⟨?_,hB⟩
        rw [(bd_iff s p).2 (fun m h1 h2 h3 =>H.out m (by omega) h2 h3)]
        rfl
    · go_wp2
      go_ret
      refine ⟨?_,hB⟩
      rw [(bd_iff s p).2 (fun m h1 h2 h3 =>H.out m (by omega) h2 h3)]
      rfl

def joinsV (s t:ByteArray):Bool:=bdB (s.extract (s.size - 3) s.size++t.extract 0 (min t.size 3)) (min s.size 3)

theorem joinsV_eq (s t u v:ByteArray) (p:Nat) (hu:s.extract (s.size - 3) s.size=u) (hv:t.extract 0 (min t.size 3)=v) (hp:min s.size 3=p):bdB (u++v) p=joinsV s t:=by
  unfold joinsV;rw [hu,hv,hp]
theorem extract_all (s:ByteArray) (i:Nat) (h:i=0):s.extract i s.size=s:=by subst h;exact ByteArray.extract_zero_size
theorem extract_head (s:ByteArray) (i:Nat) (h:i=s.size):s.extract 0 i=s:=by subst h;exact ByteArray.extract_zero_size

set_option maxRecDepth 100000 in
set_option maxHeartbeats 4000000 in
theorem joins_any (s t:ByteArray) (hs:s.size≤maxLen) (ht:t.size≤maxLen) (w:World) :
    Calls Tryz.prog 28 #[.string s,.string t] w fun e w' =>e=.returned (.bool (joinsV s t))∧Below w.heap.size w w':=by
  unfold maxLen at hs ht
  by_cases h:s.size < 3
  · have h':(s.size:Int) - 4+1 < 0:=by omega
    by_cases k:t.size≤3
    · have k':(t.size:Int)≤3:=by omega
      go_enter Tryz.func28,Tryz.ntmps28
      go_wp2_with fail
      refine (bound_in (s++t) (by rw [ByteArray.size_append];unfold maxLen;omega) s.size (by rw [ByteArray.size_append];omega) _).mono ?_
      rintro e w1 ⟨rfl,hb1⟩
      rw [joinsV_eq s t s t s.size (extract_all s _ (by omega)) (extract_head t _ (by omega)) (by omega)]
      go_wp2
      go_ret
      exact ⟨rfl,hb1⟩
    · have k':(3:Int) < t.size:=by omega
      go_enter Tryz.func28,Tryz.ntmps28
      go_wp2_with fail
      refine (bound_in (s++t.extract 0 3) (by rw [ByteArray.size_append,ByteArray.size_extract];unfold maxLen;omega) s.size (by rw [ByteArray.size_append];omega) _).mono ?_
      rintro e w1 ⟨rfl,hb1⟩
      rw [joinsV_eq s t s (t.extract 0 3) s.size (extract_all s _ (by omega)) (by rw [show min t.size 3=3 by omega]) (by omega)]
      go_wp2
      go_ret
      exact ⟨rfl,hb1⟩
  · have h':0≤(s.size:Int) - 4+1:=by omega
    have e3:((s.size:Int) - 4+1).toNat=s.size - 3:=by omega
    by_cases k:t.size≤3
    · have k':(t.size:Int)≤3:=by omega
      go_enter Tryz.func28,Tryz.ntmps28
      go_wp2_with fail
      rw [show s.size - (s.size - 3)=3 by omega]
      refine (bound_in (s.extract (s.size - 3) s.size++t) (by rw [ByteArray.size_append,ByteArray.size_extract];unfold maxLen;omega) 3 (by rw [ByteArray.size_append,ByteArray.size_extract];omega) _).mono ?_
      rintro e w1 ⟨rfl,hb1⟩
      rw [joinsV_eq s t _ t 3 rfl (extract_head t _ (by omega)) (by omega)]
      go_wp2
      go_ret
      exact ⟨rfl,hb1⟩
    · have k':(3:Int) < t.size:=by omega
      go_enter Tryz.func28,Tryz.ntmps28
      go_wp2_with fail
      rw [show s.size - (s.size - 3)=3 by omega]
      refine (bound_in (s.extract (s.size - 3) s.size++t.extract 0 3) (by rw [ByteArray.size_append,ByteArray.size_extract,ByteArray.size_extract];unfold maxLen;omega) 3 (by rw [ByteArray.size_append,ByteArray.size_extract];omega) _).mono ?_
      rintro e w1 ⟨rfl,hb1⟩
      rw [joinsV_eq s t _ (t.extract 0 3) 3 rfl (by rw [show min t.size 3=3 by omega]) (by omega)]
      go_wp2
      go_ret
      exact ⟨rfl,hb1⟩
end Go.Proofs.YtoaiicbicdhkkaaGreat
namespace Go.Proofs.YtoaiicbicdhkkaaGreat
open Go.RowKit Go.Shelf
open Go.Lib (decodeN decode_at)
set_option linter.unusedVariables false

/-- What is zgf with more room, and fits into less, is zgf with less. -/
theorem decodeN_less (n m b0 b1 b2 b3:Nat) (hnm:n≤m) (hg:¬ ((decodeN m b0 b1 b2 b3).1=65533∧(decodeN m b0 b1 b2 b3).2=1)) (hw:(decodeN m b0 b1 b2 b3).2≤n):decodeN n b0 b1 b2 b3=decodeN m b0 b1 b2 b3:=by
  by_cases h0:b0 < 128
  · unfold decodeN;rw [if_pos h0,if_pos h0]
  by_cases h2:b0 / 32=6∧(1 < m∧b1 / 64=2)
  · by_cases hc:b0 % 32*64+b1 % 64 ≥ 128
    · have e:decodeN m b0 b1 b2 b3=(b0 % 32*64+b1 % 64,2):=by unfold decodeN;rw [if_neg h0,if_pos h2,if_pos hc]
      rw [e] at hw
      rw [e]
      simp only at hw
      unfold decodeN
      rw [if_neg h0,if_pos ⟨h2.1,by omega,h2.2.2⟩,if_pos hc]
    · have e:decodeN m b0 b1 b2 b3=(65533,1):=by unfold decodeN;rw [if_neg h0,if_pos h2,if_neg hc]
      rw [e] at hg
      exact absurd ⟨rfl,rfl⟩ hg
  by_cases h3:b0 / 16=14∧(1 < m∧b1 / 64=2)∧(2 < m∧b2 / 64=2)
  · by_cases hc:b0 % 16*4096+b1 % 64*64+b2 % 64 ≥ 2048∧(b0 % 16*4096+b1 % 64*64+b2 % 64 < 55296∨(57344≤b0 % 16*4096+b1 % 64*64+b2 % 64∧b0 % 16*4096+b1 % 64*64+b2 % 64≤1114111))
    · have e:decodeN m b0 b1 b2 b3=(b0 % 16*4096+b1 % 64*64+b2 % 64,3):=by unfold decodeN;rw [if_neg h0,if_neg h2,if_pos h3,if_pos hc]
      rw [e] at hw
      rw [e]
      simp only at hw
      unfold decodeN
      rw [if_neg h0,if_neg (by omega),if_pos ⟨h3.1,⟨by omega,h3.2.1.2⟩,⟨by omega,h3.2.2.2⟩⟩,if_pos hc]
    · have e:decodeN m b0 b1 b2 b3=(65533,1):=by unfold decodeN;rw [if_neg h0,if_neg h2,if_pos h3,if_neg hc]
      rw [e] at hg
      exact absurd ⟨rfl,rfl⟩ hg
  by_cases h4:b0 / 8=30∧(1 < m∧b1 / 64=2)∧(2 < m∧b2 / 64=2)∧(3 < m∧b3 / 64=2)
  · by_cases hc:b0 % 8*262144+b1 % 64*4096+b2 % 64*64+b3 % 64 ≥ 65536∧(b0 % 8*262144+b1 % 64*4096+b2 % 64*64+b3 % 64 < 55296∨(57344≤b0 % 8*262144+b1 % 64*4096+b2 % 64*64+b3 % 64∧b0 % 8*262144+b1 % 64*4096+b2 % 64*64+b3 % 64≤1114111))
    · have e:decodeN m b0 b1 b2 b3=(b0 % 8*262144+b1 % 64*4096+b2 % 64*64+b3 % 64,4):=by unfold decodeN;rw [if_neg h0,if_neg h2,if_neg h3,if_pos h4,if_pos hc]
      rw [e] at hw
      rw [e]
      simp only at hw
      unfold decodeN
      rw [if_neg h0,if_neg (by omega),if_neg (by omega),if_pos ⟨h4.1,⟨by omega,h4.2.1.2⟩,⟨by omega,h4.2.2.1.2⟩,⟨by omega,h4.2.2.2.2⟩⟩,if_pos hc]
    · have e:decodeN m b0 b1 b2 b3=(65533,1):=by unfold decodeN;rw [if_neg h0,if_neg h2,if_neg h3,if_pos h4,if_neg hc]
      rw [e] at hg
      exact absurd ⟨rfl,rfl⟩ hg
  · have e:decodeN m b0 b1 b2 b3=(65533,1):=by unfold decodeN;rw [if_neg h0,if_neg h2,if_neg h3,if_neg h4]
    rw [e] at hg
    exact absurd ⟨rfl,rfl⟩ hg
/-- What is zgf with less room is zgf with more. -/
theorem decodeN_more (n m b0 b1 b2 b3:Nat) (hnm:n≤m) (hn:1≤n) (h1:b1 < 256) (h2:b2 < 256) (h3:b3 < 256) (h0:b0 < 256) (hg:¬ ((decodeN n b0 b1 b2 b3).1=65533∧(decodeN n b0 b1 b2 b3).2=1)):decodeN m b0 b1 b2 b3=decodeN n b0 b1 b2 b3:=by
  have t:=zgf n b0 b1 b2 b3 h0 h1 h2 h3
  by_cases hm:4≤n
  · exact decodeN_room m n _ _ _ _ (.inr ⟨by omega,hm⟩)
  by_cases c0:b0 < 128
  · unfold decodeN;rw [if_pos c0,if_pos c0]
  by_cases c2:b0 / 32=6∧(1 < n∧b1 / 64=2)
  · unfold decodeN
    rw [if_neg c0,if_neg c0,if_pos c2,if_pos ⟨c2.1,by omega,c2.2.2⟩]
  by_cases c3:b0 / 16=14∧(1 < n∧b1 / 64=2)∧(2 < n∧b2 / 64=2)
  · unfold decodeN
    rw [if_neg c0,if_neg c0,if_neg c2,if_neg (by omega),if_pos c3,if_pos ⟨c3.1,⟨by omega,c3.2.1.2⟩,⟨by omega,c3.2.2.2⟩⟩]
  · have e:decodeN n b0 b1 b2 b3=(65533,1):=by unfold decodeN;rw [if_neg c0,if_neg c2,if_neg c3,if_neg (by omega)]
    rw [e] at hg
    exact absurd ⟨rfl,rfl⟩ hg

theorem get_append (u v:ByteArray) (i:Nat):(u++v).get! i=if i < u.size then u.get! i else v.get! (i - u.size):=by
  by_cases h:i < u.size
  · rw [if_pos h,zgr _ _ (by rw [ByteArray.size_append];omega),zgr _ _ h]
    simp [Array.getElem_append_left,h]
  · rw [if_neg h]
    by_cases k:i < (u++v).size
    · rw [zgr _ _ k,zgr _ _ (by rw [ByteArray.size_append] at k;omega)]
      simp [Array.getElem_append_right,Nat.le_of_not_lt h]
    · rw [get_ge _ _ (by omega),get_ge _ _ (by rw [ByteArray.size_append] at k;omega)]
theorem bt_left (s t:ByteArray) (i:Nat) (h:i < s.size):bt (s++t) i=bt s i:=by unfold bt;rw [get_append,if_pos h]
theorem bt_right (s t:ByteArray) (j:Nat):bt (s++t) (s.size+j)=bt t j:=by unfold bt;rw [get_append,if_neg (by omega)];congr 2;omega

theorem decode_left (s t:ByteArray) (i:Nat) (hi:i < s.size):Utf8.decode s i=decodeN (s.size - i) (bt (s++t) i) (bt (s++t) (i+1)) (bt (s++t) (i+2)) (bt (s++t) (i+3)):=by
  rw [decode_at,bt_left s t i hi]
  refine decodeN_cong _ _ _ _ _ _ _ _ (fun h =>?_) (fun h =>?_) (fun h =>?_)
  · exact (bt_left s t _ (by omega)).symm
  · exact (bt_left s t _ (by omega)).symm
  · exact (bt_left s t _ (by omega)).symm
/-- A sequence of the first text is one of the whole. -/
theorem decode_grow (s t:ByteArray) (i:Nat) (hi:i < s.size) (hg:¬ (rn s i=65533∧wd s i=1)):Utf8.decode (s++t) i=Utf8.decode s i:=by
  have e:=decode_left s t i hi
  simp only [rn,wd] at hg
  rw [e] at hg ⊢
  rw [decode_at]
  exact decodeN_more _ _ _ _ _ _ (by rw [ByteArray.size_append];omega) (by omega) (zf9 _ _) (zf9 _ _) (zf9 _ _) (zf9 _ _) hg
/-- What stands in the whole and ends within the first text stands there. -/
theorem decode_part (s t:ByteArray) (i:Nat) (hi:i < s.size) (hw:i+wd (s++t) i≤s.size):Utf8.decode s i=Utf8.decode (s++t) i:=by
  by_cases hg:rn s i=65533∧wd s i=1
  · by_cases hk:rn (s++t) i=65533∧wd (s++t) i=1
    · exact Prod.ext (hg.1.trans hk.1.symm) (hg.2.trans hk.2.symm)
    · have e:=decode_left s t i hi
      have e2:Utf8.decode (s++t) i=decodeN ((s++t).size - i) (bt (s++t) i) (bt (s++t) (i+1)) (bt (s++t) (i+2)) (bt (s++t) (i+3)):=decode_at _ _
      rw [e,e2]
      simp only [rn,wd] at hk hw
      rw [e2] at hk hw
      exact decodeN_less _ _ _ _ _ _ (by rw [ByteArray.size_append];omega) hk (by omega)
  · exact (decode_grow s t i hi hg).symm
theorem decode_behind (s t:ByteArray) (j:Nat):Utf8.decode (s++t) (s.size+j)=Utf8.decode t j:=by
  rw [decode_at,decode_at,ByteArray.size_append,show s.size+t.size - (s.size+j)=t.size - j by omega]
  have h:=bt_right s t
  unfold bt at h
  rw [h j,show s.size+j+1=s.size+(j+1) by omega,h,show s.size+j+2=s.size+(j+2) by omega,h,show s.size+j+3=s.size+(j+3) by omega,h]

theorem startsFrom_behind (s t:ByteArray):∀ f j,zal (s++t) f (s.size+j)=(zal t f j).map (s.size + ·)
  | 0,j =>rfl
  | f+1,j =>by
    unfold zal
    rw [ByteArray.size_append]
    by_cases h:j < t.size
    · rw [if_pos (by omega),if_pos h,List.map_cons]
      have e:wd (s++t) (s.size+j)=wd t j:=by simp only [wd];rw [decode_behind]
      rw [e,Nat.add_assoc,startsFrom_behind s t f]
    · rw [if_neg (by omega),if_neg h];rfl
theorem startsFrom_fuel (s:ByteArray):∀ f g i,s.size≤i+f→s.size≤i+g→zal s f i=zal s g i
  | 0,g,i,hf,hg =>by rw [zaZ s g i (by omega)];rfl
  | f+1,0,i,hf,hg =>by rw [zaZ s (f+1) i (by omega)];rfl
  | f+1,g+1,i,hf,hg =>by
    unfold zal
    by_cases h:i < s.size
    · have:=zcW s i
      rw [if_pos h,if_pos h,startsFrom_fuel s f g _ (by omega) (by omega)]
    · rw [if_neg h,if_neg h]
theorem startsFrom_both (s t:ByteArray) (hb:bdB (s++t) s.size=true):∀ f i,s.size+t.size≤i+f→i≤s.size→bdB (s++t) i=true →
    zal (s++t) f i=zal s f i++(zav t).map (s.size + ·)∧∀ p ∈ zal s f i,Utf8.decode s p=Utf8.decode (s++t) p
  | 0,i,hf,hi,hbi =>by
    have:s.size=0∨t.size=0:=by omega
    have ht:t.size=0:=by omega
    refine ⟨?_,fun p hp =>by cases hp⟩
    rw [show zav t=[] from zaZ t _ _ (by omega)]
    rfl
  | f+1,i,hf,hi,hbi =>by
    by_cases h:i < s.size
    · have hw:=zcW (s++t) i
      have hr:i+wd (s++t) i≤s.size:=by
        rcases Nat.lt_or_ge s.size (i+wd (s++t) i) with hx | hx
        · have h4:=wd_four (s++t) i
          have:=(bd_iff (s++t) s.size).1 hb (s.size - i) (by omega) (by omega) (by omega)
          rw [show s.size - (s.size - i)=i by omega] at this
          omega
        · exact hx
      have e:=decode_part s t i h hr
      have ew:wd s i=wd (s++t) i:=by simp only [wd];rw [e]
      obtain ⟨h1,h2⟩:=startsFrom_both s t hb f (i+wd (s++t) i) (by omega) hr (bd_step (s++t) i hbi (by rw [ByteArray.size_append];omega))
      rw [zaF (s++t) f i (by rw [ByteArray.size_append];omega),zaF s f i h,h1,ew]
      refine ⟨rfl,fun p hp =>?_⟩
      rcases List.mem_cons.1 hp with rfl | hp
      · exact e
      · exact h2 p hp
    · obtain rfl:i=s.size:=by omega
      rw [zaZ s _ _ h]
      refine ⟨?_,fun p hp =>by cases hp⟩
      have:=startsFrom_behind s t (f+1) 0
      rw [List.nil_append,show zav t=zal t (f+1) 0 from startsFrom_fuel t _ _ _ (by omega) (by omega)]
      exact this
theorem starts_both (s t:ByteArray) (hb:bdB (s++t) s.size=true):zav (s++t)=zav s++(zav t).map (s.size + ·)∧(∀ p ∈ zav s,Utf8.decode s p=Utf8.decode (s++t) p):=by
  obtain ⟨h1,h2⟩:=startsFrom_both s t hb (s.size+t.size) 0 (by omega) (by omega) (bd_zero _)
  have e:zal s (s.size+t.size) 0=zav s:=startsFrom_fuel s _ _ _ (by omega) (by omega)
  rw [e] at h1 h2
  refine ⟨?_,h2⟩
  unfold zav
  rw [ByteArray.size_append]
  exact h1
theorem runesL_both (s t:ByteArray) (hb:bdB (s++t) s.size=true):zah (s++t)=zah s++zah t:=by
  obtain ⟨h1,h2⟩:=starts_both s t hb
  unfold zah
  rw [h1,List.map_append,List.map_map]
  congr 1
  · refine List.map_congr_left (fun p hp =>?_)
    simp only [rn]
    rw [h2 p hp]
  · refine List.map_congr_left (fun p hp =>?_)
    simp only [Function.comp,rn]
    rw [decode_behind]
theorem foldl_enc (l:List Int):∀ r:ByteArray,l.foldl (fun r n =>r++Utf8.encode n) r=r++l.foldl (fun r n =>r++Utf8.encode n) ByteArray.empty:=by
  induction l with
  | nil =>intro r;simp
  | cons a l ih =>
    intro r
    rw [List.foldl_cons,ih,List.foldl_cons,ih (ByteArray.empty++Utf8.encode a),ByteArray.append_assoc]
    simp
theorem runesBytes_both (a b:List Int):runesBytes (a++b)=runesBytes a++runesBytes b:=by
  unfold runesBytes
  rw [List.foldl_append,foldl_enc b]
/-- Cut at p, the two parts join just if p is a bound. -/
theorem joins_cut (s:ByteArray) (p:Nat) (h:p≤s.size):joinsV (s.extract 0 p) (s.extract p s.size)=bdB s p:=by
  unfold joinsV
  have e0:(s.extract 0 p).size=p:=by rw [ByteArray.size_extract];omega
  have e1:(s.extract p s.size).size=s.size - p:=by rw [ByteArray.size_extract];omega
  rw [e0,e1,ByteArray.extract_extract,ByteArray.extract_extract]
  symm
  refine bd_near s _ p _ h ?_ ?_ ?_ ?_
  · rw [ByteArray.size_append,ByteArray.size_extract,ByteArray.size_extract];omega
  · omega
  · rw [ByteArray.size_append,ByteArray.size_extract,ByteArray.size_extract];omega
  · intro i j hij hi hj h3 h4
    rw [ByteArray.size_append,ByteArray.size_extract,ByteArray.size_extract] at hj
    unfold bt
    rw [get_append,ByteArray.size_extract]
    split
    · rw [ziD _ _ _ _ (by omega) (by omega)]
      congr 2;omega
    · rw [ziD _ _ _ _ (by omega) (by omega)]
      congr 2;omega
/-- Two texts join just if the first one's end is a bound of the whole. -/
theorem joins_bd (s t:ByteArray):joinsV s t=bdB (s++t) s.size:=by
  have:=joins_cut (s++t) s.size (by rw [ByteArray.size_append];omega)
  rw [ByteArray.extract_append_eq_left rfl,ByteArray.extract_append_eq_right rfl (by rw [ByteArray.size_append])] at this
  exact this
end Go.Proofs.YtoaiicbicdhkkaaGreat
namespace Go.Proofs.YtoaiicbicdhkkaaGreat
open Go.RowKit Go.Shelf Go.ChangeShapes Go.WideShapes Go.Deep
set_option linter.unusedVariables false
theorem laidOutT:laidOutB Tryz.prog=true:=by kernel_rfl
theorem bulk_mem {H:Type}:∀ (l:List (DataW H)) (d:DataW H),d ∈ l→Rows.uptoBulk d≤Rows.uptoBulkAll l
  | [],d,h =>by cases h
  | x::l,d,h =>by
    simp only [Rows.uptoBulkAll]
    rcases List.mem_cons.1 h with rfl | h
    · omega
    · have:=bulk_mem l d h;omega
theorem bulk_one {H:Type} (d:DataW H):1≤Rows.uptoBulk d:=by
  unfold Rows.uptoBulk
  split <;> omega
theorem bulk_len {H:Type}:∀ (l:List (DataW H)),l.length≤Rows.uptoBulkAll l
  | [] =>Nat.zero_le _
  | x::l =>by
    have:=bulk_len l
    have:=bulk_one x
    simp only [Rows.uptoBulkAll,List.length_cons]
    omega
theorem flat_at {α : Type} (f : α→List Value) (sz:Nat) (hf:∀ z,(f z).length=sz):∀ (zs:List α) (j:Nat) (u:Value),(zs.flatMap f)[j]?=some u→∃ (i k:Nat) (z : α),zs[i]?=some z∧k < sz∧j=i*sz+k∧(f z)[k]?=some u
  | [],j,u,h =>by cases h
  | z::zs,j,u,h =>by
    rw [List.flatMap_cons] at h
    by_cases hj:j < sz
    · rw [List.getElem?_append_left (by rw [hf];exact hj)] at h
      exact ⟨0,j,z,rfl,hj,by omega,h⟩
    · rw [List.getElem?_append_right (by rw [hf];omega),hf] at h
      obtain ⟨i,k,y,h1,h2,h3,h4⟩:=flat_at f sz hf zs (j - sz) u h
      exact ⟨i+1,k,y,h1,h2,by rw [Nat.succ_mul];omega,h4⟩
theorem open_list {H:Type} {enc:TypeId × Value→H} {W:World} {t e:TypeId} {α : Type} [Inhabited α] (encz : α→List Value) (Q : α→DataW H→Prop) (sz:Nat) (hsz:Tryz.prog.cellsOf e=sz) (hlen:∀ z,(encz z).length=sz) (hp:0 < sz)
    (ht:Tryz.prog.underlying t=some (.slice e)) (hel:∀ n cs x,DataW.trod enc Tryz.prog W 0 (fun _ =>true) true n e cs=some x→∃ z,cs=encz z∧Q z x.1) {fuel:Nat} {c:Value} {x:DataW H × List MemPlace} (h:DataW.trod enc Tryz.prog W 0 (fun _ =>true) true fuel t [c]=some x) :
    ∃ (zs:List α) (a:Option Addr) (cap:Nat),c=.slice a zs.length cap∧RowC W W.heap.size a (zs.flatMap encz)∧zs.length≤Rows.uptoBulk x.1∧∀ z ∈ zs, ∃ d,Q z d∧Rows.uptoBulk d≤Rows.uptoBulk x.1:=by
  rcases open_slice ht h with ⟨h0,hx⟩ | ⟨a,len,cap,m,n,D,Pl,hc,_,hl,hm,hmm,hx,hcs⟩
  · injection h0 with h0
    subst h0
    exact ⟨[],none,0,rfl,fun h =>absurd h (by simp),Nat.zero_le _,fun z hz =>by cases hz⟩
  · injection hc with hc
    subst hc
    simp only [if_true] at hmm
    subst hmm
    have each:∀ i,i < len→∃ z : α,(∀ j u,(encz z)[j]?=some u→W.cell? (a.add (i*sz+j))=some u)∧Q z (D i):=fun i hi =>by
      obtain ⟨cs',h1,h2⟩:=hcs i (by omega)
      obtain ⟨z,rfl,hq⟩:=hel n cs' _ h2
      rw [hsz] at h1
      obtain ⟨_,h3,h4⟩:=World.cells?_some h1
      refine ⟨z,fun j u hu =>?_,hq⟩
      have hj:=(List.getElem?_eq_some_iff.1 hu).1
      have h5:=h4 j (by rw [← h3];exact hj)
      rw [add_add] at h5
      exact h5.trans hu
    obtain ⟨b,off,spot⟩:=a
    rcases Nat.eq_zero_or_pos len with h0 | h0
    · subst h0
      exact ⟨[],_,_,rfl,fun h =>absurd h (by simp),Nat.zero_le _,fun z hz =>by cases hz⟩
    · obtain ⟨z0,hz0,_⟩:=each 0 h0
      obtain ⟨u0,hu0⟩:∃ u,(encz z0)[0]?=some u:=⟨_,List.getElem?_eq_getElem (by rw [hlen];exact hp)⟩
      have hc0:=hz0 0 u0 hu0
      have hspot:spot=none:=by simpa [Addr.add] using World.cell?_spot hc0
      subst hspot
      obtain ⟨Z,hZ⟩:=choose_lt each
      have hblt:b < W.heap.size:=by have:=zbW hc0;simpa [Addr.add] using this
      refine ⟨(List.range len).map Z,some ⟨b,off,none⟩,_,by simp;rfl,fun _ =>⟨b,off,rfl,hblt,fun j u hu =>?_⟩, ?_,fun z hz =>?_⟩
      · obtain ⟨i,k,z,h1,h2,h3,h4⟩:=flat_at encz sz hlen _ j u hu
        have hi:=(List.getElem?_eq_some_iff.1 h1).1
        simp at hi
        simp [hi] at h1
        subst h1
        have:=(hZ i hi).1 k u h4
        rw [← h3,add_plain] at this
        exact this
      · rw [hx]
        have:=bulk_len ((List.range len).map D)
        simp only [Rows.uptoBulk,List.length_map,List.length_range] at this ⊢
        omega
      · obtain ⟨i,hi,rfl⟩:=List.mem_map.1 hz
        have hi:=List.mem_range.1 hi
        refine ⟨D i,(hZ i hi).2, ?_⟩
        rw [hx]
        have:=bulk_mem ((List.range len).map D) (D i) (List.mem_map.2 ⟨i,List.mem_range.2 hi,rfl⟩)
        simp only [Rows.uptoBulk]
        omega
theorem len2 {α : Type}:∀ {l:List α},l.length=2→∃ a b,l=[a,b]
  | [a,b],_ =>⟨a,b,rfl⟩
theorem len3 {α : Type}:∀ {l:List α},l.length=3→∃ a b c,l=[a,b,c]
  | [a,b,c],_ =>⟨a,b,c,rfl⟩
theorem trod2 {H:Type} {enc:TypeId × Value→H} {W:World} {hh:Bool} {e:TypeId} {f0 f1:Field} (he:Tryz.prog.underlying e=some (.struct #[f0,f1])) (ce:Tryz.prog.cellsOf e=2) (o0:f0.offset=0) (o1:f1.offset=1) (c0:Tryz.prog.cellsOf f0.type=1) (c1:Tryz.prog.cellsOf f1.type=1) {n:Nat} {cs:List Value} {x:DataW H × List MemPlace}
    (h:DataW.trod enc Tryz.prog W 0 (fun _ =>true) hh n e cs=some x):∃ v0 v1 y0 y1 k,cs=[v0,v1]∧x.1=.agg [y0.1,y1.1]∧DataW.trod enc Tryz.prog W 0 (fun _ =>true) hh k f0.type [v0]=some y0∧DataW.trod enc Tryz.prog W 0 (fun _ =>true) hh k f1.type [v1]=some y1:=by
  obtain ⟨xs,k,hk,hxy,hcl,hxl,hf⟩:=DataW.trod_struct he h
  rw [ce] at hcl
  obtain ⟨y0,y1,rfl⟩:=len2 hxl
  obtain ⟨v0,v1,rfl⟩:=len2 hcl
  have g0:=hf 0 f0 rfl
  have g1:=hf 1 f1 rfl
  rw [o0,c0] at g0
  rw [o1,c1] at g1
  exact ⟨v0,v1,y0,y1,k,rfl,by rw [hxy];rfl,g0,g1⟩
theorem trod3 {H:Type} {enc:TypeId × Value→H} {W:World} {hh:Bool} {e:TypeId} {f0 f1 f2:Field} (he:Tryz.prog.underlying e=some (.struct #[f0,f1,f2])) (ce:Tryz.prog.cellsOf e=3) (o0:f0.offset=0) (o1:f1.offset=1) (o2:f2.offset=2) (c0:Tryz.prog.cellsOf f0.type=1) (c1:Tryz.prog.cellsOf f1.type=1) (c2:Tryz.prog.cellsOf f2.type=1) {n:Nat} {cs:List Value} {x:DataW H × List MemPlace}
    (h:DataW.trod enc Tryz.prog W 0 (fun _ =>true) hh n e cs=some x):∃ v0 v1 v2 y0 y1 y2 k,cs=[v0,v1,v2]∧x.1=.agg [y0.1,y1.1,y2.1]∧DataW.trod enc Tryz.prog W 0 (fun _ =>true) hh k f0.type [v0]=some y0∧DataW.trod enc Tryz.prog W 0 (fun _ =>true) hh k f1.type [v1]=some y1∧DataW.trod enc Tryz.prog W 0 (fun _ =>true) hh k f2.type [v2]=some y2:=by
  obtain ⟨xs,k,hk,hxy,hcl,hxl,hf⟩:=DataW.trod_struct he h
  rw [ce] at hcl
  obtain ⟨y0,y1,y2,rfl⟩:=len3 hxl
  obtain ⟨v0,v1,v2,rfl⟩:=len3 hcl
  have g0:=hf 0 f0 rfl
  have g1:=hf 1 f1 rfl
  have g2:=hf 2 f2 rfl
  rw [o0,c0] at g0
  rw [o1,c1] at g1
  rw [o2,c2] at g2
  exact ⟨v0,v1,v2,y0,y1,y2,k,rfl,by rw [hxy];rfl,g0,g1,g2⟩
theorem r32_wf {z:Int} (h:Lit.wf (.int .i32 z)=true):R32 z:=by
  simp [Lit.wf,IntKind.min,IntKind.max,IntKind.signed,IntKind.bits] at h
  exact ⟨by omega,by omega⟩
theorem el_span {H:Type} {enc:TypeId × Value→H} {W:World} (n:Nat) (cs:List Value) (x:DataW H × List MemPlace) (h:DataW.trod enc Tryz.prog W 0 (fun _ =>true) true n 77 cs=some x):∃ z:Int × Int,cs=[.int .i32 z.1,.int .i32 z.2]∧R32 z.1∧R32 z.2:=by
  obtain ⟨v0,v1,y0,y1,k,rfl,_,t0,t1⟩:=trod2 Tryz.underlying77 (by kernel_rfl) rfl rfl (by kernel_rfl) (by kernel_rfl) h
  obtain ⟨z0,e0,_,w0⟩:=DataW.trod_int Tryz.underlying21 t0
  obtain ⟨z1,e1,_,w1⟩:=DataW.trod_int Tryz.underlying21 t1
  injection e0 with e0
  injection e1 with e1
  exact ⟨(z0,z1),by rw [e0,e1],r32_wf w0,r32_wf w1⟩
theorem el_mark {H:Type} {enc:TypeId × Value→H} {W:World} (n:Nat) (cs:List Value) (x:DataW H × List MemPlace) (h:DataW.trod enc Tryz.prog W 0 (fun _ =>true) true n 81 cs=some x):∃ z:Int × Int,cs=[.int .i32 z.1,.int .i64 z.2]∧(-9223372036854775808≤z.2∧z.2≤9223372036854775807)∧R32 z.1:=by
  obtain ⟨v0,v1,y0,y1,k,rfl,_,t0,t1⟩:=trod2 Tryz.underlying81 (by kernel_rfl) rfl rfl (by kernel_rfl) (by kernel_rfl) h
  obtain ⟨z0,e0,_,w0⟩:=DataW.trod_int Tryz.underlying21 t0
  obtain ⟨z1,e1,_,w1⟩:=DataW.trod_int Tryz.underlying3 t1
  injection e0 with e0
  injection e1 with e1
  refine ⟨(z0,z1),by rw [e0,e1], ?_⟩
  simp [Lit.wf,IntKind.min,IntKind.max,IntKind.signed,IntKind.bits] at w1
  exact ⟨⟨by show -9223372036854775808≤z1;omega,by show z1≤9223372036854775807;omega⟩,r32_wf w0⟩
theorem el_pair {H:Type} {enc:TypeId × Value→H} {W:World} (n:Nat) (cs:List Value) (x:DataW H × List MemPlace) (h:DataW.trod enc Tryz.prog W 0 (fun _ =>true) true n 83 cs=some x):∃ z:Int × Int × Int,cs=[.int .i32 z.1,.int .i32 z.2.1,.int .i32 z.2.2]∧R32 z.1∧R32 z.2.1∧R32 z.2.2:=by
  obtain ⟨v0,v1,v2,y0,y1,y2,k,rfl,_,t0,t1,t2⟩:=trod3 Tryz.underlying83 (by kernel_rfl) rfl rfl rfl (by kernel_rfl) (by kernel_rfl) (by kernel_rfl) h
  obtain ⟨z0,e0,_,w0⟩:=DataW.trod_int Tryz.underlying21 t0
  obtain ⟨z1,e1,_,w1⟩:=DataW.trod_int Tryz.underlying21 t1
  obtain ⟨z2,e2,_,w2⟩:=DataW.trod_int Tryz.underlying21 t2
  injection e0 with e0
  injection e1 with e1
  injection e2 with e2
  exact ⟨(z0,z1,z2),by rw [e0,e1,e2],r32_wf w0,r32_wf w1,r32_wf w2⟩
theorem bulk_agg2 {H:Type} (a b:DataW H):Rows.uptoBulk (.agg [a,b])=Rows.uptoBulk a+Rows.uptoBulk b+1:=by
  simp only [Rows.uptoBulk,Rows.uptoBulkAll]
  omega
theorem bulk_str {H:Type} (s:ByteArray):Rows.uptoBulk (.lit (.string s.data.toList):DataW H)=s.size+1:=by
  simp only [Rows.uptoBulk]
  rw [Array.length_toList]
  rfl
theorem el_map {H:Type} {enc:TypeId × Value→H} {W:World} (n:Nat) (cs:List Value) (x:DataW H × List MemPlace) (h:DataW.trod enc Tryz.prog W 0 (fun _ =>true) true n 85 cs=some x):∃ z:Int × ByteArray,cs=[.int .i32 z.1,.string z.2]∧z.2.size≤Rows.uptoBulk x.1∧R32 z.1:=by
  obtain ⟨v0,v1,y0,y1,k,rfl,hx,t0,t1⟩:=trod2 Tryz.underlying85 (by kernel_rfl) rfl rfl (by kernel_rfl) (by kernel_rfl) h
  obtain ⟨z0,e0,_,w0⟩:=DataW.trod_int Tryz.underlying21 t0
  obtain ⟨z1,e1,hy,_⟩:=DataW.trod_string Tryz.underlying9 t1
  injection e0 with e0
  injection e1 with e1
  refine ⟨(z0,z1),by rw [e0,e1], ?_,r32_wf w0⟩
  rw [hx,bulk_agg2,hy,bulk_str]
  show z1.size≤_
  omega
/-- A script that was handed in. -/
def ScQ {H:Type} (W:World) (z:ByteArray × List (Int × Int) × Value) (d:DataW H):Prop:=z.1.size≤Rows.uptoBulk d∧z.2.1.length≤Rows.uptoBulk d∧(∃ b c,z.2.2=.slice b z.2.1.length c∧RowC W W.heap.size b (z.2.1.flatMap fun s => [.int .i32 s.1,.int .i32 s.2]))∧∀ y ∈ z.2.1,R32 y.1∧R32 y.2
theorem el_script {H:Type} {enc:TypeId × Value→H} {W:World} (n:Nat) (cs:List Value) (x:DataW H × List MemPlace) (h:DataW.trod enc Tryz.prog W 0 (fun _ =>true) true n 79 cs=some x):∃ z:ByteArray × List (Int × Int) × Value,cs=[.string z.1,z.2.2]∧ScQ W z x.1:=by
  obtain ⟨v0,v1,y0,y1,k,rfl,hx,t0,t1⟩:=trod2 Tryz.underlying79 (by kernel_rfl) rfl rfl (by kernel_rfl) (by kernel_rfl) h
  obtain ⟨z0,e0,hy,_⟩:=DataW.trod_string Tryz.underlying9 t0
  injection e0 with e0
  obtain ⟨zs,a,cap,e1,hr,hl,hq⟩:=open_list (fun s:Int × Int => [Value.int .i32 s.1,.int .i32 s.2]) (fun z _ =>R32 z.1∧R32 z.2) 2 (by kernel_rfl) (fun _ =>rfl) (by decide) Tryz.underlying26 el_span t1
  refine ⟨(z0,zs,v1),by rw [e0], ?_, ?_,⟨a,cap,e1,hr⟩,fun y hy =>by obtain ⟨_,h5,_⟩:=hq y hy;exact h5⟩
  · show z0.size≤_
    rw [hx,bulk_agg2,hy,bulk_str]
    omega
  · show zs.length≤_
    rw [hx,bulk_agg2]
    omega
theorem flatS:∀ (l:List (Int × Int)),(l.flatMap fun s => [Value.int .i32 s.1,.int .i32 s.2])=zaK l
  | [] =>rfl
  | x::l =>by rw [List.flatMap_cons,flatS l];rfl
theorem flatM:∀ (l:List (Int × Int)),(l.flatMap fun s => [Value.int .i32 s.1,.int .i64 s.2])=zc9 l
  | [] =>rfl
  | x::l =>by rw [List.flatMap_cons,flatM l];rfl
theorem flatP:∀ (l:List (Int × Int × Int)),(l.flatMap fun s => [Value.int .i32 s.1,.int .i32 s.2.1,.int .i32 s.2.2])=zcC l
  | [] =>rfl
  | x::l =>by rw [List.flatMap_cons,flatP l];rfl
theorem flatF:∀ (l:List (Int × ByteArray)),(l.flatMap fun s => [Value.int .i32 s.1,.string s.2])=zbf l
  | [] =>rfl
  | x::l =>by rw [List.flatMap_cons,flatF l];rfl
theorem flatC:∀ (l:List (ByteArray × List (Int × Int) × Value)),(l.flatMap fun z => [Value.string z.1,z.2.2])=zbz (l.map fun z =>(z.1,z.2.1)) (l.map fun z =>z.2.2)
  | [] =>rfl
  | x::l =>by rw [List.flatMap_cons,flatC l];rfl
theorem len8 {α : Type}:∀ {l:List α},l.length=8→∃ a b c d e f g h,l=[a,b,c,d,e,f,g,h]
  | [a,b,c,d,e,f,g,h],_ =>⟨a,b,c,d,e,f,g,h,rfl⟩
theorem underTab:∃ f0 f1 f2 f3 f4 f5 f6 f7:Field,Tryz.prog.underlying 31=some (.struct #[f0,f1,f2,f3,f4,f5,f6,f7])∧(f0.offset=0∧f0.type=25)∧(f1.offset=1∧f1.type=26)∧(f2.offset=2∧f2.type=27)∧(f3.offset=3∧f3.type=28)∧(f4.offset=4∧f4.type=29)∧(f5.offset=5∧f5.type=29)∧(f6.offset=6∧f6.type=26)∧(f7.offset=7∧f7.type=26) :=
  ⟨_,_,_,_,_,_,_,_,Tryz.underlying31,⟨rfl,rfl⟩,⟨rfl,rfl⟩,⟨rfl,rfl⟩,⟨rfl,rfl⟩,⟨rfl,rfl⟩,⟨rfl,rfl⟩,⟨rfl,rfl⟩,⟨rfl,rfl⟩⟩
theorem bulk_agg8 {H:Type} (a b c d e f g h:DataW H):Rows.uptoBulk a≤Rows.uptoBulk (.agg [a,b,c,d,e,f,g,h])∧Rows.uptoBulk b≤Rows.uptoBulk (.agg [a,b,c,d,e,f,g,h])∧Rows.uptoBulk c≤Rows.uptoBulk (.agg [a,b,c,d,e,f,g,h])∧Rows.uptoBulk d≤Rows.uptoBulk (.agg [a,b,c,d,e,f,g,h])∧Rows.uptoBulk e≤Rows.uptoBulk (.agg [a,b,c,d,e,f,g,h])∧Rows.uptoBulk f≤Rows.uptoBulk (.agg [a,b,c,d,e,f,g,h])∧Rows.uptoBulk g≤Rows.uptoBulk (.agg [a,b,c,d,e,f,g,h])∧Rows.uptoBulk h≤Rows.uptoBulk (.agg [a,b,c,d,e,f,g,h]):=by
  have e0:Rows.uptoBulk (.agg [a,b,c,d,e,f,g,h])=Rows.uptoBulkAll [a,b,c,d,e,f,g,h]+1:=by simp only [Rows.uptoBulk]
  have key:∀ x ∈ [a,b,c,d,e,f,g,h],Rows.uptoBulk x≤Rows.uptoBulkAll [a,b,c,d,e,f,g,h]+1:=fun x hx =>Nat.le_succ_of_le (bulk_mem _ x hx)
  rw [e0]
  exact ⟨key a (by simp),key b (by simp),key c (by simp),key d (by simp),key e (by simp),key f (by simp),key g (by simp),key h (by simp)⟩
set_option maxRecDepth 100000 in
set_option maxHeartbeats 1000000 in
/-- A table that was handed in. -/
theorem arg_tab {H:Type} {enc:TypeId × Value→H} {W:World} {cs:Array Value} {d:DataW H} {p:List MemPlace} (h:DataW.Trod enc Tryz.prog W 0 (fun _ =>true) true 31 (.agg cs) d p) (hd:Rows.uptoBulk d≤1048576) :
    ∃ (T:TV) (a0 a1 a2 a3 a4 a5 a6 a7:Option Addr) (c0 c1 c2 c3 c4 c5 c6 c7:Nat) (us:List Value),cs=tabV T a0 a1 a2 a3 a4 a5 a6 a7 c0 c1 c2 c3 c4 c5 c6 c7∧TabIn W T a0 a1 a2 a3 a4 a5 a6 a7 us∧TabB T∧TabI T:=by
  obtain ⟨fuel,hf⟩:=h
  obtain ⟨f0,f1,f2,f3,f4,f5,f6,f7,hu,⟨o0,t0⟩,⟨o1,t1⟩,⟨o2,t2⟩,⟨o3,t3⟩,⟨o4,t4⟩,⟨o5,t5⟩,⟨o6,t6⟩,⟨o7,t7⟩⟩:=underTab
  obtain ⟨xs,k,hk,hxy,hcl,hxl,hg⟩:=DataW.trod_struct hu hf
  have hc8:(Value.agg cs).cells.toList.length=8:=hcl.trans (by kernel_rfl)
  have hcs:(Value.agg cs).cells.toList=cs.toList:=by simp [Value.cells]
  obtain ⟨v0,v1,v2,v3,v4,v5,v6,v7,hv⟩:=len8 (hcs ▸ hc8)
  obtain ⟨x0,x1,x2,x3,x4,x5,x6,x7,rfl⟩:=len8 hxl
  have g0:=hg 0 f0 rfl
  rw [o0,t0,hcs,hv,show Tryz.prog.cellsOf 25=1 by kernel_rfl] at g0
  have g0:DataW.trod enc Tryz.prog W 0 (fun _ =>true) true k 25 [v0]=some x0:=g0
  have g1:=hg 1 f1 rfl
  rw [o1,t1,hcs,hv,show Tryz.prog.cellsOf 26=1 by kernel_rfl] at g1
  have g1:DataW.trod enc Tryz.prog W 0 (fun _ =>true) true k 26 [v1]=some x1:=g1
  have g2:=hg 2 f2 rfl
  rw [o2,t2,hcs,hv,show Tryz.prog.cellsOf 27=1 by kernel_rfl] at g2
  have g2:DataW.trod enc Tryz.prog W 0 (fun _ =>true) true k 27 [v2]=some x2:=g2
  have g3:=hg 3 f3 rfl
  rw [o3,t3,hcs,hv,show Tryz.prog.cellsOf 28=1 by kernel_rfl] at g3
  have g3:DataW.trod enc Tryz.prog W 0 (fun _ =>true) true k 28 [v3]=some x3:=g3
  have g4:=hg 4 f4 rfl
  rw [o4,t4,hcs,hv,show Tryz.prog.cellsOf 29=1 by kernel_rfl] at g4
  have g4:DataW.trod enc Tryz.prog W 0 (fun _ =>true) true k 29 [v4]=some x4:=g4
  have g5:=hg 5 f5 rfl
  rw [o5,t5,hcs,hv,show Tryz.prog.cellsOf 29=1 by kernel_rfl] at g5
  have g5:DataW.trod enc Tryz.prog W 0 (fun _ =>true) true k 29 [v5]=some x5:=g5
  have g6:=hg 6 f6 rfl
  rw [o6,t6,hcs,hv,show Tryz.prog.cellsOf 26=1 by kernel_rfl] at g6
  have g6:DataW.trod enc Tryz.prog W 0 (fun _ =>true) true k 26 [v6]=some x6:=g6
  have g7:=hg 7 f7 rfl
  rw [o7,t7,hcs,hv,show Tryz.prog.cellsOf 26=1 by kernel_rfl] at g7
  have g7:DataW.trod enc Tryz.prog W 0 (fun _ =>true) true k 26 [v7]=some x7:=g7
  obtain ⟨z0,a0,c0,rfl,r0,l0,q0⟩:=open_list (fun z:ByteArray × List (Int × Int) × Value => [Value.string z.1,z.2.2]) (ScQ W) 2 (by kernel_rfl) (fun _ =>rfl) (by decide) Tryz.underlying25 el_script g0
  obtain ⟨z1,a1,c1,rfl,r1,l1,q1⟩:=open_list (fun s:Int × Int => [Value.int .i32 s.1,.int .i32 s.2]) (fun z _ =>R32 z.1∧R32 z.2) 2 (by kernel_rfl) (fun _ =>rfl) (by decide) Tryz.underlying26 el_span g1
  obtain ⟨z2,a2,c2,rfl,r2,l2,q2⟩:=open_list (fun s:Int × Int => [Value.int .i32 s.1,.int .i64 s.2]) (fun z _ =>(-9223372036854775808≤z.2∧z.2≤9223372036854775807)∧R32 z.1) 2 (by kernel_rfl) (fun _ =>rfl) (by decide) Tryz.underlying27 el_mark g2
  obtain ⟨z3,a3,c3,rfl,r3,l3,q3⟩:=open_list (fun s:Int × Int × Int => [Value.int .i32 s.1,.int .i32 s.2.1,.int .i32 s.2.2]) (fun z _ =>R32 z.1∧R32 z.2.1∧R32 z.2.2) 3 (by kernel_rfl) (fun _ =>rfl) (by decide) Tryz.underlying28 el_pair g3
  obtain ⟨z4,a4,c4,rfl,r4,l4,q4⟩:=open_list (fun s:Int × ByteArray => [Value.int .i32 s.1,.string s.2]) (fun z d =>z.2.size≤Rows.uptoBulk d∧R32 z.1) 2 (by kernel_rfl) (fun _ =>rfl) (by decide) Tryz.underlying29 el_map g4
  obtain ⟨z5,a5,c5,rfl,r5,l5,q5⟩:=open_list (fun s:Int × ByteArray => [Value.int .i32 s.1,.string s.2]) (fun z d =>z.2.size≤Rows.uptoBulk d∧R32 z.1) 2 (by kernel_rfl) (fun _ =>rfl) (by decide) Tryz.underlying29 el_map g5
  obtain ⟨z6,a6,c6,rfl,r6,l6,q6⟩:=open_list (fun s:Int × Int => [Value.int .i32 s.1,.int .i32 s.2]) (fun z _ =>R32 z.1∧R32 z.2) 2 (by kernel_rfl) (fun _ =>rfl) (by decide) Tryz.underlying26 el_span g6
  obtain ⟨z7,a7,c7,rfl,r7,l7,q7⟩:=open_list (fun s:Int × Int => [Value.int .i32 s.1,.int .i32 s.2]) (fun z _ =>R32 z.1∧R32 z.2) 2 (by kernel_rfl) (fun _ =>rfl) (by decide) Tryz.underlying26 el_span g7
  have hdx:d=.agg [x0.1,x1.1,x2.1,x3.1,x4.1,x5.1,x6.1,x7.1]:=congrArg Prod.fst hxy
  have hb:=bulk_agg8 x0.1 x1.1 x2.1 x3.1 x4.1 x5.1 x6.1 x7.1
  rw [← hdx] at hb
  obtain ⟨b0,b1,b2,b3,b4,b5,b6,b7⟩:=hb
  rw [flatC] at r0
  rw [flatS] at r1 r6 r7
  rw [flatM] at r2
  rw [flatP] at r3
  rw [flatF] at r4 r5
  refine ⟨⟨z0.map fun z =>(z.1,z.2.1),z1,z2,z3,z4,z5,z6,z7,[],[],[],[],[],[],[],[]⟩,a0,a1,a2,a3,a4,a5,a6,a7,c0,c1,c2,c3,c4,c5,c6,c7,z0.map fun z =>z.2.2, ?_, ?_, ?_, ?_⟩
  · unfold tabV
    rw [List.length_map]
    exact Array.ext' hv
  · refine ⟨by rw [List.length_map,List.length_map],r0,r1,r2,r3,r4,r5,r6,r7,fun j x u hx hu =>?_⟩
    have hx':(z0.map fun z =>(z.1,z.2.1))[j]?=some x:=hx
    rw [List.getElem?_map] at hx' hu
    obtain ⟨z,hz,rfl⟩:=Option.map_eq_some_iff.1 hx'
    rw [hz] at hu
    obtain rfl:=Option.some.inj hu
    obtain ⟨dz,⟨_,_,⟨b,c,e,hr⟩,_⟩,_⟩:=q0 z (List.mem_of_getElem? hz)
    rw [flatS] at hr
    exact ⟨b,c,e,hr⟩
  · refine ⟨by show (z0.map _).length≤_;rw [List.length_map];omega,by show z1.length≤_;omega,by show z2.length≤_;omega,by show z3.length≤_;omega,by show z4.length≤_;omega,by show z5.length≤_;omega,by show z6.length≤_;omega,by show z7.length≤_;omega,fun x hx =>?_,fun x hx =>?_,fun x hx =>?_,fun x hx =>?_⟩
    · obtain ⟨z,hz,rfl⟩:=List.mem_map.1 (show x ∈ z0.map fun z =>(z.1,z.2.1) from hx)
      obtain ⟨dz,⟨s1,s2,_⟩,s3⟩:=q0 z hz
      exact ⟨by show z.1.size≤_;omega,by show z.2.1.length≤_;omega⟩
    · obtain ⟨_,⟨s1,_⟩,_⟩:=q2 x hx
      exact s1
    · obtain ⟨dz,⟨s1,_⟩,s2⟩:=q4 x hx
      omega
    · obtain ⟨dz,⟨s1,_⟩,s2⟩:=q5 x hx
      omega
  · refine ⟨fun x hx y hy =>?_,fun y hy =>?_,fun y hy =>?_,fun y hy =>?_,fun y hy =>?_,fun y hy =>?_,fun y hy =>?_,fun y hy =>?_⟩
    · obtain ⟨z,hz,rfl⟩:=List.mem_map.1 (show x ∈ z0.map fun z =>(z.1,z.2.1) from hx)
      obtain ⟨dz,⟨_,_,_,s1⟩,_⟩:=q0 z hz
      exact s1 y hy
    · obtain ⟨_,s1,_⟩:=q1 y hy;exact s1
    · obtain ⟨_,s1,_⟩:=q6 y hy;exact s1
    · obtain ⟨_,s1,_⟩:=q7 y hy;exact s1
    · obtain ⟨_,⟨_,s1⟩,_⟩:=q2 y hy;exact s1
    · obtain ⟨_,s1,_⟩:=q3 y hy;exact s1
    · obtain ⟨_,⟨_,s1⟩,_⟩:=q4 y hy;exact s1
    · obtain ⟨_,⟨_,s1⟩,_⟩:=q5 y hy;exact s1
end Go.Proofs.YtoaiicbicdhkkaaGreat
