/- Texts of this claim, one behind the other. -/
import Derived.Test.YtoaiicbicdhkkaaGreatRows
import Derived.Test.YtoaiicbicdhkkaaGreatM1
import Derived.Test.YtoaiicbicdhkkaaGreatM2
import Derived.Test.YtoaiicbicdhkkaaGreatM3
import Derived.Test.YtoaiicbicdhkkaaGreatM4
import Derived.Test.YtoaiicbicdhkkaaGreatM5
import Derived.Test.YtoaiicbicdhkkaaGreatRuB
import Derived.Test.YtoaiicbicdhkkaaGreatM6
import Derived.Test.YtoaiicbicdhkkaaGreatM7
import Derived.Test.YtoaiicbicdhkkaaGreatM8
import Derived.Test.YtoaiicbicdhkkaaGreatUaH
import Derived.Test.YtoaiicbicdhkkaaGreatUaI
import Derived.Test.YtoaiicbicdhkkaaGreatM9
import Derived.Test.YtoaiicbicdhkkaaGreatM10
import Derived.Test.YtoaiicbicdhkkaaGreatM11
import Derived.Test.YtoaiicbicdhkkaaGreatUaQ
import Derived.Test.YtoaiicbicdhkkaaGreatM12
import Derived.Test.YtoaiicbicdhkkaaGreatM13
import Derived.Test.YtoaiicbicdhkkaaGreatM14
import Derived.Test.YtoaiicbicdhkkaaGreatTkK
import Derived.Test.YtoaiicbicdhkkaaGreatM15
import Derived.Test.YtoaiicbicdhkkaaGreatM16
import Derived.Test.YtoaiicbicdhkkaaGreatM17
import Derived.Test.YtoaiicbicdhkkaaGreatM18
import Derived.Test.YtoaiicbicdhkkaaGreatM19
import Derived.Test.YtoaiicbicdhkkaaGreatM20
import Derived.Test.YtoaiicbicdhkkaaGreatTkU
import Derived.Test.YtoaiicbicdhkkaaGreatM21
import Derived.Test.YtoaiicbicdhkkaaGreatM22
import Derived.Test.YtoaiicbicdhkkaaGreatM23
import Derived.Test.YtoaiicbicdhkkaaGreatM24
import Derived.Test.YtoaiicbicdhkkaaGreatTlJ
import Derived.Test.YtoaiicbicdhkkaaGreatM25
import Derived.Test.YtoaiicbicdhkkaaGreatM26
import Derived.Test.YtoaiicbicdhkkaaGreatM27
import Derived.Test.YtoaiicbicdhkkaaGreatTlN
import Derived.Test.YtoaiicbicdhkkaaGreatM28
import Derived.Test.YtoaiicbicdhkkaaGreatM29
import Derived.Test.YtoaiicbicdhkkaaGreatM30
import Derived.Test.YtoaiicbicdhkkaaGreatM31
import Derived.Test.YtoaiicbicdhkkaaGreatM32
import Derived.Lib.DecodeN
import Derived.Laws.Strings
import Derived.Laws.RangeAny
import Derived.Deep.QuietTactic
import Derived.BigQuiet
import Derived.WalkSmall
import Derived.Laws.Cover4
import Derived.Laws.IdiomStrings
import Derived.ProofKit
import Derived.OpenShut
import Derived.ChangeOld
import Derived.Deep.SlicePairs
namespace Go.Proofs.YtoaiicbicdhkkaaGreat
set_option linter.unusedVariables false
open Go.Lib (decodeN decode_at)

/-- Of the room only whether it is 1, 2, 3 or more counts. -/
theorem decodeN_room (n m b0 b1 b2 b3:Nat) (h:n=m∨(4≤n∧4≤m)):decodeN n b0 b1 b2 b3=decodeN m b0 b1 b2 b3:=by
  rcases h with rfl | ⟨h,k⟩
  · rfl
  · have e1:(1 < n)=(1 < m):=propext ⟨fun _ =>by omega,fun _ =>by omega⟩
    have e2:(2 < n)=(2 < m):=propext ⟨fun _ =>by omega,fun _ =>by omega⟩
    have e3:(3 < n)=(3 < m):=propext ⟨fun _ =>by omega,fun _ =>by omega⟩
    unfold decodeN
    simp only [e1,e2,e3]

/-- Only the bytes that are there count. -/
theorem decodeN_cong (n b0 b1 b2 b3 c1 c2 c3:Nat) (h1:1 < n→b1=c1) (h2:2 < n→b2=c2) (h3:3 < n→b3=c3):decodeN n b0 b1 b2 b3=decodeN n b0 c1 c2 c3:=by
  by_cases k1:1 < n
  · by_cases k2:2 < n
    · by_cases k3:3 < n
      · rw [h1 k1,h2 k2,h3 k3]
      · rw [h1 k1,h2 k2];unfold decodeN;simp only [k3,false_and,and_false,if_false]
    · have k3:¬ 3 < n:=by omega
      rw [h1 k1];unfold decodeN;simp only [k2,k3,false_and,and_false,if_false]
  · have k2:¬ 2 < n:=by omega
    have k3:¬ 3 < n:=by omega
    unfold decodeN;simp only [k1,k2,k3,false_and,and_false,if_false]

theorem wd_cont (s:ByteArray) (i k:Nat) (h0:0 < k) (h:k < wd s i):bt s (i+k) / 64=2:=by
  have t:=zeT s i
  have f:=wd_four s i
  have:k=1∨k=2∨k=3:=by omega
  rcases this with rfl | rfl | rfl
  · exact t.c1 h
  · exact t.c2 h
  · exact t.c3 h
theorem wd_lead (s:ByteArray) (i:Nat) (h:2≤wd s i):192≤bt s i:=(zeT s i).lead h

/-- No sequence that began shortly ahead of p goes on behind it. -/
def bdB (s:ByteArray) (p:Nat):Bool:=decide ((1≤p→wd s (p - 1)≤1)∧(2≤p→wd s (p - 2)≤2)∧(3≤p→wd s (p - 3)≤3))
theorem bd_iff (s:ByteArray) (p:Nat):bdB s p=true ↔ ∀ n,n < 4→1≤n→n≤p→wd s (p - n)≤n:=by
  unfold bdB
  rw [decide_eq_true_iff]
  constructor
  · rintro ⟨a,b,c⟩ n h4 h1 hn
    have:n=1∨n=2∨n=3:=by omega
    rcases this with rfl | rfl | rfl
    · exact a hn
    · exact b hn
    · exact c hn
  · intro h
    exact ⟨h 1 (by omega) (by omega),h 2 (by omega) (by omega),h 3 (by omega) (by omega)⟩
theorem bd_zero (s:ByteArray):bdB s 0=true:=(bd_iff s 0).2 fun n _ h1 h2 =>by omega
theorem bd_step (s:ByteArray) (p:Nat) (h:bdB s p=true) (hp:p < s.size):bdB s (p+wd s p)=true:=by
  rw [bd_iff] at h ⊢
  intro n h4 h1 hn
  have hw:=zcW s p
  rcases Nat.lt_or_ge n (wd s p+1) with hlt | hge
  · by_cases e:n=wd s p
    · rw [show p+wd s p - n=p by omega];omega
    · -- within the sequence of p: a byte that begins none of more than one byte
      have hk:=wd_cont s p (wd s p - n) (by omega) (by omega)
      rcases Nat.lt_or_ge (wd s (p+wd s p - n)) 2 with h2 | h2
      · omega
      · have:=wd_lead s _ h2
        rw [show p+(wd s p - n)=p+wd s p - n by omega] at hk
        omega
  · have hh:=h (n - wd s p) (by omega) (by omega) (by omega)
    rw [show p+wd s p - n=p - (n - wd s p) by omega]
    omega
/-- The same, zgf of a part of the text with three bytes at each side. -/
theorem bd_near (s u:ByteArray) (p q:Nat) (hp:p≤s.size) (hq:q≤u.size) (hl:p=q∨(3≤p∧3≤q)) (hr:s.size - p=u.size - q∨(3≤s.size - p∧3≤u.size - q))
    (hb:∀ i j,p+j=q+i→i < s.size→j < u.size→i+3 ≥ p→i < p+3→bt s i=bt u j):bdB s p=bdB u q:=by
  have hd:∀ n,n < 4→1≤n→n≤p→n≤q→wd s (p - n)=wd u (q - n):=by
    intro n h4 h1 hnp hnq
    show (Utf8.decode s (p - n)).2=(Utf8.decode u (q - n)).2
    rw [decode_at,decode_at]
    rw [decodeN_room (u.size - (q - n)) (s.size - (p - n)) _ _ _ _ (by omega)]
    rw [show (s.get! (p - n)).toNat=(u.get! (q - n)).toNat from hb _ _ (by omega) (by omega) (by omega) (by omega) (by omega)]
    rw [decodeN_cong (s.size - (p - n)) _ _ _ _ (u.get! (q - n+1)).toNat (u.get! (q - n+2)).toNat (u.get! (q - n+3)).toNat]
    · intro h;exact hb _ _ (by omega) (by omega) (by omega) (by omega) (by omega)
    · intro h;exact hb _ _ (by omega) (by omega) (by omega) (by omega) (by omega)
    · intro h;exact hb _ _ (by omega) (by omega) (by omega) (by omega) (by omega)
  rw [Bool.eq_iff_iff,bd_iff,bd_iff]
  constructor
  · intro h n h4 h1 hn
    rw [← hd n h4 h1 (by omega) hn]
    exact h n h4 h1 (by omega)
  · intro h n h4 h1 hn
    rw [hd n h4 h1 hn (by omega)]
    exact h n h4 h1 (by omega)
end Go.Proofs.YtoaiicbicdhkkaaGreat
namespace Go.Proofs.YtoaiicbicdhkkaaGreat
open Go.RowKit Go.Shelf
set_option linter.unusedVariables false

def joinsV (s t:ByteArray):Bool:=bdB (s.extract (s.size - 3) s.size++t.extract 0 (min t.size 3)) (min s.size 3)

end Go.Proofs.YtoaiicbicdhkkaaGreat
namespace Go.Proofs.YtoaiicbicdhkkaaGreat
open Go.RowKit Go.Shelf
attribute [local go_sem] Oper.semAt_some
set_option linter.unusedVariables false

/-- The text of the runes of the spots. -/
def cleanV (s:ByteArray):ByteArray:=runesBytes (zah s)

def validFrom (s:ByteArray):List Nat→Nat→Value
  | [],_ =>.tuple #[.agg #[.int .i64 0,.int .i64 0],.bool true]
  | i::l,n =>if zfc s i then .tuple #[.agg #[.int .i64 i,.int .i64 n],.bool false] else validFrom s l (n+1)
def validV (s:ByteArray):Value:=validFrom s (zav s) 0
theorem validFrom_none (s:ByteArray):∀ (l:List Nat) (n:Nat),(∀ i ∈ l,zfc s i=false)→validFrom s l n=.tuple #[.agg #[.int .i64 0,.int .i64 0],.bool true]
  | [],_,_ =>rfl
  | i::l,n,h =>by
    unfold validFrom
    rw [if_neg (by rw [h i (by simp)];simp)]
    exact validFrom_none s l (n+1) (fun j hj =>h j (by simp [hj]))
theorem validFrom_some (s:ByteArray) (x:Nat) (r:List Nat) (hx:zfc s x=true):∀ (q:List Nat) (n:Nat),(∀ i ∈ q,zfc s i=false)→validFrom s (q++x::r) n=.tuple #[.agg #[.int .i64 x,.int .i64 ((n+q.length:Nat):Int)],.bool false]
  | [],n,_ =>by simp [validFrom,hx]
  | i::q,n,h =>by
    rw [List.cons_append]
    unfold validFrom
    rw [if_neg (by rw [h i (by simp)];simp),validFrom_some s x r hx q (n+1) (fun j hj =>h j (by simp [hj]))]
    rw [show n+1+q.length=n+(i::q).length by simp;omega]

set_option maxRecDepth 100000 in
set_option maxHeartbeats 4000000 in
theorem valid_in (n:Nat) (hn:3≤n) (s:ByteArray) (hs:s.size≤maxLen) (w:World) :
    CallsIn Fence.wide n Tryz.prog 26 #[.string s] w fun e W' =>e=.returned (validV s)∧Below w.heap.size w W':=by
  have h1:1≤n:=by omega
  refine callsIn_of_wp_marks Tryz.func26 rfl trivial ?_ rfl
  simp only [Tryz.ntmps26,List.size_toArray,List.length_cons,List.length_nil,Nat.reduceAdd,Nat.reduceSub,Array.replicate_succ,Array.replicate_zero,List.push_toArray,List.append_toArray,List.nil_append,List.cons_append]
  gi_wp2_with (refine ⟨trivial, ?_⟩;gi_at_call 33;refine (callsIn_wide.2 (zhj _ _)).mono ?_;rintro e w' ⟨rfl,rfl⟩)
  have hb2:=(((Blk.new w #[.int .i64 0,.int .i64 0] 35).alloc (.cells #[.bool false] 4)).alloc (.cells #[.int .i64 0] 3)).alloc (.cells #[.string s] 9)
  have hb3:=((Blk.new (w.alloc (.cells #[.int .i64 0,.int .i64 0] 35)) #[.bool false] 4).alloc (.cells #[.int .i64 0] 3)).alloc (.cells #[.string s] 9)
  have hb4:=(Blk.new ((w.alloc (.cells #[.int .i64 0,.int .i64 0] 35)).alloc (.cells #[.bool false] 4)) #[.int .i64 0] 3).alloc (.cells #[.string s] 9)
  have hbS:=Blk.new (((w.alloc (.cells #[.int .i64 0,.int .i64 0] 35)).alloc (.cells #[.bool false] 4)).alloc (.cells #[.int .i64 0] 3)) #[.string s] 9
  simp only [World.size_alloc] at hb3 hb4 hbS
  have hB0:Below w.heap.size w ((((w.alloc (.cells #[.int .i64 0,.int .i64 0] 35)).alloc (.cells #[.bool false] 4)).alloc (.cells #[.int .i64 0] 3)).alloc (.cells #[.string s] 9)):=((((Below.refl _ w).alloc (Nat.le_refl _) _).alloc (by simp) _).alloc (by simp;omega) _).alloc (by simp;omega) _
  have hsz:((((w.alloc (.cells #[.int .i64 0,.int .i64 0] 35)).alloc (.cells #[.bool false] 4)).alloc (.cells #[.int .i64 0] 3)).alloc (.cells #[.string s] 9)).heap.size=w.heap.size+4:=by simp
  obtain ⟨W0,hW0⟩:∃ W0,(((w.alloc (.cells #[.int .i64 0,.int .i64 0] 35)).alloc (.cells #[.bool false] 4)).alloc (.cells #[.int .i64 0] 3)).alloc (.cells #[.string s] 9)=W0:=⟨_,rfl⟩
  rw [hW0] at hb2 hb3 hb4 hbS hB0 hsz ⊢
  clear hW0
  refine wpIn_rangeFunc_ownH rfl h1 (gf:=51) (lb:=#[.pointer (some ⟨w.heap.size+1+1+1,0,none⟩)]) rfl trivial (enters_of Tryz.func51 (by kernel_rfl) rfl)
    (zh2 (n - 1) (w.heap.size+1+1+1) (by omega) s hs W0 (hbS.cell 0)) KpS_t (KpS_b (by omega)) (Below.refl _ _) (fun _ =>rfl)
    (fun pre W =>(Hz (∀ i ∈ pre,zfc s i=false)∧Blk W w.heap.size #[.int .i64 0,.int .i64 0] 35∧Blk W (w.heap.size+1) #[.bool false] 4∧Blk W (w.heap.size+1+1) #[.int .i64 pre.length] 3∧Blk W (w.heap.size+1+1+1) #[.string s] 9)∧Below w.heap.size w W)
    (fun c pre W =>(c=.ret∧∃ q x,pre=q++[x]∧Hz (∀ i ∈ q,zfc s i=false)∧zfc s x=true∧Blk W w.heap.size #[.int .i64 x,.int .i64 (q.length:Nat)] 35∧Blk W (w.heap.size+1) #[.bool false] 4)∧Below w.heap.size w W)
    (OwnFrom.and (Own.from (fun s A B row hs hg hr =>⟨hs.1,Blk.own _ (fun _ =>_) _ () A B row hs.2.1 hg hr,Blk.own _ (fun _ =>_) _ () A B row hs.2.2.1 hg hr,Blk.own _ (fun _ =>_) _ () A B row hs.2.2.2.1 hg hr,Blk.own _ (fun _ =>_) _ () A B row hs.2.2.2.2 hg hr⟩) _) (ownFrom_below (Nat.le_refl _) (by omega)))
    (fun c =>OwnFrom.and (Own.from (fun s A B row hs hg hr =>by
      obtain ⟨hc,q,x,hx,hq,hbx,k2,k3⟩:=hs
      exact ⟨hc,q,x,hx,hq,hbx,Blk.own _ (fun _ =>_) _ () A B row k2 hg hr,Blk.own _ (fun _ =>_) _ () A B row k3 hg hr⟩) _) (ownFrom_below (Nat.le_refl _) (by omega)))
    ⟨⟨kz (fun i hi =>by cases hi),hb2,hb3,hb4,hbS⟩,hB0⟩
    (fun x a' W => ∃ Bx,w.heap.size+1+1+1 < Bx∧Blk W Bx (zfv (zgJ s x)) 66∧a' = { tmps:=#[.string s,undef,.pointer (some ⟨w.heap.size,0,none⟩),.pointer (some ⟨w.heap.size+1,0,none⟩),.pointer (some ⟨w.heap.size+1+1,0,none⟩),.int .i64 x,.pointer (some ⟨Bx,0,none⟩),.string s,.func (.func 51) #[] #[.pointer (some ⟨w.heap.size+1+1+1,0,none⟩)],.int .i64 x,zeP (zgJ s x),undef,undef,undef,undef,undef,undef,undef,undef],defers := [] })
    (fun x a' =>Own.from (fun u A B row hs hg hr =>by
      obtain ⟨Bx,h1,h2,h3⟩:=hs
      exact ⟨Bx,h1,Blk.own _ (fun _ =>_) _ () A B row h2 hg hr,h3⟩) _)
    ?assign ?body ?done ?stop
  case assign =>
    rintro l pre x W K ⟨⟨hp,k2,k3,k4,kS⟩,hB⟩ hK
    gi_wp2
    exact hK _ _ ((KeepsOthers.alloc _ _).from _) ⟨(kS.alloc _).cell 0 |>.trans (kS.cell 0).symm,KeepsWalks.alloc _ _⟩ ⟨⟨hp,k2.alloc _,k3.alloc _,k4.alloc _,kS.alloc _⟩,hB.alloc hB.size _⟩ ⟨W.heap.size,kS.lt,Blk.new W _ 66,rfl⟩
  case body =>
    rintro l pre x a' W hl ⟨r,hr⟩ ⟨⟨hp,k2,k3,k4,kS⟩,hB⟩ ⟨Bx,hBx,bX,rfl⟩ hlt
    have x2:W.cell? ⟨Bx,2,none⟩=some (.bool (zfc s x)):=bX.cell 2
    have c0:=k2.cell 0
    have c1:=k2.cell 1
    have c3:=k3.cell 0
    have c4:=k4.cell 0
    have f0:=k2.frozen
    have f3:=k3.frozen
    have f4:=k4.frozen
    have hpl:(pre.length:Int) < 2 ^ 63 - 1:=by unfold maxLen at hs;omega
    cases hbx:zfc s x with
    | true =>
      rw [hbx] at x2
      have HBX:=kz hbx
      clear hbx
      gi_wp2
      refine ⟨(((KeepsOthers.setCell _ _ _).trans (KeepsOthers.setCell _ _ _)).trans (KeepsOthers.setCell _ _ _)).from _,⟨rfl,pre,x,rfl,hp,oz HBX, ?_, ?_⟩, ?_⟩
      · exact Blk.other ((k2.set 0 _).set 1 _) (by omega) _
      · exact ((k3.other (by omega) _).other (by omega) _).set 0 _
      · exact ((hB.setCell (p:=⟨w.heap.size,0,none⟩) (Nat.le_refl _) _).setCell (p:=⟨w.heap.size,1,none⟩) (Nat.le_refl _) _).setCell (p:=⟨w.heap.size+1,0,none⟩) (by simp) _
    | false =>
      rw [hbx] at x2
      have HBX:=kz hbx
      clear hbx
      gi_wp2
      refine ⟨(KeepsOthers.setCell _ _ _).from _,⟨((kS.other (by omega) _).cell 0).trans (kS.cell 0).symm,(KeepsOthers.setCell _ _ _).walks⟩,⟨kz (fun i hi =>?_),k2.other (by omega) _,k3.other (by omega) _, ?_,kS.other (by omega) _⟩,hB.setCell (p:=⟨w.heap.size+1+1,0,none⟩) (by simp;omega) _⟩
      · rcases List.mem_append.1 hi with h | h
        · exact oz hp i h
        · simp at h;rw [h];exact oz HBX
      · rw [show (((pre++[x]).length:Nat):Int)=(pre.length:Int)+1 by simp]
        exact k4.set 0 _
  case done =>
    rintro D ys W hD hys ⟨⟨hne,k2,k3,_⟩,hB⟩ hK
    have hv:validV s=.tuple #[.agg #[.int .i64 0,.int .i64 0],.bool true]:=validFrom_none s _ 0 (by rw [← hys];exact oz hne)
    have HV:=kz hv
    have c0:=k2.cell 0
    have c1:=k2.cell 1
    have c3:=k3.cell 0
    have f0:=k2.frozen
    have f3:=k3.frozen
    clear hys hne hv
    gi_wp2
    have hK':=(((KeepsOthers.setCell W ⟨w.heap.size,0,none⟩ (.int .i64 0)).trans (KeepsOthers.setCell _ ⟨w.heap.size,1,none⟩ (.int .i64 0))).trans (KeepsOthers.setCell _ ⟨w.heap.size+1,0,none⟩ (.bool true))).same D _ hK rfl
    have k2':=Blk.other (i:=0) ((k2.set 0 (.int .i64 0)).set 1 (.int .i64 0)) (B':=w.heap.size+1) (by omega) (.bool true)
    have k3':=((k3.other (B':=w.heap.size) (i:=0) (by omega) (.int .i64 0)).other (B':=w.heap.size) (i:=1) (by omega) (.int .i64 0)).set 0 (.bool true)
    have hB':=((hB.setCell (p:=⟨w.heap.size,0,none⟩) (Nat.le_refl _) (.int .i64 0)).setCell (p:=⟨w.heap.size,1,none⟩) (Nat.le_refl _) (.int .i64 0)).setCell (p:=⟨w.heap.size+1,0,none⟩) (by simp) (.bool true)
    clear hK k2 k3 hB c0 c1 c3 f0 f3
    refine ⟨by simp,.inl ⟨_,_,rfl,run_takeDeferred hK', ?_⟩⟩
    have q2:=k2'.put (.deferred Option.none) hK' rfl
    have q3:=k3'.put (.deferred Option.none) hK' rfl
    have c0:=q2.cell 0
    have c1:=q2.cell 1
    have c3:=q3.cell 0
    refine ⟨.tuple #[.agg #[.int .i64 0,.int .i64 0],.bool true], ?_,by rw [oz HV],hB'.trans (belowK_b (w:=w) (Nat.le_refl _) _ D _ _ (by omega) hK' rfl rfl)⟩
    simp [results,Tryz.f26,go_sem,c0,c1,c3]
  case stop =>
    rintro D c pre W hD hpre ⟨⟨rfl,q,x,rfl,hq,hbx,k2,k3⟩,hB⟩ hK
    obtain ⟨r,hr⟩:=hpre
    have hv:validV s=.tuple #[.agg #[.int .i64 x,.int .i64 (q.length:Nat)],.bool false]:=by
      unfold validV
      rw [← hr,List.append_assoc,List.singleton_append,validFrom_some s x r hbx q 0 (oz hq),Nat.zero_add]
    have HV:=kz hv
    clear hv hr hbx
    gi_wp2
    refine ⟨by simp,.inl ⟨_,_,rfl,run_takeDeferred hK, ?_⟩⟩
    have q2:=k2.put (.deferred Option.none) hK rfl
    have q3:=k3.put (.deferred Option.none) hK rfl
    have c0:=q2.cell 0
    have c1:=q2.cell 1
    have c3:=q3.cell 0
    refine ⟨.tuple #[.agg #[.int .i64 x,.int .i64 (q.length:Nat)],.bool false], ?_,by rw [oz HV],hB.trans (belowK_b (w:=w) (Nat.le_refl _) W D _ _ (by omega) hK rfl rfl)⟩
    simp [results,Tryz.f26,go_sem,c0,c1,c3]

theorem valid_any (s:ByteArray) (hs:s.size≤maxLen) (w:World):Calls Tryz.prog 26 #[.string s] w fun e W' =>e=.returned (validV s)∧Below w.heap.size w W' :=
  callsIn_wide.1 (valid_in 3 (Nat.le_refl _) s hs w)
end Go.Proofs.YtoaiicbicdhkkaaGreat
namespace Go.Proofs.YtoaiicbicdhkkaaGreat
open Go.RowKit Go.Shelf
open Go.Lib (decodeN decode_at)
set_option linter.unusedVariables false

/-- What is zgf with more room, and fits into less, is zgf with less. -/
theorem decodeN_less (n m b0 b1 b2 b3:Nat) (hnm:n≤m) (hg:¬ ((decodeN m b0 b1 b2 b3).1=65533∧(decodeN m b0 b1 b2 b3).2=1)) (hw:(decodeN m b0 b1 b2 b3).2≤n):decodeN n b0 b1 b2 b3=decodeN m b0 b1 b2 b3:=by
  by_cases h0:b0 < 128
  · unfold decodeN;rw [if_pos h0,if_pos h0]
  by_cases h2:b0 / 32=6∧(1 < m∧b1 / 64=2)
  · by_cases hc:b0 % 32*64+b1 % 64 ≥ 128
    · have e:decodeN m b0 b1 b2 b3=(b0 % 32*64+b1 % 64,2):=by unfold decodeN;rw [if_neg h0,if_pos h2,if_pos hc]
      rw [e] at hw
      rw [e]
      simp only at hw
      unfold decodeN
      rw [if_neg h0,if_pos ⟨h2.1,by omega,h2.2.2⟩,if_pos hc]
    · have e:decodeN m b0 b1 b2 b3=(65533,1):=by unfold decodeN;rw [if_neg h0,if_pos h2,if_neg hc]
      rw [e] at hg
      exact absurd ⟨rfl,rfl⟩ hg
  by_cases h3:b0 / 16=14∧(1 < m∧b1 / 64=2)∧(2 < m∧b2 / 64=2)
  · by_cases hc:b0 % 16*4096+b1 % 64*64+b2 % 64 ≥ 2048∧(b0 % 16*4096+b1 % 64*64+b2 % 64 < 55296∨(57344≤b0 % 16*4096+b1 % 64*64+b2 % 64∧b0 % 16*4096+b1 % 64*64+b2 % 64≤1114111))
    · have e:decodeN m b0 b1 b2 b3=(b0 % 16*4096+b1 % 64*64+b2 % 64,3):=by unfold decodeN;rw [if_neg h0,if_neg h2,if_pos h3,if_pos hc]
      rw [e] at hw
      rw [e]
      simp only at hw
      unfold decodeN
      rw [if_neg h0,if_neg (by omega),if_pos ⟨h3.1,⟨by omega,h3.2.1.2⟩,⟨by omega,h3.2.2.2⟩⟩,if_pos hc]
    · have e:decodeN m b0 b1 b2 b3=(65533,1):=by unfold decodeN;rw [if_neg h0,if_neg h2,if_pos h3,if_neg hc]
      rw [e] at hg
      exact absurd ⟨rfl,rfl⟩ hg
  by_cases h4:b0 / 8=30∧(1 < m∧b1 / 64=2)∧(2 < m∧b2 / 64=2)∧(3 < m∧b3 / 64=2)
  · by_cases hc:b0 % 8*262144+b1 % 64*4096+b2 % 64*64+b3 % 64 ≥ 65536∧(b0 % 8*262144+b1 % 64*4096+b2 % 64*64+b3 % 64 < 55296∨(57344≤b0 % 8*262144+b1 % 64*4096+b2 % 64*64+b3 % 64∧b0 % 8*262144+b1 % 64*4096+b2 % 64*64+b3 % 64≤1114111))
    · have e:decodeN m b0 b1 b2 b3=(b0 % 8*262144+b1 % 64*4096+b2 % 64*64+b3 % 64,4):=by unfold decodeN;rw [if_neg h0,if_neg h2,if_neg h3,if_pos h4,if_pos hc]
      rw [e] at hw
      rw [e]
      simp only at hw
      unfold decodeN
      rw [if_neg h0,if_neg (by omega),if_neg (by omega),if_pos ⟨h4.1,⟨by omega,h4.2.1.2⟩,⟨by omega,h4.2.2.1.2⟩,⟨by omega,h4.2.2.2.2⟩⟩,if_pos hc]
    · have e:decodeN m b0 b1 b2 b3=(65533,1):=by unfold decodeN;rw [if_neg h0,if_neg h2,if_neg h3,if_pos h4,if_neg hc]
      rw [e] at hg
      exact absurd ⟨rfl,rfl⟩ hg
  · have e:decodeN m b0 b1 b2 b3=(65533,1):=by unfold decodeN;rw [if_neg h0,if_neg h2,if_neg h3,if_neg h4]
    rw [e] at hg
    exact absurd ⟨rfl,rfl⟩ hg
/-- What is zgf with less room is zgf with more. -/
theorem decodeN_more (n m b0 b1 b2 b3:Nat) (hnm:n≤m) (hn:1≤n) (h1:b1 < 256) (h2:b2 < 256) (h3:b3 < 256) (h0:b0 < 256) (hg:¬ ((decodeN n b0 b1 b2 b3).1=65533∧(decodeN n b0 b1 b2 b3).2=1)):decodeN m b0 b1 b2 b3=decodeN n b0 b1 b2 b3:=by
  have t:=zgf n b0 b1 b2 b3 h0 h1 h2 h3
  by_cases hm:4≤n
  · exact decodeN_room m n _ _ _ _ (.inr ⟨by omega,hm⟩)
  by_cases c0:b0 < 128
  · unfold decodeN;rw [if_pos c0,if_pos c0]
  by_cases c2:b0 / 32=6∧(1 < n∧b1 / 64=2)
  · unfold decodeN
    rw [if_neg c0,if_neg c0,if_pos c2,if_pos ⟨c2.1,by omega,c2.2.2⟩]
  by_cases c3:b0 / 16=14∧(1 < n∧b1 / 64=2)∧(2 < n∧b2 / 64=2)
  · unfold decodeN
    rw [if_neg c0,if_neg c0,if_neg c2,if_neg (by omega),if_pos c3,if_pos ⟨c3.1,⟨by omega,c3.2.1.2⟩,⟨by omega,c3.2.2.2⟩⟩]
  · have e:decodeN n b0 b1 b2 b3=(65533,1):=by unfold decodeN;rw [if_neg c0,if_neg c2,if_neg c3,if_neg (by omega)]
    rw [e] at hg
    exact absurd ⟨rfl,rfl⟩ hg

theorem get_append (u v:ByteArray) (i:Nat):(u++v).get! i=if i < u.size then u.get! i else v.get! (i - u.size):=by
  by_cases h:i < u.size
  · rw [if_pos h,zgr _ _ (by rw [ByteArray.size_append];omega),zgr _ _ h]
    simp [Array.getElem_append_left,h]
  · rw [if_neg h]
    by_cases k:i < (u++v).size
    · rw [zgr _ _ k,zgr _ _ (by rw [ByteArray.size_append] at k;omega)]
      simp [Array.getElem_append_right,Nat.le_of_not_lt h]
    · rw [get_ge _ _ (by omega),get_ge _ _ (by rw [ByteArray.size_append] at k;omega)]
theorem bt_left (s t:ByteArray) (i:Nat) (h:i < s.size):bt (s++t) i=bt s i:=by unfold bt;rw [get_append,if_pos h]
theorem bt_right (s t:ByteArray) (j:Nat):bt (s++t) (s.size+j)=bt t j:=by unfold bt;rw [get_append,if_neg (by omega)];congr 2;omega

theorem decode_left (s t:ByteArray) (i:Nat) (hi:i < s.size):Utf8.decode s i=decodeN (s.size - i) (bt (s++t) i) (bt (s++t) (i+1)) (bt (s++t) (i+2)) (bt (s++t) (i+3)):=by
  rw [decode_at,bt_left s t i hi]
  refine decodeN_cong _ _ _ _ _ _ _ _ (fun h =>?_) (fun h =>?_) (fun h =>?_)
  · exact (bt_left s t _ (by omega)).symm
  · exact (bt_left s t _ (by omega)).symm
  · exact (bt_left s t _ (by omega)).symm
/-- A sequence of the first text is one of the whole. -/
theorem decode_grow (s t:ByteArray) (i:Nat) (hi:i < s.size) (hg:¬ (rn s i=65533∧wd s i=1)):Utf8.decode (s++t) i=Utf8.decode s i:=by
  have e:=decode_left s t i hi
  simp only [rn,wd] at hg
  rw [e] at hg ⊢
  rw [decode_at]
  exact decodeN_more _ _ _ _ _ _ (by rw [ByteArray.size_append];omega) (by omega) (zf9 _ _) (zf9 _ _) (zf9 _ _) (zf9 _ _) hg
/-- What stands in the whole and ends within the first text stands there. -/
theorem decode_part (s t:ByteArray) (i:Nat) (hi:i < s.size) (hw:i+wd (s++t) i≤s.size):Utf8.decode s i=Utf8.decode (s++t) i:=by
  by_cases hg:rn s i=65533∧wd s i=1
  · by_cases hk:rn (s++t) i=65533∧wd (s++t) i=1
    · exact Prod.ext (hg.1.trans hk.1.symm) (hg.2.trans hk.2.symm)
    · have e:=decode_left s t i hi
      have e2:Utf8.decode (s++t) i=decodeN ((s++t).size - i) (bt (s++t) i) (bt (s++t) (i+1)) (bt (s++t) (i+2)) (bt (s++t) (i+3)):=decode_at _ _
      rw [e,e2]
      simp only [rn,wd] at hk hw
      rw [e2] at hk hw
      exact decodeN_less _ _ _ _ _ _ (by rw [ByteArray.size_append];omega) hk (by omega)
  · exact (decode_grow s t i hi hg).symm
theorem decode_behind (s t:ByteArray) (j:Nat):Utf8.decode (s++t) (s.size+j)=Utf8.decode t j:=by
  rw [decode_at,decode_at,ByteArray.size_append,show s.size+t.size - (s.size+j)=t.size - j by omega]
  have h:=bt_right s t
  unfold bt at h
  rw [h j,show s.size+j+1=s.size+(j+1) by omega,h,show s.size+j+2=s.size+(j+2) by omega,h,show s.size+j+3=s.size+(j+3) by omega,h]

theorem startsFrom_behind (s t:ByteArray):∀ f j,zal (s++t) f (s.size+j)=(zal t f j).map (s.size + ·)
  | 0,j =>rfl
  | f+1,j =>by
    unfold zal
    rw [ByteArray.size_append]
    by_cases h:j < t.size
    · rw [if_pos (by omega),if_pos h,List.map_cons]
      have e:wd (s++t) (s.size+j)=wd t j:=by simp only [wd];rw [decode_behind]
      rw [e,Nat.add_assoc,startsFrom_behind s t f]
    · rw [if_neg (by omega),if_neg h];rfl
theorem startsFrom_fuel (s:ByteArray):∀ f g i,s.size≤i+f→s.size≤i+g→zal s f i=zal s g i
  | 0,g,i,hf,hg =>by rw [zaZ s g i (by omega)];rfl
  | f+1,0,i,hf,hg =>by rw [zaZ s (f+1) i (by omega)];rfl
  | f+1,g+1,i,hf,hg =>by
    unfold zal
    by_cases h:i < s.size
    · have:=zcW s i
      rw [if_pos h,if_pos h,startsFrom_fuel s f g _ (by omega) (by omega)]
    · rw [if_neg h,if_neg h]
theorem startsFrom_both (s t:ByteArray) (hb:bdB (s++t) s.size=true):∀ f i,s.size+t.size≤i+f→i≤s.size→bdB (s++t) i=true →
    zal (s++t) f i=zal s f i++(zav t).map (s.size + ·)∧∀ p ∈ zal s f i,Utf8.decode s p=Utf8.decode (s++t) p
  | 0,i,hf,hi,hbi =>by
    have:s.size=0∨t.size=0:=by omega
    have ht:t.size=0:=by omega
    refine ⟨?_,fun p hp =>by cases hp⟩
    rw [show zav t=[] from zaZ t _ _ (by omega)]
    rfl
  | f+1,i,hf,hi,hbi =>by
    by_cases h:i < s.size
    · have hw:=zcW (s++t) i
      have hr:i+wd (s++t) i≤s.size:=by
        rcases Nat.lt_or_ge s.size (i+wd (s++t) i) with hx | hx
        · have h4:=wd_four (s++t) i
          have:=(bd_iff (s++t) s.size).1 hb (s.size - i) (by omega) (by omega) (by omega)
          rw [show s.size - (s.size - i)=i by omega] at this
          omega
        · exact hx
      have e:=decode_part s t i h hr
      have ew:wd s i=wd (s++t) i:=by simp only [wd];rw [e]
      obtain ⟨h1,h2⟩:=startsFrom_both s t hb f (i+wd (s++t) i) (by omega) hr (bd_step (s++t) i hbi (by rw [ByteArray.size_append];omega))
      rw [zaF (s++t) f i (by rw [ByteArray.size_append];omega),zaF s f i h,h1,ew]
      refine ⟨rfl,fun p hp =>?_⟩
      rcases List.mem_cons.1 hp with rfl | hp
      · exact e
      · exact h2 p hp
    · obtain rfl:i=s.size:=by omega
      rw [zaZ s _ _ h]
      refine ⟨?_,fun p hp =>by cases hp⟩
      have:=startsFrom_behind s t (f+1) 0
      rw [List.nil_append,show zav t=zal t (f+1) 0 from startsFrom_fuel t _ _ _ (by omega) (by omega)]
      exact this
theorem starts_both (s t:ByteArray) (hb:bdB (s++t) s.size=true):zav (s++t)=zav s++(zav t).map (s.size + ·)∧(∀ p ∈ zav s,Utf8.decode s p=Utf8.decode (s++t) p):=by
  obtain ⟨h1,h2⟩:=startsFrom_both s t hb (s.size+t.size) 0 (by omega) (by omega) (bd_zero _)
  have e:zal s (s.size+t.size) 0=zav s:=startsFrom_fuel s _ _ _ (by omega) (by omega)
  rw [e] at h1 h2
  refine ⟨?_,h2⟩
  unfold zav
  rw [ByteArray.size_append]
  exact h1
theorem runesL_both (s t:ByteArray) (hb:bdB (s++t) s.size=true):zah (s++t)=zah s++zah t:=by
  obtain ⟨h1,h2⟩:=starts_both s t hb
  unfold zah
  rw [h1,List.map_append,List.map_map]
  congr 1
  · refine List.map_congr_left (fun p hp =>?_)
    simp only [rn]
    rw [h2 p hp]
  · refine List.map_congr_left (fun p hp =>?_)
    simp only [Function.comp,rn]
    rw [decode_behind]
theorem foldl_enc (l:List Int):∀ r:ByteArray,l.foldl (fun r n =>r++Utf8.encode n) r=r++l.foldl (fun r n =>r++Utf8.encode n) ByteArray.empty:=by
  induction l with
  | nil =>intro r;simp
  | cons a l ih =>
    intro r
    rw [List.foldl_cons,ih,List.foldl_cons,ih (ByteArray.empty++Utf8.encode a),ByteArray.append_assoc]
    simp
theorem runesBytes_both (a b:List Int):runesBytes (a++b)=runesBytes a++runesBytes b:=by
  unfold runesBytes
  rw [List.foldl_append,foldl_enc b]
/-- Cut at p, the two parts join just if p is a bound. -/
theorem joins_cut (s:ByteArray) (p:Nat) (h:p≤s.size):joinsV (s.extract 0 p) (s.extract p s.size)=bdB s p:=by
  unfold joinsV
  have e0:(s.extract 0 p).size=p:=by rw [ByteArray.size_extract];omega
  have e1:(s.extract p s.size).size=s.size - p:=by rw [ByteArray.size_extract];omega
  rw [e0,e1,ByteArray.extract_extract,ByteArray.extract_extract]
  symm
  refine bd_near s _ p _ h ?_ ?_ ?_ ?_
  · rw [ByteArray.size_append,ByteArray.size_extract,ByteArray.size_extract];omega
  · omega
  · rw [ByteArray.size_append,ByteArray.size_extract,ByteArray.size_extract];omega
  · intro i j hij hi hj h3 h4
    rw [ByteArray.size_append,ByteArray.size_extract,ByteArray.size_extract] at hj
    unfold bt
    rw [get_append,ByteArray.size_extract]
    split
    · rw [ziD _ _ _ _ (by omega) (by omega)]
      congr 2;omega
    · rw [ziD _ _ _ _ (by omega) (by omega)]
      congr 2;omega
/-- Two texts join just if the first one's end is a bound of the whole. -/
theorem joins_bd (s t:ByteArray):joinsV s t=bdB (s++t) s.size:=by
  have:=joins_cut (s++t) s.size (by rw [ByteArray.size_append];omega)
  rw [ByteArray.extract_append_eq_left rfl,ByteArray.extract_append_eq_right rfl (by rw [ByteArray.size_append])] at this
  exact this
/-- A byte that goes on no sequence is at a bound. -/
theorem bd_lead (s:ByteArray) (i:Nat) (h:bt s i / 64≠2):bdB s i=true:=by
  rw [bd_iff]
  intro n h4 h1 hn
  rcases Nat.lt_or_ge n (wd s (i - n)) with hx | hx
  · have:=wd_cont s (i - n) n (by omega) hx
    rw [show i - n+n=i by omega] at this
    exact absurd this h
  · exact hx
theorem startsFrom_mem (s:ByteArray):∀ f i,s.size≤i+f→bdB s i=true→∀ p,i≤p→p < s.size→bdB s p=true→p ∈ zal s f i
  | 0,i,hf,hb,p,h1,h2,hp =>by omega
  | f+1,i,hf,hb,p,h1,h2,hp =>by
    have hi:i < s.size:=by omega
    have hw:=zcW s i
    have h4:=wd_four s i
    rw [zaF s f i hi,List.mem_cons]
    by_cases e:p=i
    · exact .inl e
    · refine .inr ?_
      rcases Nat.lt_or_ge p (i+wd s i) with hlt | hge
      · have:=(bd_iff s p).1 hp (p - i) (by omega) (by omega) (by omega)
        rw [show p - (p - i)=i by omega] at this
        omega
      · exact startsFrom_mem s f (i+wd s i) (by omega) (bd_step s i hb hi) p hge h2 hp
theorem starts_mem (s:ByteArray) (p:Nat) (h:p < s.size) (hb:bdB s p=true):p ∈ zav s:=startsFrom_mem s s.size 0 (by omega) (bd_zero s) p (Nat.zero_le _) h hb

/-- A text without bad spots joins with any behind it, and any ahead of it. -/
theorem joins_valid_left (s t:ByteArray) (hv:∀ i ∈ zav s,zfc s i=false):joinsV s t=true:=by
  rw [joins_bd,bd_iff]
  intro n h4 h1 hn
  rcases Nat.lt_or_ge n (wd (s++t) (s.size - n)) with hx | hx
  · exfalso
    have hi:s.size - n < s.size:=by omega
    have hl:=wd_lead (s++t) (s.size - n) (by omega)
    rw [bt_left s t _ hi] at hl
    have hb:=hv _ (starts_mem s _ hi (bd_lead s _ (by have:=zf9 s (s.size - n);omega)))
    unfold zfc at hb
    have hg:=of_decide_eq_false hb
    have e:=decode_grow s t (s.size - n) hi hg
    have hr:=zeB s (s.size - n) hi
    simp only [wd] at hx hr
    rw [e] at hx
    omega
  · exact hx
end Go.Proofs.YtoaiicbicdhkkaaGreat
namespace Go.Proofs.YtoaiicbicdhkkaaGreat
open Go.RowKit Go.Shelf
open Go.Lib (decodeN decode_at)
set_option linter.unusedVariables false

theorem valid_of_width {z:Int} (h:zaw z≠0):Utf8.valid z=true∧0≤z∧z≤1114111∧¬ (55296≤z∧z≤57343):=by
  unfold zaw at h
  split at h
  · exact absurd rfl h
  · rename_i hh
    refine ⟨?_,by omega,by omega,by omega⟩
    simp only [Utf8.valid,Bool.or_eq_true,Bool.and_eq_true,decide_eq_true_eq]
    omega

theorem enc1 {z:Int} (h:zaw z≠0) (h1:z < 128):Utf8.encode z=⟨#[UInt8.ofNat z.toNat]⟩:=by
  obtain ⟨hv,h0,_,_⟩:=valid_of_width h
  unfold Utf8.encode
  simp only [hv,if_true]
  rw [if_pos (by omega)]
theorem enc2 {z:Int} (h:zaw z≠0) (h1:128≤z) (h2:z < 2048):Utf8.encode z=⟨#[UInt8.ofNat (0xC0+z.toNat / 64),UInt8.ofNat (0x80+z.toNat % 64)]⟩:=by
  obtain ⟨hv,h0,_,_⟩:=valid_of_width h
  unfold Utf8.encode
  simp only [hv,if_true]
  rw [if_neg (by omega),if_pos (by omega)]
theorem enc3 {z:Int} (h:zaw z≠0) (h1:2048≤z) (h2:z < 65536):Utf8.encode z=⟨#[UInt8.ofNat (0xE0+z.toNat / 4096),UInt8.ofNat (0x80+z.toNat / 64 % 64),UInt8.ofNat (0x80+z.toNat % 64)]⟩:=by
  obtain ⟨hv,h0,_,_⟩:=valid_of_width h
  unfold Utf8.encode
  simp only [hv,if_true]
  rw [if_neg (by omega),if_neg (by omega),if_pos (by omega)]
theorem enc4 {z:Int} (h:zaw z≠0) (h1:65536≤z):Utf8.encode z=⟨#[UInt8.ofNat (0xF0+z.toNat / 262144),UInt8.ofNat (0x80+z.toNat / 4096 % 64),UInt8.ofNat (0x80+z.toNat / 64 % 64),UInt8.ofNat (0x80+z.toNat % 64)]⟩:=by
  obtain ⟨hv,h0,_,_⟩:=valid_of_width h
  unfold Utf8.encode
  simp only [hv,if_true]
  rw [if_neg (by omega),if_neg (by omega),if_neg (by omega)]
theorem u8n (n:Nat) (h:n < 256):(UInt8.ofNat n).toNat=n:=by rw [UInt8.toNat_ofNat'];omega

/-- What is written of a rune is read as that rune, of its width. -/
theorem decode_enc {z:Int} (h:zaw z≠0):Utf8.decode (Utf8.encode z) 0=(z.toNat,(Utf8.encode z).size)∧((Utf8.encode z).size:Int)=zaw z:=by
  obtain ⟨hv,h0,h1,h2⟩:=valid_of_width h
  by_cases c1:z < 128
  · rw [enc1 h c1]
    refine ⟨?_, ?_⟩
    · rw [decode_at]
      have e0:((⟨#[UInt8.ofNat z.toNat]⟩:ByteArray).get! 0).toNat=z.toNat:=by show (UInt8.ofNat z.toNat).toNat=_;exact u8n _ (by omega)
      rw [e0]
      unfold decodeN
      rw [if_pos (by omega)]
      rfl
    · unfold zaw;rw [if_neg (by omega),if_pos (by omega)];rfl
  by_cases c2:z < 2048
  · rw [enc2 h (by omega) c2]
    refine ⟨?_, ?_⟩
    · rw [decode_at]
      have e0:((⟨#[UInt8.ofNat (0xC0+z.toNat / 64),UInt8.ofNat (0x80+z.toNat % 64)]⟩:ByteArray).get! 0).toNat=192+z.toNat / 64:=by show (UInt8.ofNat (0xC0+z.toNat / 64)).toNat=_;exact u8n _ (by omega)
      have e1:((⟨#[UInt8.ofNat (0xC0+z.toNat / 64),UInt8.ofNat (0x80+z.toNat % 64)]⟩:ByteArray).get! (0+1)).toNat=128+z.toNat % 64:=by show (UInt8.ofNat (0x80+z.toNat % 64)).toNat=_;exact u8n _ (by omega)
      rw [e0,e1]
      show decodeN 2 _ _ _ _=(_,2)
      unfold decodeN
      rw [if_neg (by omega),if_pos (by omega),if_pos (by omega)]
      rw [Prod.mk.injEq]
      exact ⟨by omega,rfl⟩
    · unfold zaw;rw [if_neg (by omega),if_neg (by omega),if_pos (by omega)];rfl
  by_cases c3:z < 65536
  · rw [enc3 h (by omega) c3]
    refine ⟨?_, ?_⟩
    · rw [decode_at]
      have e0:((⟨#[UInt8.ofNat (0xE0+z.toNat / 4096),UInt8.ofNat (0x80+z.toNat / 64 % 64),UInt8.ofNat (0x80+z.toNat % 64)]⟩:ByteArray).get! 0).toNat=224+z.toNat / 4096:=by show (UInt8.ofNat (0xE0+z.toNat / 4096)).toNat=_;exact u8n _ (by omega)
      have e1:((⟨#[UInt8.ofNat (0xE0+z.toNat / 4096),UInt8.ofNat (0x80+z.toNat / 64 % 64),UInt8.ofNat (0x80+z.toNat % 64)]⟩:ByteArray).get! (0+1)).toNat=128+z.toNat / 64 % 64:=by show (UInt8.ofNat (0x80+z.toNat / 64 % 64)).toNat=_;exact u8n _ (by omega)
      have e2:((⟨#[UInt8.ofNat (0xE0+z.toNat / 4096),UInt8.ofNat (0x80+z.toNat / 64 % 64),UInt8.ofNat (0x80+z.toNat % 64)]⟩:ByteArray).get! (0+2)).toNat=128+z.toNat % 64:=by show (UInt8.ofNat (0x80+z.toNat % 64)).toNat=_;exact u8n _ (by omega)
      rw [e0,e1,e2]
      show decodeN 3 _ _ _ _=(_,3)
      unfold decodeN
      rw [if_neg (by omega),if_neg (by omega),if_pos (by omega),if_pos (by omega)]
      rw [Prod.mk.injEq]
      exact ⟨by omega,rfl⟩
    · unfold zaw;rw [if_neg (by omega),if_neg (by omega),if_neg (by omega),if_pos (by omega)];rfl
  · rw [enc4 h (by omega)]
    refine ⟨?_, ?_⟩
    · rw [decode_at]
      have e0:((⟨#[UInt8.ofNat (0xF0+z.toNat / 262144),UInt8.ofNat (0x80+z.toNat / 4096 % 64),UInt8.ofNat (0x80+z.toNat / 64 % 64),UInt8.ofNat (0x80+z.toNat % 64)]⟩:ByteArray).get! 0).toNat=240+z.toNat / 262144:=by show (UInt8.ofNat (0xF0+z.toNat / 262144)).toNat=_;exact u8n _ (by omega)
      have e1:((⟨#[UInt8.ofNat (0xF0+z.toNat / 262144),UInt8.ofNat (0x80+z.toNat / 4096 % 64),UInt8.ofNat (0x80+z.toNat / 64 % 64),UInt8.ofNat (0x80+z.toNat % 64)]⟩:ByteArray).get! (0+1)).toNat=128+z.toNat / 4096 % 64:=by show (UInt8.ofNat (0x80+z.toNat / 4096 % 64)).toNat=_;exact u8n _ (by omega)
      have e2:((⟨#[UInt8.ofNat (0xF0+z.toNat / 262144),UInt8.ofNat (0x80+z.toNat / 4096 % 64),UInt8.ofNat (0x80+z.toNat / 64 % 64),UInt8.ofNat (0x80+z.toNat % 64)]⟩:ByteArray).get! (0+2)).toNat=128+z.toNat / 64 % 64:=by show (UInt8.ofNat (0x80+z.toNat / 64 % 64)).toNat=_;exact u8n _ (by omega)
      have e3:((⟨#[UInt8.ofNat (0xF0+z.toNat / 262144),UInt8.ofNat (0x80+z.toNat / 4096 % 64),UInt8.ofNat (0x80+z.toNat / 64 % 64),UInt8.ofNat (0x80+z.toNat % 64)]⟩:ByteArray).get! (0+3)).toNat=128+z.toNat % 64:=by show (UInt8.ofNat (0x80+z.toNat % 64)).toNat=_;exact u8n _ (by omega)
      rw [e0,e1,e2,e3]
      show decodeN 4 _ _ _ _=(_,4)
      unfold decodeN
      rw [if_neg (by omega),if_neg (by omega),if_neg (by omega),if_pos (by omega),if_pos (by omega)]
      rw [Prod.mk.injEq]
      exact ⟨by omega,rfl⟩
    · unfold zaw;rw [if_neg (by omega),if_neg (by omega),if_neg (by omega),if_neg (by omega)];rfl

theorem starts_enc {z:Int} (h:zaw z≠0):zav (Utf8.encode z)=[0]∧zfc (Utf8.encode z) 0=false∧zah (Utf8.encode z)=[z]:=by
  obtain ⟨hd,hw⟩:=decode_enc h
  obtain ⟨hv,h0,h1,h2⟩:=valid_of_width h
  have hsz:1≤(Utf8.encode z).size:=by
    have:(0:Int)≤zaw z:=by
      unfold zaw
      repeat' split
      all_goals omega
    omega
  have hs:zav (Utf8.encode z)=[0]:=by
    unfold zav
    obtain ⟨m,hm⟩:∃ m,(Utf8.encode z).size=m+1:=⟨(Utf8.encode z).size - 1,by omega⟩
    have hwd:wd (Utf8.encode z) 0=(Utf8.encode z).size:=by simp only [wd];rw [hd]
    rw [hm,zaF _ m 0 (by omega),hwd,zaZ _ _ _ (by omega)]
  refine ⟨hs, ?_, ?_⟩
  · unfold zfc
    refine decide_eq_false ?_
    simp only [rn,wd,hd]
    rintro ⟨a,b⟩
    unfold zaw at hw
    rw [b] at hw
    repeat' split at hw
    all_goals omega
  · unfold zah
    rw [hs]
    simp only [List.map_cons,List.map_nil,rn,hd]
    rw [Int.toNat_of_nonneg h0]

theorem runesBytes_cons (z:Int) (zs:List Int):runesBytes (z::zs)=Utf8.encode z++runesBytes zs:=by
  have:=runesBytes_both [z] zs
  rw [List.singleton_append] at this
  rw [this,show runesBytes [z]=Utf8.encode z by unfold runesBytes;simp]
theorem badB_both (s t:ByteArray) (hb:bdB (s++t) s.size=true) (h1:∀ i ∈ zav s,zfc s i=false) (h2:∀ i ∈ zav t,zfc t i=false):∀ i ∈ zav (s++t),zfc (s++t) i=false:=by
  obtain ⟨e,hd⟩:=starts_both s t hb
  rw [e]
  intro i hi
  rcases List.mem_append.1 hi with hi | hi
  · rw [← h1 i hi]
    unfold zfc
    simp only [rn,wd,hd i hi]
  · obtain ⟨j,hj,rfl⟩:=List.mem_map.1 hi
    rw [← h2 j hj]
    unfold zfc
    simp only [rn,wd,decode_behind]
/-- Runes that are written are read back; nothing in what is written is bad. -/
theorem runes_back:∀ zs:List Int,(∀ z ∈ zs,zaw z≠0)→zah (runesBytes zs)=zs∧∀ i ∈ zav (runesBytes zs),zfc (runesBytes zs) i=false
  | [],_ =>by
    have e:zav (runesBytes [])=[]:=by decide
    exact ⟨by unfold zah;rw [e];rfl,by rw [e];intro i hi;cases hi⟩
  | z::zs,h =>by
    obtain ⟨h1,h2⟩:=runes_back zs (fun y hy =>h y (by simp [hy]))
    obtain ⟨e1,e2,e3⟩:=starts_enc (h z (by simp))
    have hv:∀ i ∈ zav (Utf8.encode z),zfc (Utf8.encode z) i=false:=by rw [e1];intro i hi;simp at hi;rw [hi];exact e2
    have hj:=joins_valid_left (Utf8.encode z) (runesBytes zs) hv
    rw [joins_bd] at hj
    rw [runesBytes_cons]
    exact ⟨by rw [runesL_both _ _ hj,h1,e3];rfl,badB_both _ _ hj hv h2⟩

/-- How the bytes of a sequence hang together with its rune. -/
theorem decodeN_bytes (n b0 b1 b2 b3:Nat) (h0:b0 < 256) (h1:b1 < 256) (h2:b2 < 256) (h3:b3 < 256) (hg:¬ ((decodeN n b0 b1 b2 b3).1=65533∧(decodeN n b0 b1 b2 b3).2=1)) :
    ((decodeN n b0 b1 b2 b3).2=1∧(decodeN n b0 b1 b2 b3).1=b0∧b0 < 128) ∨
    ((decodeN n b0 b1 b2 b3).2=2∧b0=192+(decodeN n b0 b1 b2 b3).1 / 64∧b1=128+(decodeN n b0 b1 b2 b3).1 % 64) ∨
    ((decodeN n b0 b1 b2 b3).2=3∧b0=224+(decodeN n b0 b1 b2 b3).1 / 4096∧b1=128+(decodeN n b0 b1 b2 b3).1 / 64 % 64∧b2=128+(decodeN n b0 b1 b2 b3).1 % 64) ∨
    ((decodeN n b0 b1 b2 b3).2=4∧b0=240+(decodeN n b0 b1 b2 b3).1 / 262144∧b1=128+(decodeN n b0 b1 b2 b3).1 / 4096 % 64∧b2=128+(decodeN n b0 b1 b2 b3).1 / 64 % 64∧b3=128+(decodeN n b0 b1 b2 b3).1 % 64):=by
  by_cases c0:b0 < 128
  · have e:decodeN n b0 b1 b2 b3=(b0,1):=by unfold decodeN;rw [if_pos c0]
    rw [e];exact .inl ⟨rfl,rfl,c0⟩
  by_cases c2:b0 / 32=6∧(1 < n∧b1 / 64=2)
  · by_cases hc:b0 % 32*64+b1 % 64 ≥ 128
    · have e:decodeN n b0 b1 b2 b3=(b0 % 32*64+b1 % 64,2):=by unfold decodeN;rw [if_neg c0,if_pos c2,if_pos hc]
      rw [e];refine .inr (.inl ⟨rfl, ?_, ?_⟩) <;> simp only <;> omega
    · have e:decodeN n b0 b1 b2 b3=(65533,1):=by unfold decodeN;rw [if_neg c0,if_pos c2,if_neg hc]
      rw [e] at hg;exact absurd ⟨rfl,rfl⟩ hg
  by_cases c3:b0 / 16=14∧(1 < n∧b1 / 64=2)∧(2 < n∧b2 / 64=2)
  · by_cases hc:b0 % 16*4096+b1 % 64*64+b2 % 64 ≥ 2048∧(b0 % 16*4096+b1 % 64*64+b2 % 64 < 55296∨(57344≤b0 % 16*4096+b1 % 64*64+b2 % 64∧b0 % 16*4096+b1 % 64*64+b2 % 64≤1114111))
    · have e:decodeN n b0 b1 b2 b3=(b0 % 16*4096+b1 % 64*64+b2 % 64,3):=by unfold decodeN;rw [if_neg c0,if_neg c2,if_pos c3,if_pos hc]
      rw [e];refine .inr (.inr (.inl ⟨rfl, ?_, ?_, ?_⟩)) <;> simp only <;> omega
    · have e:decodeN n b0 b1 b2 b3=(65533,1):=by unfold decodeN;rw [if_neg c0,if_neg c2,if_pos c3,if_neg hc]
      rw [e] at hg;exact absurd ⟨rfl,rfl⟩ hg
  by_cases c4:b0 / 8=30∧(1 < n∧b1 / 64=2)∧(2 < n∧b2 / 64=2)∧(3 < n∧b3 / 64=2)
  · by_cases hc:b0 % 8*262144+b1 % 64*4096+b2 % 64*64+b3 % 64 ≥ 65536∧(b0 % 8*262144+b1 % 64*4096+b2 % 64*64+b3 % 64 < 55296∨(57344≤b0 % 8*262144+b1 % 64*4096+b2 % 64*64+b3 % 64∧b0 % 8*262144+b1 % 64*4096+b2 % 64*64+b3 % 64≤1114111))
    · have e:decodeN n b0 b1 b2 b3=(b0 % 8*262144+b1 % 64*4096+b2 % 64*64+b3 % 64,4):=by unfold decodeN;rw [if_neg c0,if_neg c2,if_neg c3,if_pos c4,if_pos hc]
      rw [e];refine .inr (.inr (.inr ⟨rfl, ?_, ?_, ?_, ?_⟩)) <;> simp only <;> omega
    · have e:decodeN n b0 b1 b2 b3=(65533,1):=by unfold decodeN;rw [if_neg c0,if_neg c2,if_neg c3,if_pos c4,if_neg hc]
      rw [e] at hg;exact absurd ⟨rfl,rfl⟩ hg
  · have e:decodeN n b0 b1 b2 b3=(65533,1):=by unfold decodeN;rw [if_neg c0,if_neg c2,if_neg c3,if_neg c4]
    rw [e] at hg;exact absurd ⟨rfl,rfl⟩ hg

theorem ext_get (u v:ByteArray) (hs:u.size=v.size) (h:∀ j,j < u.size→bt u j=bt v j):u=v:=by
  apply ByteArray.ext
  apply Array.ext
  · exact hs
  · intro j h1 h2
    have:=h j h1
    unfold bt at this
    rw [zgr u j h1,zgr v j h2] at this
    exact UInt8.toNat_inj.1 this
/-- A good spot's bytes are what its rune is written as. -/
theorem enc_dec (s:ByteArray) (i:Nat) (hi:i < s.size) (hg:zfc s i=false):Utf8.encode ((rn s i:Nat):Int)=s.extract i (i+wd s i):=by
  have hg':¬ (rn s i=65533∧wd s i=1):=of_decide_eq_false hg
  have hr:=zeB s i hi
  have hw:=zkQ s i
  have hwn:=zgb s i hg'
  have key:=decodeN_bytes (s.size - i) (bt s i) (bt s (i+1)) (bt s (i+2)) (bt s (i+3)) (zf9 _ _) (zf9 _ _) (zf9 _ _) (zf9 _ _)
  have e:decodeN (s.size - i) (bt s i) (bt s (i+1)) (bt s (i+2)) (bt s (i+3))=Utf8.decode s i:=(decode_at s i).symm
  rw [e] at key
  have key:=key hg'
  change (wd s i=1∧rn s i=bt s i∧_)∨(wd s i=2∧bt s i=192+rn s i / 64∧bt s (i+1)=128+rn s i % 64)∨(wd s i=3∧bt s i=224+rn s i / 4096∧bt s (i+1)=128+rn s i / 64 % 64∧bt s (i+2)=128+rn s i % 64)∨(wd s i=4∧bt s i=240+rn s i / 262144∧bt s (i+1)=128+rn s i / 4096 % 64∧bt s (i+2)=128+rn s i / 64 % 64∧bt s (i+3)=128+rn s i % 64) at key
  have hx:∀ j,j < wd s i→bt (s.extract i (i+wd s i)) j=bt s (i+j):=fun j hj =>by unfold bt;rw [ziD _ _ _ _ (by omega) hr]
  have hsz:(s.extract i (i+wd s i)).size=wd s i:=by rw [ByteArray.size_extract];omega
  have b0:=zf9 s i
  have b1:=zf9 s (i+1)
  have b2:=zf9 s (i+2)
  have b3:=zf9 s (i+3)
  generalize rn s i=r at *
  rcases key with ⟨k1,k2,k3⟩ | ⟨k1,k2,k3⟩ | ⟨k1,k2,k3,k4⟩ | ⟨k1,k2,k3,k4,k5⟩
  · rw [enc1 hw (by omega)]
    refine ext_get _ _ (by rw [hsz,k1];rfl) (fun j hj =>?_)
    obtain rfl:j=0:=by have:j < 1:=hj;omega
    rw [hx 0 (by omega),Nat.add_zero]
    show (UInt8.ofNat ((r:Int).toNat)).toNat=_
    rw [u8n _ (by omega)];omega
  · have hlo:128≤(r:Int)∧(r:Int) < 2048:=by
      rw [k1] at hwn
      unfold zaw at hwn
      repeat' split at hwn
      all_goals omega
    rw [enc2 hw hlo.1 hlo.2]
    refine ext_get _ _ (by rw [hsz,k1];rfl) (fun j hj =>?_)
    have:j < 2:=hj
    have:j=0∨j=1:=by omega
    rcases this with rfl | rfl
    · rw [hx 0 (by omega),Nat.add_zero]
      show (UInt8.ofNat (0xC0+(r:Int).toNat / 64)).toNat=_
      rw [u8n _ (by omega)];omega
    · rw [hx 1 (by omega)]
      show (UInt8.ofNat (0x80+(r:Int).toNat % 64)).toNat=_
      rw [u8n _ (by omega)];omega
  · have hlo:2048≤(r:Int)∧(r:Int) < 65536:=by
      rw [k1] at hwn
      unfold zaw at hwn
      repeat' split at hwn
      all_goals omega
    rw [enc3 hw hlo.1 hlo.2]
    refine ext_get _ _ (by rw [hsz,k1];rfl) (fun j hj =>?_)
    have:j < 3:=hj
    have:j=0∨j=1∨j=2:=by omega
    rcases this with rfl | rfl | rfl
    · rw [hx 0 (by omega),Nat.add_zero]
      show (UInt8.ofNat (0xE0+(r:Int).toNat / 4096)).toNat=_
      rw [u8n _ (by omega)];omega
    · rw [hx 1 (by omega)]
      show (UInt8.ofNat (0x80+(r:Int).toNat / 64 % 64)).toNat=_
      rw [u8n _ (by omega)];omega
    · rw [hx 2 (by omega)]
      show (UInt8.ofNat (0x80+(r:Int).toNat % 64)).toNat=_
      rw [u8n _ (by omega)];omega
  · have hlo:65536≤(r:Int):=by
      rw [k1] at hwn
      unfold zaw at hwn
      repeat' split at hwn
      all_goals omega
    rw [enc4 hw hlo]
    refine ext_get _ _ (by rw [hsz,k1];rfl) (fun j hj =>?_)
    have:j < 4:=hj
    have:j=0∨j=1∨j=2∨j=3:=by omega
    rcases this with rfl | rfl | rfl | rfl
    · rw [hx 0 (by omega),Nat.add_zero]
      show (UInt8.ofNat (0xF0+(r:Int).toNat / 262144)).toNat=_
      rw [u8n _ (by omega)];omega
    · rw [hx 1 (by omega)]
      show (UInt8.ofNat (0x80+(r:Int).toNat / 4096 % 64)).toNat=_
      rw [u8n _ (by omega)];omega
    · rw [hx 2 (by omega)]
      show (UInt8.ofNat (0x80+(r:Int).toNat / 64 % 64)).toNat=_
      rw [u8n _ (by omega)];omega
    · rw [hx 3 (by omega)]
      show (UInt8.ofNat (0x80+(r:Int).toNat % 64)).toNat=_
      rw [u8n _ (by omega)];omega

theorem clean_from (s:ByteArray):∀ f i,s.size≤i+f→i≤s.size→(∀ p ∈ zal s f i,zfc s p=false)→runesBytes ((zal s f i).map (fun p =>((rn s p:Nat):Int)))=s.extract i s.size
  | 0,i,hf,hi,h =>by
    rw [show i=s.size by omega]
    simp only [zal,List.map_nil]
    rw [show s.extract s.size s.size=ByteArray.empty from by apply ByteArray.ext;simp]
    rfl
  | f+1,i,hf,hi,h =>by
    by_cases hlt:i < s.size
    · have hw:=zcW s i
      have hr:=zeB s i hlt
      rw [zaF s f i hlt] at h ⊢
      rw [List.map_cons,runesBytes_cons,enc_dec s i hlt (h i (by simp)),clean_from s f (i+wd s i) (by omega) hr (fun p hp =>h p (by simp [hp]))]
      rw [ByteArray.extract_append_extract]
      congr 1 <;> omega
    · rw [zaZ s _ _ hlt,show i=s.size by omega,show s.extract s.size s.size=ByteArray.empty from by apply ByteArray.ext;simp]
      rfl
/-- A text without bad spots is its own clean text. -/
theorem clean_valid (s:ByteArray) (h:∀ i ∈ zav s,zfc s i=false):cleanV s=s:=by
  have:=clean_from s s.size 0 (by omega) (by omega) h
  unfold cleanV zah zav
  rw [this]
  exact ByteArray.extract_zero_size
end Go.Proofs.YtoaiicbicdhkkaaGreat
