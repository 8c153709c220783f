/- Bound, Cut and Joins, told for every text and every number. -/
import Derived.Test.YtmemedpoaocdkaaGreatM1
import Derived.Deep.QuietTactic
import Derived.BigQuiet
import Derived.WalkSmall
namespace Go.Proofs.YtmemedpoaocdkaaGreat
open Go.RowKit Go.Shelf
set_option linter.unusedVariables false

theorem zjx (s:ByteArray) (hs:s.size≤maxLen) (w:World):Calls Tryz.prog 34 #[.string s] w fun e W' =>e=.returned (zh8 s)∧Below w.heap.size w W' :=
 callsIn_wide.1 (zpD 3 (Nat.le_refl _) s hs w)

/-- What First answers of the text from i on. -/
theorem znD (s:ByteArray) (i:Nat) (h:i < s.size):zh8 (s.extract i s.size)=.tuple #[.agg #[.int .i32 (rn s i),.int .i64 (wd s i),.bool (decide (rn s i=65533∧wd s i=1))],.bool true]:=by
 rw [zgk (by rw [ByteArray.size_extract];omega)]
 simp only [zbn,zb1,rn,wd,zeu s i 0 (Nat.le_of_lt h),Nat.add_zero]

set_option maxHeartbeats 1000000 in
theorem zrN (s:ByteArray) (hs:s.size≤maxLen) (a:Int) (ha:a < 0∨(s.size:Int) < a) (w:World) :
  Calls Tryz.prog 46 #[.string s,.int .i64 a] w fun e w' =>e=.returned (.bool false)∧w'=w:=by
 unfold maxLen at hs
 rcases ha with ha | ha
 ·go_enter Tryz.func46,Tryz.ntmps46
  go_wp2
  go_ret
  exact ⟨rfl,rfl⟩
 ·have h0:¬ a < 0:=by omega
  go_enter Tryz.func46,Tryz.ntmps46
  go_wp2
  go_ret
  exact ⟨rfl,rfl⟩

set_option maxHeartbeats 1000000 in
theorem zfY (s:ByteArray) (hs:s.size≤maxLen) (p:Nat) (hp:p≤s.size) (w:World) :
  Calls Tryz.prog 46 #[.string s,.int .i64 p] w fun e w' =>e=.returned (.bool (bdB s p))∧Below w.heap.size w w':=by
 unfold maxLen at hs
 have h0:¬ (p:Int) < 0:=by omega
 have h1:¬ (s.size:Int) < (p:Int):=by omega
 go_enter Tryz.func46,Tryz.ntmps46
 go_wp2
 go_loopw [5] (fun i wr => ∃ k:Nat,1≤k∧k≤4∧i=.int .i64 k∧Hz (∀ m,m < k→1≤m→m≤p→wd s (p - m)≤m)∧Below w.heap.size w wr) (fun i _ =>4 - (intOf i).toNat)
 case atStart =>exact ⟨1,by omega,by omega,rfl,kz (fun m h1 h2 =>by omega),Below.refl _ _⟩
 case round =>
  obtain ⟨k,hk1,hk4,rfl,H,hB⟩:=hrel
  by_cases h4:k < 4
  ·by_cases hkp:k≤p
   ·have hfv:=znD s (p - k) (by omega)
    generalize decide (rn s (p - k)=65533∧wd s (p - k)=1)=b at hfv
    generalize rn s (p - k)=r at hfv
    obtain ⟨d,hd⟩:∃ d,wd s (p - k)=d:=⟨_,rfl⟩
    rw [hd] at hfv
    have HF:=kz hfv
    have HD:=kz hd
    clear hfv hd
    go_wp2_with fail
    refine (zjx _ (by rw [ByteArray.size_extract];unfold maxLen;omega) _).mono ?_
    rintro e w1 ⟨rfl,hb1⟩
    rw [HF.out]
    have hB1:Below w.heap.size w w1:=hB.trans (hb1.mono hB.size)
    clear hb1
    by_cases hdk:(k:Int) < d
    ·go_wp2
     go_ret
     refine ⟨?_,hB1.alloc hB1.size _⟩
     have:bdB s p=false:=by
      rw [← Bool.not_eq_true,zfl]
      intro h
      have:=h k h4 hk1 hkp
      rw [HD.out] at this
      omega
     rw [this]
     rfl
    ·go_wp2
     go_roundw
     case rel =>
      refine ⟨k+1,by omega,by omega,by go_num,kz (fun m h1 h2 h3 =>?_),hB1.alloc hB1.size _⟩
      by_cases e:m=k
      ·subst e;rw [HD.out];omega
      ·exact H.out m (by omega) h2 h3
     case measure =>simp [intOf];omega
   ·go_wp2
    go_ret
    refine ⟨?_,hB⟩
    rw [(zfl s p).2 (fun m h1 h2 h3 =>H.out m (by omega) h2 h3)]
    rfl
  ·go_wp2
   go_ret
   refine ⟨?_,hB⟩
   rw [(zfl s p).2 (fun m h1 h2 h3 =>H.out m (by omega) h2 h3)]
   rfl

/-- The greatest bound that is not above p. -/
def ze0 (s:ByteArray):Nat→Nat
 | 0 =>0
 | p+1 =>if bdB s (p+1) then p+1 else ze0 s p
theorem zgX (s:ByteArray):∀ p,ze0 s p≤p
 | 0 =>Nat.le_refl _
 | p+1 =>by unfold ze0;split;exact Nat.le_refl _;exact Nat.le_succ_of_le (zgX s p)
theorem ziV (s:ByteArray):∀ p,bdB s (ze0 s p)=true
 | 0 =>zhG s
 | p+1 =>by
  unfold ze0
  split
  ·assumption
  ·exact ziV s p
theorem zjF (s:ByteArray):∀ p q,q≤p→bdB s q=true→q≤ze0 s p
 | 0,q,h,_ =>h
 | p+1,q,h,hq =>by
  unfold ze0
  split
  ·exact h
  ·rename_i hn
   exact zjF s p q (by
    rcases Nat.lt_or_ge q (p+1) with hl | hl
    ·omega
    ·have:q=p+1:=by omega
     subst this;exact absurd hq hn) hq
theorem zlV (s:ByteArray) (p:Nat) (h:bdB s p=true):ze0 s p=p:=Nat.le_antisymm (zgX s p) (zjF s p p (Nat.le_refl _) h)
theorem zlW (s:ByteArray) (p:Nat) (h:bdB s p=false):1≤p∧ze0 s p=ze0 s (p - 1):=by
 cases p with
 | zero =>rw [zhG] at h;cases h
 | succ p =>refine ⟨by omega, ?_⟩;rw [ze0,if_neg (by simp [h])];rfl
/-- The number, brought within the text. -/
def zfk (s:ByteArray) (a:Int):Nat:=min a.toNat s.size

set_option maxHeartbeats 2000000 in
theorem znQ (s:ByteArray) (hs:s.size≤maxLen) (a:Int) (w:World) :
  Calls Tryz.prog 26 #[.string s,.int .i64 a] w fun e w' =>e=.returned (.tuple #[.string (s.extract 0 (ze0 s (zfk s a))),.string (s.extract (ze0 s (zfk s a)) s.size)])∧Below w.heap.size w w':=by
 have hs':=hs
 unfold maxLen at hs
 obtain ⟨c,hc,hcs⟩:∃ c,zfk s a=c∧c≤s.size:=⟨_,rfl,Nat.min_le_right _ _⟩
 have hc3:(a < 0∧c=0)∨(0≤a∧a≤s.size∧a=c)∨((s.size:Int) < a∧c=s.size):=by unfold zfk at hc;omega
 rw [hc]
 have HS:=kz hs'
 clear hc hs'
 rcases hc3 with ⟨h0,rfl⟩ | ⟨h0,h1,rfl⟩ | ⟨h0,rfl⟩
 all_goals
  go_enter Tryz.func26,Tryz.ntmps26
  go_wp2
  go_loopw [1] (fun i wr => ∃ k:Nat,k≤s.size∧i=.int .i64 k∧Hz (ze0 s k=ze0 s _)∧Below w.heap.size w wr) (fun i _ =>(intOf i).toNat)
  case atStart =>exact ⟨_,hcs,rfl,kz rfl,Below.refl _ _⟩
  case round =>
   obtain ⟨k,hk,rfl,H,hB⟩:=hrel
   go_wp2_with fail
   refine (zfY s (oz HS) k hk _).mono ?_
   rintro e w1 ⟨rfl,hb1⟩
   have hB1:Below w.heap.size w w1:=hB.trans (hb1.mono hB.size)
   clear hb1 hB
   cases hb:bdB s k with
   | true =>
    have he:=(zlV s k hb).symm.trans (oz H)
    have HE:=kz he
    clear hb H he
    have hk0:(0:Int)≤k:=by omega
    have hk1:(k:Int)≤s.size:=by omega
    go_wp2
    go_quiet (fail)
    go_wp2
    go_ret2
    exact ⟨by rw [← oz HE];rfl,below_drewN hB1 _⟩
   | false =>
    obtain ⟨hk1,he⟩:=zlW s k hb
    have HE:=kz (he.symm.trans (oz H))
    clear hb H he
    go_wp2
    go_roundw
    case rel =>exact ⟨k - 1,by omega,by go_num,HE,hB1⟩
    case measure =>simp [intOf];omega

def zeQ (s t:ByteArray):Bool:=bdB (s.extract (s.size - 3) s.size++t.extract 0 (min t.size 3)) (min s.size 3)

theorem zfP (s t u v:ByteArray) (p:Nat) (hu:s.extract (s.size - 3) s.size=u) (hv:t.extract 0 (min t.size 3)=v) (hp:min s.size 3=p):bdB (u++v) p=zeQ s t:=by
 unfold zeQ;rw [hu,hv,hp]
theorem zhr (s:ByteArray) (i:Nat) (h:i=0):s.extract i s.size=s:=by subst h;exact ByteArray.extract_zero_size
theorem zgw (s:ByteArray) (i:Nat) (h:i=s.size):s.extract 0 i=s:=by subst h;exact ByteArray.extract_zero_size

set_option maxRecDepth 100000 in
set_option maxHeartbeats 4000000 in
theorem zfO (s t:ByteArray) (hs:s.size≤maxLen) (ht:t.size≤maxLen) (w:World) :
  Calls Tryz.prog 24 #[.string s,.string t] w fun e w' =>e=.returned (.bool (zeQ s t))∧Below w.heap.size w w':=by
 unfold maxLen at hs ht
 by_cases h:s.size < 3
 ·have h':(s.size:Int) - 4+1 < 0:=by omega
  have hmx:max ((s.size:Int) - 4+1) 0=0:=by omega
  by_cases k:t.size≤3
  ·have k':(t.size:Int)≤3:=by omega
   have hmn:min (t.size:Int) 3=(t.size:Int):=by omega
   go_enter Tryz.func24,Tryz.ntmps24
   go_wp2_with fail
   refine (zfY (s++t) (by rw [ByteArray.size_append];unfold maxLen;omega) s.size (by rw [ByteArray.size_append];omega) _).mono ?_
   rintro e w1 ⟨rfl,hb1⟩
   rw [zfP s t s t s.size (zhr s _ (by omega)) (zgw t _ (by omega)) (by omega)]
   go_wp2
   go_ret
   exact ⟨rfl,hb1⟩
  ·have k':(3:Int) < t.size:=by omega
   have hmn:min (t.size:Int) 3=3:=by omega
   go_enter Tryz.func24,Tryz.ntmps24
   go_wp2_with fail
   refine (zfY (s++t.extract 0 3) (by rw [ByteArray.size_append,ByteArray.size_extract];unfold maxLen;omega) s.size (by rw [ByteArray.size_append];omega) _).mono ?_
   rintro e w1 ⟨rfl,hb1⟩
   rw [zfP s t s (t.extract 0 3) s.size (zhr s _ (by omega)) (by rw [show min t.size 3=3 by omega]) (by omega)]
   go_wp2
   go_ret
   exact ⟨rfl,hb1⟩
 ·have h':0≤(s.size:Int) - 4+1:=by omega
  have hmx:max ((s.size:Int) - 4+1) 0=(s.size:Int) - 4+1:=by omega
  have e3:((s.size:Int) - 4+1).toNat=s.size - 3:=by omega
  by_cases k:t.size≤3
  ·have k':(t.size:Int)≤3:=by omega
   have hmn:min (t.size:Int) 3=(t.size:Int):=by omega
   go_enter Tryz.func24,Tryz.ntmps24
   go_wp2_with fail
   rw [show s.size - (s.size - 3)=3 by omega]
   refine (zfY (s.extract (s.size - 3) s.size++t) (by rw [ByteArray.size_append,ByteArray.size_extract];unfold maxLen;omega) 3 (by rw [ByteArray.size_append,ByteArray.size_extract];omega) _).mono ?_
   rintro e w1 ⟨rfl,hb1⟩
   rw [zfP s t _ t 3 rfl (zgw t _ (by omega)) (by omega)]
   go_wp2
   go_ret
   exact ⟨rfl,hb1⟩
  ·have k':(3:Int) < t.size:=by omega
   have hmn:min (t.size:Int) 3=3:=by omega
   go_enter Tryz.func24,Tryz.ntmps24
   go_wp2_with fail
   rw [show s.size - (s.size - 3)=3 by omega]
   refine (zfY (s.extract (s.size - 3) s.size++t.extract 0 3) (by rw [ByteArray.size_append,ByteArray.size_extract,ByteArray.size_extract];unfold maxLen;omega) 3 (by rw [ByteArray.size_append,ByteArray.size_extract];omega) _).mono ?_
   rintro e w1 ⟨rfl,hb1⟩
   rw [zfP s t _ (t.extract 0 3) 3 rfl (by rw [show min t.size 3=3 by omega]) (by omega)]
   go_wp2
   go_ret
   exact ⟨rfl,hb1⟩
end Go.Proofs.YtmemedpoaocdkaaGreat
