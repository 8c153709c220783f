/- Texts of this claim, one behind the other. -/
import Derived.Test.YtmdgejgokoadlaaGreatDoorM29
import Derived.Test.YtmdgejgokoadlaaGreatDoorM10
import Derived.Test.YtmdgejgokoadlaaGreatDoorM7
import Derived.Test.YtmdgejgokoadlaaGreatDoorM22
import Derived.Test.YtmdgejgokoadlaaGreatDoorM27
import Derived.Test.YtmdgejgokoadlaaGreatDoorM15
import Derived.Test.YtmdgejgokoadlaaGreatDoorM17
import Derived.Lib.TrimUEq
import Derived.KernelRfl
/- Texts behind one another, and words with other blanks between them: plain mathematics. -/
namespace Go.Proofs.YtmdgejgokoadlaaGreatDoor
open Go.RowKit Go.Shelf
set_option linter.unusedVariables false
def mkW (s:ByteArray) (q:Nat):Wd:=⟨wordV (rst s q),q,(lcAt s q).1,(lcAt s q).2,q+(wordV (rst s q)).n⟩
def cutP (s:ByteArray):Nat→Nat→Option (List Nat)
  | 0,_ =>none
  | f + 1, b => if (gapA s b).2 = false then none else if (gapA s b).1 = s.size then some [] else if (wordV (rst s (gapA s b).1)).ok = false then none
    else (cutP s f ((gapA s b).1+(wordV (rst s (gapA s b).1)).n)).map ((gapA s b).1 :: ·)
theorem cutP_bad {s:ByteArray} {f b:Nat} (h:(gapA s b).2=false):cutP s (f+1) b=none:=by rw [cutP,if_pos h]
theorem cutP_end {s:ByteArray} {f b:Nat} (h:(gapA s b).2=true) (he:(gapA s b).1=s.size):cutP s (f+1) b=some []:=by rw [cutP,if_neg (by rw [h];decide),if_pos he]
theorem cutP_no {s:ByteArray} {f b:Nat} (h:(gapA s b).2=true) (he:(gapA s b).1≠s.size) (ho:(wordV (rst s (gapA s b).1)).ok=false):cutP s (f+1) b=none:=by rw [cutP,if_neg (by rw [h];decide),if_neg he,if_pos ho]
theorem cutP_go {s:ByteArray} {f b:Nat} (h:(gapA s b).2=true) (he:(gapA s b).1≠s.size) (ho:(wordV (rst s (gapA s b).1)).ok=true):cutP s (f+1) b=(cutP s f ((gapA s b).1+(wordV (rst s (gapA s b).1)).n)).map ((gapA s b).1 :: ·):=by rw [cutP,if_neg (by rw [h];decide),if_neg he,if_neg (by rw [ho];decide)]
theorem gapA_le (s:ByteArray) (b:Nat) (h:b≤s.size):b≤(gapA s b).1∧(gapA s b).1≤s.size:=gB_le s b h
theorem word_at (s:ByteArray) (q:Nat) (hq:q < s.size) (ho:(wordV (rst s q)).ok=true):1≤(wordV (rst s q)).n∧q+(wordV (rst s q)).n≤s.size∧bdB s q=true∧bdB s (q+(wordV (rst s q)).n)=true∧blankB (bt s q)=false∧bt s q≠35:=by
  have hp:0 < (rst s q).size:=by rw [rst_size];omega
  have hle:=wordV_le (rst s q) hp
  rw [rst_size] at hle
  have hn:=hle.2 ho
  have e0:bt (rst s q) 0=bt s q:=rst_at s q 0 (by omega)
  have hf:=word_first _ ho
  rw [e0] at hf
  have hl:=word_last _ hp ho
  rw [rst_at s q _ (by omega)] at hl
  have hnx:bdB s (q+(wordV (rst s q)).n)=true:=by
    have:=bd_next s (q+((wordV (rst s q)).n - 1)) (by omega) hl
    rwa [show q+((wordV (rst s q)).n - 1)+1=q+(wordV (rst s q)).n by omega] at this
  have hbl:¬ (blankB (bt s q)=true∨bt s q=35):=by
    intro h
    have hc:bt (rst s q) 0=9∨bt (rst s q) 0=10∨bt (rst s q) 0=13∨bt (rst s q) 0=32∨bt (rst s q) 0=35:=by
      rw [e0]
      unfold blankB at h
      simp at h
      omega
    have:(wordV (rst s q)).ok=false:=by
      unfold wordV sgnV
      rcases hc with h | h | h | h | h <;> (rw [h];rfl)
    rw [this] at ho
    cases ho
  refine ⟨hn,by omega,bd_ascii s q hf,hnx, ?_,fun h =>hbl (.inr h)⟩
  cases hb:blankB (bt s q)
  · rfl
  · exact absurd (.inl hb) hbl
theorem cut_P (s:ByteArray):∀ f b ws,b≤s.size→bdB s b=true→(∀ ps,cutP s f b=some ps→(cutGo s f b (lcAt s b) ws).ok=true∧(cutGo s f b (lcAt s b) ws).ws=ws++ps.map (mkW s))∧(cutP s f b=none→(cutGo s f b (lcAt s b) ws).ok=false)
  | 0,b,ws,hb,hd =>⟨fun ps h =>by (cases h),fun _ =>rfl⟩
  | f+1,b,ws,hb,hd =>by
    have hg:=gapA_le s b hb
    have hgl:gLC s b (lcAt s b)=lcAt s (gB s b):=by
      unfold gLC
      rw [lcB_at s b _ (by have:=hg.2;exact this) hd]
      rfl
    cases h1:(gapA s b).2
    · have h1':(gapV (rst s b)).2=false:=h1
      rw [cutP_bad h1]
      unfold cutGo
      rw [if_pos h1']
      exact ⟨fun ps h =>by (cases h),fun _ =>rfl⟩
    · have h1':¬ (gapV (rst s b)).2=false:=by rw [show (gapV (rst s b)).2=true from h1];decide
      by_cases he:(gapA s b).1=s.size
      · rw [cutP_end h1 he]
        have he':(rst s (gB s b)).size=0:=by rw [rst_size];have:gB s b=s.size:=he;omega
        unfold cutGo
        rw [if_neg h1',if_pos he']
        exact ⟨fun ps h =>by cases h;exact ⟨rfl,by simp⟩,fun h =>by cases h⟩
      · have hq:gB s b < s.size:=by have h9:gB s b≠s.size:=he;have h8:gB s b≤s.size:=hg.2;omega
        have he':¬ (rst s (gB s b)).size=0:=by rw [rst_size];omega
        cases h2:(wordV (rst s (gapA s b).1)).ok
        · have h2':(wordV (rst s (gB s b))).ok=false:=h2
          rw [cutP_no h1 he h2]
          unfold cutGo
          rw [if_neg h1',if_neg he',if_pos h2']
          exact ⟨fun ps h =>by (cases h),fun _ =>rfl⟩
        · have h2':(wordV (rst s (gB s b))).ok=true:=h2
          obtain ⟨hn,hle,hbq,hbn,_,_⟩:=word_at s (gB s b) hq h2'
          have ih:=cut_P s f (gB s b+(wordV (rst s (gB s b))).n) (ws++[mkW s (gB s b)]) hle hbn
          have e:cutGo s (f+1) b (lcAt s b) ws=cutGo s f (gB s b+(wordV (rst s (gB s b))).n) (lcAt s (gB s b+(wordV (rst s (gB s b))).n)) (ws++[mkW s (gB s b)]):=by
            conv =>lhs;unfold cutGo
            rw [if_neg h1',if_neg he',if_neg (by rw [h2'];decide),hgl,lcB_at s _ _ hle hbq]
            rfl
          rw [e,cutP_go h1 he h2]
          refine ⟨fun ps h =>?_,fun h =>?_⟩
          · obtain ⟨qs,h3,rfl⟩:=Option.map_eq_some_iff.1 h
            obtain ⟨i1,i2⟩:=ih.1 qs h3
            refine ⟨i1, ?_⟩
            rw [i2,List.append_assoc]
            rfl
          · exact ih.2 (Option.map_eq_none_iff.1 h)
def posV (s:ByteArray):Option (List Nat):=cutP s (s.size+1) 0
theorem words_pos {s:ByteArray} {ps:List Nat} (h:posV s=some ps):(wordsV s).ok=true∧(wordsV s).ws=ps.map (mkW s):=by
  have:=(cut_P s (s.size+1) 0 [] (Nat.zero_le _) (bd_zero s)).1 ps h
  rw [lcAt_zero] at this
  simpa [wordsV] using this
theorem words_none {s:ByteArray} (h:posV s=none):(wordsV s).ok=false:=by
  have:=(cut_P s (s.size+1) 0 [] (Nat.zero_le _) (bd_zero s)).2 h
  rw [lcAt_zero] at this
  exact this
theorem cutP_mem (s:ByteArray):∀ f b ps,b≤s.size→cutP s f b=some ps→∀ p ∈ ps,p < s.size∧(wordV (rst s p)).ok=true
  | 0,b,ps,hb,h =>by cases h
  | f+1,b,ps,hb,h =>by
    have hq:=gapA_le s b hb
    cases h1:(gapA s b).2
    · rw [cutP_bad h1] at h;cases h
    · by_cases he:(gapA s b).1=s.size
      · rw [cutP_end h1 he] at h;cases h;intro p hp;cases hp
      · cases h2:(wordV (rst s (gapA s b).1)).ok
        · rw [cutP_no h1 he h2] at h;cases h
        · have hw:=word_at s (gapA s b).1 (by omega) h2
          rw [cutP_go h1 he h2] at h
          obtain ⟨qs,h3,rfl⟩:=Option.map_eq_some_iff.1 h
          intro p hp
          rcases List.mem_cons.1 hp with rfl | hp
          · exact ⟨by omega,h2⟩
          · exact cutP_mem s f _ qs hw.2.1 h3 p hp
def upD (d:Nat):UInt8:=if d < 10 then (48+d).toUInt8 else (55+d).toUInt8
theorem upD_of:∀ d,d < 16→Lib.toUpperA [digC d]=[upD d]:=by decide +kernel
theorem hexI_upD:∀ d,d < 16→hexI (upD d).toNat=d:=by decide +kernel
theorem upD_zero:upD 0=48:=by decide
theorem upD_ne:∀ d,d < 16→d≠0→(upD d).toNat≠48:=by decide +kernel
theorem toUpperA_app (a b:List UInt8):Lib.toUpperA (a++b)=Lib.toUpperA a++Lib.toUpperA b:=by simp [Lib.toUpperA]
theorem upL_small {n:Nat} (h:n < 16):Lib.toUpperA (hexL n)=[upD n]:=by rw [hexL_small h,upD_of n h]
theorem upL_step {n:Nat} (h:16≤n):Lib.toUpperA (hexL n)=Lib.toUpperA (hexL (n / 16))++[upD (n % 16)]:=by rw [hexL_step h,toUpperA_app,upD_of _ (Nat.mod_lt _ (by decide))]
theorem hex4 (n:Nat) (h:n < 65536):(⟨#[85,43]⟩:ByteArray)++⟨(Lib.repeatL [48] (4 - (upS n).size)).toArray⟩++upS n=⟨#[85,43,upD (n / 4096),upD (n / 256 % 16),upD (n / 16 % 16),upD (n % 16)]⟩:=by
  by_cases h1:n < 16
  · have e:upS n=⟨#[upD n]⟩:=by unfold upS;rw [upL_small h1]
    rw [e,show n / 4096=0 by omega,show n / 256 % 16=0 by omega,show n / 16 % 16=0 by omega,show n % 16=n by omega,upD_zero]
    rfl
  by_cases h2:n < 256
  · have e:upS n=⟨#[upD (n / 16),upD (n % 16)]⟩:=by unfold upS;rw [upL_step (by omega),upL_small (by omega)];rfl
    rw [e,show n / 4096=0 by omega,show n / 256 % 16=0 by omega,show n / 16 % 16=n / 16 by omega,upD_zero]
    rfl
  by_cases h3:n < 4096
  · have e:upS n=⟨#[upD (n / 256),upD (n / 16 % 16),upD (n % 16)]⟩:=by unfold upS;rw [upL_step (by omega),upL_step (by omega),upL_small (by omega),show n / 16 / 16=n / 256 by omega];rfl
    rw [e,show n / 4096=0 by omega,show n / 256 % 16=n / 256 by omega,upD_zero]
    rfl
  · have e:upS n=⟨#[upD (n / 4096),upD (n / 256 % 16),upD (n / 16 % 16),upD (n % 16)]⟩:=by unfold upS;rw [upL_step (by omega),upL_step (by omega),upL_step (by omega),upL_small (by omega),show n / 16 / 16 / 16=n / 4096 by omega,show n / 16 / 16=n / 256 by omega];rfl
    rw [e]
    rfl
theorem hex5 (n:Nat) (h0:65536≤n) (h:n < 1048576):(⟨#[85,43]⟩:ByteArray)++⟨(Lib.repeatL [48] (4 - (upS n).size)).toArray⟩++upS n=⟨#[85,43,upD (n / 65536),upD (n / 4096 % 16),upD (n / 256 % 16),upD (n / 16 % 16),upD (n % 16)]⟩:=by
  have e:upS n=⟨#[upD (n / 65536),upD (n / 4096 % 16),upD (n / 256 % 16),upD (n / 16 % 16),upD (n % 16)]⟩:=by
    unfold upS
    rw [upL_step (by omega),upL_step (by omega),upL_step (by omega),upL_step (by omega),upL_small (by omega),show n / 16 / 16 / 16 / 16=n / 65536 by omega,show n / 16 / 16 / 16=n / 4096 by omega,show n / 16 / 16=n / 256 by omega]
    rfl
  rw [e]
  rfl
theorem hex6 (n:Nat) (h0:1048576≤n) (h:n≤1114111):(⟨#[85,43]⟩:ByteArray)++⟨(Lib.repeatL [48] (4 - (upS n).size)).toArray⟩++upS n=⟨#[85,43,upD (n / 1048576),upD (n / 65536 % 16),upD (n / 4096 % 16),upD (n / 256 % 16),upD (n / 16 % 16),upD (n % 16)]⟩:=by
  have e:upS n=⟨#[upD (n / 1048576),upD (n / 65536 % 16),upD (n / 4096 % 16),upD (n / 256 % 16),upD (n / 16 % 16),upD (n % 16)]⟩:=by
    unfold upS
    rw [upL_step (by omega),upL_step (by omega),upL_step (by omega),upL_step (by omega),upL_step (by omega),upL_small (by omega),show n / 16 / 16 / 16 / 16 / 16=n / 1048576 by omega,show n / 16 / 16 / 16 / 16=n / 65536 by omega,show n / 16 / 16 / 16=n / 4096 by omega,show n / 16 / 16=n / 256 by omega]
    rfl
  rw [e]
  rfl
theorem numdGo_dig {t:ByteArray} {v n d:Nat} (hn:n < t.size) (h6:n < 6∨bt t 2≠48) (hd:d < 16) (hb:bt t n=(upD d).toNat) (hv:v*16+d≤1114111):numdGo t v n=numdGo t (v*16+d) (n+1):=by
  have e:=hexI_upD d hd
  have hx:hexI (bt t n)=d:=by rw [hb];exact e
  have:=numdGo_go (t:=t) (v:=v) (n:=n) ⟨hn,h6,by omega,by omega⟩
  rw [this,hx]
  rfl
theorem numdV_mk {t:ByteArray} {n:Nat} (h1:bt t 1=43) (hs:6≤t.size) (hg:numdGo t 0 2=(n,t.size)) (hw:widthOf (n:Int)≠0):numdV t=(n,t.size,true):=by
  unfold numdV
  rw [if_neg (by omega),hg,if_neg (fun q =>q.elim (fun q =>absurd q (by show ¬ t.size < 6;omega)) (fun q =>hw q))]
theorem numdV_4 (n:Nat) (h:n < 65536) (hw:widthOf (n:Int)≠0):numdV ⟨#[85,43,upD (n / 4096),upD (n / 256 % 16),upD (n / 16 % 16),upD (n % 16)]⟩=(n,6,true):=by
  refine numdV_mk (by rfl) (by show 6≤6;decide) ?_ hw
  rw [numdGo_dig (d:=n / 4096) (by show 2 < 6;decide) (.inl (by decide)) (by omega) rfl (by omega),numdGo_dig (d:=n / 256 % 16) (by show 3 < 6;decide) (.inl (by decide)) (by omega) rfl (by omega),numdGo_dig (d:=n / 16 % 16) (by show 4 < 6;decide) (.inl (by decide)) (by omega) rfl (by omega),numdGo_dig (d:=n % 16) (by show 5 < 6;decide) (.inl (by decide)) (by omega) rfl (by omega),numdGo_stop (by intro q;exact absurd q.1 (by show ¬ 6 < 6;decide))]
  rw [Prod.mk.injEq]
  exact ⟨by omega,rfl⟩
theorem numdV_5 (n:Nat) (h0:65536≤n) (h:n < 1048576) (hw:widthOf (n:Int)≠0):numdV ⟨#[85,43,upD (n / 65536),upD (n / 4096 % 16),upD (n / 256 % 16),upD (n / 16 % 16),upD (n % 16)]⟩=(n,7,true):=by
  refine numdV_mk (by rfl) (by show 6≤7;decide) ?_ hw
  have hz:bt ⟨#[85,43,upD (n / 65536),upD (n / 4096 % 16),upD (n / 256 % 16),upD (n / 16 % 16),upD (n % 16)]⟩ 2≠48:=upD_ne (n / 65536) (by omega) (by omega)
  rw [numdGo_dig (d:=n / 65536) (by show 2 < 7;decide) (.inl (by decide)) (by omega) rfl (by omega),numdGo_dig (d:=n / 4096 % 16) (by show 3 < 7;decide) (.inl (by decide)) (by omega) rfl (by omega),numdGo_dig (d:=n / 256 % 16) (by show 4 < 7;decide) (.inl (by decide)) (by omega) rfl (by omega),numdGo_dig (d:=n / 16 % 16) (by show 5 < 7;decide) (.inl (by decide)) (by omega) rfl (by omega),numdGo_dig (d:=n % 16) (by show 6 < 7;decide) (.inr hz) (by omega) rfl (by omega),numdGo_stop (by intro q;exact absurd q.1 (by show ¬ 7 < 7;decide))]
  rw [Prod.mk.injEq]
  exact ⟨by omega,rfl⟩
theorem numdV_6 (n:Nat) (h0:1048576≤n) (h:n≤1114111) (hw:widthOf (n:Int)≠0):numdV ⟨#[85,43,upD (n / 1048576),upD (n / 65536 % 16),upD (n / 4096 % 16),upD (n / 256 % 16),upD (n / 16 % 16),upD (n % 16)]⟩=(n,8,true):=by
  refine numdV_mk (by rfl) (by show 6≤8;decide) ?_ hw
  have hz:bt ⟨#[85,43,upD (n / 1048576),upD (n / 65536 % 16),upD (n / 4096 % 16),upD (n / 256 % 16),upD (n / 16 % 16),upD (n % 16)]⟩ 2≠48:=upD_ne (n / 1048576) (by omega) (by omega)
  rw [numdGo_dig (d:=n / 1048576) (by show 2 < 8;decide) (.inl (by decide)) (by omega) rfl (by omega),numdGo_dig (d:=n / 65536 % 16) (by show 3 < 8;decide) (.inl (by decide)) (by omega) rfl (by omega),numdGo_dig (d:=n / 4096 % 16) (by show 4 < 8;decide) (.inl (by decide)) (by omega) rfl (by omega),numdGo_dig (d:=n / 256 % 16) (by show 5 < 8;decide) (.inl (by decide)) (by omega) rfl (by omega),numdGo_dig (d:=n / 16 % 16) (by show 6 < 8;decide) (.inr hz) (by omega) rfl (by omega),numdGo_dig (d:=n % 16) (by show 7 < 8;decide) (.inr hz) (by omega) rfl (by omega),numdGo_stop (by intro q;exact absurd q.1 (by show ¬ 8 < 8;decide))]
  rw [Prod.mk.injEq]
  exact ⟨by omega,rfl⟩
structure OneRune (s:ByteArray) (n:Nat):Prop where
  pos:0 < s.size
  small:s.size≤262144
  ok:(wordsV s).ok=true
  ws:(wordsV s).ws=[⟨⟨3,ByteArray.empty,n,0,s.size,true⟩,0,1,1,s.size⟩]
theorem rst_zero (s:ByteArray):rst s 0=s:=ByteArray.extract_zero_size
theorem rst_end (s:ByteArray):rst s s.size=ByteArray.empty:=by
  have:(rst s s.size).size=0:=by rw [rst_size];omega
  exact toList_nil _ this
theorem gapV_none {t:ByteArray} (h:0 < t.size) (hb:blankB (bt t 0)=false) (hr:bt t 0≠35):gapV t=(0,true):=by
  unfold gapV
  obtain ⟨k,hk⟩:∃ k,t.size=k+1:=⟨t.size - 1,by omega⟩
  rw [hk]
  unfold gapGo
  rw [if_pos (by omega),if_neg (by rw [hb];decide),if_neg hr]
theorem lcB_zero (t:ByteArray) (x:Nat × Nat):lcB t x 0=x:=by
  unfold lcB
  have:t.extract 0 0=ByteArray.empty:=toList_nil _ (by rw [ByteArray.size_extract];omega)
  rw [this]
  rfl
theorem words_one {s:ByteArray} {v:WV} (h:0 < s.size) (hb:blankB (bt s 0)=false) (hr:bt s 0≠35) (hv:wordV s=v) (hok:v.ok=true) (hn:v.n=s.size):(wordsV s).ok=true∧(wordsV s).ws=[⟨v,0,1,1,s.size⟩]:=by
  have hg:=gapV_none h hb hr
  obtain ⟨k,hk⟩:∃ k,s.size=k+1:=⟨s.size - 1,by omega⟩
  have e1:gB s 0=0:=by unfold gB;rw [rst_zero,hg];rfl
  have e2:gLC s 0 (1,1)=(1,1):=by unfold gLC;rw [rst_zero,hg,lcB_zero]
  have e3:gapV (rst s s.size)=(0,true):=by rw [rst_end];rfl
  have e4:gB s s.size=s.size:=by unfold gB;rw [e3];rfl
  have hw:wordsV s=cutGo s s.size s.size (lcB s (1,1) s.size) [⟨v,0,1,1,s.size⟩]:=by
    unfold wordsV
    rw [cutGo.eq_2,if_neg (by rw [rst_zero,hg];decide),e1,rst_zero,if_neg (by omega),hv,if_neg (by rw [hok];decide),e2,hn,Nat.zero_add]
    rfl
  rw [hw]
  have hz:(rst s s.size).size=0:=by rw [rst_size];omega
  generalize lcB s (1,1) s.size=L
  have:cutGo s s.size s.size L [⟨v,0,1,1,s.size⟩]=⟨true,gB s s.size,gLC s s.size L,[⟨v,0,1,1,s.size⟩]⟩:=by
    have hf:∀ f,f=k+1→cutGo s f s.size L [⟨v,0,1,1,s.size⟩]=⟨true,gB s s.size,gLC s s.size L,[⟨v,0,1,1,s.size⟩]⟩:=fun f hf =>by
      subst hf
      rw [cutGo.eq_2,if_neg (by rw [e3];decide),if_pos (by rw [e4];exact hz)]
    exact hf _ hk
  rw [this]
  exact ⟨rfl,rfl⟩
theorem one_numbered {s:ByteArray} {n:Nat} (h0:bt s 0=85) (hs:0 < s.size) (hb:s.size≤262144) (hv:numdV s=(n,s.size,true)):OneRune s n:=by
  have hw:wordV s=⟨3,ByteArray.empty,n,0,s.size,true⟩:=by
    unfold wordV
    rw [h0,if_neg (by decide),if_neg (by decide),if_pos rfl,hv]
    simp [edgeB]
  obtain ⟨a,b⟩:=words_one hs (by rw [h0];decide) (by rw [h0];decide) hw rfl rfl
  exact ⟨hs,hb,a,b⟩
def quoS (r:Int):ByteArray:=⟨#[39]⟩++Utf8.encode r++⟨#[39]⟩
theorem enc_size {r:Int} (h:widthOf r≠0):1≤(Utf8.encode r).size∧(Utf8.encode r).size≤4:=by
  have:=(decode_enc h).2
  unfold widthOf at this h
  repeat' split at this
  all_goals first | (exfalso;omega) | omega | simp_all
theorem quoS_size {r:Int} (h:widthOf r≠0):(quoS r).size=(Utf8.encode r).size+2:=by
  unfold quoS
  rw [ByteArray.size_append,ByteArray.size_append]
  show 1+_+1=_
  omega
theorem one_quoted {r:Int} (h:widthOf r≠0) (h32:32≤r) (h39:r≠39) (h127:r≠127):OneRune (quoS r) r.toNat:=by
  have hz:=quoS_size h
  have he:=enc_size h
  obtain ⟨hd,hw⟩:=decode_enc h
  have ha:quoS r=⟨#[39]⟩++(Utf8.encode r++⟨#[39]⟩):=by unfold quoS;rw [ByteArray.append_assoc]
  have h0:bt (quoS r) 0=39:=by rw [ha,bt_left _ _ 0 (by decide)];rfl
  have ht:tl1 (quoS r)=Utf8.encode r++⟨#[39]⟩:=by
    unfold tl1
    refine ext_get _ _ ?_ ?_
    · rw [ByteArray.size_extract,hz,ByteArray.size_append]
      show min _ _ - 1=_+1
      omega
    · intro j hj
      rw [ByteArray.size_extract] at hj
      unfold bt
      rw [get_suffix _ _ _ (by omega),ha]
      have:=bt_right ⟨#[39]⟩ (Utf8.encode r++⟨#[39]⟩) j
      unfold bt at this
      exact this
  have hb:=(starts_enc h).2.1
  have hg:¬ (rn (Utf8.encode r) 0=65533∧wd (Utf8.encode r) 0=1):=by simpa [badB] using hb
  have hd0:Utf8.decode (Utf8.encode r++⟨#[39]⟩) 0=(r.toNat,(Utf8.encode r).size):=by rw [decode_grow _ _ 0 (by omega) hg,hd]
  have hd1:Utf8.decode (Utf8.encode r++⟨#[39]⟩) (Utf8.encode r).size=(39,1):=by have:=decode_behind (Utf8.encode r) ⟨#[39]⟩ 0;rw [Nat.add_zero] at this;rw [this];rfl
  have hsz:(Utf8.encode r++(⟨#[39]⟩:ByteArray)).size=(Utf8.encode r).size+1:=by rw [ByteArray.size_append];rfl
  have hq:quoV (quoS r)=(r.toNat,(quoS r).size,true):=by
    unfold quoV
    rw [ht]
    simp only [rn,wd,hd0,hd1]
    have hwb:wholeB (Utf8.encode r++⟨#[39]⟩)=true:=by
      unfold wholeB badB
      simp only [rn,wd,hd0]
      rw [decide_eq_true (by omega),decide_eq_false (by simpa [rn,wd,hd] using hg)]
      rfl
    rw [if_neg (by omega),if_neg (by omega),if_neg (by rw [hwb];decide),if_neg (by omega),if_pos (by trivial),hz]
  have hv:wordV (quoS r)=⟨3,ByteArray.empty,r.toNat,0,(quoS r).size,true⟩:=by
    unfold wordV
    rw [h0,if_neg (by decide),if_neg (by decide),if_neg (by decide),if_pos rfl,hq]
  obtain ⟨a,b⟩:=words_one (by omega) (by rw [h0];decide) (by rw [h0];decide) hv rfl rfl
  exact ⟨by omega,by omega,a,b⟩
theorem one_text {r:Int} (h:widthOf r≠0):OneRune (textV r).1 r.toNat∧(textV r).2=0:=by
  have hb:=width_bound r h
  by_cases hq:33≤r∧r≤126∧r≠39
  · have e:textV r=(quoS r,0):=by unfold textV quoS;rw [if_neg h,if_pos hq]
    rw [e]
    exact ⟨one_quoted h (by omega) hq.2.2 (by omega),rfl⟩
  · obtain ⟨n,rfl⟩:∃ n:Nat,r=n:=⟨r.toNat,by omega⟩
    have e:textV (n:Int)=(⟨#[85,43]⟩++⟨(Lib.repeatL [48] (4 - (upS n).size)).toArray⟩++upS n,0):=by unfold textV;rw [if_neg h,if_neg hq,Int.toNat_natCast]
    rw [e,Int.toNat_natCast]
    refine ⟨?_,rfl⟩
    by_cases h4:n < 65536
    · show OneRune (⟨#[85,43]⟩++⟨(Lib.repeatL [48] (4 - (upS n).size)).toArray⟩++upS n) n
      rw [hex4 n h4]
      exact one_numbered rfl (by show 0 < 6;decide) (by show 6≤262144;decide) (numdV_4 n h4 h)
    · by_cases h5:n < 1048576
      · show OneRune (⟨#[85,43]⟩++⟨(Lib.repeatL [48] (4 - (upS n).size)).toArray⟩++upS n) n
        rw [hex5 n (by omega) h5]
        exact one_numbered rfl (by show 0 < 7;decide) (by show 7≤262144;decide) (numdV_5 n (by omega) h5 h)
      · show OneRune (⟨#[85,43]⟩++⟨(Lib.repeatL [48] (4 - (upS n).size)).toArray⟩++upS n) n
        rw [hex6 n (by omega) (by omega)]
        exact one_numbered rfl (by show 0 < 8;decide) (by show 8≤262144;decide) (numdV_6 n (by omega) (by omega) h)
theorem wordV_small {t:ByteArray} (h:smallB (bt t 0)=true):wordV t=⟨1,t.extract 0 (nameLen t),0,0,nameLen t,edgeB t (nameLen t)⟩:=by unfold wordV;rw [if_pos h]
theorem sgn_kind (t:ByteArray):(sgnV t).1≠1:=by
  unfold sgnV
  repeat' split
  all_goals (show (_:Nat)≠1;decide)
theorem wordV_one {t:ByteArray} (h:(wordV t).kind=1):smallB (bt t 0)=true:=by
  cases hs:smallB (bt t 0)
  · exfalso
    unfold wordV at h
    rw [hs,if_neg (by decide)] at h
    split at h
    · cases h
    · split at h
      · cases h
      · split at h
        · cases h
        · exact sgn_kind t h
  · rfl
def sepB:List (ByteArray × UInt8)→ByteArray
  | [] =>ByteArray.empty
  | x::l =>x.1++((⟨#[x.2]⟩:ByteArray)++sepB l)
def okR (r:Int):Bool:=(textV r).2 == 0
def rtB (r:Int):ByteArray:=(textV r).1
def spanW (s:Int × Int):List ByteArray:=if s.2=s.1 then [rtB s.1] else [rtB s.1,⟨#[46,46]⟩,rtB s.2]
def spanK (s:Int × Int):Bool:=okR s.1 && okR s.2
def spansW (l:List (Int × Int)):List ByteArray:=⟨#[123]⟩::(l.flatMap spanW++[⟨#[125]⟩])
def scW (x:ByteArray × List (Int × Int)):List ByteArray:=⟨#[115,99,114,105,112,116]⟩::x.1::spansW x.2
def scK (x:ByteArray × List (Int × Int)):Bool:=legalB x.1 && x.2.all spanK
def liW (word:ByteArray) (l:List (Int × Int)):List ByteArray:=word::spansW l
def maW (x:Int × Int):List ByteArray := [⟨#[109,97,114,107]⟩,rtB x.1,itoaB x.2,⟨#[59]⟩]
def maK (x:Int × Int):Bool:=clsB x.2 && okR x.1
def prW (x:Int × Int × Int):List ByteArray := [⟨#[112,97,105,114]⟩,rtB x.1,⟨#[61]⟩,rtB x.2.1,⟨#[43]⟩,rtB x.2.2,⟨#[59]⟩]
def prK (x:Int × Int × Int):Bool:=okR x.1 && (okR x.2.1 && okR x.2.2)
def mpW (word:ByteArray) (x:Int × ByteArray):List ByteArray:=word::rtB x.1::⟨#[61]⟩::((runesL x.2).map rtB++[⟨#[59]⟩])
def mpK (x:Int × ByteArray):Bool:=okTo x.2 && (okR x.1 && (runesL x.2).all okR)
def liL (word:ByteArray) (l:List (Int × Int)):List (List ByteArray):=if l.length=0 then [] else [liW word l]
def linesT (T:TV):List (List ByteArray) :=
  T.sc.map scW++(liL ⟨#[99,111,109,109,111,110]⟩ T.co++(T.ma.map maW++(T.pr.map prW++(T.fo.map (mpW ⟨#[102,111,108,100]⟩)++(T.lk.map (mpW ⟨#[108,111,111,107]⟩)++(liL ⟨#[100,114,111,112]⟩ T.dr++liL ⟨#[97,108,108,111,119]⟩ T.al))))))
def okT (T:TV):Bool:=T.sc.all scK && (T.co.all spanK && (T.ma.all maK && (T.pr.all prK && (T.fo.all mpK && (T.lk.all mpK && (T.dr.all spanK && T.al.all spanK))))))
theorem okR_width {r:Int}:okR r=true ↔ widthOf r≠0:=by
  constructor
  · intro h e
    unfold okR textV at h
    rw [if_pos e] at h
    cases h
  · intro h
    unfold okR
    rw [(one_text h).2]
    rfl
theorem valid_starts (s:ByteArray):∀ f i,Lib.validGoD f (s.data.toList.drop i)=true ↔ ∀ p ∈ startsFrom s f i,badB s p=false
  | 0,i =>⟨fun _ p hp =>(by cases hp),fun _ =>rfl⟩
  | f+1,i =>by
    have hl:(s.data.toList.drop i).length=s.size - i:=by rw [List.length_drop,Array.length_toList];rfl
    unfold Lib.validGoD
    by_cases hi:i < s.size
    · have hne:¬ s.data.toList.drop i=[]:=fun e =>by rw [e] at hl;have:([] : List UInt8).length=0:=rfl;omega
      rw [if_neg hne,startsFrom_cons s f i hi,Lib.decodeL_drop,List.drop_drop]
      by_cases hb:rn s i=65533∧wd s i=1
      · rw [if_pos hb]
        exact ⟨fun h =>(by cases h),fun h =>by have:=h i (List.mem_cons_self ..);unfold badB at this;rw [decide_eq_true hb] at this;cases this⟩
      · rw [if_neg hb]
        have ih:=valid_starts s f (i+wd s i)
        refine ih.trans ⟨fun h p hp =>?_,fun h p hp =>h p (List.mem_cons_of_mem _ hp)⟩
        rcases List.mem_cons.1 hp with rfl | hp
        · unfold badB;exact decide_eq_false hb
        · exact h p hp
    · have hne:s.data.toList.drop i=[]:=List.length_eq_zero_iff.1 (by omega)
      rw [if_pos hne,startsFrom_end s _ i hi]
      exact ⟨fun _ p hp =>(by cases hp),fun _ =>rfl⟩
theorem okTo_iff {s:ByteArray}:okTo s=true ↔ s.size≠0∧∀ p ∈ starts s,badB s p=false:=by
  unfold okTo
  rw [Bool.and_eq_true,decide_eq_true_iff]
  have h:=valid_starts s s.size 0
  have e:Lib.validD s.data.toList=Lib.validGoD s.size (s.data.toList.drop 0):=rfl
  rw [e]
  exact ⟨fun q =>⟨q.1,h.1 q.2⟩,fun q =>⟨q.1,h.2 q.2⟩⟩
theorem okTo_back {s:ByteArray} (h:okTo s=true):runesBytes (runesL s)=s:=clean_valid s (okTo_iff.1 h).2
theorem okT_parts {T:TV} (h:okT T=true):T.sc.all scK=true∧T.co.all spanK=true∧T.ma.all maK=true∧T.pr.all prK=true∧T.fo.all mpK=true∧T.lk.all mpK=true∧T.dr.all spanK=true∧T.al.all spanK=true:=by
  unfold okT at h
  simpa only [Bool.and_eq_true] using h
def lineP:List ByteArray→List (ByteArray × UInt8)
  | [] => []
  | [w] => [(w,10)]
  | w::u::ws =>(w,32)::lineP (u::ws)
theorem lineP_fst:∀ (ws:List ByteArray),(lineP ws).map Prod.fst=ws
  | [] =>rfl
  | [w] =>rfl
  | w::u::ws =>by show w::(lineP (u::ws)).map Prod.fst=_;rw [lineP_fst (u::ws)]
def textT (T:TV):ByteArray:=sepB ((linesT T).flatMap lineP)
theorem flat_fst:∀ (ls:List (List ByteArray)),(ls.flatMap lineP).map Prod.fst=ls.flatten
  | [] =>rfl
  | l::ls =>by rw [List.flatMap_cons,List.map_append,lineP_fst,flat_fst ls,List.flatten_cons]
end Go.Proofs.YtmdgejgokoadlaaGreatDoor
