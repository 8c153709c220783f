/- Texts of this claim, one behind the other. -/
import Derived.Test.YtmdgejgokoadlaaGreatDoorM13
import Derived.Deep.AppendLies
import Derived.Laws.OwnMore
import Derived.Test.YtmdgejgokoadlaaGreatDoorM14
import Derived.Deep.RegionHeld3
import Derived.LaidEqlPtr
import Derived.OwnWalk
import Derived.Test.YtmdgejgokoadlaaGreatDoorM18
import Derived.Test.YtmdgejgokoadlaaGreatDoorM16
import Derived.Deep.QuietTactic
import Derived.Test.YtmdgejgokoadlaaGreatDoorM17
/- The number of a refusal in words, of two digits. -/
namespace Go.Proofs.YtmdgejgokoadlaaGreatDoor
open Go.RowKit Go.Shelf
set_option linter.unusedVariables false
theorem infoU8q:(Tryz.prog.info? 5).map (fun i =>(i.zero,i.size,i.bytes))=some (some (.int .u8 0),1,1):=by kernel_rfl
theorem conv2 (W:World) (g c:Nat) (x y:Int) (h0:W.cell? ⟨g,0,none⟩=some (.int .u8 x)) (h1:W.cell? ⟨g,1,none⟩=some (.int .u8 y)):(convert 105 9 (.slice (some ⟨g,0,none⟩) 2 c)).run Tryz.prog W=.ok (.string ⟨#[UInt8.ofNat x.toNat,UInt8.ofNat y.toNat]⟩) W:=by
  rw [run_convert_bytes_string _ _ _ _ _ _ _ Tryz.underlying105 Tryz.underlying5 Tryz.underlying9]
  rw [run_bytesToString _ _ 2 c [x,y] (by
    rw [run_loadCells _ _ 2 (fun j =>if j=0 then .int .u8 x else .int .u8 y) (fun j hj =>by
      rcases (by omega:j=0∨j=1) with rfl | rfl
      · exact h0
      · exact h1)]
    rfl)]
  rfl
set_option maxRecDepth 100000 in
set_option maxHeartbeats 4000000 in
theorem errno_20 (W:World):Calls Tryz.prog 92 #[.int .i64 20] W fun e w' => ∃ s:ByteArray,e=.returned (.string s)∧s.size≤1000∧Below W.heap.size W w':=by
  obtain ⟨i8,hi8,hz8,hs8,hb8⟩:=info_parts infoU8q
  have hB:Below W.heap.size W ((W.alloc (.cells #[.int .u8 48] 5)).alloc (.cells #[.int .u8 50] 5)):=((Below.refl _ W).alloc (Nat.le_refl _) _).alloc (by simp) _
  have hown:((W.alloc (.cells #[.int .u8 48] 5)).alloc (.cells #[.int .u8 50] 5)).ownsRow W.heap.size 5 1 (.slice (some ⟨W.heap.size+1,0,none⟩) 1 1) 1 [.int .u8 50]:=by
    have h:=World.ownsRow_lit (base:=W.heap.size) (e:=5) (size:=1) (W.alloc (.cells #[.int .u8 48] 5)) #[.int .u8 50] 1 (by simp) (by unfold maxLen;omega) rfl
    rw [World.size_alloc] at h
    exact h
  have hsrc:∀ j u,[Value.int .u8 48][j]?=some u→((W.alloc (.cells #[.int .u8 48] 5)).alloc (.cells #[.int .u8 50] 5)).cell? ((⟨W.heap.size,0,none⟩:Addr).add j)=some u:=by
    intro j u hu
    obtain rfl:j=0:=by
      rcases j with _ | j
      · rfl
      · simp at hu
    obtain rfl:=Option.some.inj hu
    exact ((Blk.new W #[.int .u8 48] 5).alloc _).cell 0
  have hsz:((W.alloc (.cells #[.int .u8 48] 5)).alloc (.cells #[.int .u8 50] 5)).heap.size=W.heap.size+2:=by simp
  have HB:=kz hB
  have HO:=kz hown
  have HS:=kz hsrc
  have HZ:=kz hsz
  clear hB hown hsrc hsz
  go_enter Tryz.func92,Tryz.ntmps92
  go_wp2_with fail
  refine wp_loop_rounds 3 ?_
  rw [rounds_succ]
  go_wp2_with fail
  rw [rounds_succ]
  go_wp2_with (at_builtin;refine wpList_append_lies _ rfl _ _ 105 rfl W.heap.size 5 i8 (.int .u8 0) 1 1 Tryz.underlying105 hi8 hz8 hs8 hb8 rfl (by decide) _ 1 [.int .u8 50] rfl (oz HO) ⟨W.heap.size,0,none⟩ 1 1 [.int .u8 48] rfl rfl (oz HS) (by intro u hu;simp at hu;rcases hu with rfl;rfl) (by decide) (by unfold maxLen;omega) (by omega) (by have:=oz HZ;omega) (W.heap.size+2) (oz HZ) ?_)
  intro g cap w1 how hgr hat hlt
  have hcv:=conv2 w1 g cap 50 48 ((how.cellAt 0 (by decide)).trans rfl) ((how.cellAt 1 (by decide)).trans rfl)
  have HB1:Hz (Below W.heap.size W w1):=kz ((oz HB).grown hgr (oz HB).size (fun k hk =>by have h2:W.heap.size+1=k:=Option.some.inj hk;omega))
  clear how hgr hat hlt
  go_wp2_with fail
  rw [rounds_succ]
  go_wp2_with fail
  go_ret
  exact ⟨_,rfl,by decide,oz HB1⟩
set_option maxRecDepth 100000 in
set_option maxHeartbeats 4000000 in
theorem errno_21 (W:World):Calls Tryz.prog 92 #[.int .i64 21] W fun e w' => ∃ s:ByteArray,e=.returned (.string s)∧s.size≤1000∧Below W.heap.size W w':=by
  obtain ⟨i8,hi8,hz8,hs8,hb8⟩:=info_parts infoU8q
  have hB:Below W.heap.size W ((W.alloc (.cells #[.int .u8 49] 5)).alloc (.cells #[.int .u8 50] 5)):=((Below.refl _ W).alloc (Nat.le_refl _) _).alloc (by simp) _
  have hown:((W.alloc (.cells #[.int .u8 49] 5)).alloc (.cells #[.int .u8 50] 5)).ownsRow W.heap.size 5 1 (.slice (some ⟨W.heap.size+1,0,none⟩) 1 1) 1 [.int .u8 50]:=by
    have h:=World.ownsRow_lit (base:=W.heap.size) (e:=5) (size:=1) (W.alloc (.cells #[.int .u8 49] 5)) #[.int .u8 50] 1 (by simp) (by unfold maxLen;omega) rfl
    rw [World.size_alloc] at h
    exact h
  have hsrc:∀ j u,[Value.int .u8 49][j]?=some u→((W.alloc (.cells #[.int .u8 49] 5)).alloc (.cells #[.int .u8 50] 5)).cell? ((⟨W.heap.size,0,none⟩:Addr).add j)=some u:=by
    intro j u hu
    obtain rfl:j=0:=by
      rcases j with _ | j
      · rfl
      · simp at hu
    obtain rfl:=Option.some.inj hu
    exact ((Blk.new W #[.int .u8 49] 5).alloc _).cell 0
  have hsz:((W.alloc (.cells #[.int .u8 49] 5)).alloc (.cells #[.int .u8 50] 5)).heap.size=W.heap.size+2:=by simp
  have HB:=kz hB
  have HO:=kz hown
  have HS:=kz hsrc
  have HZ:=kz hsz
  clear hB hown hsrc hsz
  go_enter Tryz.func92,Tryz.ntmps92
  go_wp2_with fail
  refine wp_loop_rounds 3 ?_
  rw [rounds_succ]
  go_wp2_with fail
  rw [rounds_succ]
  go_wp2_with (at_builtin;refine wpList_append_lies _ rfl _ _ 105 rfl W.heap.size 5 i8 (.int .u8 0) 1 1 Tryz.underlying105 hi8 hz8 hs8 hb8 rfl (by decide) _ 1 [.int .u8 50] rfl (oz HO) ⟨W.heap.size,0,none⟩ 1 1 [.int .u8 49] rfl rfl (oz HS) (by intro u hu;simp at hu;rcases hu with rfl;rfl) (by decide) (by unfold maxLen;omega) (by omega) (by have:=oz HZ;omega) (W.heap.size+2) (oz HZ) ?_)
  intro g cap w1 how hgr hat hlt
  have hcv:=conv2 w1 g cap 50 49 ((how.cellAt 0 (by decide)).trans rfl) ((how.cellAt 1 (by decide)).trans rfl)
  have HB1:Hz (Below W.heap.size W w1):=kz ((oz HB).grown hgr (oz HB).size (fun k hk =>by have h2:W.heap.size+1=k:=Option.some.inj hk;omega))
  clear how hgr hat hlt
  go_wp2_with fail
  rw [rounds_succ]
  go_wp2_with fail
  go_ret
  exact ⟨_,rfl,by decide,oz HB1⟩
set_option maxRecDepth 100000 in
set_option maxHeartbeats 4000000 in
theorem errno_33 (W:World):Calls Tryz.prog 92 #[.int .i64 33] W fun e w' => ∃ s:ByteArray,e=.returned (.string s)∧s.size≤1000∧Below W.heap.size W w':=by
  obtain ⟨i8,hi8,hz8,hs8,hb8⟩:=info_parts infoU8q
  have hB:Below W.heap.size W ((W.alloc (.cells #[.int .u8 51] 5)).alloc (.cells #[.int .u8 51] 5)):=((Below.refl _ W).alloc (Nat.le_refl _) _).alloc (by simp) _
  have hown:((W.alloc (.cells #[.int .u8 51] 5)).alloc (.cells #[.int .u8 51] 5)).ownsRow W.heap.size 5 1 (.slice (some ⟨W.heap.size+1,0,none⟩) 1 1) 1 [.int .u8 51]:=by
    have h:=World.ownsRow_lit (base:=W.heap.size) (e:=5) (size:=1) (W.alloc (.cells #[.int .u8 51] 5)) #[.int .u8 51] 1 (by simp) (by unfold maxLen;omega) rfl
    rw [World.size_alloc] at h
    exact h
  have hsrc:∀ j u,[Value.int .u8 51][j]?=some u→((W.alloc (.cells #[.int .u8 51] 5)).alloc (.cells #[.int .u8 51] 5)).cell? ((⟨W.heap.size,0,none⟩:Addr).add j)=some u:=by
    intro j u hu
    obtain rfl:j=0:=by
      rcases j with _ | j
      · rfl
      · simp at hu
    obtain rfl:=Option.some.inj hu
    exact ((Blk.new W #[.int .u8 51] 5).alloc _).cell 0
  have hsz:((W.alloc (.cells #[.int .u8 51] 5)).alloc (.cells #[.int .u8 51] 5)).heap.size=W.heap.size+2:=by simp
  have HB:=kz hB
  have HO:=kz hown
  have HS:=kz hsrc
  have HZ:=kz hsz
  clear hB hown hsrc hsz
  go_enter Tryz.func92,Tryz.ntmps92
  go_wp2_with fail
  refine wp_loop_rounds 3 ?_
  rw [rounds_succ]
  go_wp2_with fail
  rw [rounds_succ]
  go_wp2_with (at_builtin;refine wpList_append_lies _ rfl _ _ 105 rfl W.heap.size 5 i8 (.int .u8 0) 1 1 Tryz.underlying105 hi8 hz8 hs8 hb8 rfl (by decide) _ 1 [.int .u8 51] rfl (oz HO) ⟨W.heap.size,0,none⟩ 1 1 [.int .u8 51] rfl rfl (oz HS) (by intro u hu;simp at hu;rcases hu with rfl;rfl) (by decide) (by unfold maxLen;omega) (by omega) (by have:=oz HZ;omega) (W.heap.size+2) (oz HZ) ?_)
  intro g cap w1 how hgr hat hlt
  have hcv:=conv2 w1 g cap 51 51 ((how.cellAt 0 (by decide)).trans rfl) ((how.cellAt 1 (by decide)).trans rfl)
  have HB1:Hz (Below W.heap.size W w1):=kz ((oz HB).grown hgr (oz HB).size (fun k hk =>by have h2:W.heap.size+1=k:=Option.some.inj hk;omega))
  clear how hgr hat hlt
  go_wp2_with fail
  rw [rounds_succ]
  go_wp2_with fail
  go_ret
  exact ⟨_,rfl,by decide,oz HB1⟩
def ErrN (n:Int):Prop:=n=5∨n=20∨n=21∨n=33
theorem errno_any (n:Int) (h:ErrN n) (W:World):Calls Tryz.prog 92 #[.int .i64 n] W fun e w' => ∃ s:ByteArray,e=.returned (.string s)∧s.size≤1000∧Below W.heap.size W w':=by
  rcases h with rfl | rfl | rfl | rfl
  · exact errno_5 W
  · exact errno_20 W
  · exact errno_21 W
  · exact errno_33 W
theorem infoRef5:(Tryz.prog.info? 80).map (fun i =>(i.zero,i.size,i.bytes))=some (some (.agg #[.int .i64 0,.int .i64 0,.int .i64 0,.int .i64 0]),4,32):=by kernel_rfl
theorem eq_ref {w:World} {F0 F:Nat} {cs0 cs:Array Value} (hne:F0≠F) (h0:Blk w F0 cs0 80) (h1:Blk w F cs 80):(binOp .eql 62 (.pointer (some ⟨F0,0,none⟩)) (.pointer (some ⟨F,0,none⟩))).run Tryz.prog w=.ok (.bool false) w:=by
  obtain ⟨j,hj,_,hs,_⟩:=info_parts infoRef5
  exact run_eql_ptr_other w Tryz.underlying62 hj (by rw [hs];decide) (fun e =>hne (congrArg Addr.block e)) h0 h1
set_option maxRecDepth 100000 in
set_option maxHeartbeats 4000000 in
theorem refused_one (F K kc F0 : Nat) (b l c y : Int) (W : World) (hK : W.cell? ⟨K, 0, none⟩ = some (.pointer (some ⟨F0, 0, none⟩))) (hne : F0 ≠ F) (cs0 : Array Value) (hF0 : Blk W F0 cs0 80) (hb : Blk W F (rfCells ⟨b, l, c, y⟩) 80) (hl : 0 ≤ l ∧ l ≤ 1000000) (hc : 0 ≤ c ∧ c ≤ 1000000) (hP : Lib.TabIs Tryz.prog W "internal/strconv.uint64pow10" .u64 Lib.pow10Tab) (hG : 8 < W.heap.size) (hg : W.cell? ⟨4, 0, none⟩ = some (.iface 217 (.agg #[.pointer (some ⟨12, 37, none⟩)]))) (hW : ∀ w, Calls Tryz.prog 92 #[.int .i64 y] w fun e w' => ∃ s : ByteArray, e = .returned (.string s) ∧ s.size ≤ 1000 ∧ Below w.heap.size w w') :
    Calls Tryz.prog 19 #[.iface 62 (.pointer (some ⟨F,0,none⟩)),.agg #[.int .i64 b,.int .i64 l,.int .i64 c],.int .i64 y,.slice (some ⟨K,0,none⟩) 1 kc] W fun e w' =>e=.returned (.tuple #[.pointer (some ⟨F,0,none⟩),.bool true])∧Below W.heap.size W w':=by
  have hmx:Tryz.prog.follows .mixedOrders=true:=by kernel_rfl
  have hF:=hb.lt
  have hKl:K < W.heap.size:=cell_lt hK
  have HKK:=kz hK
  have HF0:=kz hF0
  clear hK hF0
  have hsz:((W.alloc (.cells #[.int .i64 b,.int .i64 l,.int .i64 c] 53)).alloc (.cells #[.pointer none] 62)).heap.size=W.heap.size+2:=by simp
  have hB0:Below W.heap.size W ((W.alloc (.cells #[.int .i64 b,.int .i64 l,.int .i64 c] 53)).alloc (.cells #[.pointer none] 62)).drew:=(((Below.refl _ W).alloc (Nat.le_refl _) _).alloc (by simp) _).trans ⟨rfl,rfl,rfl,Nat.le_refl _,fun _ _ =>rfl⟩
  have bA:=((Blk.new W #[.int .i64 b,.int .i64 l,.int .i64 c] 53).alloc (.cells #[.pointer none] 62))
  have bR:=Blk.new (W.alloc (.cells #[.int .i64 b,.int .i64 l,.int .i64 c] 53)) #[.pointer none] 62
  rw [World.size_alloc] at bR
  have hgl:4 < W.heap.size:=cell_lt hg
  have hA:=as_ref ⟨F,0,none⟩ ⟨W.heap.size+1,0,none⟩ (.pointer none) ((W.alloc (.cells #[.int .i64 b,.int .i64 l,.int .i64 c] 53)).alloc (.cells #[.pointer none] 62)).drew ((hB0.cell (p:=⟨4,0,none⟩) hgl).trans hg) (bR.cell 0) (bR.frozen 0)
  have hA2:Calls Tryz.prog 54 #[.iface 62 (.pointer (some ⟨F,0,none⟩)),.iface 132 (.pointer (some ⟨W.heap.size+1,0,none⟩))] ((W.alloc (.cells #[.int .i64 b,.int .i64 l,.int .i64 c] 53)).alloc (.cells #[.pointer none] 62)).drew fun ev w' =>ev=.returned (.bool true)∧Blk w' W.heap.size #[.int .i64 b,.int .i64 l,.int .i64 c] 53∧Blk w' (W.heap.size+1) #[.pointer (some ⟨F,0,none⟩)] 62∧Below W.heap.size W w':=by
    refine hA.mono ?_
    rintro ev w' ⟨h1,h2⟩
    have bA2:Blk ((W.alloc (.cells #[.int .i64 b,.int .i64 l,.int .i64 c] 53)).alloc (.cells #[.pointer none] 62)).drew W.heap.size #[.int .i64 b,.int .i64 l,.int .i64 c] 53:=bA
    have bR2:Blk ((W.alloc (.cells #[.int .i64 b,.int .i64 l,.int .i64 c] 53)).alloc (.cells #[.pointer none] 62)).drew (W.heap.size+1) #[.pointer none] 62:=bR
    generalize ((W.alloc (.cells #[.int .i64 b,.int .i64 l,.int .i64 c] 53)).alloc (.cells #[.pointer none] 62)).drew=w0 at *
    have hs0:=hB0.size
    subst h2
    refine ⟨h1, ?_, ?_, ?_⟩
    · exact (((((bA2.alloc _).alloc _).alloc _).alloc _)).kept (grown_set' _ (W.heap.size+1) 0 _) (fun e =>by have:=Option.some.inj e;omega)
    · exact (((((bR2.alloc _).alloc _).alloc _).alloc _)).set 0 _
    · exact (((((hB0.alloc hs0 _).alloc (by simp;omega) _).alloc (by simp;omega) _).alloc (by simp;omega) _)).setCell (p:=⟨W.heap.size+1,0,none⟩) (by show W.heap.size≤W.heap.size+1;omega) _
  have HA:=kz hA2
  have HER:=kz (fun (w:World) (hw:Below W.heap.size W w) =>referr_any F ⟨b,l,c,y⟩ w (hb.kept (below_grown2 (row:=none) hw) (by simp)) hl hc (tab_fr (lo:=W.heap.size) (N:=W.heap.size) ⟨hw.os,hw.tape,hw.output,hw.size,fun i hi _ _ =>hw.block i hi⟩ hG (by omega) hP) (by have:=hw.size;omega) hW)
  have HF:=kz (fun (w:World) (hw:Below W.heap.size W w) =>hb.kept (below_grown2 (row:=none) hw) (by simp))
  clear hA hA2 hb hP hg bA bR hB0 hsz hW
  go_enter Tryz.func19,Tryz.ntmps19
  go_wp2_with fail
  go_region_with (first
    | (go_at_call 56;refine (is_ref F y w2 m3).mono ?_;rintro e w3 ⟨rfl,hw3⟩;rw [hw3])
    | (go_at_call 55;refine (oz HER w1 (oz HB1)).mono ?_;rintro e w2 ⟨s,rfl,hs,hb2⟩;have hse:=ne_isEmpty _ hs;have HB2:=kz ((oz HB1).trans (hb2.mono (oz HB1).size));have c2:=(oz HC1).2.below hb2 (oz HC1).2.lt;have n0:w2.cell? ⟨W.heap.size+1,0,none⟩=some (.pointer (some ⟨F,0,none⟩)):=c2.cell 0;have m3:w2.cell? ⟨F,3,none⟩=some (.int .i64 y):=(oz HF w2 (oz HB2)).cell 3;clear hb2)
    | (go_at_call 54;refine (oz HA).mono ?_;rintro e w1 ⟨rfl,ba1,br1,hb1⟩;have HB1:=kz hb1;have HC1:=kz (And.intro ba1 br1);have v0:=br1.cell 0;have u0:=ba1.cell 0;have u1:=ba1.cell 1;have u2:=ba1.cell 2;have p0:w1.cell? ⟨F,0,none⟩=some (.int .i64 b):=(oz HF w1 hb1).cell 0;have p1:w1.cell? ⟨F,1,none⟩=some (.int .i64 l):=(oz HF w1 hb1).cell 1;have p2:w1.cell? ⟨F,2,none⟩=some (.int .i64 c):=(oz HF w1 hb1).cell 2;have p3:w1.cell? ⟨F,3,none⟩=some (.int .i64 y):=(oz HF w1 hb1).cell 3;clear ba1 br1 hb1))
  all_goals
    clear v0 u0 u1 u2 p0 p1 p2 p3
    have hk2:w2.cell? ⟨K,0,none⟩=some (.pointer (some ⟨F0,0,none⟩)):=((oz HB2).cell (p:=⟨K,0,none⟩) hKl).trans (oz HKK)
    have hk3:w2.drew.cell? ⟨K,0,none⟩=some (.pointer (some ⟨F0,0,none⟩)):=hk2
    have n3:w2.drew.cell? ⟨W.heap.size+1,0,none⟩=some (.pointer (some ⟨F,0,none⟩)):=n0
    have he3:=eq_ref hne (w:=w2.drew) (((oz HB2).block F0 (oz HF0).lt).trans (oz HF0)) (oz HF w2 (oz HB2))
    go_wp2_with fail
    refine wp_loop_rounds 2 ?_
    rw [rounds_succ]
    go_wp2_with fail
    go_region_held3 (fun w' =>w'.cell? ⟨K,0,none⟩=some (.pointer (some ⟨F0,0,none⟩))∧w'.cell? ⟨W.heap.size+1,0,none⟩=some (.pointer (some ⟨F,0,none⟩))∧(binOp .eql 62 (.pointer (some ⟨F0,0,none⟩)) (.pointer (some ⟨F,0,none⟩))).run Tryz.prog w'=.ok (.bool false) w') (first | with_reducible exact ⟨hk3,n3,he3⟩)
      (fail)
    all_goals
      go_wp2_with fail
      rw [rounds_succ]
      go_wp2_with fail
      exact bodyPost_ret (v := .tuple #[.pointer (some ⟨F,0,none⟩),.bool true]) (by simp [results,Tryz.results19,go_sem]) rfl ⟨rfl,(oz HB2).drew⟩
def Kept (W:World) (v:Value) (F:Nat):Prop:=v=.slice none 0 0∨∃ K kc F0 cs0,v=.slice (some ⟨K,0,none⟩) 1 kc∧W.cell? ⟨K,0,none⟩=some (.pointer (some ⟨F0,0,none⟩))∧F0≠F∧Blk W F0 cs0 80
theorem refused_any (F : Nat) (b l c y : Int) (v : Value) (W : World) (hv : Kept W v F) (hb : Blk W F (rfCells ⟨b, l, c, y⟩) 80) (hl : 0 ≤ l ∧ l ≤ 1000000) (hc : 0 ≤ c ∧ c ≤ 1000000) (hP : Lib.TabIs Tryz.prog W "internal/strconv.uint64pow10" .u64 Lib.pow10Tab) (hG : 8 < W.heap.size) (hg : W.cell? ⟨4, 0, none⟩ = some (.iface 217 (.agg #[.pointer (some ⟨12, 37, none⟩)]))) (hy : ErrN y) :
    Calls Tryz.prog 19 #[.iface 62 (.pointer (some ⟨F,0,none⟩)),.agg #[.int .i64 b,.int .i64 l,.int .i64 c],.int .i64 y,v] W fun e w' =>e=.returned (.tuple #[.pointer (some ⟨F,0,none⟩),.bool true])∧Below W.heap.size W w':=by
  rcases hv with rfl | ⟨K,kc,F0,cs0,rfl,h1,h2,h3⟩
  · exact refused_none F b l c y W hb hl hc hP hG hg (errno_any y hy)
  · exact refused_one F K kc F0 b l c y W h1 h2 cs0 h3 hb hl hc hP hG hg (errno_any y hy)
set_option maxRecDepth 100000 in
set_option maxHeartbeats 4000000 in
theorem find_33 (lo Tx:Nat) (vs:List Value) (T:TV) (eb el ec l r:Int) (W:World) (h:TbAt W lo Tx vs (lsOf T (vs.drop 17)) eb el ec) (hl : -9223372036854775808≤l∧l≤9223372036854775807) (hr : -9223372036854775808≤r∧r≤9223372036854775807) (hT:∀ i,(rowsOf T i).length≤1000000) :
    Calls Tryz.prog 22 #[.pointer (some ⟨Tx,0,none⟩),.agg #[.int .i64 33,.int .i64 l,.int .i64 r]] W fun e w' => ∃ F,e=.returned (.iface 62 (.pointer (some ⟨F,0,none⟩)))∧W.heap.size≤F∧Blk w' F (rfCells ⟨(whereV T eb el ec l r).1,(whereV T eb el ec l r).2.1,(whereV T eb el ec l r).2.2,33⟩) 80∧Below W.heap.size W w':=by
  have hmx:Tryz.prog.follows .mixedOrders=true:=by kernel_rfl
  have bW:=Blk.new W #[.int .i64 33,.int .i64 l,.int .i64 r] 69
  have hB0:Below W.heap.size W (W.alloc (.cells #[.int .i64 33,.int .i64 l,.int .i64 r] 69)):=(Below.refl _ W).alloc (Nat.le_refl _) _
  have hB1:Below W.heap.size W (W.alloc (.cells #[.int .i64 33,.int .i64 l,.int .i64 r] 69)).drew:=hB0.trans ⟨rfl,rfl,rfl,Nat.le_refl _,fun _ _ =>rfl⟩
  have HWH:=kz (whereT_any lo Tx vs T eb el ec l r _ (h.fresh (below_grown2 (row:=none) hB1)) hl hr hT)
  have x0:=bW.cell 0
  have z0:(W.alloc (.cells #[.int .i64 33,.int .i64 l,.int .i64 r] 69)).drew.cell? ⟨W.heap.size,0,none⟩=some (.int .i64 33):=bW.cell 0
  have z1:(W.alloc (.cells #[.int .i64 33,.int .i64 l,.int .i64 r] 69)).drew.cell? ⟨W.heap.size,1,none⟩=some (.int .i64 l):=bW.cell 1
  have z2:(W.alloc (.cells #[.int .i64 33,.int .i64 l,.int .i64 r] 69)).drew.cell? ⟨W.heap.size,2,none⟩=some (.int .i64 r):=bW.cell 2
  have HBL:=kz hB1
  have hNl:W.heap.size < (W.alloc (.cells #[.int .i64 33,.int .i64 l,.int .i64 r] 69)).drew.heap.size:=bW.lt
  generalize whereV T eb el ec l r=wv at *
  obtain ⟨y0,y1,y2⟩:=wv
  unfold atV3 at HWH
  dsimp only at HWH
  clear h hl hr hT hB0 hB1 bW
  go_enter Tryz.func22,Tryz.ntmps22
  go_wp2_with fail
  clear x0
  go_region_held3 (fun w' =>w'.cell? ⟨W.heap.size,0,none⟩=some (.int .i64 33)∧w'.cell? ⟨W.heap.size,1,none⟩=some (.int .i64 l)∧w'.cell? ⟨W.heap.size,2,none⟩=some (.int .i64 r)) (first | with_reducible exact ⟨z0,z1,z2⟩ | with_reducible exact ⟨t0,t1,t2⟩ | with_reducible exact ⟨u0 _,u1 _,u2 _⟩)
    (first
    | (go_at_call 20;refine (oz HWH).mono ?_;rintro e w1 ⟨rfl,hb1⟩;have HB1:=kz ((oz HBL).trans (hb1.mono (oz HBL).size));have t0:=(hb1.cell (p:=⟨W.heap.size,0,none⟩) hNl).trans z0;have t1:=(hb1.cell (p:=⟨W.heap.size,1,none⟩) hNl).trans z1;have t2:=(hb1.cell (p:=⟨W.heap.size,2,none⟩) hNl).trans z2;have u0:=fun o =>(World.grownBy_alloc w1 o none).cell (a:=⟨W.heap.size,0,none⟩) t0 (by simp);have u1:=fun o =>(World.grownBy_alloc w1 o none).cell (a:=⟨W.heap.size,1,none⟩) t1 (by simp);have u2:=fun o =>(World.grownBy_alloc w1 o none).cell (a:=⟨W.heap.size,2,none⟩) t2 (by simp);clear hb1))
  all_goals
    clear z0 z1 z2 t0 t1 t2 u0 u1 u2
    go_wp2_with fail
    go_ret
    exact ⟨w1.heap.size,rfl,(oz HB1).size,Blk.new w1 _ _,(oz HB1).alloc (oz HB1).size _⟩
set_option maxRecDepth 100000 in
set_option maxHeartbeats 2000000 in
theorem sameSpan_row (a b:Option Addr) (ca cb:Nat) (zs:List (Int × Int)) (hz:zs.length≤1000000) (hi:Nat) (w:World) (ha:RowC w hi a (encS2 zs)) (hb:RowC w hi b (encS2 zs)) :
    Calls Tryz.prog 28 #[.slice a zs.length ca,.slice b zs.length cb] w fun e w' =>e=.returned (.bool true)∧Below w.heap.size w w':=by
  have HA:=kz ha
  have HB:=kz hb
  clear ha hb
  have hlen:=encS2_length zs
  have HLEN:=kz hlen
  clear hlen
  have hne:(((zs.length:Nat):Int) != ((zs.length:Nat):Int))=false:=by simp
  go_enter Tryz.func28,Tryz.ntmps28
  go_wp2
  go_loopw [5] (fun i wr => ∃ k:Nat,k≤zs.length∧i=.int .i64 k∧∃ q,wr=w.drewN q) (fun i _ =>zs.length - (intOf i).toNat)
  case atStart =>exact ⟨0,by omega,rfl,0,rfl⟩
  case round =>
    obtain ⟨k,hk,rfl,q,rfl⟩:=hrel
    by_cases hkn:k < zs.length
    · obtain ⟨x,hx⟩:∃ x,zs[k]?=some x:=⟨_,List.getElem?_eq_getElem hkn⟩
      obtain ⟨g,o,rfl,_,hc⟩:=oz HA (by rw [oz HLEN];omega)
      obtain ⟨h,p,rfl,_,hd⟩:=oz HB (by rw [oz HLEN];omega)
      have hxs:=encS2_at zs k x hx
      obtain ⟨x0,x1⟩:=x
      have hk1:(k:Int) < (zs.length:Int):=by omega
      have hk2:((k:Nat):Int).toNat=k:=by omega
      dsimp only at hxs
      have c0:w.cell? ⟨g,o+k*2,none⟩=some (.int .i32 x0):=hc _ _ (hxs.1)
      have c1:w.cell? ⟨g,o+k*2+1,none⟩=some (.int .i32 x1):=by have:=hc _ _ (hxs.2);rw [← Nat.add_assoc] at this;exact this
      have d0:w.cell? ⟨h,p+k*2,none⟩=some (.int .i32 x0):=hd _ _ (hxs.1)
      have d1:w.cell? ⟨h,p+k*2+1,none⟩=some (.int .i32 x1):=by have:=hd _ _ (hxs.2);rw [← Nat.add_assoc] at this;exact this
      have e0:(x0 == x0)=true:=by simp
      have e1:(x1 == x1)=true:=by simp
      clear hc hd hx hxs
      go_wp2
      go_quiet (fail)
      go_wp2
      go_roundw
      case rel =>exact ⟨k+1,by omega,by go_num,_,rfl⟩
      case measure =>simp [intOf];omega
    · have hk1:¬ (k:Int) < (zs.length:Int):=by omega
      go_wp2
      go_ret
      exact ⟨rfl,below_drewNW (Below.refl _ _) _⟩
set_option maxRecDepth 100000 in
set_option maxHeartbeats 2000000 in
theorem sameMark_row (a b:Option Addr) (ca cb:Nat) (zs:List (Int × Int)) (hz:zs.length≤1000000) (hi:Nat) (w:World) (ha:RowC w hi a (encM2 zs)) (hb:RowC w hi b (encM2 zs)) :
    Calls Tryz.prog 29 #[.slice a zs.length ca,.slice b zs.length cb] w fun e w' =>e=.returned (.bool true)∧Below w.heap.size w w':=by
  have HA:=kz ha
  have HB:=kz hb
  clear ha hb
  have hlen:=encM2_length zs
  have HLEN:=kz hlen
  clear hlen
  have hne:(((zs.length:Nat):Int) != ((zs.length:Nat):Int))=false:=by simp
  go_enter Tryz.func29,Tryz.ntmps29
  go_wp2
  go_loopw [5] (fun i wr => ∃ k:Nat,k≤zs.length∧i=.int .i64 k∧∃ q,wr=w.drewN q) (fun i _ =>zs.length - (intOf i).toNat)
  case atStart =>exact ⟨0,by omega,rfl,0,rfl⟩
  case round =>
    obtain ⟨k,hk,rfl,q,rfl⟩:=hrel
    by_cases hkn:k < zs.length
    · obtain ⟨x,hx⟩:∃ x,zs[k]?=some x:=⟨_,List.getElem?_eq_getElem hkn⟩
      obtain ⟨g,o,rfl,_,hc⟩:=oz HA (by rw [oz HLEN];omega)
      obtain ⟨h,p,rfl,_,hd⟩:=oz HB (by rw [oz HLEN];omega)
      have hxs:=encM2_at zs k x hx
      obtain ⟨x0,x1⟩:=x
      have hk1:(k:Int) < (zs.length:Int):=by omega
      have hk2:((k:Nat):Int).toNat=k:=by omega
      dsimp only at hxs
      have c0:w.cell? ⟨g,o+k*2,none⟩=some (.int .i32 x0):=hc _ _ (hxs.1)
      have c1:w.cell? ⟨g,o+k*2+1,none⟩=some (.int .i64 x1):=by have:=hc _ _ (hxs.2);rw [← Nat.add_assoc] at this;exact this
      have d0:w.cell? ⟨h,p+k*2,none⟩=some (.int .i32 x0):=hd _ _ (hxs.1)
      have d1:w.cell? ⟨h,p+k*2+1,none⟩=some (.int .i64 x1):=by have:=hd _ _ (hxs.2);rw [← Nat.add_assoc] at this;exact this
      have e0:(x0 == x0)=true:=by simp
      have e1:(x1 == x1)=true:=by simp
      clear hc hd hx hxs
      go_wp2
      go_quiet (fail)
      go_wp2
      go_roundw
      case rel =>exact ⟨k+1,by omega,by go_num,_,rfl⟩
      case measure =>simp [intOf];omega
    · have hk1:¬ (k:Int) < (zs.length:Int):=by omega
      go_wp2
      go_ret
      exact ⟨rfl,below_drewNW (Below.refl _ _) _⟩
set_option maxRecDepth 100000 in
set_option maxHeartbeats 2000000 in
theorem samePair_row (a b:Option Addr) (ca cb:Nat) (zs:List (Int × Int × Int)) (hz:zs.length≤1000000) (hi:Nat) (w:World) (ha:RowC w hi a (encP3 zs)) (hb:RowC w hi b (encP3 zs)) :
    Calls Tryz.prog 30 #[.slice a zs.length ca,.slice b zs.length cb] w fun e w' =>e=.returned (.bool true)∧Below w.heap.size w w':=by
  have HA:=kz ha
  have HB:=kz hb
  clear ha hb
  have hlen:=encP3_length zs
  have HLEN:=kz hlen
  clear hlen
  have hne:(((zs.length:Nat):Int) != ((zs.length:Nat):Int))=false:=by simp
  go_enter Tryz.func30,Tryz.ntmps30
  go_wp2
  go_loopw [5] (fun i wr => ∃ k:Nat,k≤zs.length∧i=.int .i64 k∧∃ q,wr=w.drewN q) (fun i _ =>zs.length - (intOf i).toNat)
  case atStart =>exact ⟨0,by omega,rfl,0,rfl⟩
  case round =>
    obtain ⟨k,hk,rfl,q,rfl⟩:=hrel
    by_cases hkn:k < zs.length
    · obtain ⟨x,hx⟩:∃ x,zs[k]?=some x:=⟨_,List.getElem?_eq_getElem hkn⟩
      obtain ⟨g,o,rfl,_,hc⟩:=oz HA (by rw [oz HLEN];omega)
      obtain ⟨h,p,rfl,_,hd⟩:=oz HB (by rw [oz HLEN];omega)
      have hxs:=encP3_at zs k x hx
      obtain ⟨x0,x1,x2⟩:=x
      have hk1:(k:Int) < (zs.length:Int):=by omega
      have hk2:((k:Nat):Int).toNat=k:=by omega
      dsimp only at hxs
      have c0:w.cell? ⟨g,o+k*3,none⟩=some (.int .i32 x0):=hc _ _ (hxs.1)
      have c1:w.cell? ⟨g,o+k*3+1,none⟩=some (.int .i32 x1):=by have:=hc _ _ (hxs.2.1);rw [← Nat.add_assoc] at this;exact this
      have c2:w.cell? ⟨g,o+k*3+2,none⟩=some (.int .i32 x2):=by have:=hc _ _ (hxs.2.2);rw [← Nat.add_assoc] at this;exact this
      have d0:w.cell? ⟨h,p+k*3,none⟩=some (.int .i32 x0):=hd _ _ (hxs.1)
      have d1:w.cell? ⟨h,p+k*3+1,none⟩=some (.int .i32 x1):=by have:=hd _ _ (hxs.2.1);rw [← Nat.add_assoc] at this;exact this
      have d2:w.cell? ⟨h,p+k*3+2,none⟩=some (.int .i32 x2):=by have:=hd _ _ (hxs.2.2);rw [← Nat.add_assoc] at this;exact this
      have e0:(x0 == x0)=true:=by simp
      have e1:(x1 == x1)=true:=by simp
      have e2:(x2 == x2)=true:=by simp
      clear hc hd hx hxs
      go_wp2
      go_quiet (fail)
      go_wp2
      go_roundw
      case rel =>exact ⟨k+1,by omega,by go_num,_,rfl⟩
      case measure =>simp [intOf];omega
    · have hk1:¬ (k:Int) < (zs.length:Int):=by omega
      go_wp2
      go_ret
      exact ⟨rfl,below_drewNW (Below.refl _ _) _⟩
set_option maxRecDepth 100000 in
set_option maxHeartbeats 2000000 in
theorem sameMap_row (a b:Option Addr) (ca cb:Nat) (zs:List (Int × ByteArray)) (hz:zs.length≤1000000) (hi:Nat) (w:World) (ha:RowC w hi a (encF2 zs)) (hb:RowC w hi b (encF2 zs)) :
    Calls Tryz.prog 31 #[.slice a zs.length ca,.slice b zs.length cb] w fun e w' =>e=.returned (.bool true)∧Below w.heap.size w w':=by
  have HA:=kz ha
  have HB:=kz hb
  clear ha hb
  have hlen:=encF2_length zs
  have HLEN:=kz hlen
  clear hlen
  have hne:(((zs.length:Nat):Int) != ((zs.length:Nat):Int))=false:=by simp
  go_enter Tryz.func31,Tryz.ntmps31
  go_wp2
  go_loopw [5] (fun i wr => ∃ k:Nat,k≤zs.length∧i=.int .i64 k∧∃ q,wr=w.drewN q) (fun i _ =>zs.length - (intOf i).toNat)
  case atStart =>exact ⟨0,by omega,rfl,0,rfl⟩
  case round =>
    obtain ⟨k,hk,rfl,q,rfl⟩:=hrel
    by_cases hkn:k < zs.length
    · obtain ⟨x,hx⟩:∃ x,zs[k]?=some x:=⟨_,List.getElem?_eq_getElem hkn⟩
      obtain ⟨g,o,rfl,_,hc⟩:=oz HA (by rw [oz HLEN];omega)
      obtain ⟨h,p,rfl,_,hd⟩:=oz HB (by rw [oz HLEN];omega)
      have hxs:=encF2_at zs k x hx
      obtain ⟨x0,x1⟩:=x
      have hk1:(k:Int) < (zs.length:Int):=by omega
      have hk2:((k:Nat):Int).toNat=k:=by omega
      dsimp only at hxs
      have c0:w.cell? ⟨g,o+k*2,none⟩=some (.int .i32 x0):=hc _ _ (hxs.1)
      have c1:w.cell? ⟨g,o+k*2+1,none⟩=some (.string x1):=by have:=hc _ _ (hxs.2);rw [← Nat.add_assoc] at this;exact this
      have d0:w.cell? ⟨h,p+k*2,none⟩=some (.int .i32 x0):=hd _ _ (hxs.1)
      have d1:w.cell? ⟨h,p+k*2+1,none⟩=some (.string x1):=by have:=hd _ _ (hxs.2);rw [← Nat.add_assoc] at this;exact this
      have e0:(x0 == x0)=true:=by simp
      have e1:(x1.toList == x1.toList)=true:=by simp
      clear hc hd hx hxs
      go_wp2
      go_quiet (fail)
      go_wp2
      go_roundw
      case rel =>exact ⟨k+1,by omega,by go_num,_,rfl⟩
      case measure =>simp [intOf];omega
    · have hk1:¬ (k:Int) < (zs.length:Int):=by omega
      go_wp2
      go_ret
      exact ⟨rfl,below_drewNW (Below.refl _ _) _⟩
set_option maxRecDepth 100000 in
set_option maxHeartbeats 2000000 in
theorem sameScript_row (nm:ByteArray) (sp:List (Int × Int)) (hz:sp.length≤1000000) (p q:Option Addr) (cp cq:Nat) (w:World) (ha:RowC w w.heap.size p (encS2 sp)) (hb:RowC w w.heap.size q (encS2 sp)) :
    Calls Tryz.prog 27 #[.agg #[.string nm,.slice p sp.length cp],.agg #[.string nm,.slice q sp.length cq]] w fun e w' =>e=.returned (.bool true)∧Below w.heap.size w w':=by
  have hB0:Below w.heap.size w ((w.alloc (.cells #[.string nm,.slice p sp.length cp] 71)).alloc (.cells #[.string nm,.slice q sp.length cq] 71)):=((Below.refl _ w).alloc (Nat.le_refl _) _).alloc (by simp) _
  have bA:=(Blk.new w #[.string nm,.slice p sp.length cp] 71).alloc (.cells #[.string nm,.slice q sp.length cq] 71)
  have bB:=Blk.new (w.alloc (.cells #[.string nm,.slice p sp.length cp] 71)) #[.string nm,.slice q sp.length cq] 71
  rw [World.size_alloc] at bB
  have HS:=kz (sameSpan_row p q cp cq sp hz _ _ (ha.below hB0 hB0.size) (hb.below hB0 hB0.size))
  have HB0:=kz hB0
  have a0:=bA.cell 0
  have a1:=bA.cell 1
  have b0:=bB.cell 0
  have b1:=bB.cell 1
  have e1:(nm.toList == nm.toList)=true:=by simp
  clear hB0 bA bB ha hb
  go_enter Tryz.func27,Tryz.ntmps27
  go_wp2_with fail
  generalize (w.alloc (.cells #[.string nm,.slice p sp.length cp] 71)).alloc (.cells #[.string nm,.slice q sp.length cq] 71)=w1 at *
  refine (oz HS).mono ?_
  rintro e w2 ⟨rfl,hb2⟩
  have HB2:=kz ((oz HB0).trans (hb2.mono (oz HB0).size))
  clear hb2 HS
  go_wp2_with fail
  go_ret
  exact ⟨rfl,oz HB2⟩
set_option maxRecDepth 100000 in
set_option maxHeartbeats 2000000 in
theorem alike_row (a b:Option Addr) (ca cb:Nat) (sc:List (ByteArray × List (Int × Int))) (us vs:List Value) (hu:us.length=sc.length) (hv:vs.length=sc.length) (hn:sc.length≤1000000) (hz:∀ x ∈ sc,x.2.length≤1000000) (w:World)
    (ha:RowC w w.heap.size a (encSc sc us)) (hb:RowC w w.heap.size b (encSc sc vs))
    (hra:∀ (j:Nat) (x:ByteArray × List (Int × Int)) (u:Value),sc[j]?=some x→us[j]?=some u→∃ b d,u=.slice b x.2.length d∧RowC w w.heap.size b (encS2 x.2))
    (hrb:∀ (j:Nat) (x:ByteArray × List (Int × Int)) (u:Value),sc[j]?=some x→vs[j]?=some u→∃ b d,u=.slice b x.2.length d∧RowC w w.heap.size b (encS2 x.2)) :
    Calls Tryz.prog 26 #[.slice a sc.length ca,.slice b sc.length cb,.func (.func 27) #[] #[]] w fun e w' =>e=.returned (.bool true)∧Below w.heap.size w w':=by
  have HA:=kz (And.intro ha hra)
  have HB:=kz (And.intro hb hrb)
  have HU:=kz (And.intro hu (And.intro hv (And.intro hz (And.intro (encSc_length sc us hu) (encSc_length sc vs hv)))))
  clear ha hb hra hrb hu hv hz
  have hne:(((sc.length:Nat):Int) != ((sc.length:Nat):Int))=false:=by simp
  go_enter Tryz.func26,Tryz.ntmps26
  go_wp2
  go_loopw [7] (fun i wr => ∃ k:Nat,k≤sc.length∧i=.int .i64 k∧Hz (Below w.heap.size w wr)) (fun i _ =>sc.length - (intOf i).toNat)
  case atStart =>exact ⟨0,by omega,rfl,kz (Below.refl _ _)⟩
  case round =>
    obtain ⟨k,hk,rfl,HW⟩:=hrel
    by_cases hkn:k < sc.length
    · obtain ⟨x,hx⟩:∃ x,sc[k]?=some x:=⟨_,List.getElem?_eq_getElem hkn⟩
      obtain ⟨u,hu⟩:∃ u,us[k]?=some u:=⟨_,List.getElem?_eq_getElem (by rw [(oz HU).1];exact hkn)⟩
      obtain ⟨v,hv⟩:∃ v,vs[k]?=some v:=⟨_,List.getElem?_eq_getElem (by rw [(oz HU).2.1];exact hkn)⟩
      obtain ⟨g,o,rfl,hg,hc⟩:=(oz HA).1 (by rw [(oz HU).2.2.2.1];omega)
      obtain ⟨h,p,rfl,hh,hd⟩:=(oz HB).1 (by rw [(oz HU).2.2.2.2];omega)
      obtain ⟨q1,d1,rfl,r1⟩:=(oz HA).2 k x u hx hu
      obtain ⟨q2,d2,rfl,r2⟩:=(oz HB).2 k x v hx hv
      have hwr:=oz HW
      have c0:wr.cell? ⟨g,o+k*2,none⟩=some (.string x.1):=(hwr.cell (p:=⟨g,o+k*2,none⟩) hg).trans (hc _ _ (encSc_at0 sc us (oz HU).1 k x hx))
      have c1:wr.cell? ⟨g,o+k*2+1,none⟩=some (.slice q1 x.2.length d1):=by
        have h1:=hc (2*k+1) _ ((encSc_at sc us (oz HU).1 k).trans hu)
        rw [show o+(2*k+1)=o+k*2+1 by omega] at h1
        exact (hwr.cell (p:=⟨g,o+k*2+1,none⟩) hg).trans h1
      have f0:wr.cell? ⟨h,p+k*2,none⟩=some (.string x.1):=(hwr.cell (p:=⟨h,p+k*2,none⟩) hh).trans (hd _ _ (encSc_at0 sc vs (oz HU).2.1 k x hx))
      have f1:wr.cell? ⟨h,p+k*2+1,none⟩=some (.slice q2 x.2.length d2):=by
        have h1:=hd (2*k+1) _ ((encSc_at sc vs (oz HU).2.1 k).trans hv)
        rw [show p+(2*k+1)=p+k*2+1 by omega] at h1
        exact (hwr.cell (p:=⟨h,p+k*2+1,none⟩) hh).trans h1
      have HS:=kz (fun (W':World) (hb:Below wr.heap.size wr W') =>sameScript_row x.1 x.2 ((oz HU).2.2.1 x (List.mem_of_getElem? hx)) q1 q2 d1 d2 W' ((r1.below hwr hwr.size).below hb hb.size) ((r2.below hwr hwr.size).below hb hb.size))
      have hk1:(k:Int) < (sc.length:Int):=by omega
      have hk2:((k:Nat):Int).toNat=k:=by omega
      obtain ⟨x1,x2⟩:=x
      dsimp only at c0 c1 f0 f1 HS
      clear hc hd hx hu hv r1 r2 hwr
      go_wp2_with fail
      go_region_with ((go_at_call 27;refine (oz HS wr.drew (show Below wr.heap.size wr wr.drew from ⟨rfl,rfl,rfl,Nat.le_refl _,fun _ _ =>rfl⟩)).mono ?_;rintro e w' ⟨rfl,hb⟩))
      all_goals
        have HN:=kz ((oz HW).trans ((show Below wr.heap.size wr w' from ⟨hb.os,hb.tape,hb.output,hb.size,hb.block⟩).mono (oz HW).size))
        clear hb
        go_wp2_with fail
        go_roundw
        case rel =>exact ⟨k+1,by omega,by go_num,HN⟩
        case measure =>simp [intOf];omega
    · have hk1:¬ (k:Int) < (sc.length:Int):=by omega
      go_wp2
      go_ret
      exact ⟨rfl,oz HW⟩
def tabV (T:TV) (a0 a1 a2 a3 a4 a5 a6 a7:Option Addr) (c0 c1 c2 c3 c4 c5 c6 c7:Nat):Array Value:=#[.slice a0 T.sc.length c0,.slice a1 T.co.length c1,.slice a2 T.ma.length c2,.slice a3 T.pr.length c3,.slice a4 T.fo.length c4,.slice a5 T.lk.length c5,.slice a6 T.dr.length c6,.slice a7 T.al.length c7]
theorem TabIn.lower {W W':World} {T:TV} {a0 a1 a2 a3 a4 a5 a6 a7:Option Addr} {us:List Value} (h:TabIn W T a0 a1 a2 a3 a4 a5 a6 a7 us) (hb:Below W.heap.size W W'):TabIn W' T a0 a1 a2 a3 a4 a5 a6 a7 us :=
  ⟨h.lu,h.r0.below hb hb.size,h.r1.below hb hb.size,h.r2.below hb hb.size,h.r3.below hb hb.size,h.r4.below hb hb.size,h.r5.below hb hb.size,h.r6.below hb hb.size,h.r7.below hb hb.size,fun j x u hx hu =>by
    obtain ⟨b,d,e,hr⟩:=h.rs j x u hx hu
    exact ⟨b,d,e,hr.below hb hb.size⟩⟩
set_option maxRecDepth 100000 in
set_option maxHeartbeats 4000000 in
theorem keepSame_row (T:TV) (hO:TabOk T) (a0 a1 a2 a3 a4 a5 a6 a7 b0 b1 b2 b3 b4 b5 b6 b7:Option Addr) (c0 c1 c2 c3 c4 c5 c6 c7 d0 d1 d2 d3 d4 d5 d6 d7:Nat) (us vs:List Value) (W:World) (hA:TabIn W T a0 a1 a2 a3 a4 a5 a6 a7 us) (hB:TabIn W T b0 b1 b2 b3 b4 b5 b6 b7 vs) :
    Calls Tryz.prog 11 #[.agg (tabV T a0 a1 a2 a3 a4 a5 a6 a7 c0 c1 c2 c3 c4 c5 c6 c7),.agg (tabV T b0 b1 b2 b3 b4 b5 b6 b7 d0 d1 d2 d3 d4 d5 d6 d7)] W fun e w' =>e=.returned (.bool true)∧Below W.heap.size W w':=by
  have hB0:Below W.heap.size W ((W.alloc (.cells (tabV T a0 a1 a2 a3 a4 a5 a6 a7 c0 c1 c2 c3 c4 c5 c6 c7) 33)).alloc (.cells (tabV T b0 b1 b2 b3 b4 b5 b6 b7 d0 d1 d2 d3 d4 d5 d6 d7) 33)):=((Below.refl _ W).alloc (Nat.le_refl _) _).alloc (by simp) _
  have bA:=(Blk.new W (tabV T a0 a1 a2 a3 a4 a5 a6 a7 c0 c1 c2 c3 c4 c5 c6 c7) 33).alloc (.cells (tabV T b0 b1 b2 b3 b4 b5 b6 b7 d0 d1 d2 d3 d4 d5 d6 d7) 33)
  have bB:=Blk.new (W.alloc (.cells (tabV T a0 a1 a2 a3 a4 a5 a6 a7 c0 c1 c2 c3 c4 c5 c6 c7) 33)) (tabV T b0 b1 b2 b3 b4 b5 b6 b7 d0 d1 d2 d3 d4 d5 d6 d7) 33
  rw [World.size_alloc] at bB
  have HH:=kz (And.intro (hA.lower hB0) (And.intro (hB.lower hB0) (And.intro hB0 (And.intro bA bB))))
  have HO:=kz hO
  clear hA hB hB0 bA bB hO
  unfold tabV at HH ⊢
  have za:=(oz HH).2.2.2.1.cell 0
  have zb:=(oz HH).2.2.2.2.cell 0
  go_enter Tryz.func11,Tryz.ntmps11
  go_wp2_with fail
  generalize (W.alloc (.cells #[.slice a0 T.sc.length c0,.slice a1 T.co.length c1,.slice a2 T.ma.length c2,.slice a3 T.pr.length c3,.slice a4 T.fo.length c4,.slice a5 T.lk.length c5,.slice a6 T.dr.length c6,.slice a7 T.al.length c7] 33)).alloc (.cells #[.slice b0 T.sc.length d0,.slice b1 T.co.length d1,.slice b2 T.ma.length d2,.slice b3 T.pr.length d3,.slice b4 T.fo.length d4,.slice b5 T.lk.length d5,.slice b6 T.dr.length d6,.slice b7 T.al.length d7] 33)=w0 at *
  refine (alike_row a0 b0 c0 d0 T.sc us vs (oz HH).1.lu (oz HH).2.1.lu (oz HO).n0 (fun x hx =>((oz HO).z0 x hx).2) w0 (oz HH).1.r0 (oz HH).2.1.r0 (oz HH).1.rs (oz HH).2.1.rs).mono ?_
  rintro e w1 ⟨rfl,hb⟩
  have HH:=kz (And.intro ((oz HH).1.lower hb) (And.intro ((oz HH).2.1.lower hb) (And.intro ((oz HH).2.2.1.trans (hb.mono (oz HH).2.2.1.size)) (And.intro ((oz HH).2.2.2.1.below hb (oz HH).2.2.2.1.lt) ((oz HH).2.2.2.2.below hb (oz HH).2.2.2.2.lt)))))
  clear hb za zb
  have za:=(oz HH).2.2.2.1.cell 1
  have zb:=(oz HH).2.2.2.2.cell 1
  go_wp2_with fail
  refine (sameSpan_row a1 b1 c1 d1 T.co (oz HO).n1 _ w1 (oz HH).1.r1 (oz HH).2.1.r1).mono ?_
  rintro e w2 ⟨rfl,hb⟩
  have HH:=kz (And.intro ((oz HH).1.lower hb) (And.intro ((oz HH).2.1.lower hb) (And.intro ((oz HH).2.2.1.trans (hb.mono (oz HH).2.2.1.size)) (And.intro ((oz HH).2.2.2.1.below hb (oz HH).2.2.2.1.lt) ((oz HH).2.2.2.2.below hb (oz HH).2.2.2.2.lt)))))
  clear hb za zb
  have za:=(oz HH).2.2.2.1.cell 2
  have zb:=(oz HH).2.2.2.2.cell 2
  go_wp2_with fail
  refine (sameMark_row a2 b2 c2 d2 T.ma (oz HO).n2 _ w2 (oz HH).1.r2 (oz HH).2.1.r2).mono ?_
  rintro e w3 ⟨rfl,hb⟩
  have HH:=kz (And.intro ((oz HH).1.lower hb) (And.intro ((oz HH).2.1.lower hb) (And.intro ((oz HH).2.2.1.trans (hb.mono (oz HH).2.2.1.size)) (And.intro ((oz HH).2.2.2.1.below hb (oz HH).2.2.2.1.lt) ((oz HH).2.2.2.2.below hb (oz HH).2.2.2.2.lt)))))
  clear hb za zb
  have za:=(oz HH).2.2.2.1.cell 3
  have zb:=(oz HH).2.2.2.2.cell 3
  go_wp2_with fail
  refine (samePair_row a3 b3 c3 d3 T.pr (oz HO).n3 _ w3 (oz HH).1.r3 (oz HH).2.1.r3).mono ?_
  rintro e w4 ⟨rfl,hb⟩
  have HH:=kz (And.intro ((oz HH).1.lower hb) (And.intro ((oz HH).2.1.lower hb) (And.intro ((oz HH).2.2.1.trans (hb.mono (oz HH).2.2.1.size)) (And.intro ((oz HH).2.2.2.1.below hb (oz HH).2.2.2.1.lt) ((oz HH).2.2.2.2.below hb (oz HH).2.2.2.2.lt)))))
  clear hb za zb
  have za:=(oz HH).2.2.2.1.cell 4
  have zb:=(oz HH).2.2.2.2.cell 4
  go_wp2_with fail
  refine (sameMap_row a4 b4 c4 d4 T.fo (oz HO).n4 _ w4 (oz HH).1.r4 (oz HH).2.1.r4).mono ?_
  rintro e w5 ⟨rfl,hb⟩
  have HH:=kz (And.intro ((oz HH).1.lower hb) (And.intro ((oz HH).2.1.lower hb) (And.intro ((oz HH).2.2.1.trans (hb.mono (oz HH).2.2.1.size)) (And.intro ((oz HH).2.2.2.1.below hb (oz HH).2.2.2.1.lt) ((oz HH).2.2.2.2.below hb (oz HH).2.2.2.2.lt)))))
  clear hb za zb
  have za:=(oz HH).2.2.2.1.cell 5
  have zb:=(oz HH).2.2.2.2.cell 5
  go_wp2_with fail
  refine (sameMap_row a5 b5 c5 d5 T.lk (oz HO).n5 _ w5 (oz HH).1.r5 (oz HH).2.1.r5).mono ?_
  rintro e w6 ⟨rfl,hb⟩
  have HH:=kz (And.intro ((oz HH).1.lower hb) (And.intro ((oz HH).2.1.lower hb) (And.intro ((oz HH).2.2.1.trans (hb.mono (oz HH).2.2.1.size)) (And.intro ((oz HH).2.2.2.1.below hb (oz HH).2.2.2.1.lt) ((oz HH).2.2.2.2.below hb (oz HH).2.2.2.2.lt)))))
  clear hb za zb
  have za:=(oz HH).2.2.2.1.cell 6
  have zb:=(oz HH).2.2.2.2.cell 6
  go_wp2_with fail
  refine (sameSpan_row a6 b6 c6 d6 T.dr (oz HO).n6 _ w6 (oz HH).1.r6 (oz HH).2.1.r6).mono ?_
  rintro e w7 ⟨rfl,hb⟩
  have HH:=kz (And.intro ((oz HH).1.lower hb) (And.intro ((oz HH).2.1.lower hb) (And.intro ((oz HH).2.2.1.trans (hb.mono (oz HH).2.2.1.size)) (And.intro ((oz HH).2.2.2.1.below hb (oz HH).2.2.2.1.lt) ((oz HH).2.2.2.2.below hb (oz HH).2.2.2.2.lt)))))
  clear hb za zb
  have za:=(oz HH).2.2.2.1.cell 7
  have zb:=(oz HH).2.2.2.2.cell 7
  go_wp2_with fail
  refine (sameSpan_row a7 b7 c7 d7 T.al (oz HO).n7 _ w7 (oz HH).1.r7 (oz HH).2.1.r7).mono ?_
  rintro e w8 ⟨rfl,hb⟩
  have HH:=kz (And.intro ((oz HH).1.lower hb) (And.intro ((oz HH).2.1.lower hb) (And.intro ((oz HH).2.2.1.trans (hb.mono (oz HH).2.2.1.size)) (And.intro ((oz HH).2.2.2.1.below hb (oz HH).2.2.2.1.lt) ((oz HH).2.2.2.2.below hb (oz HH).2.2.2.2.lt)))))
  clear hb za zb
  go_wp2_with fail
  go_ret
  exact ⟨rfl,(oz HH).2.2.1⟩
end Go.Proofs.YtmdgejgokoadlaaGreatDoor
