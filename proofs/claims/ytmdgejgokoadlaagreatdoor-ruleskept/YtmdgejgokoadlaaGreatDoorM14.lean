/- Texts of this claim, one behind the other. -/
import Derived.Test.YtmdgejgokoadlaaGreatDoorM1
import Derived.WalkKit
import Derived.LaidEql
import Derived.Stop.Asserts
import Derived.RowKitTokens
import Derived.Test.YtmdgejgokoadlaaGreatDoorM13
import Derived.Laws.StructEq
import Derived.Deep.RegionWith
import Derived.Test.YtmdgejgokoadlaaGreatDoorM4
import Derived.Maps.OwnSet
import Derived.Test.YtmdgejgokoadlaaGreatDoorM11
/- errors.As and errors.Is at a refusal of the rules: Go's own text, walked. -/
namespace Go.Proofs.YtmdgejgokoadlaaGreatDoor
open Go.RowKit Go.Extern.Stop Go.Stop Go.Extern
set_option linter.unusedVariables false
theorem er_equalIn {P:Program} (w:World) (d:Nat) {ti tn:TypeId} {ms:Array (String × TypeId)} {i:TypeInfo} {k:IntKind} (a b:Int) (hi:P.underlying ti=some (.interface ms)) (hn:P.underlying tn=some (.int k)) (hinfo:P.info? tn=some i) (hcomp:i.comparable=true) :
  (Op.equalIn (d+2) ti (.iface tn (.int k a)) (.iface tn (.int k b))).run P w=.ok (a == b) w:=by
 simp [Op.equalIn,run_underlying hi,run_underlying hn,typeInfo,hinfo,hcomp]
theorem er_eql {P:Program} (w:World) {ti tn:TypeId} {ms:Array (String × TypeId)} {i:TypeInfo} {k:IntKind} (a b:Int) (hi:P.underlying ti=some (.interface ms)) (hn:P.underlying tn=some (.int k)) (hinfo:P.info? tn=some i) (hcomp:i.comparable=true) :
  (binOp .eql ti (.iface tn (.int k a)) (.iface tn (.int k b))).run P w=.ok (.bool (a == b)) w:=by
 simp only [binOp]
 simp [Op.equal,Op.maxDepth,er_equalIn w 9998 a b hi hn hinfo hcomp]
theorem er_valueOf (t:Addr) (w:World):(ReflectliteValue.unpack (.iface 132 (.pointer (some t)))).run Tryz.prog w=.ok (.agg #[.pointer (some ⟨12,132,none⟩),.pointer (some ⟨w.heap.size,0,none⟩),.int .u64 150]) (w.alloc (.cells #[.pointer (some t)] 132)):=by kernel_rfl
theorem er_type (a : Addr) (w : World) : (ReflectliteValue.methodAny (ReflectliteValue.valueError "reflectlite.Value.Type" 0) (fun t _ _ _ => ReflectliteType.toType t) #[.agg #[.pointer (some ⟨12, 132, none⟩), .pointer (some a), .int .u64 150]]).run Tryz.prog w = .ok (.iface 217 (.agg #[.pointer (some ⟨12, 132, none⟩)])) w := by kernel_rfl
theorem er_mKind (h : Value) (w : World) : (Go.method 424 217 (.agg #[h]) "Kind").run Tryz.prog w = .ok (221, h) w := by kernel_rfl
theorem er_kindPP (w:World):((ReflectliteType.abiMethod fun t =>(fun a:Nat =>Value.int IntKind.u8 (a:Int)) <$> Rtype.kind t) #[.pointer (some ⟨12,132,none⟩)]).run Tryz.prog w=.ok (.int .u8 22) w:=by kernel_rfl
theorem er_kindP (w:World):((ReflectliteType.abiMethod fun t =>(fun a:Nat =>Value.int IntKind.u8 (a:Int)) <$> Rtype.kind t) #[.pointer (some ⟨12,62,none⟩)]).run Tryz.prog w=.ok (.int .u8 22) w:=by kernel_rfl
theorem er_rlm (z:Sem Value) (f:TypeId→Addr→Nat→Nat→Sem Value) (v:Value):ReflectliteValue.method z f #[v]=(do match ← ReflectliteValue.parts v with | none =>z | some (t,a,fl) =>f t a fl (fl % 32)):=rfl
theorem zkE (a:Addr) (w:World):(ReflectliteValue.parts (.agg #[.pointer (some ⟨12,132,none⟩),.pointer (some a),.int .u64 150])).run Tryz.prog w=.ok (some (132,a,150)) w:=by kernel_rfl
theorem er_isNil (a p : Addr) (W : World) (ha : W.cell? a = some (.pointer (some p))) : (ReflectliteValue.method (ReflectliteValue.valueError "reflectlite.Value.IsNil" 0) ReflectliteValue.isNil #[.agg #[.pointer (some ⟨12, 132, none⟩), .pointer (some a), .int .u64 150]]).run Tryz.prog W = .ok (.bool false) W := by
 rw [er_rlm]
 simp only [Sem.run_bind,zkE,Result.andThen]
 simp [ReflectliteValue.isNil,loadVar,isAgg,underlying,Tryz.underlying132,ha,Result.andThen]
theorem er_mElem (h : Value) (w : World) : (Go.method 424 217 (.agg #[h]) "Elem").run Tryz.prog w = .ok (232, .agg #[h]) w := by kernel_rfl
theorem er_mImpl (h : Value) (w : World) : (Go.method 424 217 (.agg #[h]) "Implements").run Tryz.prog w = .ok (233, .agg #[h]) w := by kernel_rfl
theorem er_mAssign (h : Value) (w : World) : (Go.method 424 217 (.agg #[h]) "AssignableTo").run Tryz.prog w = .ok (230, .agg #[h]) w := by kernel_rfl
theorem er_elem (w:World):(ReflectliteType.method ReflectliteType.elem #[.agg #[.pointer (some ⟨12,132,none⟩)]]).run Tryz.prog w=.ok (.iface 217 (.agg #[.pointer (some ⟨12,62,none⟩)])) w:=by kernel_rfl
theorem er_impl (w : World) : (ReflectliteType.relation "Implements" ReflectliteType.implements_ #[.agg #[.pointer (some ⟨12, 62, none⟩)], .iface 217 (.agg #[.pointer (some ⟨12, 37, none⟩)])]).run Tryz.prog w = .ok (.bool true) w := by kernel_rfl
theorem er_typeOf (v:Value) (w:World):(ReflectliteType.typeOf #[.iface 62 v]).run Tryz.prog w=.ok (.iface 217 (.agg #[.pointer (some ⟨12,62,none⟩)])) w:=by kernel_rfl
theorem er_assign (w : World) : (ReflectliteType.relation "AssignableTo" ReflectliteType.assignableTo #[.agg #[.pointer (some ⟨12, 62, none⟩)], .iface 217 (.agg #[.pointer (some ⟨12, 62, none⟩)])]).run Tryz.prog w = .ok (.bool true) w := by kernel_rfl
theorem zjH (e:Addr) (w:World):(ReflectliteValue.unpack (.iface 62 (.pointer (some e)))).run Tryz.prog w=.ok (.agg #[.pointer (some ⟨12,62,none⟩),.pointer (some ⟨w.heap.size,0,none⟩),.int .u64 150]) (w.alloc (.cells #[.pointer (some e)] 62)):=by kernel_rfl
theorem er_elemOf (w:World):(Rtype.elem? 132).run Tryz.prog w=.ok (some 62) w:=by kernel_rfl
theorem er_mk (p:Addr) (w:World):(ReflectliteValue.mk 62 p ReflectliteValue.flagAddr).run Tryz.prog w=.ok (.agg #[.pointer (some ⟨12,62,none⟩),.pointer (some p),.int .u64 406]) w:=by kernel_rfl
theorem er_elemV (a p : Addr) (W : World) (ha : W.cell? a = some (.pointer (some p))) : (ReflectliteValue.method (ReflectliteValue.valueError "reflectlite.Value.Elem" 0) ReflectliteValue.elem #[.agg #[.pointer (some ⟨12, 132, none⟩), .pointer (some a), .int .u64 150]]).run Tryz.prog W = .ok (.agg #[.pointer (some ⟨12, 62, none⟩), .pointer (some p), .int .u64 406]) W := by
 rw [er_rlm]
 simp only [Sem.run_bind,zkE,Result.andThen]
 simp [ReflectliteValue.elem,loadVar,isAgg,underlying,Tryz.underlying132,ha,Result.andThen,er_elemOf,er_mk]
theorem er_partsA (a:Addr) (w:World):(ReflectliteValue.parts (.agg #[.pointer (some ⟨12,62,none⟩),.pointer (some a),.int .u64 406])).run Tryz.prog w=.ok (some (62,a,406)) w:=by kernel_rfl
theorem er_partsB (a:Addr) (w:World):(ReflectliteValue.parts (.agg #[.pointer (some ⟨12,62,none⟩),.pointer (some a),.int .u64 150])).run Tryz.prog w=.ok (some (62,a,150)) w:=by kernel_rfl
theorem er_direct (w:World):(Rtype.directlyAssignable 62 62).run Tryz.prog w=.ok true w:=by kernel_rfl
theorem er_m3 {motive:Array Value→Sort _} (v x:Value) (h1:(v x:Value)→motive #[v,x]) (h2:(y:Array Value)→motive y):ReflectliteValue.set.match_3 motive #[v,x] h1 h2=h1 v x:=rfl
theorem er_set (ta b e:Addr) (old:Value) (W:World) (hb:W.cell? b=some (.pointer (some e))) (ht:W.cell? ta=some old) (hf:W.frozen? ta=false) :
  (ReflectliteValue.set #[.agg #[.pointer (some ⟨12,62,none⟩),.pointer (some ta),.int .u64 406],.agg #[.pointer (some ⟨12,62,none⟩),.pointer (some b),.int .u64 150]]).run Tryz.prog W=.ok (.tuple #[]) (W.setCell ta (.pointer (some e))):=by
 delta ReflectliteValue.set
 rw [er_m3]
 simp only [Sem.run_bind,er_partsA,er_partsB,Result.andThen]
 simp [ReflectliteValue.flagAddr,loadVar,isAgg,underlying,Tryz.underlying62,hb,Result.andThen,er_direct,storeVar,Value.cells,storeCells,Addr.add]
 rw [run_store Tryz.prog W ta _ _ (by rfl)]
 simp [ht,hf]
set_option maxRecDepth 100000 in
set_option maxHeartbeats 4000000 in
theorem as_ref (e t:Addr) (old:Value) (w:World) (hg:w.cell? ⟨4,0,none⟩=some (.iface 217 (.agg #[.pointer (some ⟨12,37,none⟩)]))) (ht0:w.cell? t=some old) (hf0:w.frozen? t=false) :
  Calls Tryz.prog 54 #[.iface 62 (.pointer (some e)),.iface 132 (.pointer (some t))] w fun ev w' =>ev=.returned (.bool true)∧w'=(((((w.alloc (.cells #[.pointer (some t)] 132)).alloc (.cells #[.pointer (some ⟨12,132,none⟩),.pointer (some ⟨w.heap.size,0,none⟩),.int .u64 150] 178)).alloc (.cells #[.pointer (some ⟨12,132,none⟩),.pointer (some ⟨w.heap.size,0,none⟩),.int .u64 150] 178)).alloc (.cells #[.pointer (some e)] 62)).setCell t (.pointer (some e))):=by
 have h6:=run_callFunc_extern (P:=Tryz.prog) (f:=88) (e:=(fun args =>ReflectliteValue.unpack (args.getD 0 (.tuple #[])))) Tryz.func88 (by kernel_rfl) (by kernel_rfl) (by kernel_rfl) (by kernel_rfl)
 have h7 := run_callFunc_extern (P := Tryz.prog) (f := 89) (e := (ReflectliteValue.methodAny (ReflectliteValue.valueError "reflectlite.Value.Type" 0) (fun t _ _ _ => ReflectliteType.toType t))) Tryz.func89 (by kernel_rfl) (by kernel_rfl) (by kernel_rfl) (by kernel_rfl)
 have h8 := run_callFunc_extern (P := Tryz.prog) (f := 90) (e := (ReflectliteValue.method (ReflectliteValue.valueError "reflectlite.Value.IsNil" 0) ReflectliteValue.isNil)) Tryz.func90 (by kernel_rfl) (by kernel_rfl) (by kernel_rfl) (by kernel_rfl)
 have h27:=run_callFunc_extern (P:=Tryz.prog) (f:=221) (e:=(ReflectliteType.abiMethod fun t =>do pure (.int .u8 (← Rtype.kind t)))) Tryz.func221 (by kernel_rfl) (by kernel_rfl) (by kernel_rfl) (by kernel_rfl)
 have h37:=run_callFunc_extern (P:=Tryz.prog) (f:=232) (e:=(ReflectliteType.method ReflectliteType.elem)) Tryz.func232 (by kernel_rfl) (by kernel_rfl) (by kernel_rfl) (by kernel_rfl)
 have h38 := run_callFunc_extern (P := Tryz.prog) (f := 233) (e := (ReflectliteType.relation "Implements" ReflectliteType.implements_)) Tryz.func233 (by kernel_rfl) (by kernel_rfl) (by kernel_rfl) (by kernel_rfl)
 have h10:=run_callFunc_extern (P:=Tryz.prog) (f:=93) (e:=ReflectliteType.typeOf) Tryz.func93 (by kernel_rfl) (by kernel_rfl) (by kernel_rfl) (by kernel_rfl)
 have h35 := run_callFunc_extern (P := Tryz.prog) (f := 230) (e := (ReflectliteType.relation "AssignableTo" ReflectliteType.assignableTo)) Tryz.func230 (by kernel_rfl) (by kernel_rfl) (by kernel_rfl) (by kernel_rfl)
 have h11 := run_callFunc_extern (P := Tryz.prog) (f := 135) (e := (ReflectliteValue.method (ReflectliteValue.valueError "reflectlite.Value.Elem" 0) ReflectliteValue.elem)) Tryz.func135 (by kernel_rfl) (by kernel_rfl) (by kernel_rfl) (by kernel_rfl)
 have h12:=run_callFunc_extern (P:=Tryz.prog) (f:=136) (e:=ReflectliteValue.set) Tryz.func136 (by kernel_rfl) (by kernel_rfl) (by kernel_rfl) (by kernel_rfl)
 have tO:=er_typeOf
 have mA:=er_mAssign
 have a25:=er_assign
 have v25:=zjH
 have f6:=er_valueOf
 have f7:=er_type
 have mK:=er_mKind
 have mE:=er_mElem
 have mI:=er_mImpl
 have k27:=er_kindPP
 have k25:=er_kindP
 have e27:=er_elem
 have i25:=er_impl
 have n8:=er_isNil ⟨w.heap.size,0,none⟩ t ((w.alloc (.cells #[.pointer (some t)] 132)).alloc (.cells #[.pointer (some ⟨12,132,none⟩),.pointer (some ⟨w.heap.size,0,none⟩),.int .u64 150] 178)) (by simp)
 have hlt:4 < w.heap.size:=by
  rcases Nat.lt_or_ge 4 w.heap.size with h | h
  ·exact h
  ·simp [World.cell?,Array.getElem?_eq_none h] at hg
 have hg2:((w.alloc (.cells #[.pointer (some t)] 132)).alloc (.cells #[.pointer (some ⟨12,132,none⟩),.pointer (some ⟨w.heap.size,0,none⟩),.int .u64 150] 178)).cell? ⟨4,0,none⟩=some (.iface 217 (.agg #[.pointer (some ⟨12,37,none⟩)])):=by
  rw [World.cell?_alloc_lt _ _ ⟨4,0,none⟩ (by simp;omega),World.cell?_alloc_lt _ _ ⟨4,0,none⟩ hlt];exact hg
 have htl:t.block < w.heap.size:=by
  rcases Nat.lt_or_ge t.block w.heap.size with h | h
  ·exact h
  ·simp [World.cell?,Array.getElem?_eq_none h] at ht0
 have el:=er_elemV ⟨w.heap.size,0,none⟩ t (((w.alloc (.cells #[.pointer (some t)] 132)).alloc (.cells #[.pointer (some ⟨12,132,none⟩),.pointer (some ⟨w.heap.size,0,none⟩),.int .u64 150] 178)).alloc (.cells #[.pointer (some ⟨12,132,none⟩),.pointer (some ⟨w.heap.size,0,none⟩),.int .u64 150] 178)) (by rw [World.cell?_alloc_lt _ _ ⟨w.heap.size,0,none⟩ (by simp;omega),World.cell?_alloc_lt _ _ ⟨w.heap.size,0,none⟩ (by simp)];exact (by simp))
 have st:=er_set t ⟨w.heap.size+1+1+1,0,none⟩ e old ((((w.alloc (.cells #[.pointer (some t)] 132)).alloc (.cells #[.pointer (some ⟨12,132,none⟩),.pointer (some ⟨w.heap.size,0,none⟩),.int .u64 150] 178)).alloc (.cells #[.pointer (some ⟨12,132,none⟩),.pointer (some ⟨w.heap.size,0,none⟩),.int .u64 150] 178)).alloc (.cells #[.pointer (some e)] 62))
  (by rw [World.cell?_alloc_at _ _ _ _ (by simp)];rfl)
  (by rw [World.cell?_alloc_lt _ _ t (by simp;omega),World.cell?_alloc_lt _ _ t (by simp;omega),World.cell?_alloc_lt _ _ t (by simp;omega),World.cell?_alloc_lt _ _ t htl];exact ht0)
  (by rw [World.frozen?_alloc_old _ _ t (by simp;omega),World.frozen?_alloc_old _ _ t (by simp;omega),World.frozen?_alloc_old _ _ t (by simp;omega),World.frozen?_alloc_old _ _ t (Nat.ne_of_lt htl)];exact hf0)
 go_enter Tryz.func54,Tryz.ntmps54
 go_wp2
 refine wp_loop_rounds 1 ?_
 rw [rounds_succ]
 go_wp2
 go_ret
 exact ⟨rfl,rfl⟩
theorem zjI (v:Value) (w:World):(ReflectliteType.typeOf #[.iface 44 v]).run Tryz.prog w=.ok (.iface 217 (.agg #[.pointer (some ⟨12,44,none⟩)])) w:=by kernel_rfl
theorem zgi (w : World) : ((ReflectliteType.method fun t => do Rtype.noPackHeld "Comparable" t; (fun a => Value.bool a.comparable) <$> typeInfo t) #[.agg #[.pointer (some ⟨12, 44, none⟩)]]).run Tryz.prog w = .ok (.bool true) w := by kernel_rfl
theorem zgz (v : Value) (w : World) : (Go.method 424 217 v "Comparable").run Tryz.prog w = .ok (231, v) w := by kernel_rfl
theorem er_comp:(Tryz.prog.info? 44).map (·.comparable)=some true:=by kernel_rfl
theorem er_noIs (v:Value) (xT:TypeId) (w:World):(Instr.typeAssert (.iface 62 v) xT 229 true).run Tryz.prog w=.ok (.tuple #[.nilIface,.bool false]) w:=run_typeAssert_lacksB Tryz.underlying229 (by kernel_rfl) (by kernel_rfl) v xT w
theorem ziO (v:Value) (xT:TypeId) (w:World):(Instr.typeAssert (.iface 62 v) xT 224 true).run Tryz.prog w=.ok (.tuple #[.iface 62 v,.bool true]) w:=run_typeAssert_hasB Tryz.underlying224 (by kernel_rfl) v xT w
theorem er_mUnwrap (v : Value) (w : World) : (Go.method 424 62 v "Unwrap").run Tryz.prog w = .ok (224, v) w := by kernel_rfl
set_option maxRecDepth 100000 in
set_option maxHeartbeats 4000000 in
theorem is_ref (F:Nat) (n:Int) (w:World) (h1:w.cell? ⟨F,3,none⟩=some (.int .i64 n)) :
  Calls Tryz.prog 56 #[.iface 62 (.pointer (some ⟨F,0,none⟩)),.iface 44 (.int .i64 n)] w fun e w' =>e=.returned (.bool true)∧w'=w:=by
 obtain ⟨i,hi,hcmp⟩:=Option.map_eq_some_iff.1 er_comp
 have h8:=run_callFunc_extern (P:=Tryz.prog) (f:=93) (e:=ReflectliteType.typeOf) Tryz.func93 (by kernel_rfl) (by kernel_rfl) (by kernel_rfl) (by kernel_rfl)
 have h32 := run_callFunc_extern (P := Tryz.prog) (f := 231) (e := (ReflectliteType.method fun t => do Rtype.noPackHeld "Comparable" t; pure (.bool (← typeInfo t).comparable))) Tryz.func231 (by kernel_rfl) (by kernel_rfl) (by kernel_rfl) (by kernel_rfl)
 have tT:=zjI
 have cT:=zgi
 have mR:=zgz
 have nW:=er_noIs
 have uW:=ziO
 have mU:=er_mUnwrap
 have heq:=er_eql (P:=Tryz.prog) w n n Tryz.underlying37 Tryz.underlying44 hi hcmp
 have hty:=run_eql_iface_types (P:=Tryz.prog) 62 44 (.pointer (some ⟨F,0,none⟩)) (.int .i64 n) Tryz.underlying37 (by decide) w
 go_enter Tryz.func56,Tryz.ntmps56
 go_wp2
 refine wp_loop_rounds 2 ?_
 rw [rounds_succ]
 go_wp2
 rw [rounds_succ]
 go_wp2
 go_ret
 exact ⟨rfl,rfl⟩
end Go.Proofs.YtmdgejgokoadlaaGreatDoor
namespace Go.Proofs.YtmdgejgokoadlaaGreatDoor
open Go.RowKit Go.Shelf
set_option linter.unusedVariables false
theorem ne_isEmpty {α : Type} (l:List α) (h:¬ l=[]):l.isEmpty=false:=by
 cases l with
 | nil =>exact absurd rfl h
 | cons a t =>rfl
set_option maxRecDepth 100000 in
set_option maxHeartbeats 4000000 in
theorem zio (F : Nat) (b l c y : Int) (W : World) (hb : Blk W F (zb4 ⟨b, l, c, y⟩) 80) (hl : 0 ≤ l ∧ l ≤ 1000000) (hc : 0 ≤ c ∧ c ≤ 1000000) (hP : Lib.TabIs Tryz.prog W "internal/strconv.uint64pow10" .u64 Lib.pow10Tab) (hG : 8 < W.heap.size) (hg : W.cell? ⟨4, 0, none⟩ = some (.iface 217 (.agg #[.pointer (some ⟨12, 37, none⟩)]))) (hW : ∀ w, Calls Tryz.prog 92 #[.int .i64 y] w fun e w' => ∃ s : ByteArray, e = .returned (.string s) ∧ s.size ≤ 1000 ∧ Below w.heap.size w w') :
  Calls Tryz.prog 19 #[.iface 62 (.pointer (some ⟨F,0,none⟩)),.agg #[.int .i64 b,.int .i64 l,.int .i64 c],.int .i64 y,.slice none 0 0] W fun e w' =>e=.returned (.tuple #[.pointer (some ⟨F,0,none⟩),.bool true])∧Below W.heap.size W w':=by
 have hmx:Tryz.prog.follows .mixedOrders=true:=by kernel_rfl
 have hF:=hb.lt
 have hsz:((W.alloc (.cells #[.int .i64 b,.int .i64 l,.int .i64 c] 53)).alloc (.cells #[.pointer none] 62)).heap.size=W.heap.size+2:=by simp
 have hB0:Below W.heap.size W ((W.alloc (.cells #[.int .i64 b,.int .i64 l,.int .i64 c] 53)).alloc (.cells #[.pointer none] 62)).drew:=(((Below.refl _ W).alloc (Nat.le_refl _) _).alloc (by simp) _).trans ⟨rfl,rfl,rfl,Nat.le_refl _,fun _ _ =>rfl⟩
 have bA:=((Blk.new W #[.int .i64 b,.int .i64 l,.int .i64 c] 53).alloc (.cells #[.pointer none] 62))
 have bR:=Blk.new (W.alloc (.cells #[.int .i64 b,.int .i64 l,.int .i64 c] 53)) #[.pointer none] 62
 rw [World.size_alloc] at bR
 have hgl:4 < W.heap.size:=zdF hg
 have hA:=as_ref ⟨F,0,none⟩ ⟨W.heap.size+1,0,none⟩ (.pointer none) ((W.alloc (.cells #[.int .i64 b,.int .i64 l,.int .i64 c] 53)).alloc (.cells #[.pointer none] 62)).drew ((hB0.cell (p:=⟨4,0,none⟩) hgl).trans hg) (bR.cell 0) (bR.frozen 0)
 have hA2:Calls Tryz.prog 54 #[.iface 62 (.pointer (some ⟨F,0,none⟩)),.iface 132 (.pointer (some ⟨W.heap.size+1,0,none⟩))] ((W.alloc (.cells #[.int .i64 b,.int .i64 l,.int .i64 c] 53)).alloc (.cells #[.pointer none] 62)).drew fun ev w' =>ev=.returned (.bool true)∧Blk w' W.heap.size #[.int .i64 b,.int .i64 l,.int .i64 c] 53∧Blk w' (W.heap.size+1) #[.pointer (some ⟨F,0,none⟩)] 62∧Below W.heap.size W w':=by
  refine hA.mono ?_
  rintro ev w' ⟨h1,h2⟩
  have bA2:Blk ((W.alloc (.cells #[.int .i64 b,.int .i64 l,.int .i64 c] 53)).alloc (.cells #[.pointer none] 62)).drew W.heap.size #[.int .i64 b,.int .i64 l,.int .i64 c] 53:=bA
  have bR2:Blk ((W.alloc (.cells #[.int .i64 b,.int .i64 l,.int .i64 c] 53)).alloc (.cells #[.pointer none] 62)).drew (W.heap.size+1) #[.pointer none] 62:=bR
  generalize ((W.alloc (.cells #[.int .i64 b,.int .i64 l,.int .i64 c] 53)).alloc (.cells #[.pointer none] 62)).drew=w0 at *
  have hs0:=hB0.size
  subst h2
  refine ⟨h1, ?_, ?_, ?_⟩
  ·exact (((((bA2.alloc _).alloc _).alloc _).alloc _)).kept (zad _ (W.heap.size+1) 0 _) (fun e =>by have:=Option.some.inj e;omega)
  ·exact (((((bR2.alloc _).alloc _).alloc _).alloc _)).set 0 _
  ·exact (((((hB0.alloc hs0 _).alloc (by simp;omega) _).alloc (by simp;omega) _).alloc (by simp;omega) _)).setCell (p:=⟨W.heap.size+1,0,none⟩) (by show W.heap.size≤W.heap.size+1;omega) _
 have HA:=kz hA2
 have HER:=kz (fun (w:World) (hw:Below W.heap.size W w) =>zlo F ⟨b,l,c,y⟩ w (hb.kept (zaF (row:=none) hw) (by simp)) hl hc (zgE (lo:=W.heap.size) (N:=W.heap.size) ⟨hw.os,hw.tape,hw.output,hw.size,fun i hi _ _ =>hw.block i hi⟩ hG (by omega) hP) (by have:=hw.size;omega) hW)
 have HF:=kz (fun (w:World) (hw:Below W.heap.size W w) =>hb.kept (zaF (row:=none) hw) (by simp))
 clear hA hA2 hb hP hg bA bR hB0 hsz hW
 go_enter Tryz.func19,Tryz.ntmps19
 go_wp2_with fail
 go_region_with (first
  | (go_at_call 56;refine (is_ref F y w2 m3).mono ?_;rintro e w3 ⟨rfl,hw3⟩;rw [hw3])
  | (go_at_call 55;refine (oz HER w1 (oz HB1)).mono ?_;rintro e w2 ⟨s,rfl,hs,hb2⟩;have hse:=ne_isEmpty _ hs;have HB2:=kz ((oz HB1).trans (hb2.mono (oz HB1).size));have c2:=(oz HC1).2.below hb2 (oz HC1).2.lt;have n0:w2.cell? ⟨W.heap.size+1,0,none⟩=some (.pointer (some ⟨F,0,none⟩)):=c2.cell 0;have m3:w2.cell? ⟨F,3,none⟩=some (.int .i64 y):=(oz HF w2 (oz HB2)).cell 3;clear hb2)
  | (go_at_call 54;refine (oz HA).mono ?_;rintro e w1 ⟨rfl,ba1,br1,hb1⟩;have HB1:=kz hb1;have HC1:=kz (And.intro ba1 br1);have v0:=br1.cell 0;have u0:=ba1.cell 0;have u1:=ba1.cell 1;have u2:=ba1.cell 2;have p0:w1.cell? ⟨F,0,none⟩=some (.int .i64 b):=(oz HF w1 hb1).cell 0;have p1:w1.cell? ⟨F,1,none⟩=some (.int .i64 l):=(oz HF w1 hb1).cell 1;have p2:w1.cell? ⟨F,2,none⟩=some (.int .i64 c):=(oz HF w1 hb1).cell 2;have p3:w1.cell? ⟨F,3,none⟩=some (.int .i64 y):=(oz HF w1 hb1).cell 3;clear ba1 br1 hb1))
 all_goals
  clear v0 u0 u1 u2 p0 p1 p2 p3
  go_wp2_with fail
  refine wp_loop_rounds 1 ?_
  rw [rounds_succ]
  go_wp2_with fail
  exact bodyPost_ret (v := .tuple #[.pointer (some ⟨F,0,none⟩),.bool true]) (by simp [results,Tryz.results19,go_sem]) rfl ⟨rfl,oz HB2⟩
end Go.Proofs.YtmdgejgokoadlaaGreatDoor
namespace Go.Proofs.YtmdgejgokoadlaaGreatDoor
open Go.RowKit Go.Shelf Go.Maps
set_option linter.unusedVariables false
def zce:Value→Option (DataW Unit × List MemPlace)
 | .func (.func f) a b =>if (a.isEmpty && b.isEmpty)=true then some (.lit (.int .i64 (f:Int)),[]) else none
 | .nilFunc =>some (.lit (.int .i64 (-1)),[])
 | _ =>none
theorem zbJ {v:Value} {f:Nat} {ps:List MemPlace} (h:zce v=some (.lit (.int .i64 (f:Int)),ps)):v=.func (.func f) #[] #[]:=by
 match v,h with
 | .func (.func g) a b,h =>
  simp only [zce] at h
  by_cases hab:(a.isEmpty && b.isEmpty)=true
  ·rw [if_pos hab] at h
   simp only [Bool.and_eq_true,Array.isEmpty_iff] at hab
   obtain ⟨rfl,rfl⟩:=hab
   injection h with h
   injection h with h1 h2
   injection h1 with h1
   injection h1 with h3 h4
   have h5:g=f:=Int.ofNat.inj h4
   rw [h5]
  ·rw [if_neg hab] at h
   cases h
 | .nilFunc,h =>
  simp only [zce] at h
  injection h with h
  injection h with h1 h2
  injection h1 with h1
  injection h1 with h3 h4
  omega
theorem fnElem_nil {v:Value} {ps:List MemPlace} (h:zce v=some (.lit (.int .i64 (-1)),ps)):v=.nilFunc:=by
 match v,h with
 | .func (.func g) a b,h =>
  simp only [zce] at h
  by_cases hab:(a.isEmpty && b.isEmpty)=true
  ·rw [if_pos hab] at h
   injection h with h
   injection h with h1 h2
   injection h1 with h1
   injection h1 with h3 h4
   omega
  ·rw [if_neg hab] at h
   cases h
 | .nilFunc,h =>rfl
def rdD:DataW Unit:=(((((((((DataW.map [] : DataW Unit).put (.string [115,99,114,105,112,116]) (.lit (.int .i64 111))).put (.string [99,111,109,109,111,110]) (.lit (.int .i64 112))).put (.string [109,97,114,107]) (.lit (.int .i64 113))).put (.string [112,97,105,114]) (.lit (.int .i64 114))).put (.string [102,111,108,100]) (.lit (.int .i64 115))).put (.string [108,111,111,107]) (.lit (.int .i64 116))).put (.string [100,114,111,112]) (.lit (.int .i64 117))).put (.string [97,108,108,111,119]) (.lit (.int .i64 118)))
def zfs (S:ByteArray):Option Nat :=
 if S=⟨#[115,99,114,105,112,116]⟩ then some 111 else
 if S=⟨#[99,111,109,109,111,110]⟩ then some 112 else
 if S=⟨#[109,97,114,107]⟩ then some 113 else
 if S=⟨#[112,97,105,114]⟩ then some 114 else
 if S=⟨#[102,111,108,100]⟩ then some 115 else
 if S=⟨#[108,111,111,107]⟩ then some 116 else
 if S=⟨#[100,114,111,112]⟩ then some 117 else
 if S=⟨#[97,108,108,111,119]⟩ then some 118 else
 none
theorem zeroF (w:World):(zeroValue 144).run Tryz.prog w=.ok .nilFunc w:=by kernel_rfl
theorem zcw {S:ByteArray} {T:ByteArray} (h:S≠T):Lit.string S.data.toList≠Lit.string T.data.toList:=by
 intro e
 apply h
 injection e with e
 apply ByteArray.ext
 exact Array.toList_inj.1 e
theorem rd_look {W:World} {B:Nat} (h:W.ownsMap Tryz.prog 9 zce B 8 rdD) (S:ByteArray) (hs:S.size≤262144) :
  (Instr.lookup 142 (.map (some B)) (.string S) true).run Tryz.prog W=match zfs S with
   | some f =>.ok (.tuple #[.func (.func f) #[] #[],.bool true]) W
   | none =>.ok (.tuple #[.nilFunc,.bool false]) W:=by
 obtain ⟨v,ps,hrun,hv⟩:=h.look_ok (string_keyed Tryz.underlying9) Tryz.underlying142 (zeroF W) (show zce .nilFunc=some (.lit (.int .i64 (-1)),[]) from rfl) (Go.WideMaps.keyOf_string_mk Tryz.underlying9 (s:=S) (by unfold maxLen;omega))
 rw [hrun]
 unfold zfs
 by_cases h_script:S=⟨#[115,99,114,105,112,116]⟩
 ·subst h_script
  rw [if_pos rfl]
  obtain rfl:=zbJ (f:=111) (ps:=ps) hv
  rfl
 rw [if_neg h_script]
 by_cases h_common:S=⟨#[99,111,109,109,111,110]⟩
 ·subst h_common
  rw [if_pos rfl]
  obtain rfl:=zbJ (f:=112) (ps:=ps) hv
  rfl
 rw [if_neg h_common]
 by_cases h_mark:S=⟨#[109,97,114,107]⟩
 ·subst h_mark
  rw [if_pos rfl]
  obtain rfl:=zbJ (f:=113) (ps:=ps) hv
  rfl
 rw [if_neg h_mark]
 by_cases h_pair:S=⟨#[112,97,105,114]⟩
 ·subst h_pair
  rw [if_pos rfl]
  obtain rfl:=zbJ (f:=114) (ps:=ps) hv
  rfl
 rw [if_neg h_pair]
 by_cases h_fold:S=⟨#[102,111,108,100]⟩
 ·subst h_fold
  rw [if_pos rfl]
  obtain rfl:=zbJ (f:=115) (ps:=ps) hv
  rfl
 rw [if_neg h_fold]
 by_cases h_look:S=⟨#[108,111,111,107]⟩
 ·subst h_look
  rw [if_pos rfl]
  obtain rfl:=zbJ (f:=116) (ps:=ps) hv
  rfl
 rw [if_neg h_look]
 by_cases h_drop:S=⟨#[100,114,111,112]⟩
 ·subst h_drop
  rw [if_pos rfl]
  obtain rfl:=zbJ (f:=117) (ps:=ps) hv
  rfl
 rw [if_neg h_drop]
 by_cases h_allow:S=⟨#[97,108,108,111,119]⟩
 ·subst h_allow
  rw [if_pos rfl]
  obtain rfl:=zbJ (f:=118) (ps:=ps) hv
  rfl
 rw [if_neg h_allow]
 have hn:∀ z,rdD.atKey (.string S.data.toList) z=z∧Maps.has rdD (.string S.data.toList)=false:=by
  intro z
  unfold rdD
  rw [atKey_put_other (zcw h_allow),atKey_put_other (zcw h_drop),atKey_put_other (zcw h_look),atKey_put_other (zcw h_fold),atKey_put_other (zcw h_pair),atKey_put_other (zcw h_mark),atKey_put_other (zcw h_common),atKey_put_other (zcw h_script),has_put_other (zcw h_allow),has_put_other (zcw h_drop),has_put_other (zcw h_look),has_put_other (zcw h_fold),has_put_other (zcw h_pair),has_put_other (zcw h_mark),has_put_other (zcw h_common),has_put_other (zcw h_script)]
  exact ⟨rfl,rfl⟩
 rw [(hn _).1] at hv
 obtain rfl:=fnElem_nil hv
 rw [(hn (.lit (.int .i64 (-1)))).2]
theorem zaN {H:Type} {P:Program} (w:World) {ops:Array Oper} {rest:List Oper} {o:Oper} {a:Act} {Q:Exit→Act→World→Prop}
  (hg:o.guard=none) (m x v:Operand) (t:TypeId) (hop:o.op=Op.insert t m x v)
  (k e:TypeId) (K:Keyed P k) (ht:P.underlying t=some (.map k e)) (R:Value→Option (DataW H × List MemPlace)) (b n:Nat) (D:DataW H)
  (hm:a.eval m=.map (some b)) (hown:w.ownsMap P k R b n D) (hn:n < maxLen) (key val:Value) (kl:Lit) (hx:a.eval x=key) (hv:a.eval v=val) (hkey:keyOf P k key=some kl)
  (d:DataW H) (ps:List MemPlace) (hval:R val=some (d,ps))
  (hK:∀ w',w'.ownsMap P k R b (n+1) (D.put kl d)→w.grownBy w' (some b)→wpList P ops Q rest (a.put o.dst undef) w') :
  wpList P ops Q (o::rest) a w:=by
 refine wpList_plain hg fun K' hK' =>?_
 obtain ⟨w',hrun,r1,r2⟩:=hown.update K ht hn hkey hval
 unfold Oper.wp
 simp [execOp,hop,hm,hx,hv,hrun,Result.andThen]
 exact hK' _ _ (hK w' r1 r2)
theorem zbH {W W1 W2:World} (h:W.grownBy W1 none) (hg:W1.grownBy W2 (some W.heap.size)):W.grownBy W2 none :=
 ⟨hg.os.trans h.os,hg.tape.trans h.tape,hg.output.trans h.output,Nat.le_trans h.size hg.size,fun i hi _ =>(hg.block i (by have:=h.size;omega) (fun e =>by have:=Option.some.inj e;omega)).trans (h.block i hi (by simp))⟩
set_option maxRecDepth 100000 in
set_option maxHeartbeats 4000000 in
theorem zjn (W:World):Calls Tryz.prog 62 #[] W fun e w' => ∃ B,e=.returned (.map (some B))∧w'.ownsMap Tryz.prog 9 zce B 8 rdD∧W.heap.size≤B∧W.grownBy w' none:=by
 have hmm:=@run_makeMap Tryz.prog
 have h0:(W.alloc (.map #[] 0)).ownsMap Tryz.prog 9 zce W.heap.size 0 (.map []):=World.ownsMap_made _ _ _ _
 have HG0:=kz (World.grownBy_alloc W (.map #[] 0) none)
 have H0:=kz h0
 clear h0
 go_enter Tryz.func62,Tryz.ntmps62
 go_wp2_with (refine zaN _ (by rfl) _ _ _ 142 (by rfl) 9 144 (string_keyed Tryz.underlying9) Tryz.underlying142 zce W.heap.size 0 _ (by rfl) (oz H0) (by unfold maxLen;omega) (.string ⟨#[115,99,114,105,112,116]⟩) (.func (.func 111) #[] #[]) _ (by rfl) (by rfl) (Go.WideMaps.keyOf_string_mk Tryz.underlying9 (s:=⟨#[115,99,114,105,112,116]⟩) (by unfold maxLen;decide)) (.lit (.int .i64 111)) [] rfl ?_)
 intro w1 hown1 hgr1
 have H1:=kz hown1
 have HG1:=kz (zbH (oz HG0) hgr1)
 clear hown1 hgr1 H0 HG0
 go_wp2_with (refine zaN _ (by rfl) _ _ _ 142 (by rfl) 9 144 (string_keyed Tryz.underlying9) Tryz.underlying142 zce W.heap.size 1 _ (by rfl) (oz H1) (by unfold maxLen;omega) (.string ⟨#[99,111,109,109,111,110]⟩) (.func (.func 112) #[] #[]) _ (by rfl) (by rfl) (Go.WideMaps.keyOf_string_mk Tryz.underlying9 (s:=⟨#[99,111,109,109,111,110]⟩) (by unfold maxLen;decide)) (.lit (.int .i64 112)) [] rfl ?_)
 intro w2 hown2 hgr2
 have H2:=kz hown2
 have HG2:=kz (zbH (oz HG1) hgr2)
 clear hown2 hgr2 H1 HG1
 go_wp2_with (refine zaN _ (by rfl) _ _ _ 142 (by rfl) 9 144 (string_keyed Tryz.underlying9) Tryz.underlying142 zce W.heap.size 2 _ (by rfl) (oz H2) (by unfold maxLen;omega) (.string ⟨#[109,97,114,107]⟩) (.func (.func 113) #[] #[]) _ (by rfl) (by rfl) (Go.WideMaps.keyOf_string_mk Tryz.underlying9 (s:=⟨#[109,97,114,107]⟩) (by unfold maxLen;decide)) (.lit (.int .i64 113)) [] rfl ?_)
 intro w3 hown3 hgr3
 have H3:=kz hown3
 have HG3:=kz (zbH (oz HG2) hgr3)
 clear hown3 hgr3 H2 HG2
 go_wp2_with (refine zaN _ (by rfl) _ _ _ 142 (by rfl) 9 144 (string_keyed Tryz.underlying9) Tryz.underlying142 zce W.heap.size 3 _ (by rfl) (oz H3) (by unfold maxLen;omega) (.string ⟨#[112,97,105,114]⟩) (.func (.func 114) #[] #[]) _ (by rfl) (by rfl) (Go.WideMaps.keyOf_string_mk Tryz.underlying9 (s:=⟨#[112,97,105,114]⟩) (by unfold maxLen;decide)) (.lit (.int .i64 114)) [] rfl ?_)
 intro w4 hown4 hgr4
 have H4:=kz hown4
 have HG4:=kz (zbH (oz HG3) hgr4)
 clear hown4 hgr4 H3 HG3
 go_wp2_with (refine zaN _ (by rfl) _ _ _ 142 (by rfl) 9 144 (string_keyed Tryz.underlying9) Tryz.underlying142 zce W.heap.size 4 _ (by rfl) (oz H4) (by unfold maxLen;omega) (.string ⟨#[102,111,108,100]⟩) (.func (.func 115) #[] #[]) _ (by rfl) (by rfl) (Go.WideMaps.keyOf_string_mk Tryz.underlying9 (s:=⟨#[102,111,108,100]⟩) (by unfold maxLen;decide)) (.lit (.int .i64 115)) [] rfl ?_)
 intro w5 hown5 hgr5
 have H5:=kz hown5
 have HG5:=kz (zbH (oz HG4) hgr5)
 clear hown5 hgr5 H4 HG4
 go_wp2_with (refine zaN _ (by rfl) _ _ _ 142 (by rfl) 9 144 (string_keyed Tryz.underlying9) Tryz.underlying142 zce W.heap.size 5 _ (by rfl) (oz H5) (by unfold maxLen;omega) (.string ⟨#[108,111,111,107]⟩) (.func (.func 116) #[] #[]) _ (by rfl) (by rfl) (Go.WideMaps.keyOf_string_mk Tryz.underlying9 (s:=⟨#[108,111,111,107]⟩) (by unfold maxLen;decide)) (.lit (.int .i64 116)) [] rfl ?_)
 intro w6 hown6 hgr6
 have H6:=kz hown6
 have HG6:=kz (zbH (oz HG5) hgr6)
 clear hown6 hgr6 H5 HG5
 go_wp2_with (refine zaN _ (by rfl) _ _ _ 142 (by rfl) 9 144 (string_keyed Tryz.underlying9) Tryz.underlying142 zce W.heap.size 6 _ (by rfl) (oz H6) (by unfold maxLen;omega) (.string ⟨#[100,114,111,112]⟩) (.func (.func 117) #[] #[]) _ (by rfl) (by rfl) (Go.WideMaps.keyOf_string_mk Tryz.underlying9 (s:=⟨#[100,114,111,112]⟩) (by unfold maxLen;decide)) (.lit (.int .i64 117)) [] rfl ?_)
 intro w7 hown7 hgr7
 have H7:=kz hown7
 have HG7:=kz (zbH (oz HG6) hgr7)
 clear hown7 hgr7 H6 HG6
 go_wp2_with (refine zaN _ (by rfl) _ _ _ 142 (by rfl) 9 144 (string_keyed Tryz.underlying9) Tryz.underlying142 zce W.heap.size 7 _ (by rfl) (oz H7) (by unfold maxLen;omega) (.string ⟨#[97,108,108,111,119]⟩) (.func (.func 118) #[] #[]) _ (by rfl) (by rfl) (Go.WideMaps.keyOf_string_mk Tryz.underlying9 (s:=⟨#[97,108,108,111,119]⟩) (by unfold maxLen;decide)) (.lit (.int .i64 118)) [] rfl ?_)
 intro w8 hown8 hgr8
 have H8:=kz hown8
 have HG8:=kz (zbH (oz HG7) hgr8)
 clear hown8 hgr8 H7 HG7
 go_wp2_with fail
 go_ret
 exact ⟨_,rfl,oz H8,Nat.le_refl _,oz HG8⟩
end Go.Proofs.YtmdgejgokoadlaaGreatDoor
namespace Go.Proofs.YtmdgejgokoadlaaGreatDoor
open Go.RowKit Go.Shelf
set_option linter.unusedVariables false
set_option maxRecDepth 100000 in
set_option maxHeartbeats 4000000 in
theorem look_any (R Tx g lo:Nat) (ws:List W8) (k:Nat) (bad:Option Rf) (eb el ec fb fl fc:Int) (vs:List Value) (ls:List Ln) (n1 n2:Nat) (xs1 xs2:List Value) (hl1:ls[5]?=some ⟨75,2,n1,xs1⟩) (hl2:ls[8+6]?=some ⟨53,3,n2,xs2⟩) (hn1:n1≤1000000) (hn2:n2≤1000000) (W0 W:World) (h:RuSt W0 W R Tx g lo ws k bad eb el ec vs ls) :
  Calls Tryz.prog 116 #[.pointer (some ⟨R,0,none⟩),.agg #[.int .i64 fb,.int .i64 fl,.int .i64 fc]] W fun e w' =>(∃ r,e=.returned r)∧∃ va vb,RuSt W0 w' R Tx g lo ws (zcc ws k bad eb el ec).k (zcc ws k bad eb el ec).bad eb el ec ((vs.set 5 va).set (8+6) vb) ((ls.set 5 ⟨75,2,n1+1,xs1++[.int .i32 (zcc ws k bad eb el ec).fr,.string (runesBytes (zcc ws k bad eb el ec).tw)]⟩).set (8+6) ⟨53,3,n2+1,xs2++[.int .i64 fb,.int .i64 fl,.int .i64 fc]⟩):=by
 have hNR:R < W.heap.size:=Nat.lt_of_lt_of_le h.hR h.low
 have HLo:=kz h.low
 have HM:=kz (fun (w:World) =>ziz R Tx g ws k bad eb el ec _ rfl w)
 generalize zcc ws k bad eb el ec=V at *
 obtain ⟨fr,tw,k2,bad2⟩:=V
 dsimp only at HM
 dsimp only
 generalize runesBytes tw=tob at *
 obtain ⟨im,him,hm0,hm1,hm2⟩:=info_parts zge
 have HIM:=kz (And.intro him (And.intro hm0 (And.intro hm1 hm2)))
 clear him hm0 hm1 hm2
 have hmx:Tryz.prog.follows .mixedOrders=true:=by kernel_rfl
 have H:=kz (h.alloc (.cells #[.int .i64 fb,.int .i64 fl,.int .i64 fc] 53))
 have HX:=kz (Blk.new W #[.int .i64 fb,.int .i64 fl,.int .i64 fc] 53)
 clear h
 go_enter Tryz.func116,Tryz.ntmps116
 go_wp2_with fail
 generalize W.alloc (.cells #[.int .i64 fb,.int .i64 fl,.int .i64 fc] 53)=WA at *
 generalize W.heap.size=N at *
 obtain ⟨v,hv⟩:∃ v,vs[5]?=some v:=⟨_,List.getElem?_eq_getElem (by have:=(oz H).tb.lv;omega)⟩
 have how:=(oz H).tb.own _ _ _ hv hl1
 obtain ⟨va,vc,rfl⟩:=zab how
 have hg0:∀ b,Value.ownBlock (.slice va n1 vc)=some b→lo≤b:=zam how
 obtain ⟨ra,rc,rv,hrb,_,_,_⟩:=(oz H).rd.rd.blk
 have c1:WA.cell? ⟨R,1,none⟩=some (.pointer (some ⟨Tx,0,none⟩)):=hrb.cell 1
 have t0:=(oz H).tb.cell (by omega) hv
 have hTl:=(oz H).tb.lt
 have hRl:=(oz H).hR
 have hl3:=(oz H).low
 have hltR:R < WA.heap.size:=by omega
 have hltT:Tx < WA.heap.size:=by omega
 clear hrb
 go_region_law (first
  | (refine step_append_lies _ (by rfl) _ _ _ (by rfl) lo 75 im (.agg #[.int .i32 0,.string ⟨#[]⟩]) 2 24 Tryz.underlying31 (oz HIM).1 (oz HIM).2.1 (oz HIM).2.2.1 (oz HIM).2.2.2 rfl (by omega) _ n1 xs1 (by rfl) (((oz H2).tb.own _ _ _ hv hl1).alloc _) ⟨w2.heap.size,0,none⟩ 1 1 [.int .i32 fr,.string tob] (by rfl) (by rfl) (World.news_of_block (cs:=#[.int .i32 fr,.string tob]) (t:=75) (fr:=(0,0)) (heap_alloc_new w2 _)) (by simp [Value.oneCell']) (by omega) (by unfold maxLen;omega) (by omega) (by simp;omega) (w2.heap.size+1) (by simp) ?_;intro gg cap w4 hown1 hgrow hatt hlt;have q1:w4.cell? ⟨Tx,5,none⟩=some (.slice va n1 vc):=hgrow.cell (a:=⟨Tx,5,none⟩) t2 (by show some Tx≠Value.ownBlock (.slice va n1 vc);intro e;have:=hg0 Tx e.symm;omega);have q2:w4.frozen? ⟨Tx,5,none⟩=false:=(Blk.kept ((oz H2).alloc (.cells #[.int .i32 fr,.string tob] 75)).tb.blk hgrow (fun e =>by have:=hg0 Tx e.symm;omega)).frozen 5;have q3:w4.cell? ⟨R,1,none⟩=some (.pointer (some ⟨Tx,0,none⟩)):=hgrow.cell (a:=⟨R,1,none⟩) ca2 (by show some R≠Value.ownBlock (.slice va n1 vc);intro e;have:=hg0 R e.symm;omega))
  | (go_simp;refine (oz HM _ (oz H).rd.drew).mono ?_;rintro e w2 ⟨rfl,hR2,hg2⟩;have H2:=kz ((oz H).call hR2 ⟨hg2.os,hg2.tape,hg2.output,hg2.size,hg2.block⟩);have HX2:=kz ((oz HX).kept (W':=w2) ⟨hg2.os,hg2.tape,hg2.output,hg2.size,hg2.block⟩ (fun e =>by have:=Option.some.inj e;omega));have hb2:=(oz H2).rd.rd.blk;obtain ⟨ra2,rc2,rv2,hrb2,_,_,_⟩:=hb2;have c2:w2.cell? ⟨R,1,none⟩=some (.pointer (some ⟨Tx,0,none⟩)):=hrb2.cell 1;have ca2:=(hrb2.alloc (.cells #[.int .i32 fr,.string tob] 75)).cell 1;have t1:=(oz H2).tb.cell (by omega) hv;have t2:=((oz H2).alloc (.cells #[.int .i32 fr,.string tob] 75)).tb.cell (by omega) hv;have hl2':=(oz H2).low;have hltR2:R < w2.heap.size:=(by omega);have hltT2:Tx < w2.heap.size:=(by omega);clear hrb2 hR2 hg2))
 all_goals
  have hNx:some N≠Value.ownBlock (.slice va n1 vc):=zbK (oz HX2) ((oz H2).tb.own _ _ _ hv hl1) (show (75:Nat)≠53 by decide)
  have H4:=kz (((oz H2).alloc (.cells #[.int .i32 fr,.string tob] 75)).put (W1:=w4) (by omega) hv hl1 (show (75:Nat)≠80 by decide) hown1 ⟨hgrow.os,hgrow.tape,hgrow.output,hgrow.size,hgrow.block⟩ (by rcases hatt with e | e;exact .inl e.symm;exact .inr (by rw [e];simp [Value.ownBlock])))
  have hx5:=(Blk.kept (W:=(w2.alloc (.cells #[.int .i32 fr,.string tob] 75))) ((oz HX2).alloc _) hgrow hNx).kept (zad w4 Tx 5 (.slice (some ⟨gg,0,none⟩) (n1+1) cap)) (fun e =>by have:=Option.some.inj e;have:=oz HLo;omega)
  clear hgrow hown1 hatt hlt q1 q2 q3 H2 HX2 how c1 t0 ca2 t1 t2 c2
  generalize w4.setCell ⟨Tx,5,none⟩ (.slice (some ⟨gg,0,none⟩) (n1+1) cap)=w5 at *
  have x0:=hx5.cell 0
  have x1:=hx5.cell 1
  have x2:=hx5.cell 2
  clear hx5
  have HP:=kz (Blk.new w5 #[.int .i64 fb,.int .i64 fl,.int .i64 fc] 53)
  go_wp2_with fail
  refine (zdX W0 R Tx g lo ws k2 bad2 eb el ec _ _ 6 (by omega) n2 xs2 (by rw [List.getElem?_set_ne (by decide)];exact hl2) _ 1 1 [.int .i64 fb,.int .i64 fl,.int .i64 fc] (by omega) _ ((oz H4).alloc _) (.inr ⟨_,rfl,by decide,rfl,World.news_of_block (cs:=#[.int .i64 fb,.int .i64 fl,.int .i64 fc]) (t:=53) (fr:=(0,0)) (heap_alloc_new w5 _),by simp [Value.oneCell']⟩)).mono ?_
  rintro e w6 ⟨⟨r,rfl⟩,vb,hfin⟩
  go_wp2_with fail
  go_end0
  exact ⟨⟨_,rfl⟩,_,vb,hfin⟩
end Go.Proofs.YtmdgejgokoadlaaGreatDoor
