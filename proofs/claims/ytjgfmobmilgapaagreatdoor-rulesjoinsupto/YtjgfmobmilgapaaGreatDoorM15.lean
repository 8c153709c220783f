/- Texts of this claim, one behind the other. -/
import Derived.Test.YtjgfmobmilgapaaGreatDoorM5
import Derived.Test.YtjgfmobmilgapaaGreatDoorM14
import Derived.Test.YtjgfmobmilgapaaGreatDoorM3
import Derived.Deep.RegionHeld3
import Derived.Laws.Concat
import Derived.Test.YtjgfmobmilgapaaGreatDoorM1
import Derived.WalkKit
import Derived.LaidEql
import Derived.Stop.Asserts
import Derived.RowKitTokens
import Derived.Laws.StructEq
import Derived.Deep.RegionWith
/- Refusals of the rules: their words. -/
namespace Go.Proofs.YtjgfmobmilgapaaGreatDoor
open Go.RowKit Go.Shelf
set_option linter.unusedVariables false
theorem find_zero (Tx : Nat) (l r : Int) (W : World) : Calls Tryz.prog 30 #[.pointer (some ⟨Tx, 0, none⟩), .agg #[.int .i64 0, .int .i64 l, .int .i64 r]] W fun e w' => e = .returned .nilIface ∧ Below W.heap.size W w' := by
  go_enter Tryz.func30, Tryz.ntmps30
  go_wp2_with fail
  go_ret
  exact ⟨rfl, (Below.refl _ W).alloc (Nat.le_refl _) _⟩
theorem conv1 (W : World) (x : Int) : (convert 91 9 (.slice (some ⟨W.heap.size, 0, none⟩) 1 1)).run Tryz.prog (W.alloc (.cells #[.int .u8 x] 5)) = .ok (.string ⟨#[UInt8.ofNat x.toNat]⟩) (W.alloc (.cells #[.int .u8 x] 5)) := by
  rw [run_convert_bytes_string _ _ _ _ _ _ _ Tryz.underlying91 Tryz.underlying5 Tryz.underlying9]
  rw [run_bytesToString _ _ 1 1 [x] (by
    rw [run_loadCells _ _ 1 (fun _ => .int .u8 x) (fun j hj => by
      obtain rfl : j = 0 := by omega
      exact (Blk.new W #[.int .u8 x] 5).cell 0)]
    rfl)]
  rfl
set_option maxRecDepth 100000 in
set_option maxHeartbeats 4000000 in
theorem errno_5 (W : World) : Calls Tryz.prog 93 #[.int .i64 5] W fun e w' => ∃ s : ByteArray, e = .returned (.string s) ∧ s.size ≤ 1000 ∧ Below W.heap.size W w' := by
  have hcv := conv1 W 53
  go_enter Tryz.func93, Tryz.ntmps93
  go_wp2_with fail
  refine wp_loop_rounds 2 ?_
  rw [rounds_succ]
  go_wp2_with fail
  rw [rounds_succ]
  go_wp2_with fail
  go_ret
  exact ⟨_, rfl, by decide, (Below.refl _ W).alloc (Nat.le_refl _) _⟩
set_option maxRecDepth 100000 in
set_option maxHeartbeats 4000000 in
theorem referr_any (F : Nat) (x : Rf) (W : World) (hb : Blk W F (rfCells x) 54) (hl : 0 ≤ x.l ∧ x.l ≤ 1000000) (hc : 0 ≤ x.c ∧ x.c ≤ 1000000) (hP : Lib.TabIs Tryz.prog W "internal/strconv.uint64pow10" .u64 Lib.pow10Tab) (hG : 8 < W.heap.size) (hW : ∀ w, Calls Tryz.prog 93 #[.int .i64 x.why] w fun e w' => ∃ s : ByteArray, e = .returned (.string s) ∧ s.size ≤ 1000 ∧ Below w.heap.size w w') :
    Calls Tryz.prog 53 #[.pointer (some ⟨F, 0, none⟩)] W fun e w' => ∃ s : ByteArray, e = .returned (.string s) ∧ ¬ s.toList = [] ∧ Below W.heap.size W w' := by
  have hmx : Tryz.prog.follows .mixedOrders = true := by kernel_rfl
  obtain ⟨xb, xl, xc, xw⟩ := x
  dsimp only at hl hc hW
  have hF := hb.lt
  have k1 : W.drew.cell? ⟨F, 1, none⟩ = some (.int .i64 xl) := hb.cell 1
  have HTF : Hz (∀ w : World, Below W.heap.size W w → Lib.TabIs Tryz.prog w "internal/strconv.uint64pow10" .u64 Lib.pow10Tab) := hide (fun w h => tab_fr (lo := W.heap.size) (N := W.heap.size) ⟨h.os, h.tape, h.output, h.size, fun i hi _ _ => h.block i hi⟩ hG (by omega) hP)
  have HB := hide hb
  have HWY := hide hW
  clear hb hW hP
  go_enter Tryz.func53, Tryz.ntmps53
  have HBB : Hz (Below W.heap.size W W.drew) := hide ⟨rfl, rfl, rfl, Nat.le_refl _, fun _ _ => rfl⟩
  have k2 : W.drew.cell? ⟨F, 2, none⟩ = some (.int .i64 xc) := (unhide HB).cell 2
  have k3 : W.drew.cell? ⟨F, 3, none⟩ = some (.int .i64 xw) := (unhide HB).cell 3
  have HS1 := hide (itoaB_size xl (by omega) (by omega))
  have HS2 := hide (itoaB_size xc (by omega) (by omega))
  have HI := hide (fun (n : Int) (h0 : 0 ≤ n ∧ n ≤ 1000000) (w : World) => itoa_any n (by omega) (by omega) w)
  obtain ⟨s1, hs1⟩ : ∃ s1, s1 = itoaB xl := ⟨_, rfl⟩
  obtain ⟨s2, hs2⟩ : ∃ s2, s2 = itoaB xc := ⟨_, rfl⟩
  rw [← hs1] at HS1
  rw [← hs2] at HS2
  have z1 : s1.size ≤ 1000 := unhide HS1
  have z2 : s2.size ≤ 1000 := unhide HS2
  have HE1 := hide hs1
  have HE2 := hide hs2
  clear hs1 hs2
  have l1 : (⟨#[108, 105, 110, 101, 32]⟩ : ByteArray).size = 5 := rfl
  have l2 : (⟨#[44, 32, 99, 111, 108, 117, 109, 110, 32]⟩ : ByteArray).size = 9 := rfl
  have l3 : (⟨#[58, 32]⟩ : ByteArray).size = 2 := rfl
  have q1 : ∀ w : World, (Op.stringOp .add (⟨#[108, 105, 110, 101, 32]⟩ : ByteArray) s1).run Tryz.prog w = .ok (.string ((⟨#[108, 105, 110, 101, 32]⟩ : ByteArray) ++ s1)) w := fun w => run_string_add_sum w _ _ (by (try simp only [ByteArray.size_append]); omega)
  have q2 : ∀ w : World, (Op.stringOp .add ((⟨#[108, 105, 110, 101, 32]⟩ : ByteArray) ++ s1) ⟨#[44, 32, 99, 111, 108, 117, 109, 110, 32]⟩).run Tryz.prog w = .ok (.string (((⟨#[108, 105, 110, 101, 32]⟩ : ByteArray) ++ s1) ++ ⟨#[44, 32, 99, 111, 108, 117, 109, 110, 32]⟩)) w := fun w => run_string_add_sum w _ _ (by (try simp only [ByteArray.size_append]); omega)
  have q3 : ∀ w : World, (Op.stringOp .add (((⟨#[108, 105, 110, 101, 32]⟩ : ByteArray) ++ s1) ++ ⟨#[44, 32, 99, 111, 108, 117, 109, 110, 32]⟩) s2).run Tryz.prog w = .ok (.string ((((⟨#[108, 105, 110, 101, 32]⟩ : ByteArray) ++ s1) ++ ⟨#[44, 32, 99, 111, 108, 117, 109, 110, 32]⟩) ++ s2)) w := fun w => run_string_add_sum w _ _ (by (try simp only [ByteArray.size_append]); omega)
  have q4 : ∀ w : World, (Op.stringOp .add ((((⟨#[108, 105, 110, 101, 32]⟩ : ByteArray) ++ s1) ++ ⟨#[44, 32, 99, 111, 108, 117, 109, 110, 32]⟩) ++ s2) ⟨#[58, 32]⟩).run Tryz.prog w = .ok (.string (((((⟨#[108, 105, 110, 101, 32]⟩ : ByteArray) ++ s1) ++ ⟨#[44, 32, 99, 111, 108, 117, 109, 110, 32]⟩) ++ s2) ++ ⟨#[58, 32]⟩)) w := fun w => run_string_add_sum w _ _ (by (try simp only [ByteArray.size_append]); omega)
  have HQ5 := hide (fun (s3 : ByteArray) (z3 : s3.size ≤ 1000) (w : World) => run_string_add_sum (P := Tryz.prog) w (((((⟨#[108, 105, 110, 101, 32]⟩ : ByteArray) ++ s1) ++ ⟨#[44, 32, 99, 111, 108, 117, 109, 110, 32]⟩) ++ s2) ++ ⟨#[58, 32]⟩) s3 (by simp only [ByteArray.size_append]; omega))
  clear l1 l2 l3
  go_wp2_with fail
  go_region_held3 (fun w' => w'.cell? ⟨F, 1, none⟩ = some (.int .i64 xl) ∧ w'.cell? ⟨F, 2, none⟩ = some (.int .i64 xc) ∧ w'.cell? ⟨F, 3, none⟩ = some (.int .i64 xw)) (first | with_reducible exact ⟨m31, m32, m33⟩ | with_reducible exact ⟨m21, m22, m23⟩ | with_reducible exact ⟨m11, m12, m13⟩ | with_reducible exact ⟨k1, k2, k3⟩)
    (first
    | (go_at_call 93; refine (unhide HWY w2).mono ?_; rintro e w3 ⟨s3, rfl, z3, hb3⟩; have q5 := unhide HQ5 s3 z3; have HB3 := hide ((unhide HB2).trans (hb3.mono (unhide HB2).size)); have m31 := ((unhide HB3).cell (p := ⟨F, 1, none⟩) hF).trans k1; have m32 := ((unhide HB3).cell (p := ⟨F, 2, none⟩) hF).trans k2; have m33 := ((unhide HB3).cell (p := ⟨F, 3, none⟩) hF).trans k3; clear hb3)
    | (go_at_call 60; refine (unhide HI xc hc w1 (unhide HTF w1 (unhide HB1))).mono ?_; rw [← unhide HE2]; rintro e w2 ⟨rfl, hb2⟩; have HB2 := hide ((unhide HB1).trans (hb2.mono (unhide HB1).size)); have m21 := ((unhide HB2).cell (p := ⟨F, 1, none⟩) hF).trans k1; have m22 := ((unhide HB2).cell (p := ⟨F, 2, none⟩) hF).trans k2; have m23 := ((unhide HB2).cell (p := ⟨F, 3, none⟩) hF).trans k3; clear hb2)
    | (go_at_call 60; refine (unhide HI xl hl W.drew (unhide HTF W.drew (unhide HBB))).mono ?_; rw [← unhide HE1]; rintro e w1 ⟨rfl, hb1⟩; have HB1 := hide ((unhide HBB).trans (hb1.mono (unhide HBB).size)); have m11 := ((unhide HB1).cell (p := ⟨F, 1, none⟩) hF).trans k1; have m12 := ((unhide HB1).cell (p := ⟨F, 2, none⟩) hF).trans k2; have m13 := ((unhide HB1).cell (p := ⟨F, 3, none⟩) hF).trans k3; clear hb1))
  all_goals
    go_wp2_with fail
    go_ret
    exact ⟨_, rfl, toList_ne _ (by simp only [ByteArray.size_append]; have : (⟨#[108, 105, 110, 101, 32]⟩ : ByteArray).size = 5 := rfl; omega), unhide HB3⟩
end Go.Proofs.YtjgfmobmilgapaaGreatDoor
namespace Go.Proofs.YtjgfmobmilgapaaGreatDoor
open Go.RowKit Go.Extern.Stop Go.Stop Go.Extern
set_option linter.unusedVariables false
theorem er_equalIn {P : Program} (w : World) (d : Nat) {ti tn : TypeId} {ms : Array (String × TypeId)} {i : TypeInfo} {k : IntKind} (a b : Int) (hi : P.underlying ti = some (.interface ms)) (hn : P.underlying tn = some (.int k)) (hinfo : P.info? tn = some i) (hcomp : i.comparable = true) :
    (Op.equalIn (d + 2) ti (.iface tn (.int k a)) (.iface tn (.int k b))).run P w = .ok (a == b) w := by
  simp [Op.equalIn, run_underlying hi, run_underlying hn, typeInfo, hinfo, hcomp]
theorem er_eql {P : Program} (w : World) {ti tn : TypeId} {ms : Array (String × TypeId)} {i : TypeInfo} {k : IntKind} (a b : Int) (hi : P.underlying ti = some (.interface ms)) (hn : P.underlying tn = some (.int k)) (hinfo : P.info? tn = some i) (hcomp : i.comparable = true) :
    (binOp .eql ti (.iface tn (.int k a)) (.iface tn (.int k b))).run P w = .ok (.bool (a == b)) w := by
  simp only [binOp]
  simp [Op.equal, Op.maxDepth, er_equalIn w 9998 a b hi hn hinfo hcomp]
theorem er_valueOf (t : Addr) (w : World) : (ReflectliteValue.unpack (.iface 124 (.pointer (some t)))).run Tryz.prog w = .ok (.agg #[.pointer (some ⟨12, 124, none⟩), .pointer (some ⟨w.heap.size, 0, none⟩), .int .u64 150]) (w.alloc (.cells #[.pointer (some t)] 124)) := by kernel_rfl
theorem er_type (a : Addr) (w : World) : (ReflectliteValue.methodAny (ReflectliteValue.valueError "reflectlite.Value.Type" 0) (fun t _ _ _ => ReflectliteType.toType t) #[.agg #[.pointer (some ⟨12, 124, none⟩), .pointer (some a), .int .u64 150]]).run Tryz.prog w = .ok (.iface 186 (.agg #[.pointer (some ⟨12, 124, none⟩)])) w := by kernel_rfl
theorem er_mKind (h : Value) (w : World) : (Go.method 384 186 (.agg #[h]) "Kind").run Tryz.prog w = .ok (185, h) w := by kernel_rfl
theorem er_kindPP (w : World) : ((ReflectliteType.abiMethod fun t => (fun a : Nat => Value.int IntKind.u8 (a : Int)) <$> Rtype.kind t) #[.pointer (some ⟨12, 124, none⟩)]).run Tryz.prog w = .ok (.int .u8 22) w := by kernel_rfl
theorem er_kindP (w : World) : ((ReflectliteType.abiMethod fun t => (fun a : Nat => Value.int IntKind.u8 (a : Int)) <$> Rtype.kind t) #[.pointer (some ⟨12, 52, none⟩)]).run Tryz.prog w = .ok (.int .u8 22) w := by kernel_rfl
theorem er_rlm (z : Sem Value) (f : TypeId → Addr → Nat → Nat → Sem Value) (v : Value) : ReflectliteValue.method z f #[v] = (do match ← ReflectliteValue.parts v with | none => z | some (t, a, fl) => f t a fl (fl % 32)) := rfl
theorem er_parts (a : Addr) (w : World) : (ReflectliteValue.parts (.agg #[.pointer (some ⟨12, 124, none⟩), .pointer (some a), .int .u64 150])).run Tryz.prog w = .ok (some (124, a, 150)) w := by kernel_rfl
theorem er_isNil (a p : Addr) (W : World) (ha : W.cell? a = some (.pointer (some p))) : (ReflectliteValue.method (ReflectliteValue.valueError "reflectlite.Value.IsNil" 0) ReflectliteValue.isNil #[.agg #[.pointer (some ⟨12, 124, none⟩), .pointer (some a), .int .u64 150]]).run Tryz.prog W = .ok (.bool false) W := by
  rw [er_rlm]
  simp only [Sem.run_bind, er_parts, Result.andThen]
  simp [ReflectliteValue.isNil, loadVar, isAgg, underlying, Tryz.underlying124, ha, Result.andThen]
theorem er_mElem (h : Value) (w : World) : (Go.method 384 186 (.agg #[h]) "Elem").run Tryz.prog w = .ok (196, .agg #[h]) w := by kernel_rfl
theorem er_mImpl (h : Value) (w : World) : (Go.method 384 186 (.agg #[h]) "Implements").run Tryz.prog w = .ok (197, .agg #[h]) w := by kernel_rfl
theorem er_mAssign (h : Value) (w : World) : (Go.method 384 186 (.agg #[h]) "AssignableTo").run Tryz.prog w = .ok (194, .agg #[h]) w := by kernel_rfl
theorem er_elem (w : World) : (ReflectliteType.method ReflectliteType.elem #[.agg #[.pointer (some ⟨12, 124, none⟩)]]).run Tryz.prog w = .ok (.iface 186 (.agg #[.pointer (some ⟨12, 52, none⟩)])) w := by kernel_rfl
theorem er_impl (w : World) : (ReflectliteType.relation "Implements" ReflectliteType.implements_ #[.agg #[.pointer (some ⟨12, 52, none⟩)], .iface 186 (.agg #[.pointer (some ⟨12, 33, none⟩)])]).run Tryz.prog w = .ok (.bool true) w := by kernel_rfl
theorem er_typeOf (v : Value) (w : World) : (ReflectliteType.typeOf #[.iface 52 v]).run Tryz.prog w = .ok (.iface 186 (.agg #[.pointer (some ⟨12, 52, none⟩)])) w := by kernel_rfl
theorem er_assign (w : World) : (ReflectliteType.relation "AssignableTo" ReflectliteType.assignableTo #[.agg #[.pointer (some ⟨12, 52, none⟩)], .iface 186 (.agg #[.pointer (some ⟨12, 52, none⟩)])]).run Tryz.prog w = .ok (.bool true) w := by kernel_rfl
theorem er_valueOfP (e : Addr) (w : World) : (ReflectliteValue.unpack (.iface 52 (.pointer (some e)))).run Tryz.prog w = .ok (.agg #[.pointer (some ⟨12, 52, none⟩), .pointer (some ⟨w.heap.size, 0, none⟩), .int .u64 150]) (w.alloc (.cells #[.pointer (some e)] 52)) := by kernel_rfl
theorem er_elemOf (w : World) : (Rtype.elem? 124).run Tryz.prog w = .ok (some 52) w := by kernel_rfl
theorem er_mk (p : Addr) (w : World) : (ReflectliteValue.mk 52 p ReflectliteValue.flagAddr).run Tryz.prog w = .ok (.agg #[.pointer (some ⟨12, 52, none⟩), .pointer (some p), .int .u64 406]) w := by kernel_rfl
theorem er_elemV (a p : Addr) (W : World) (ha : W.cell? a = some (.pointer (some p))) : (ReflectliteValue.method (ReflectliteValue.valueError "reflectlite.Value.Elem" 0) ReflectliteValue.elem #[.agg #[.pointer (some ⟨12, 124, none⟩), .pointer (some a), .int .u64 150]]).run Tryz.prog W = .ok (.agg #[.pointer (some ⟨12, 52, none⟩), .pointer (some p), .int .u64 406]) W := by
  rw [er_rlm]
  simp only [Sem.run_bind, er_parts, Result.andThen]
  simp [ReflectliteValue.elem, loadVar, isAgg, underlying, Tryz.underlying124, ha, Result.andThen, er_elemOf, er_mk]
theorem er_partsA (a : Addr) (w : World) : (ReflectliteValue.parts (.agg #[.pointer (some ⟨12, 52, none⟩), .pointer (some a), .int .u64 406])).run Tryz.prog w = .ok (some (52, a, 406)) w := by kernel_rfl
theorem er_partsB (a : Addr) (w : World) : (ReflectliteValue.parts (.agg #[.pointer (some ⟨12, 52, none⟩), .pointer (some a), .int .u64 150])).run Tryz.prog w = .ok (some (52, a, 150)) w := by kernel_rfl
theorem er_direct (w : World) : (Rtype.directlyAssignable 52 52).run Tryz.prog w = .ok true w := by kernel_rfl
theorem er_m3 {motive : Array Value → Sort _} (v x : Value) (h1 : (v x : Value) → motive #[v, x]) (h2 : (y : Array Value) → motive y) : ReflectliteValue.set.match_3 motive #[v, x] h1 h2 = h1 v x := rfl
theorem er_set (ta b e : Addr) (old : Value) (W : World) (hb : W.cell? b = some (.pointer (some e))) (ht : W.cell? ta = some old) (hf : W.frozen? ta = false) :
    (ReflectliteValue.set #[.agg #[.pointer (some ⟨12, 52, none⟩), .pointer (some ta), .int .u64 406], .agg #[.pointer (some ⟨12, 52, none⟩), .pointer (some b), .int .u64 150]]).run Tryz.prog W = .ok (.tuple #[]) (W.setCell ta (.pointer (some e))) := by
  delta ReflectliteValue.set
  rw [er_m3]
  simp only [Sem.run_bind, er_partsA, er_partsB, Result.andThen]
  simp [ReflectliteValue.flagAddr, loadVar, isAgg, underlying, Tryz.underlying52, hb, Result.andThen, er_direct, storeVar, Value.cells, storeCells, Addr.add]
  rw [run_store Tryz.prog W ta _ _ (by rfl)]
  simp [ht, hf]
set_option maxRecDepth 100000 in
set_option maxHeartbeats 4000000 in
theorem as_ref (e t : Addr) (old : Value) (w : World) (hg : w.cell? ⟨4, 0, none⟩ = some (.iface 186 (.agg #[.pointer (some ⟨12, 33, none⟩)]))) (ht0 : w.cell? t = some old) (hf0 : w.frozen? t = false) :
    Calls Tryz.prog 52 #[.iface 52 (.pointer (some e)), .iface 124 (.pointer (some t))] w fun ev w' => ev = .returned (.bool true) ∧ w' = (((((w.alloc (.cells #[.pointer (some t)] 124)).alloc (.cells #[.pointer (some ⟨12, 124, none⟩), .pointer (some ⟨w.heap.size, 0, none⟩), .int .u64 150] 152)).alloc (.cells #[.pointer (some ⟨12, 124, none⟩), .pointer (some ⟨w.heap.size, 0, none⟩), .int .u64 150] 152)).alloc (.cells #[.pointer (some e)] 52)).setCell t (.pointer (some e))) := by
  have h6 := run_callFunc_extern (P := Tryz.prog) (f := 89) (e := (fun args => ReflectliteValue.unpack (args.getD 0 (.tuple #[])))) Tryz.func89 (by kernel_rfl) (by kernel_rfl) (by kernel_rfl) (by kernel_rfl)
  have h7 := run_callFunc_extern (P := Tryz.prog) (f := 90) (e := (ReflectliteValue.methodAny (ReflectliteValue.valueError "reflectlite.Value.Type" 0) (fun t _ _ _ => ReflectliteType.toType t))) Tryz.func90 (by kernel_rfl) (by kernel_rfl) (by kernel_rfl) (by kernel_rfl)
  have h8 := run_callFunc_extern (P := Tryz.prog) (f := 91) (e := (ReflectliteValue.method (ReflectliteValue.valueError "reflectlite.Value.IsNil" 0) ReflectliteValue.isNil)) Tryz.func91 (by kernel_rfl) (by kernel_rfl) (by kernel_rfl) (by kernel_rfl)
  have h27 := run_callFunc_extern (P := Tryz.prog) (f := 185) (e := (ReflectliteType.abiMethod fun t => do pure (.int .u8 (← Rtype.kind t)))) Tryz.func185 (by kernel_rfl) (by kernel_rfl) (by kernel_rfl) (by kernel_rfl)
  have h37 := run_callFunc_extern (P := Tryz.prog) (f := 196) (e := (ReflectliteType.method ReflectliteType.elem)) Tryz.func196 (by kernel_rfl) (by kernel_rfl) (by kernel_rfl) (by kernel_rfl)
  have h38 := run_callFunc_extern (P := Tryz.prog) (f := 197) (e := (ReflectliteType.relation "Implements" ReflectliteType.implements_)) Tryz.func197 (by kernel_rfl) (by kernel_rfl) (by kernel_rfl) (by kernel_rfl)
  have h10 := run_callFunc_extern (P := Tryz.prog) (f := 94) (e := ReflectliteType.typeOf) Tryz.func94 (by kernel_rfl) (by kernel_rfl) (by kernel_rfl) (by kernel_rfl)
  have h35 := run_callFunc_extern (P := Tryz.prog) (f := 194) (e := (ReflectliteType.relation "AssignableTo" ReflectliteType.assignableTo)) Tryz.func194 (by kernel_rfl) (by kernel_rfl) (by kernel_rfl) (by kernel_rfl)
  have h11 := run_callFunc_extern (P := Tryz.prog) (f := 116) (e := (ReflectliteValue.method (ReflectliteValue.valueError "reflectlite.Value.Elem" 0) ReflectliteValue.elem)) Tryz.func116 (by kernel_rfl) (by kernel_rfl) (by kernel_rfl) (by kernel_rfl)
  have h12 := run_callFunc_extern (P := Tryz.prog) (f := 117) (e := ReflectliteValue.set) Tryz.func117 (by kernel_rfl) (by kernel_rfl) (by kernel_rfl) (by kernel_rfl)
  have tO := er_typeOf
  have mA := er_mAssign
  have a25 := er_assign
  have v25 := er_valueOfP
  have f6 := er_valueOf
  have f7 := er_type
  have mK := er_mKind
  have mE := er_mElem
  have mI := er_mImpl
  have k27 := er_kindPP
  have k25 := er_kindP
  have e27 := er_elem
  have i25 := er_impl
  have n8 := er_isNil ⟨w.heap.size, 0, none⟩ t ((w.alloc (.cells #[.pointer (some t)] 124)).alloc (.cells #[.pointer (some ⟨12, 124, none⟩), .pointer (some ⟨w.heap.size, 0, none⟩), .int .u64 150] 152)) (by simp)
  have hlt : 4 < w.heap.size := by
    rcases Nat.lt_or_ge 4 w.heap.size with h | h
    · exact h
    · simp [World.cell?, Array.getElem?_eq_none h] at hg
  have hg2 : ((w.alloc (.cells #[.pointer (some t)] 124)).alloc (.cells #[.pointer (some ⟨12, 124, none⟩), .pointer (some ⟨w.heap.size, 0, none⟩), .int .u64 150] 152)).cell? ⟨4, 0, none⟩ = some (.iface 186 (.agg #[.pointer (some ⟨12, 33, none⟩)])) := by
    rw [World.cell?_alloc_lt _ _ ⟨4, 0, none⟩ (by simp; omega), World.cell?_alloc_lt _ _ ⟨4, 0, none⟩ hlt]; exact hg
  have htl : t.block < w.heap.size := by
    rcases Nat.lt_or_ge t.block w.heap.size with h | h
    · exact h
    · simp [World.cell?, Array.getElem?_eq_none h] at ht0
  have el := er_elemV ⟨w.heap.size, 0, none⟩ t (((w.alloc (.cells #[.pointer (some t)] 124)).alloc (.cells #[.pointer (some ⟨12, 124, none⟩), .pointer (some ⟨w.heap.size, 0, none⟩), .int .u64 150] 152)).alloc (.cells #[.pointer (some ⟨12, 124, none⟩), .pointer (some ⟨w.heap.size, 0, none⟩), .int .u64 150] 152)) (by rw [World.cell?_alloc_lt _ _ ⟨w.heap.size, 0, none⟩ (by simp; omega), World.cell?_alloc_lt _ _ ⟨w.heap.size, 0, none⟩ (by simp)]; exact (by simp))
  have st := er_set t ⟨w.heap.size + 1 + 1 + 1, 0, none⟩ e old ((((w.alloc (.cells #[.pointer (some t)] 124)).alloc (.cells #[.pointer (some ⟨12, 124, none⟩), .pointer (some ⟨w.heap.size, 0, none⟩), .int .u64 150] 152)).alloc (.cells #[.pointer (some ⟨12, 124, none⟩), .pointer (some ⟨w.heap.size, 0, none⟩), .int .u64 150] 152)).alloc (.cells #[.pointer (some e)] 52))
    (by rw [World.cell?_alloc_at _ _ _ _ (by simp)]; rfl)
    (by rw [World.cell?_alloc_lt _ _ t (by simp; omega), World.cell?_alloc_lt _ _ t (by simp; omega), World.cell?_alloc_lt _ _ t (by simp; omega), World.cell?_alloc_lt _ _ t htl]; exact ht0)
    (by rw [World.frozen?_alloc_old _ _ t (by simp; omega), World.frozen?_alloc_old _ _ t (by simp; omega), World.frozen?_alloc_old _ _ t (by simp; omega), World.frozen?_alloc_old _ _ t (Nat.ne_of_lt htl)]; exact hf0)
  go_enter Tryz.func52, Tryz.ntmps52
  go_wp2
  refine wp_loop_rounds 1 ?_
  rw [rounds_succ]
  go_wp2
  go_ret
  exact ⟨rfl, rfl⟩
theorem er_isTypeOf (v : Value) (w : World) : (ReflectliteType.typeOf #[.iface 41 v]).run Tryz.prog w = .ok (.iface 186 (.agg #[.pointer (some ⟨12, 41, none⟩)])) w := by kernel_rfl
theorem er_isComparable (w : World) : ((ReflectliteType.method fun t => do Rtype.noPackHeld "Comparable" t; (fun a => Value.bool a.comparable) <$> typeInfo t) #[.agg #[.pointer (some ⟨12, 41, none⟩)]]).run Tryz.prog w = .ok (.bool true) w := by kernel_rfl
theorem er_mComparable (v : Value) (w : World) : (Go.method 384 186 v "Comparable").run Tryz.prog w = .ok (195, v) w := by kernel_rfl
theorem er_comp : (Tryz.prog.info? 41).map (·.comparable) = some true := by kernel_rfl
theorem er_noIs (v : Value) (xT : TypeId) (w : World) : (Instr.typeAssert (.iface 52 v) xT 198 true).run Tryz.prog w = .ok (.tuple #[.nilIface, .bool false]) w := run_typeAssert_lacksB Tryz.underlying198 (by kernel_rfl) (by kernel_rfl) v xT w
theorem er_hasUnwrap (v : Value) (xT : TypeId) (w : World) : (Instr.typeAssert (.iface 52 v) xT 193 true).run Tryz.prog w = .ok (.tuple #[.iface 52 v, .bool true]) w := run_typeAssert_hasB Tryz.underlying193 (by kernel_rfl) v xT w
theorem er_mUnwrap (v : Value) (w : World) : (Go.method 384 52 v "Unwrap").run Tryz.prog w = .ok (188, v) w := by kernel_rfl
set_option maxRecDepth 100000 in
set_option maxHeartbeats 4000000 in
theorem is_ref (F : Nat) (n : Int) (w : World) (h1 : w.cell? ⟨F, 3, none⟩ = some (.int .i64 n)) :
    Calls Tryz.prog 54 #[.iface 52 (.pointer (some ⟨F, 0, none⟩)), .iface 41 (.int .i64 n)] w fun e w' => e = .returned (.bool true) ∧ w' = w := by
  obtain ⟨i, hi, hcmp⟩ := Option.map_eq_some_iff.1 er_comp
  have h8 := run_callFunc_extern (P := Tryz.prog) (f := 94) (e := ReflectliteType.typeOf) Tryz.func94 (by kernel_rfl) (by kernel_rfl) (by kernel_rfl) (by kernel_rfl)
  have h32 := run_callFunc_extern (P := Tryz.prog) (f := 195) (e := (ReflectliteType.method fun t => do Rtype.noPackHeld "Comparable" t; pure (.bool (← typeInfo t).comparable))) Tryz.func195 (by kernel_rfl) (by kernel_rfl) (by kernel_rfl) (by kernel_rfl)
  have tT := er_isTypeOf
  have cT := er_isComparable
  have mR := er_mComparable
  have nW := er_noIs
  have uW := er_hasUnwrap
  have mU := er_mUnwrap
  have heq := er_eql (P := Tryz.prog) w n n Tryz.underlying33 Tryz.underlying41 hi hcmp
  have hty := run_eql_iface_types (P := Tryz.prog) 52 41 (.pointer (some ⟨F, 0, none⟩)) (.int .i64 n) Tryz.underlying33 (by decide) w
  go_enter Tryz.func54, Tryz.ntmps54
  go_wp2
  refine wp_loop_rounds 2 ?_
  rw [rounds_succ]
  go_wp2
  rw [rounds_succ]
  go_wp2
  go_ret
  exact ⟨rfl, rfl⟩
end Go.Proofs.YtjgfmobmilgapaaGreatDoor
namespace Go.Proofs.YtjgfmobmilgapaaGreatDoor
open Go.RowKit Go.Shelf
set_option linter.unusedVariables false
theorem ne_isEmpty {α : Type} (l : List α) (h : ¬ l = []) : l.isEmpty = false := by
  cases l with
  | nil => exact absurd rfl h
  | cons a t => rfl
set_option maxRecDepth 100000 in
set_option maxHeartbeats 4000000 in
theorem refused_none (F : Nat) (b l c y : Int) (W : World) (hb : Blk W F (rfCells ⟨b, l, c, y⟩) 54) (hl : 0 ≤ l ∧ l ≤ 1000000) (hc : 0 ≤ c ∧ c ≤ 1000000) (hP : Lib.TabIs Tryz.prog W "internal/strconv.uint64pow10" .u64 Lib.pow10Tab) (hG : 8 < W.heap.size) (hg : W.cell? ⟨4, 0, none⟩ = some (.iface 186 (.agg #[.pointer (some ⟨12, 33, none⟩)]))) (hW : ∀ w, Calls Tryz.prog 93 #[.int .i64 y] w fun e w' => ∃ s : ByteArray, e = .returned (.string s) ∧ s.size ≤ 1000 ∧ Below w.heap.size w w') :
    Calls Tryz.prog 28 #[.iface 52 (.pointer (some ⟨F, 0, none⟩)), .agg #[.int .i64 b, .int .i64 l, .int .i64 c], .int .i64 y, .slice none 0 0] W fun e w' => e = .returned (.tuple #[.pointer (some ⟨F, 0, none⟩), .bool true]) ∧ Below W.heap.size W w' := by
  have hmx : Tryz.prog.follows .mixedOrders = true := by kernel_rfl
  have hF := hb.lt
  have hsz : ((W.alloc (.cells #[.int .i64 b, .int .i64 l, .int .i64 c] 49)).alloc (.cells #[.pointer none] 52)).heap.size = W.heap.size + 2 := by simp
  have hB0 : Below W.heap.size W ((W.alloc (.cells #[.int .i64 b, .int .i64 l, .int .i64 c] 49)).alloc (.cells #[.pointer none] 52)).drew := (((Below.refl _ W).alloc (Nat.le_refl _) _).alloc (by simp) _).trans ⟨rfl, rfl, rfl, Nat.le_refl _, fun _ _ => rfl⟩
  have bA := ((Blk.new W #[.int .i64 b, .int .i64 l, .int .i64 c] 49).alloc (.cells #[.pointer none] 52))
  have bR := Blk.new (W.alloc (.cells #[.int .i64 b, .int .i64 l, .int .i64 c] 49)) #[.pointer none] 52
  rw [World.size_alloc] at bR
  have hgl : 4 < W.heap.size := cell_lt hg
  have hA := as_ref ⟨F, 0, none⟩ ⟨W.heap.size + 1, 0, none⟩ (.pointer none) ((W.alloc (.cells #[.int .i64 b, .int .i64 l, .int .i64 c] 49)).alloc (.cells #[.pointer none] 52)).drew ((hB0.cell (p := ⟨4, 0, none⟩) hgl).trans hg) (bR.cell 0) (bR.frozen 0)
  have hA2 : Calls Tryz.prog 52 #[.iface 52 (.pointer (some ⟨F, 0, none⟩)), .iface 124 (.pointer (some ⟨W.heap.size + 1, 0, none⟩))] ((W.alloc (.cells #[.int .i64 b, .int .i64 l, .int .i64 c] 49)).alloc (.cells #[.pointer none] 52)).drew fun ev w' => ev = .returned (.bool true) ∧ Blk w' W.heap.size #[.int .i64 b, .int .i64 l, .int .i64 c] 49 ∧ Blk w' (W.heap.size + 1) #[.pointer (some ⟨F, 0, none⟩)] 52 ∧ Below W.heap.size W w' := by
    refine hA.mono ?_
    rintro ev w' ⟨h1, h2⟩
    have bA2 : Blk ((W.alloc (.cells #[.int .i64 b, .int .i64 l, .int .i64 c] 49)).alloc (.cells #[.pointer none] 52)).drew W.heap.size #[.int .i64 b, .int .i64 l, .int .i64 c] 49 := bA
    have bR2 : Blk ((W.alloc (.cells #[.int .i64 b, .int .i64 l, .int .i64 c] 49)).alloc (.cells #[.pointer none] 52)).drew (W.heap.size + 1) #[.pointer none] 52 := bR
    generalize ((W.alloc (.cells #[.int .i64 b, .int .i64 l, .int .i64 c] 49)).alloc (.cells #[.pointer none] 52)).drew = w0 at *
    have hs0 := hB0.size
    subst h2
    refine ⟨h1, ?_, ?_, ?_⟩
    · exact (((((bA2.alloc _).alloc _).alloc _).alloc _)).kept (grown_set' _ (W.heap.size + 1) 0 _) (fun e => by have := Option.some.inj e; omega)
    · exact (((((bR2.alloc _).alloc _).alloc _).alloc _)).set 0 _
    · exact (((((hB0.alloc hs0 _).alloc (by simp; omega) _).alloc (by simp; omega) _).alloc (by simp; omega) _)).setCell (p := ⟨W.heap.size + 1, 0, none⟩) (by show W.heap.size ≤ W.heap.size + 1; omega) _
  have HA := hide hA2
  have HER := hide (fun (w : World) (hw : Below W.heap.size W w) => referr_any F ⟨b, l, c, y⟩ w (hb.kept (below_grown2 (row := none) hw) (by simp)) hl hc (tab_fr (lo := W.heap.size) (N := W.heap.size) ⟨hw.os, hw.tape, hw.output, hw.size, fun i hi _ _ => hw.block i hi⟩ hG (by omega) hP) (by have := hw.size; omega) hW)
  have HF := hide (fun (w : World) (hw : Below W.heap.size W w) => hb.kept (below_grown2 (row := none) hw) (by simp))
  clear hA hA2 hb hP hg bA bR hB0 hsz hW
  go_enter Tryz.func28, Tryz.ntmps28
  go_wp2_with fail
  go_region_with (first
    | (go_at_call 54; refine (is_ref F y w2 m3).mono ?_; rintro e w3 ⟨rfl, hw3⟩; rw [hw3])
    | (go_at_call 53; refine (unhide HER w1 (unhide HB1)).mono ?_; rintro e w2 ⟨s, rfl, hs, hb2⟩; have hse := ne_isEmpty _ hs; have HB2 := hide ((unhide HB1).trans (hb2.mono (unhide HB1).size)); have c2 := (unhide HC1).2.below hb2 (unhide HC1).2.lt; have n0 : w2.cell? ⟨W.heap.size + 1, 0, none⟩ = some (.pointer (some ⟨F, 0, none⟩)) := c2.cell 0; have m3 : w2.cell? ⟨F, 3, none⟩ = some (.int .i64 y) := (unhide HF w2 (unhide HB2)).cell 3; clear hb2)
    | (go_at_call 52; refine (unhide HA).mono ?_; rintro e w1 ⟨rfl, ba1, br1, hb1⟩; have HB1 := hide hb1; have HC1 := hide (And.intro ba1 br1); have v0 := br1.cell 0; have u0 := ba1.cell 0; have u1 := ba1.cell 1; have u2 := ba1.cell 2; have p0 : w1.cell? ⟨F, 0, none⟩ = some (.int .i64 b) := (unhide HF w1 hb1).cell 0; have p1 : w1.cell? ⟨F, 1, none⟩ = some (.int .i64 l) := (unhide HF w1 hb1).cell 1; have p2 : w1.cell? ⟨F, 2, none⟩ = some (.int .i64 c) := (unhide HF w1 hb1).cell 2; have p3 : w1.cell? ⟨F, 3, none⟩ = some (.int .i64 y) := (unhide HF w1 hb1).cell 3; clear ba1 br1 hb1))
  all_goals
    clear v0 u0 u1 u2 p0 p1 p2 p3
    go_wp2_with fail
    refine wp_loop_rounds 1 ?_
    rw [rounds_succ]
    go_wp2_with fail
    exact bodyPost_ret (v := .tuple #[.pointer (some ⟨F, 0, none⟩), .bool true]) (by simp [results, Tryz.results28, go_sem]) rfl ⟨rfl, unhide HB2⟩
end Go.Proofs.YtjgfmobmilgapaaGreatDoor
