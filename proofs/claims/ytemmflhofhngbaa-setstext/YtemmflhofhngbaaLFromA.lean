/- Three lists that a call owns. -/
import Derived.Test.YtemmflhofhngbaaNmInt
import Derived.Test.YtemmflhofhngbaaSetAlive
import Derived.Test.YtemmflhofhngbaaArg
namespace Go.Proofs.Ytemmflhofhngbaa
open Go.RowKit Go.Shelf
set_option linter.unusedVariables false
theorem append_w {w : World} {ops : Array Oper} {rest : List Oper} {o : Oper} {a : Act} {Q : Exit → Act → World → Prop} (hgd : o.guard = none) (s x : Operand) (T E : TypeId)
    (ho : o.op = .call { callee := .builtin .append, args := #[s, x], argTypes := #[T, T] }) (i : TypeInfo) (z : Value) (bytes : Nat) (hT : Try.prog.underlying T = some (.slice E)) (hi : Try.prog.info? E = some i) (h1 : i.zero = some z) (h2 : i.size = 1) (h3 : i.bytes = bytes) (hzs : z.cells.size = 1) (hb8 : bytes ≤ 64)
    (lo : Nat) (v : Value) (xs : List Value) (u : Value) (hs : a.eval s = v) (hl : xs.length ≤ 900000) (W : World) (hW : w = W.alloc (.cells #[u] E)) (hu : u.oneCell' = true) (hv : W.ownsRow lo E 1 v xs.length xs) (hlo : lo ≤ W.heap.size) (n : Nat) (hn : n = W.heap.size) (hx : a.eval x = .slice (some ⟨n, 0, none⟩) 1 1)
    (h : ∀ v' w', w'.ownsRow lo E 1 v' (xs ++ [u]).length (xs ++ [u]) → (W.alloc (.cells #[u] E)).grownBy w' v.ownBlock → wpList Try.prog ops Q rest (a.put o.dst v') w') : wpList Try.prog ops Q (o :: rest) a w := by
  subst hW
  subst hn
  have b := Blk.new W #[u] E
  refine wpList_append_own _ hgd s x T ho lo E i z 1 bytes hT hi h1 h2 h3 hzs (by decide) v xs.length xs hs (hv.alloc _) ⟨W.heap.size, 0, none⟩ 1 1 [u] hx (by simp) (fun j y hj => ?_) (fun y hy => by rw [List.mem_singleton.1 hy]; exact hu) (by unfold maxLen; omega) ?_ (by simp; omega) (fun v' w' h4 h5 _ => h v' w' (by rw [List.length_append, List.length_singleton]; exact h4) h5)
  · match j, hj with
    | 0, hj => cases hj; exact b.cell 0
    | j + 1, hj => simp at hj
  · have : (xs.length + 1) * bytes ≤ 900001 * 64 := Nat.mul_le_mul (by omega) hb8
    omega
theorem own_other {W W' : World} {lo E sz n : Nat} {v : Value} {xs : List Value} {row : Option Nat} (h : W.ownsRow lo E sz v n xs) (hg : W.grownBy W' row) (hne : v.ownBlock = none ∨ v.ownBlock ≠ row) : W'.ownsRow lo E sz v n xs := by
  refine ⟨h.1, ?_⟩
  rcases h.2 with h2 | ⟨g, cap, cur, e, hb, h3, r⟩
  · exact .inl h2
  · refine .inr ⟨g, cap, cur, e, hb, ?_, r⟩
    subst e
    rw [hg.block g (Array.getElem?_eq_some_iff.1 h3).1 (by rcases hne with h4 | h4; exact absurd h4 (by simp [Value.ownBlock]); exact h4)]
    exact h3
def encN (K : IntKind) (zs : List Int) : List Value := zs.map (Value.int K)
theorem encN_length (K : IntKind) (zs : List Int) : (encN K zs).length = zs.length := by simp [encN]
theorem encN_snoc (K : IntKind) (zs : List Int) (x : Int) : encN K zs ++ [.int K x] = encN K (zs ++ [x]) := by simp [encN]
/-- Three lists that the call owns. -/
structure Three (w W : World) (va vb vc : Value) (xs ys zs : List Int) : Prop where
  oa : W.ownsRow w.heap.size 21 1 va (encN .i32 xs).length (encN .i32 xs)
  ob : W.ownsRow w.heap.size 51 1 vb (encN .u32 ys).length (encN .u32 ys)
  oc : W.ownsRow w.heap.size 52 1 vc (encN .u32 zs).length (encN .u32 zs)
  ra : ∀ x ∈ xs, -2147483648 ≤ x ∧ x ≤ 2147483647
  rb : ∀ x ∈ ys, 0 ≤ x ∧ x ≤ 4294967295
  rc : ∀ x ∈ zs, 0 ≤ x ∧ x ≤ 4294967295
  old : Below w.heap.size w W
theorem mem_snoc {P : Int → Prop} {zs : List Int} {x : Int} (h : ∀ y ∈ zs, P y) (hx : P x) : ∀ y ∈ zs ++ [x], P y := fun y hy => by
  rcases List.mem_append.1 hy with h1 | h1
  · exact h y h1
  · rw [List.mem_singleton.1 h1]; exact hx
theorem Three.a {w W W' : World} {va vb vc v' : Value} {xs ys zs : List Int} {x : Int} (h : Three w W va vb vc xs ys zs) (hx : -2147483648 ≤ x ∧ x ≤ 2147483647) (ho : W'.ownsRow w.heap.size 21 1 v' ((encN .i32 xs).length + 1) (encN .i32 xs ++ [Value.int .i32 x])) (hg : (W.alloc (.cells #[.int .i32 x] 21)).grownBy W' va.ownBlock) : Three w W' v' vb vc (xs ++ [x]) ys zs := by
  have oa := h.oa.alloc (.cells #[.int .i32 x] 21)
  have ob := h.ob.alloc (.cells #[.int .i32 x] 21)
  have oc := h.oc.alloc (.cells #[.int .i32 x] 21)
  have ho : W'.ownsRow w.heap.size 21 1 v' (encN .i32 (xs ++ [x])).length (encN .i32 (xs ++ [x])) := by rw [← encN_snoc, List.length_append]; exact ho
  exact ⟨ho, own_other ob hg (own_own ob oa (by decide)), own_other oc hg (own_own oc oa (by decide)), mem_snoc h.ra hx, h.rb, h.rc, (h.old.alloc h.old.size _).grown hg (by simp; exact Nat.le_succ_of_le h.old.size) (fun k e => (oa.lt k e).1)⟩
theorem Three.b {w W W' : World} {va vb vc v' : Value} {xs ys zs : List Int} {x : Int} (h : Three w W va vb vc xs ys zs) (hx : 0 ≤ x ∧ x ≤ 4294967295) (ho : W'.ownsRow w.heap.size 51 1 v' ((encN .u32 ys).length + 1) (encN .u32 ys ++ [Value.int .u32 x])) (hg : (W.alloc (.cells #[.int .u32 x] 51)).grownBy W' vb.ownBlock) : Three w W' va v' vc xs (ys ++ [x]) zs := by
  have oa := h.oa.alloc (.cells #[.int .u32 x] 51)
  have ob := h.ob.alloc (.cells #[.int .u32 x] 51)
  have oc := h.oc.alloc (.cells #[.int .u32 x] 51)
  have ho : W'.ownsRow w.heap.size 51 1 v' (encN .u32 (ys ++ [x])).length (encN .u32 (ys ++ [x])) := by rw [← encN_snoc, List.length_append]; exact ho
  exact ⟨own_other oa hg (own_own oa ob (by decide)), ho, own_other oc hg (own_own oc ob (by decide)), h.ra, mem_snoc h.rb hx, h.rc, (h.old.alloc h.old.size _).grown hg (by simp; exact Nat.le_succ_of_le h.old.size) (fun k e => (ob.lt k e).1)⟩
theorem Three.c {w W W' : World} {va vb vc v' : Value} {xs ys zs : List Int} {x : Int} (h : Three w W va vb vc xs ys zs) (hx : 0 ≤ x ∧ x ≤ 4294967295) (ho : W'.ownsRow w.heap.size 52 1 v' ((encN .u32 zs).length + 1) (encN .u32 zs ++ [Value.int .u32 x])) (hg : (W.alloc (.cells #[.int .u32 x] 52)).grownBy W' vc.ownBlock) : Three w W' va vb v' xs ys (zs ++ [x]) := by
  have oa := h.oa.alloc (.cells #[.int .u32 x] 52)
  have ob := h.ob.alloc (.cells #[.int .u32 x] 52)
  have oc := h.oc.alloc (.cells #[.int .u32 x] 52)
  have ho : W'.ownsRow w.heap.size 52 1 v' (encN .u32 (zs ++ [x])).length (encN .u32 (zs ++ [x])) := by rw [← encN_snoc, List.length_append]; exact ho
  exact ⟨own_other oa hg (own_own oa oc (by decide)), own_other ob hg (own_own ob oc (by decide)), ho, h.ra, h.rb, mem_snoc h.rc hx, (h.old.alloc h.old.size _).grown hg (by simp; exact Nat.le_succ_of_le h.old.size) (fun k e => (oc.lt k e).1)⟩
theorem own_rowN {W : World} {base E : Nat} {K : IntKind} {v : Value} {zs : List Int} (h : W.ownsRow base E 1 v (encN K zs).length (encN K zs)) : ∃ p cap, v = .slice p zs.length cap ∧ RowN K W p zs := by
  rw [encN_length] at h
  obtain ⟨h1, h2⟩ := h
  rcases h2 with ⟨rfl, h3⟩ | ⟨g, cap, cur, rfl, hg, hb, hc1, hc2, hc3, ht⟩
  · exact ⟨none, 0, by rw [h3], fun h => by omega⟩
  · refine ⟨some ⟨g, 0, none⟩, cap, rfl, fun _ => ⟨g, 0, rfl, (Array.getElem?_eq_some_iff.1 hb).1, fun j x hj => ?_⟩⟩
    have hj' := (List.getElem?_eq_some_iff.1 hj).1
    have e : cur.toList[j]? = some (.int K x) := by
      have : (cur.toList.take (zs.length * 1))[j]? = (encN K zs)[j]? := by rw [ht]
      rw [List.getElem?_take, if_pos (by omega)] at this
      rw [this]
      simp [encN, hj]
    have e2 : cur[j]? = some (.int K x) := by simpa using e
    rw [Nat.zero_add, show W.cell? ⟨g, j, none⟩ = cur[j]? from Blk.cell (t := E) hb j, e2]
theorem infoU32 : (Try.prog.info? 51).map (fun i => (i.zero, i.size, i.bytes)) = some (some (.int .u32 0), 1, 4) := by kernel_rfl
theorem infoKin : (Try.prog.info? 52).map (fun i => (i.zero, i.size, i.bytes)) = some (some (.int .u32 0), 1, 4) := by kernel_rfl
theorem wrap32_in (x : Int) : -2147483648 ≤ IntKind.i32.wrap x ∧ IntKind.i32.wrap x ≤ 2147483647 := by simp [IntKind.wrap, IntKind.bits, IntKind.signed]; omega
theorem w32_in (x : Int) : -2147483648 ≤ wrap32 x ∧ wrap32 x ≤ 2147483647 := by unfold wrap32; omega
theorem wu32_in (x : Int) : 0 ≤ x % 4294967296 ∧ x % 4294967296 ≤ 4294967295 := by omega
theorem wrapu32_in (x : Int) : 0 ≤ IntKind.u32.wrap x ∧ IntKind.u32.wrap x ≤ 4294967295 := by simp [IntKind.wrap, IntKind.bits, IntKind.signed]; omega
theorem row_arg {W : World} {a : Option Addr} {len cap n : Nat} {z : List Int} (h : ArgRow .i64 W a len cap z) (hn : n ≤ len) : (z.take n).length = n ∧ RowN .i64 W a (z.take n) ∧ ∀ x ∈ z.take n, -9223372036854775808 ≤ x ∧ x ≤ 9223372036854775807 := by
  obtain ⟨hl, hz, hw, hc⟩ := h
  refine ⟨by rw [List.length_take]; omega, fun h0 => ?_, fun x hx => ?_⟩
  · rw [List.length_take] at h0
    obtain ⟨g, o, e, hg, hcell⟩ := hc (by omega)
    refine ⟨g, o, e, hg, fun j x hj => ?_⟩
    have hj' := (List.getElem?_eq_some_iff.1 hj).1
    rw [List.length_take] at hj'
    rw [hcell j (by omega)]
    rw [List.getElem?_take, if_pos (by omega)] at hj
    simp [List.getD, hj]
  · have := hw x (List.mem_of_mem_take hx)
    simp [Lit.wf, IntKind.min, IntKind.max, IntKind.signed, IntKind.bits] at this
    omega
end Go.Proofs.Ytemmflhofhngbaa
