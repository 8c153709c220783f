/- Texts of this claim, one behind the other. -/
import Derived.Test.YtbbnppcpjpdpaaaGreatDoorM11
import Derived.Laws.OwnMore
import Derived.Deep.AppendLies
import Derived.Deep.RegionLaw
import Derived.Lib.UnsafeStr
import Derived.Lib.Builder
import Derived.Lib.AppendStr
/- The reader of rules: rows. -/
namespace Go.Proofs.YtbbnppcpjpdpaaaGreatDoor
open Go.RowKit Go.Shelf
set_option linter.unusedVariables false
/-- What a rule may write: the reader's box, the text's, and what is newer than lo. -/
structure Fr (lo R Tx : Nat) (W W' : World) : Prop where
  os : W'.os = W.os
  tape : W'.tape = W.tape
  output : W'.output = W.output
  size : W.heap.size ≤ W'.heap.size
  block : ∀ i, i < lo → i ≠ R → i ≠ Tx → W'.heap[i]? = W.heap[i]?
theorem Fr.refl (lo R Tx : Nat) (W : World) : Fr lo R Tx W W := ⟨rfl, rfl, rfl, Nat.le_refl _, fun _ _ _ _ => rfl⟩
theorem Fr.trans {lo R Tx : Nat} {a b c : World} (h : Fr lo R Tx a b) (k : Fr lo R Tx b c) : Fr lo R Tx a c := ⟨k.os.trans h.os, k.tape.trans h.tape, k.output.trans h.output, Nat.le_trans h.size k.size, fun i h1 h2 h3 => (k.block i h1 h2 h3).trans (h.block i h1 h2 h3)⟩
theorem Fr.grown {lo R Tx : Nat} {W W' : World} {row : Option Nat} (hlo : lo ≤ W.heap.size) (hg : W.grownBy W' row) (hr : ∀ b, row = some b → b = R ∨ b = Tx ∨ lo ≤ b) : Fr lo R Tx W W' := ⟨hg.os, hg.tape, hg.output, hg.size, fun i h1 h2 h3 => hg.block i (by omega) (fun e => by rcases hr i e.symm with h | h | h <;> omega)⟩
/-- Places that are handed to rows. -/
def Pl (W : World) (a : Option Addr) (m c : Nat) (news : List Value) : Prop :=
  (a = none ∧ m = 0 ∧ c = 0 ∧ news = []) ∨ ∃ ad, a = some ad ∧ 0 < m ∧ news.length = m * 3 ∧ (∀ j u, news[j]? = some u → W.cell? (ad.add j) = some u) ∧ ∀ u ∈ news, u.oneCell' = true
theorem step_append_none {P : Program} {w : World} {ops : Array Oper} {o : Oper} {a : Act} {K : Act → World → Prop} {Q : Exit → Act → World → Prop} {E : Prop} (hgd : o.guard = none) (s x : Operand) (t : TypeId)
    (ho : o.op = .call { callee := .builtin .append, args := #[s, x], argTypes := #[t, t] })
    (base : Nat) (e : TypeId) (i : TypeInfo) (size : Nat) (ht : P.underlying t = some (.slice e)) (hi : P.info? e = some i)
    (v : Value) (n : Nat) (xs : List Value) (hs : a.eval s = v) (hown : w.ownsRow base e size v n xs) (hx : a.eval x = .slice none 0 0)
    (h : K (a.put o.dst v) w) : if Region.wanted o (yielded ops a.tmps) = true then Oper.wp P o a w K Q else E := by
  have hw : Region.wanted o (yielded ops a.tmps) = true := by simp [Region.wanted, hgd]
  rw [if_pos hw]
  have hrun := run_append_owned_none (P := P) (w := w) base t o.type e i size ht hi v n xs hown
  unfold Oper.wp
  simp [execOp, ho, resolve, invoke, builtin, hs, hx, hrun, Result.andThen]
  exact h
theorem own_slice {W : World} {lo E sz n : Nat} {v : Value} {xs : List Value} (h : W.ownsRow lo E sz v n xs) : ∃ a c, v = .slice a n c := by
  rcases h.2 with ⟨rfl, rfl⟩ | ⟨g, cap, cur, rfl, _⟩
  · exact ⟨none, 0, rfl⟩
  · exact ⟨_, _, rfl⟩
theorem rows_fin {W W1 : World} {R Tx g lo : Nat} {ws : List W8} {k : Nat} {bad : Option Rf} {eb el ec : Int} {vs : List Value} {ls : List Ln} {i : Nat} {v v' : Value} {l : Ln} {n : Nat} {xs : List Value} (h17 : i < 17) (hv : vs[i]? = some v) (hl : ls[i]? = some l) (hE : l.E ≠ 83)
    (hR : R < lo) (hgT : g ≠ Tx) (hgl : ∀ (j : Nat) (y : W8), ws[j]? = some y → g < lo) (hlo : lo ≤ W.heap.size) (h : RdE W R Tx g ws k bad eb el ec) (hb : TbAt W lo Tx vs ls eb el ec)
    (ho : W1.ownsRow lo l.E l.sz v' n xs) (hg : W.grownBy W1 v.ownBlock) (hat : v'.ownBlock = v.ownBlock ∨ v'.ownBlock = some W.heap.size) :
    RdE (W1.setCell ⟨Tx, i, none⟩ v') R Tx g ws k bad eb el ec ∧ TbAt (W1.setCell ⟨Tx, i, none⟩ v') lo Tx (vs.set i v') (ls.set i ⟨l.E, l.sz, n, xs⟩) eb el ec ∧ Fr lo R Tx W (W1.setCell ⟨Tx, i, none⟩ v') := by
  have hp := hb.put h17 hv hl ho hg hat
  have how := hb.own i v l hv hl
  have h1 := h.own how hE hR hb.lt hgl hg
  have hq := grown_set' W1 Tx i v'
  have hbt := hb.blk.kept hg (fun e => by have := rd_from how Tx e.symm; have := hb.lt; omega)
  refine ⟨⟨h1.rd.far hq h.ne.symm (fun _ _ _ => hgT) (fun F y hy e => by subst e; have := blk_types hy hbt; revert this; decide), hp.ending, h.ne⟩, hp, ?_⟩
  exact (Fr.grown hlo hg (fun b e => .inr (.inr (rd_from how b e)))).trans (Fr.grown (Nat.le_trans hlo hg.size) hq (fun b e => .inr (.inl (Option.some.inj e).symm)))
set_option maxRecDepth 100000 in
set_option maxHeartbeats 4000000 in
theorem rows_any (R Tx g lo : Nat) (ws : List W8) (k : Nat) (bad : Option Rf) (eb el ec : Int) (vs : List Value) (ls : List Ln) (i : Nat) (hi : i ≤ 8) (v : Value) (n : Nat) (xs : List Value) (hv : vs[8 + i]? = some v) (hl : ls[8 + i]? = some ⟨61, 3, n, xs⟩)
    (hR : R < lo) (hgT : g ≠ Tx) (hgl : ∀ (j : Nat) (y : W8), ws[j]? = some y → g < lo) (a : Option Addr) (m c : Nat) (news : List Value) (hn : n + m ≤ 2000000) (W : World) (hlo : lo ≤ W.heap.size) (h : RdE W R Tx g ws k bad eb el ec) (hb : TbAt W lo Tx vs ls eb el ec) (hp : Pl W a m c news) :
    Calls Tryz.prog 113 #[.pointer (some ⟨R, 0, none⟩), .int .i64 i, .slice a m c] W fun e w' => (∃ r, e = .returned r) ∧ RdE w' R Tx g ws k bad eb el ec ∧ (∃ v', TbAt w' lo Tx (vs.set (8 + i) v') (ls.set (8 + i) ⟨61, 3, n + m, xs ++ news⟩) eb el ec) ∧ Fr lo R Tx W w' := by
  obtain ⟨ra, rc, rv, hrb, _, _, _⟩ := h.rd.blk
  have c1 : W.cell? ⟨R, 1, none⟩ = some (.pointer (some ⟨Tx, 0, none⟩)) := hrb.cell 1
  have t0 := hb.cell (by omega) hv
  have tf := hb.blk.frozen (8 + i)
  have i0 : (0 : Int) ≤ (i : Int) := by omega
  have i9 : (i : Int) < 9 := by omega
  have H := hide h
  have HB := hide hb
  obtain ⟨ia, hia, ha0, ha1, ha2⟩ := info_parts infoAt
  have HIA := hide (And.intro hia (And.intro ha0 (And.intro ha1 ha2)))
  clear hia ha0 ha1 ha2 hrb h hb
  go_enter Tryz.func113, Tryz.ntmps113
  have hmx : Tryz.prog.follows .mixedOrders = true := by kernel_rfl
  have hTl := (unhide HB).lt
  have how := (unhide HB).own _ _ _ hv hl
  obtain ⟨va, vc, rfl⟩ := own_slice how
  rcases hp with ⟨rfl, rfl, rfl, rfl⟩ | ⟨ad, rfl, hm0, hnl, hnc, hn1⟩
  · have tf2 : W.drew.frozen? ⟨Tx, 8 + i, none⟩ = false := tf
    go_region_law (refine step_append_none (by rfl) _ _ _ (by rfl) lo 61 ia 3 Tryz.underlying85 (unhide HIA).1 _ n xs (by rfl) how.drew (by rfl) ?_)
    all_goals
      have hfin := rows_fin (W1 := W.drew) (by omega) hv hl (show (61 : Nat) ≠ 83 by decide) hR hgT hgl hlo (unhide H) (unhide HB) (n := n + 0) (xs := xs ++ []) (by rw [List.append_nil]; exact how.drew) ⟨rfl, rfl, rfl, Nat.le_refl _, fun _ _ _ => rfl⟩ (.inl rfl)
      go_end0
      exact ⟨⟨_, rfl⟩, hfin.1, ⟨_, hfin.2.1⟩, hfin.2.2⟩
  · have hg1 : ∀ b, Value.ownBlock (.slice va n vc) = some b → lo ≤ b := rd_from how
    go_region_law (refine step_append_lies _ (by rfl) _ _ _ (by rfl) lo 61 ia (.agg #[.int .i64 0, .int .i64 0, .int .i64 0]) 3 24 Tryz.underlying85 (unhide HIA).1 (unhide HIA).2.1 (unhide HIA).2.2.1 (unhide HIA).2.2.2 rfl (by omega) _ n xs (by rfl) how.drew ad m c news (by rfl) hnl hnc hn1 hm0 (by unfold maxLen; omega) (by omega) hlo W.heap.size (by simp) ?_; intro gg cap w3 hown1 hgrow hatt hlt; have q1 : w3.cell? ⟨Tx, 8 + i, none⟩ = some (.slice va n vc) := hgrow.cell (a := ⟨Tx, 8 + i, none⟩) t0 (by show some Tx ≠ Value.ownBlock (.slice va n vc); intro e; have := hg1 Tx e.symm; omega); have q2 : w3.frozen? ⟨Tx, 8 + i, none⟩ = false := (Blk.kept (W := W.drew) (unhide HB).blk hgrow (fun e => by have := hg1 Tx e.symm; omega)).frozen (8 + i); have q3 : w3.cell? ⟨R, 1, none⟩ = some (.pointer (some ⟨Tx, 0, none⟩)) := hgrow.cell (a := ⟨R, 1, none⟩) c1 (by show some R ≠ Value.ownBlock (.slice va n vc); intro e; have := hg1 R e.symm; omega))
    all_goals
      have hfin := rows_fin (by omega) hv hl (show (61 : Nat) ≠ 83 by decide) hR hgT hgl hlo (unhide H) (unhide HB) hown1 ⟨hgrow.os, hgrow.tape, hgrow.output, hgrow.size, hgrow.block⟩ (by rcases hatt with e | e; exact .inl e.symm; exact .inr (by rw [e]; rfl))
      go_end0
      exact ⟨⟨_, rfl⟩, hfin.1, ⟨_, hfin.2.1⟩, hfin.2.2⟩
end Go.Proofs.YtbbnppcpjpdpaaaGreatDoor
/- The printer of tables: its text in memory. -/
namespace Go.Proofs.YtbbnppcpjpdpaaaGreatDoor
open Go.RowKit Go.Shelf
set_option linter.unusedVariables false
/-- The printer: what is written, whether the line has words, whether something can't be written. -/
structure PrAt (W : World) (lo N : Nat) (t : List UInt8) (bg wr : Bool) : Prop where
  blk : ∃ p v, Blk W N #[p, v, .bool bg, .bool wr] 38 ∧ (p = .pointer none ∨ p = .pointer (some ⟨N, 0, none⟩)) ∧ W.ownsRow lo 5 1 v t.length (Lib.byteCells t)
  lt : N < lo
  lw : lo ≤ W.heap.size
theorem infoByte8 : (Tryz.prog.info? 5).map (fun i => (i.zero, i.size, i.bytes)) = some (some (.int .u8 0), 1, 1) := by kernel_rfl
theorem sizeBld : (Tryz.prog.info? 36).map (·.size) = some 2 := by kernel_rfl
theorem liesBld : liesAt Tryz.prog Tryz.prog.depth 38 (4 / Tryz.prog.cellsOf 38) 0 36 1 = true := by kernel_rfl
theorem Blk.shape {W : World} {B : Nat} {cs : Array Value} {t : TypeId} (h : Blk W B cs t) : W.shape? B = some (t, cs.size) := by
  have h' : W.heap[B]? = some (.cells cs t (0, 0)) := h
  simp [World.shape?, h']
theorem pn_len (lo N : Nat) (t : List UInt8) (bg wr : Bool) (W : World) (h : PrAt W lo N t bg wr) :
    Calls Tryz.prog 26 #[.pointer (some ⟨N, 0, none⟩)] W fun e w' => e = .returned (.int .i64 t.length) ∧ w' = W := by
  obtain ⟨p, v, hb, hp, ho⟩ := h.blk
  obtain ⟨a, c, rfl⟩ := own_slice ho
  have c1 := hb.cell 1
  clear h hb ho
  go_enter Tryz.func26, Tryz.ntmps26
  go_wp2_with fail
  go_ret
  exact ⟨rfl, rfl⟩
set_option maxRecDepth 100000 in
set_option maxHeartbeats 4000000 in
theorem pn_check (lo N : Nat) (t : List UInt8) (bg wr : Bool) (W : World) (h : PrAt W lo N t bg wr) :
    Calls Tryz.prog 63 #[.pointer (some ⟨N, 0, none⟩)] W fun e w' => (∃ r, e = .returned r) ∧ PrAt w' lo N t bg wr ∧ W.grownBy w' (some N) := by
  obtain ⟨p, v, hb, hp, ho⟩ := h.blk
  obtain ⟨j, hj, hjs⟩ := Option.map_eq_some_iff.1 sizeBld
  have hsh := hb.shape
  have c0 := hb.cell 0
  have f0 := hb.frozen 0
  rcases hp with rfl | rfl
  · have hne : v.ownBlock = none ∨ v.ownBlock ≠ some N := .inr fun e => by have := rd_from ho N e; have := h.lt; omega
    have hfin : PrAt (W.setCell ⟨N, 0, none⟩ (.pointer (some ⟨N, 0, none⟩))) lo N t bg wr := ⟨⟨_, v, hb.set 0 _, .inr rfl, rd_other ho (grown_set' W N 0 _) hne⟩, h.lt, by have := (grown_set' W N 0 (.pointer (some ⟨N, 0, none⟩))).size; have := h.lw; omega⟩
    have HF := hide hfin
    have HSH := hide hsh
    clear hfin h hb ho hne hsh
    go_enter Tryz.func63, Tryz.ntmps63
    go_wp2_with fail
    rw [Lib.run_to_unsafe W ⟨N, 0, none⟩ Tryz.underlying33 Tryz.underlying126 hj (by rw [hjs]; decide) (unhide HSH) (by show 0 < 4; decide)]
    simp only [Result.andThen]
    rw [Oper.upon_value]
    go_wp2_with fail
    rw [run_callFunc_extern Tryz.func94 (by kernel_rfl) (by kernel_rfl) (by kernel_rfl) (e := Extern.AbiNoEscape.same) (by kernel_rfl)]
    rw [Lib.run_noEscape]
    simp only [Result.andThen]
    rw [Oper.upon_value]
    go_wp2_with fail
    rw [Lib.run_from_unsafe W ⟨N, 0, none⟩ Tryz.underlying126 Tryz.underlying33 hj (unhide HSH) liesBld]
    simp only [Result.andThen]
    rw [Oper.upon_value]
    go_wp2_with fail
    go_end0
    exact ⟨⟨_, rfl⟩, unhide HF, grown_set' W N 0 _⟩
  · have HF := hide h
    clear h hb ho hsh
    go_enter Tryz.func63, Tryz.ntmps63
    go_wp2_with fail
    rw [Lib.run_neq_ptr_same W _ Tryz.underlying33 hj]
    go_wp2_with fail
    go_end0
    exact ⟨⟨_, rfl⟩, unhide HF, ⟨rfl, rfl, rfl, Nat.le_refl _, fun _ _ _ => rfl⟩⟩
end Go.Proofs.YtbbnppcpjpdpaaaGreatDoor
