/- Texts of this claim, one behind the other. -/
import Derived.Test.YtjgfmobmilgapaaGreatDoorM6
import Derived.Laws.OwnMore
import Derived.Deep.AppendLies
import Derived.Deep.RegionLaw
import Derived.Lib.UnsafeStr
import Derived.Lib.Builder
import Derived.Lib.AppendStr
import Derived.Test.YtjgfmobmilgapaaGreatDoorM3
/- The reader of rules: rows. -/
namespace Go.Proofs.YtjgfmobmilgapaaGreatDoor
open Go.RowKit Go.Shelf
set_option linter.unusedVariables false
structure Fr (lo R Tx : Nat) (W W' : World) : Prop where
  os : W'.os = W.os
  tape : W'.tape = W.tape
  output : W'.output = W.output
  size : W.heap.size ≤ W'.heap.size
  block : ∀ i, i < lo → i ≠ R → i ≠ Tx → W'.heap[i]? = W.heap[i]?
theorem Fr.refl (lo R Tx : Nat) (W : World) : Fr lo R Tx W W := ⟨rfl, rfl, rfl, Nat.le_refl _, fun _ _ _ _ => rfl⟩
theorem Fr.trans {lo R Tx : Nat} {a b c : World} (h : Fr lo R Tx a b) (k : Fr lo R Tx b c) : Fr lo R Tx a c := ⟨k.os.trans h.os, k.tape.trans h.tape, k.output.trans h.output, Nat.le_trans h.size k.size, fun i h1 h2 h3 => (k.block i h1 h2 h3).trans (h.block i h1 h2 h3)⟩
theorem Fr.grown {lo R Tx : Nat} {W W' : World} {row : Option Nat} (hlo : lo ≤ W.heap.size) (hg : W.grownBy W' row) (hr : ∀ b, row = some b → b = R ∨ b = Tx ∨ lo ≤ b) : Fr lo R Tx W W' := ⟨hg.os, hg.tape, hg.output, hg.size, fun i h1 h2 h3 => hg.block i (by omega) (fun e => by rcases hr i e.symm with h | h | h <;> omega)⟩
def Pl (W : World) (a : Option Addr) (m c : Nat) (news : List Value) : Prop :=
  (a = none ∧ m = 0 ∧ c = 0 ∧ news = []) ∨ ∃ ad, a = some ad ∧ 0 < m ∧ news.length = m * 3 ∧ (∀ j u, news[j]? = some u → W.cell? (ad.add j) = some u) ∧ ∀ u ∈ news, u.oneCell' = true
theorem step_append_none {P : Program} {w : World} {ops : Array Oper} {o : Oper} {a : Act} {K : Act → World → Prop} {Q : Exit → Act → World → Prop} {E : Prop} (hgd : o.guard = none) (s x : Operand) (t : TypeId)
    (ho : o.op = .call { callee := .builtin .append, args := #[s, x], argTypes := #[t, t] })
    (base : Nat) (e : TypeId) (i : TypeInfo) (size : Nat) (ht : P.underlying t = some (.slice e)) (hi : P.info? e = some i)
    (v : Value) (n : Nat) (xs : List Value) (hs : a.eval s = v) (hown : w.ownsRow base e size v n xs) (hx : a.eval x = .slice none 0 0)
    (h : K (a.put o.dst v) w) : if Region.wanted o (yielded ops a.tmps) = true then Oper.wp P o a w K Q else E := by
  have hw : Region.wanted o (yielded ops a.tmps) = true := by simp [Region.wanted, hgd]
  rw [if_pos hw]
  have hrun := run_append_owned_none (P := P) (w := w) base t o.type e i size ht hi v n xs hown
  unfold Oper.wp
  simp [execOp, ho, resolve, invoke, builtin, hs, hx, hrun, Result.andThen]
  exact h
theorem own_slice {W : World} {lo E sz n : Nat} {v : Value} {xs : List Value} (h : W.ownsRow lo E sz v n xs) : ∃ a c, v = .slice a n c := by
  rcases h.2 with ⟨rfl, rfl⟩ | ⟨g, cap, cur, rfl, _⟩
  · exact ⟨none, 0, rfl⟩
  · exact ⟨_, _, rfl⟩
theorem rows_fin {W W1 : World} {R Tx g lo : Nat} {ws : List W8} {k : Nat} {bad : Option Rf} {eb el ec : Int} {vs : List Value} {ls : List Ln} {i : Nat} {v v' : Value} {l : Ln} {n : Nat} {xs : List Value} (h17 : i < 17) (hv : vs[i]? = some v) (hl : ls[i]? = some l) (hE : l.E ≠ 54)
    (hR : R < lo) (hgT : g ≠ Tx) (hgl : ∀ (j : Nat) (y : W8), ws[j]? = some y → g < lo) (hlo : lo ≤ W.heap.size) (h : RdE W R Tx g ws k bad eb el ec) (hb : TbAt W lo Tx vs ls eb el ec)
    (ho : W1.ownsRow lo l.E l.sz v' n xs) (hg : W.grownBy W1 v.ownBlock) (hat : v'.ownBlock = v.ownBlock ∨ v'.ownBlock = some W.heap.size) :
    RdE (W1.setCell ⟨Tx, i, none⟩ v') R Tx g ws k bad eb el ec ∧ TbAt (W1.setCell ⟨Tx, i, none⟩ v') lo Tx (vs.set i v') (ls.set i ⟨l.E, l.sz, n, xs⟩) eb el ec ∧ Fr lo R Tx W (W1.setCell ⟨Tx, i, none⟩ v') := by
  have hp := hb.put h17 hv hl ho hg hat
  have how := hb.own i v l hv hl
  have h1 := h.own how hE hR hb.lt hgl hg
  have hq := grown_set' W1 Tx i v'
  have hbt := hb.blk.kept hg (fun e => by have := rd_from how Tx e.symm; have := hb.lt; omega)
  refine ⟨⟨h1.rd.far hq h.ne.symm (fun _ _ _ => hgT) (fun F y hy e => by subst e; have := blk_types hy hbt; revert this; decide), hp.ending, h.ne⟩, hp, ?_⟩
  exact (Fr.grown hlo hg (fun b e => .inr (.inr (rd_from how b e)))).trans (Fr.grown (Nat.le_trans hlo hg.size) hq (fun b e => .inr (.inl (Option.some.inj e).symm)))
set_option maxRecDepth 100000 in
set_option maxHeartbeats 4000000 in
theorem rows_any (R Tx g lo : Nat) (ws : List W8) (k : Nat) (bad : Option Rf) (eb el ec : Int) (vs : List Value) (ls : List Ln) (i : Nat) (hi : i ≤ 8) (v : Value) (n : Nat) (xs : List Value) (hv : vs[8 + i]? = some v) (hl : ls[8 + i]? = some ⟨49, 3, n, xs⟩)
    (hR : R < lo) (hgT : g ≠ Tx) (hgl : ∀ (j : Nat) (y : W8), ws[j]? = some y → g < lo) (a : Option Addr) (m c : Nat) (news : List Value) (hn : n + m ≤ 2000000) (W : World) (hlo : lo ≤ W.heap.size) (h : RdE W R Tx g ws k bad eb el ec) (hb : TbAt W lo Tx vs ls eb el ec) (hp : Pl W a m c news) :
    Calls Tryz.prog 114 #[.pointer (some ⟨R, 0, none⟩), .int .i64 i, .slice a m c] W fun e w' => (∃ r, e = .returned r) ∧ RdE w' R Tx g ws k bad eb el ec ∧ (∃ v', TbAt w' lo Tx (vs.set (8 + i) v') (ls.set (8 + i) ⟨49, 3, n + m, xs ++ news⟩) eb el ec) ∧ Fr lo R Tx W w' := by
  obtain ⟨ra, rc, rv, hrb, _, _, _⟩ := h.rd.blk
  have c1 : W.cell? ⟨R, 1, none⟩ = some (.pointer (some ⟨Tx, 0, none⟩)) := hrb.cell 1
  have t0 := hb.cell (by omega) hv
  have tf := hb.blk.frozen (8 + i)
  have i0 : (0 : Int) ≤ (i : Int) := by omega
  have i9 : (i : Int) < 9 := by omega
  have H := hide h
  have HB := hide hb
  obtain ⟨ia, hia, ha0, ha1, ha2⟩ := info_parts infoAt
  have HIA := hide (And.intro hia (And.intro ha0 (And.intro ha1 ha2)))
  clear hia ha0 ha1 ha2 hrb h hb
  go_enter Tryz.func114, Tryz.ntmps114
  have hmx : Tryz.prog.follows .mixedOrders = true := by kernel_rfl
  have hTl := (unhide HB).lt
  have how := (unhide HB).own _ _ _ hv hl
  obtain ⟨va, vc, rfl⟩ := own_slice how
  rcases hp with ⟨rfl, rfl, rfl, rfl⟩ | ⟨ad, rfl, hm0, hnl, hnc, hn1⟩
  · have tf2 : W.drew.frozen? ⟨Tx, 8 + i, none⟩ = false := tf
    go_region_law (refine step_append_none (by rfl) _ _ _ (by rfl) lo 49 ia 3 Tryz.underlying56 (unhide HIA).1 _ n xs (by rfl) how.drew (by rfl) ?_)
    all_goals
      have hfin := rows_fin (W1 := W.drew) (by omega) hv hl (show (49 : Nat) ≠ 54 by decide) hR hgT hgl hlo (unhide H) (unhide HB) (n := n + 0) (xs := xs ++ []) (by rw [List.append_nil]; exact how.drew) ⟨rfl, rfl, rfl, Nat.le_refl _, fun _ _ _ => rfl⟩ (.inl rfl)
      go_end0
      exact ⟨⟨_, rfl⟩, hfin.1, ⟨_, hfin.2.1⟩, hfin.2.2⟩
  · have hg1 : ∀ b, Value.ownBlock (.slice va n vc) = some b → lo ≤ b := rd_from how
    go_region_law (refine step_append_lies _ (by rfl) _ _ _ (by rfl) lo 49 ia (.agg #[.int .i64 0, .int .i64 0, .int .i64 0]) 3 24 Tryz.underlying56 (unhide HIA).1 (unhide HIA).2.1 (unhide HIA).2.2.1 (unhide HIA).2.2.2 rfl (by omega) _ n xs (by rfl) how.drew ad m c news (by rfl) hnl hnc hn1 hm0 (by unfold maxLen; omega) (by omega) hlo W.heap.size (by simp) ?_; intro gg cap w3 hown1 hgrow hatt hlt; have q1 : w3.cell? ⟨Tx, 8 + i, none⟩ = some (.slice va n vc) := hgrow.cell (a := ⟨Tx, 8 + i, none⟩) t0 (by show some Tx ≠ Value.ownBlock (.slice va n vc); intro e; have := hg1 Tx e.symm; omega); have q2 : w3.frozen? ⟨Tx, 8 + i, none⟩ = false := (Blk.kept (W := W.drew) (unhide HB).blk hgrow (fun e => by have := hg1 Tx e.symm; omega)).frozen (8 + i); have q3 : w3.cell? ⟨R, 1, none⟩ = some (.pointer (some ⟨Tx, 0, none⟩)) := hgrow.cell (a := ⟨R, 1, none⟩) c1 (by show some R ≠ Value.ownBlock (.slice va n vc); intro e; have := hg1 R e.symm; omega))
    all_goals
      have hfin := rows_fin (by omega) hv hl (show (49 : Nat) ≠ 54 by decide) hR hgT hgl hlo (unhide H) (unhide HB) hown1 ⟨hgrow.os, hgrow.tape, hgrow.output, hgrow.size, hgrow.block⟩ (by rcases hatt with e | e; exact .inl e.symm; exact .inr (by rw [e]; rfl))
      go_end0
      exact ⟨⟨_, rfl⟩, hfin.1, ⟨_, hfin.2.1⟩, hfin.2.2⟩
structure PrAt (W : World) (lo N : Nat) (t : List UInt8) (bg wr : Bool) : Prop where
  blk : ∃ p v, Blk W N #[p, v, .bool bg, .bool wr] 95 ∧ (p = .pointer none ∨ p = .pointer (some ⟨N, 0, none⟩)) ∧ W.ownsRow lo 5 1 v t.length (Lib.byteCells t)
  lt : N < lo
  lw : lo ≤ W.heap.size
theorem infoByte8 : (Tryz.prog.info? 5).map (fun i => (i.zero, i.size, i.bytes)) = some (some (.int .u8 0), 1, 1) := by kernel_rfl
theorem sizeBld : (Tryz.prog.info? 93).map (·.size) = some 2 := by kernel_rfl
theorem liesBld : liesAt Tryz.prog Tryz.prog.depth 95 (4 / Tryz.prog.cellsOf 95) 0 93 1 = true := by kernel_rfl
theorem Blk.shape {W : World} {B : Nat} {cs : Array Value} {t : TypeId} (h : Blk W B cs t) : W.shape? B = some (t, cs.size) := by
  have h' : W.heap[B]? = some (.cells cs t (0, 0)) := h
  simp [World.shape?, h']
theorem pn_len (lo N : Nat) (t : List UInt8) (bg wr : Bool) (W : World) (h : PrAt W lo N t bg wr) :
    Calls Tryz.prog 63 #[.pointer (some ⟨N, 0, none⟩)] W fun e w' => e = .returned (.int .i64 t.length) ∧ w' = W := by
  obtain ⟨p, v, hb, hp, ho⟩ := h.blk
  obtain ⟨a, c, rfl⟩ := own_slice ho
  have c1 := hb.cell 1
  clear h hb ho
  go_enter Tryz.func63, Tryz.ntmps63
  go_wp2_with fail
  go_ret
  exact ⟨rfl, rfl⟩
set_option maxRecDepth 100000 in
set_option maxHeartbeats 4000000 in
theorem pn_check (lo N : Nat) (t : List UInt8) (bg wr : Bool) (W : World) (h : PrAt W lo N t bg wr) :
    Calls Tryz.prog 118 #[.pointer (some ⟨N, 0, none⟩)] W fun e w' => (∃ r, e = .returned r) ∧ PrAt w' lo N t bg wr ∧ W.grownBy w' (some N) := by
  obtain ⟨p, v, hb, hp, ho⟩ := h.blk
  obtain ⟨j, hj, hjs⟩ := Option.map_eq_some_iff.1 sizeBld
  have hsh := hb.shape
  have c0 := hb.cell 0
  have f0 := hb.frozen 0
  rcases hp with rfl | rfl
  · have hne : v.ownBlock = none ∨ v.ownBlock ≠ some N := .inr fun e => by have := rd_from ho N e; have := h.lt; omega
    have hfin : PrAt (W.setCell ⟨N, 0, none⟩ (.pointer (some ⟨N, 0, none⟩))) lo N t bg wr := ⟨⟨_, v, hb.set 0 _, .inr rfl, rd_other ho (grown_set' W N 0 _) hne⟩, h.lt, by have := (grown_set' W N 0 (.pointer (some ⟨N, 0, none⟩))).size; have := h.lw; omega⟩
    have HF := hide hfin
    have HSH := hide hsh
    clear hfin h hb ho hne hsh
    go_enter Tryz.func118, Tryz.ntmps118
    go_wp2_with fail
    rw [Lib.run_to_unsafe W ⟨N, 0, none⟩ Tryz.underlying90 Tryz.underlying149 hj (by rw [hjs]; decide) (unhide HSH) (by show 0 < 4; decide)]
    simp only [Result.andThen]
    rw [Oper.upon_value]
    go_wp2_with fail
    rw [run_callFunc_extern Tryz.func134 (by kernel_rfl) (by kernel_rfl) (by kernel_rfl) (e := Extern.AbiNoEscape.same) (by kernel_rfl)]
    rw [Lib.run_noEscape]
    simp only [Result.andThen]
    rw [Oper.upon_value]
    go_wp2_with fail
    rw [Lib.run_from_unsafe W ⟨N, 0, none⟩ Tryz.underlying149 Tryz.underlying90 hj (unhide HSH) liesBld]
    simp only [Result.andThen]
    rw [Oper.upon_value]
    go_wp2_with fail
    go_end0
    exact ⟨⟨_, rfl⟩, unhide HF, grown_set' W N 0 _⟩
  · have HF := hide h
    clear h hb ho hsh
    go_enter Tryz.func118, Tryz.ntmps118
    go_wp2_with fail
    rw [Lib.run_neq_ptr_same W _ Tryz.underlying90 hj]
    go_wp2_with fail
    go_end0
    exact ⟨⟨_, rfl⟩, unhide HF, ⟨rfl, rfl, rfl, Nat.le_refl _, fun _ _ _ => rfl⟩⟩
structure RuSt (W0 W : World) (R Tx g lo : Nat) (ws : List W8) (k : Nat) (bad : Option Rf) (eb el ec : Int) (vs : List Value) (ls : List Ln) : Prop where
  rd : RdE W R Tx g ws k bad eb el ec
  tb : TbAt W lo Tx vs ls eb el ec
  fr : Fr lo R Tx W0 W
  low : lo ≤ W.heap.size
  hR : R < lo
  hgT : g ≠ Tx
  hgl : ∀ (j : Nat) (y : W8), ws[j]? = some y → g < lo
theorem RuSt.call {W0 W W2 : World} {R Tx g lo : Nat} {ws : List W8} {k k2 : Nat} {bad bad2 : Option Rf} {eb el ec : Int} {vs : List Value} {ls : List Ln} (h : RuSt W0 W R Tx g lo ws k bad eb el ec vs ls) (h2 : RdE W2 R Tx g ws k2 bad2 eb el ec) (hg : W.grownBy W2 (some R)) : RuSt W0 W2 R Tx g lo ws k2 bad2 eb el ec vs ls :=
  ⟨h2, h.tb.kept h.hR h.rd.ne hg, h.fr.trans (Fr.grown h.low hg (fun b e => .inl (Option.some.inj e).symm)), Nat.le_trans h.low hg.size, h.hR, h.hgT, h.hgl⟩
theorem RuSt.alloc {W0 W : World} {R Tx g lo : Nat} {ws : List W8} {k : Nat} {bad : Option Rf} {eb el ec : Int} {vs : List Value} {ls : List Ln} (h : RuSt W0 W R Tx g lo ws k bad eb el ec vs ls) (o : Obj) : RuSt W0 (W.alloc o) R Tx g lo ws k bad eb el ec vs ls := h.call (h.rd.alloc o) (World.grownBy_alloc W o _)
theorem RuSt.put {W0 W W1 : World} {R Tx g lo : Nat} {ws : List W8} {k : Nat} {bad : Option Rf} {eb el ec : Int} {vs : List Value} {ls : List Ln} {i : Nat} {v v' : Value} {l : Ln} {n : Nat} {xs : List Value} (h : RuSt W0 W R Tx g lo ws k bad eb el ec vs ls) (h17 : i < 17) (hv : vs[i]? = some v) (hl : ls[i]? = some l) (hE : l.E ≠ 54) (ho : W1.ownsRow lo l.E l.sz v' n xs) (hg : W.grownBy W1 v.ownBlock) (hat : v'.ownBlock = v.ownBlock ∨ v'.ownBlock = some W.heap.size) :
    RuSt W0 (W1.setCell ⟨Tx, i, none⟩ v') R Tx g lo ws k bad eb el ec (vs.set i v') (ls.set i ⟨l.E, l.sz, n, xs⟩) := by
  obtain ⟨h1, h2, h3⟩ := rows_fin h17 hv hl hE h.hR h.hgT h.hgl h.low h.rd h.tb ho hg hat
  exact ⟨h1, h2, h.fr.trans h3, Nat.le_trans h.low h3.size, h.hR, h.hgT, h.hgl⟩
theorem rows_ru (W0 : World) (R Tx g lo : Nat) (ws : List W8) (k : Nat) (bad : Option Rf) (eb el ec : Int) (vs : List Value) (ls : List Ln) (i : Nat) (hi : i ≤ 8) (n : Nat) (xs : List Value) (hl : ls[8 + i]? = some ⟨49, 3, n, xs⟩) (a : Option Addr) (m c : Nat) (news : List Value) (hn : n + m ≤ 2000000) (W : World) (h : RuSt W0 W R Tx g lo ws k bad eb el ec vs ls) (hp : Pl W a m c news) :
    Calls Tryz.prog 114 #[.pointer (some ⟨R, 0, none⟩), .int .i64 i, .slice a m c] W fun e w' => (∃ r, e = .returned r) ∧ ∃ v', RuSt W0 w' R Tx g lo ws k bad eb el ec (vs.set (8 + i) v') (ls.set (8 + i) ⟨49, 3, n + m, xs ++ news⟩) := by
  obtain ⟨v, hv⟩ : ∃ v, vs[8 + i]? = some v := ⟨_, List.getElem?_eq_getElem (by have := h.tb.lv; omega)⟩
  refine (rows_any R Tx g lo ws k bad eb el ec vs ls i hi v n xs hv hl h.hR h.hgT h.hgl a m c news hn W h.low h.rd h.tb hp).mono ?_
  rintro e w' ⟨h1, h2, ⟨v', h3⟩, h4⟩
  exact ⟨h1, v', h2, h3, h.fr.trans h4, Nat.le_trans h.low h4.size, h.hR, h.hgT, h.hgl⟩
structure Mk where
  on : Int
  cl : Int
  k : Nat
  bad : Option Rf
def markV (ws : List W8) (k : Nat) (bad : Option Rf) (eb el ec : Int) : Mk :=
  let a := takeV ws k bad eb el ec 3
  let b := takeV ws a.k a.bad eb el ec 2
  let c := takeV ws b.k b.bad eb el ec 6
  ⟨a.x.r, b.x.n, c.k, c.bad⟩
theorem blk_row {W : World} {N lo E E' sz n : Nat} {cs : Array Value} {v : Value} {xs : List Value} (hb : Blk W N cs E') (h : W.ownsRow lo E sz v n xs) (hE : E ≠ E') : some N ≠ v.ownBlock := by
  rcases h.2 with ⟨rfl, _⟩ | ⟨g, cap, cur, rfl, _, hg, _⟩
  · simp [Value.ownBlock]
  · simp only [Value.ownBlock]
    intro e
    have e := Option.some.inj e
    subst e
    exact hE (blk_types (show Blk W N cur E from hg) hb)
theorem infoMark : (Tryz.prog.info? 71).map (fun i => (i.zero, i.size, i.bytes)) = some (some (.agg #[.int .i32 0, .int .i64 0]), 2, 16) := by kernel_rfl
theorem field_n (a : Int) (b : ByteArray) (c d e f g h : Int) (w : World) : (Instr.field 115 (.agg #[.int .i64 a, .string b, .int .i32 c, .int .i64 d, .int .i64 e, .int .i64 f, .int .i64 g, .int .i64 h]) 3).run Tryz.prog w = .ok (.int .i64 d) w := by kernel_rfl
set_option maxRecDepth 100000 in
set_option maxHeartbeats 4000000 in
theorem mark_any (R Tx g lo : Nat) (ws : List W8) (k : Nat) (bad : Option Rf) (eb el ec fb fl fc : Int) (vs : List Value) (ls : List Ln) (n1 n2 : Nat) (xs1 xs2 : List Value) (hl1 : ls[2]? = some ⟨71, 2, n1, xs1⟩) (hl2 : ls[11]? = some ⟨49, 3, n2, xs2⟩) (hn1 : n1 ≤ 1000000) (hn2 : n2 ≤ 1000000) (W0 W : World) (h : RuSt W0 W R Tx g lo ws k bad eb el ec vs ls) :
    Calls Tryz.prog 82 #[.pointer (some ⟨R, 0, none⟩), .agg #[.int .i64 fb, .int .i64 fl, .int .i64 fc]] W fun e w' => (∃ r, e = .returned r) ∧ ∃ va vb, RuSt W0 w' R Tx g lo ws (markV ws k bad eb el ec).k (markV ws k bad eb el ec).bad eb el ec ((vs.set 2 va).set 11 vb) ((ls.set 2 ⟨71, 2, n1 + 1, xs1 ++ [.int .i32 (markV ws k bad eb el ec).on, .int .i64 (markV ws k bad eb el ec).cl]⟩).set 11 ⟨49, 3, n2 + 1, xs2 ++ [.int .i64 fb, .int .i64 fl, .int .i64 fc]⟩) := by
  have hNR : R < W.heap.size := Nat.lt_of_lt_of_le h.hR h.low
  have HLo := hide h.low
  have HV : Hz (markV ws k bad eb el ec = ⟨(takeV ws k bad eb el ec 3).x.r, (takeV ws (takeV ws k bad eb el ec 3).k (takeV ws k bad eb el ec 3).bad eb el ec 2).x.n, (takeV ws (takeV ws (takeV ws k bad eb el ec 3).k (takeV ws k bad eb el ec 3).bad eb el ec 2).k (takeV ws (takeV ws k bad eb el ec 3).k (takeV ws k bad eb el ec 3).bad eb el ec 2).bad eb el ec 6).k, (takeV ws (takeV ws (takeV ws k bad eb el ec 3).k (takeV ws k bad eb el ec 3).bad eb el ec 2).k (takeV ws (takeV ws k bad eb el ec 3).k (takeV ws k bad eb el ec 3).bad eb el ec 2).bad eb el ec 6).bad⟩) := hide rfl
  generalize markV ws k bad eb el ec = V at *
  obtain ⟨im, him, hm0, hm1, hm2⟩ := info_parts infoMark
  have HIM := hide (And.intro him (And.intro hm0 (And.intro hm1 hm2)))
  clear him hm0 hm1 hm2
  have hmx : Tryz.prog.follows .mixedOrders = true := by kernel_rfl
  have H := hide (h.alloc (.cells #[.int .i64 fb, .int .i64 fl, .int .i64 fc] 49))
  have HX := hide (Blk.new W #[.int .i64 fb, .int .i64 fl, .int .i64 fc] 49)
  clear h
  go_enter Tryz.func82, Tryz.ntmps82
  go_wp2_with fail
  generalize W.alloc (.cells #[.int .i64 fb, .int .i64 fl, .int .i64 fc] 49) = WA at *
  generalize W.heap.size = N at *
  refine (take_e R Tx g ws k bad eb el ec 3 WA (unhide H).rd).mono ?_
  rintro e w1 ⟨rfl, hR1, hg1⟩
  have H1 := hide ((unhide H).call hR1 hg1)
  have HX1 := hide ((unhide HX).kept hg1 (fun e => by have := Option.some.inj e; omega))
  clear hR1 hg1 H HX
  generalize takeV ws k bad eb el ec 3 = A at *
  obtain ⟨⟨ak, aS, ar, an, ab, al, ac, ae⟩, k1, bad1⟩ := A
  dsimp only at H1 HV
  unfold wV
  dsimp only
  have hf := field_r ak aS ar an ab al ac ae
  go_wp2_with fail
  refine (take_e R Tx g ws k1 bad1 eb el ec 2 w1 (unhide H1).rd).mono ?_
  rintro e w2 ⟨rfl, hR2, hg2⟩
  have H2 := hide ((unhide H1).call hR2 hg2)
  have HX2 := hide ((unhide HX1).kept hg2 (fun e => by have := Option.some.inj e; omega))
  clear hR2 hg2 H1 HX1 hf
  generalize takeV ws k1 bad1 eb el ec 2 = B at *
  obtain ⟨⟨bk, bS, br, bn, bb, bl, bc, be⟩, k2, bad2⟩ := B
  dsimp only at H2 HV
  unfold wV
  dsimp only
  have hf := field_n bk bS br bn bb bl bc be
  go_wp2_with fail
  refine (take_e R Tx g ws k2 bad2 eb el ec 6 w2 (unhide H2).rd).mono ?_
  rintro e w3 ⟨rfl, hR3, hg3⟩
  have H3 := hide ((unhide H2).call hR3 hg3)
  have HX3 := hide ((unhide HX2).kept hg3 (fun e => by have := Option.some.inj e; omega))
  clear hR3 hg3 H2 HX2 hf
  generalize takeV ws k2 bad2 eb el ec 6 = C at *
  obtain ⟨cx, k3, bad3⟩ := C
  dsimp only at H3 HV
  dsimp only
  generalize wV cx = vcx
  go_wp2_with fail
  obtain ⟨v, hv⟩ : ∃ v, vs[2]? = some v := ⟨_, List.getElem?_eq_getElem (by have := (unhide H3).tb.lv; omega)⟩
  have how := (unhide H3).tb.own _ _ _ hv hl1
  obtain ⟨va, vc, rfl⟩ := own_slice how
  have hg0 : ∀ b, Value.ownBlock (.slice va n1 vc) = some b → lo ≤ b := rd_from how
  obtain ⟨ra, rc, rv, hrb, _, _, _⟩ := (unhide H3).rd.rd.blk
  have c1 : w3.cell? ⟨R, 1, none⟩ = some (.pointer (some ⟨Tx, 0, none⟩)) := hrb.cell 1
  have t0 := (unhide H3).tb.cell (by omega) hv
  have hTl := (unhide H3).tb.lt
  have hRl := (unhide H3).hR
  have hl3 := (unhide H3).low
  have hltR : R < w3.heap.size := by omega
  have hltT : Tx < w3.heap.size := by omega
  have ca1 := (hrb.alloc (.cells #[.int .i32 ar, .int .i64 bn] 71)).cell 1
  have ta := ((unhide H3).tb.kept (R := R) hRl (unhide H3).rd.ne (World.grownBy_alloc w3 (.cells #[.int .i32 ar, .int .i64 bn] 71) _))
  have t1 := ta.cell (by omega) hv
  have hNx : some N ≠ Value.ownBlock (.slice va n1 vc) := blk_row (unhide HX3) how (show (71 : Nat) ≠ 49 by decide)
  clear hrb
  go_region_law (refine step_append_lies _ (by rfl) _ _ _ (by rfl) lo 71 im (.agg #[.int .i32 0, .int .i64 0]) 2 16 Tryz.underlying24 (unhide HIM).1 (unhide HIM).2.1 (unhide HIM).2.2.1 (unhide HIM).2.2.2 rfl (by omega) _ n1 xs1 (by rfl) (how.alloc _).drew ⟨w3.heap.size, 0, none⟩ 1 1 [.int .i32 ar, .int .i64 bn] (by rfl) (by rfl) (World.news_of_block (cs := #[.int .i32 ar, .int .i64 bn]) (t := 71) (fr := (0, 0)) (heap_alloc_new w3 _)) (by simp [Value.oneCell']) (by omega) (by unfold maxLen; omega) (by omega) (by simp; omega) (w3.heap.size + 1) (by simp) ?_; intro gg cap w4 hown1 hgrow hatt hlt; have q1 : w4.cell? ⟨Tx, 2, none⟩ = some (.slice va n1 vc) := hgrow.cell (a := ⟨Tx, 2, none⟩) t1 (by show some Tx ≠ Value.ownBlock (.slice va n1 vc); intro e; have := hg0 Tx e.symm; omega); have q2 : w4.frozen? ⟨Tx, 2, none⟩ = false := (Blk.kept (W := (w3.alloc _).drew) ta.blk hgrow (fun e => by have := hg0 Tx e.symm; omega)).frozen 2; have q3 : w4.cell? ⟨R, 1, none⟩ = some (.pointer (some ⟨Tx, 0, none⟩)) := hgrow.cell (a := ⟨R, 1, none⟩) ca1 (by show some R ≠ Value.ownBlock (.slice va n1 vc); intro e; have := hg0 R e.symm; omega))
  all_goals
    have H4 := hide (((unhide H3).alloc (.cells #[.int .i32 ar, .int .i64 bn] 71)).put (W1 := w4) (by omega) hv hl1 (show (71 : Nat) ≠ 54 by decide) hown1 ⟨hgrow.os, hgrow.tape, hgrow.output, hgrow.size, hgrow.block⟩ (by rcases hatt with e | e; exact .inl e.symm; exact .inr (by rw [e]; simp [Value.ownBlock])))
    have hx5 := (Blk.kept (W := (w3.alloc (.cells #[.int .i32 ar, .int .i64 bn] 71)).drew) ((unhide HX3).alloc _) hgrow hNx).kept (grown_set' w4 Tx 2 (.slice (some ⟨gg, 0, none⟩) (n1 + 1) cap)) (fun e => by have := Option.some.inj e; have := unhide HLo; omega)
    clear hgrow hown1 hatt hlt q1 q2 q3 H3 HX3 how c1 t0 ca1 ta t1
    generalize w4.setCell ⟨Tx, 2, none⟩ (.slice (some ⟨gg, 0, none⟩) (n1 + 1) cap) = w5 at *
    have x0 := hx5.cell 0
    have x1 := hx5.cell 1
    have x2 := hx5.cell 2
    clear hx5
    have HP := hide (Blk.new w5 #[.int .i64 fb, .int .i64 fl, .int .i64 fc] 49)
    go_wp2_with fail
    refine (rows_ru W0 R Tx g lo ws k3 bad3 eb el ec _ _ 3 (by omega) n2 xs2 (by rw [List.getElem?_set_ne (by decide)]; exact hl2) _ 1 1 [.int .i64 fb, .int .i64 fl, .int .i64 fc] (by omega) _ ((unhide H4).alloc _) (.inr ⟨_, rfl, by decide, rfl, World.news_of_block (cs := #[.int .i64 fb, .int .i64 fl, .int .i64 fc]) (t := 49) (fr := (0, 0)) (heap_alloc_new w5 _), by simp [Value.oneCell']⟩)).mono ?_
    rintro e w6 ⟨⟨r, rfl⟩, vb, hfin⟩
    go_wp2_with fail
    go_end0
    exact ⟨⟨_, rfl⟩, _, vb, by rw [unhide HV]; exact hfin⟩
theorem below_grown2 {W W' : World} {row : Option Nat} (h : Below W.heap.size W W') : W.grownBy W' row := ⟨h.os, h.tape, h.output, h.size, fun i hi _ => h.block i hi⟩
structure PF (lo N : Nat) (W W' : World) : Prop where
  fr : Fr lo N N W W'
  ko : ∀ (i : Nat) (o : Obj), i ≠ N → (∀ cs f, o ≠ .cells cs 5 f) → W.heap[i]? = some o → W'.heap[i]? = some o
theorem PF.kp {lo N : Nat} {W W' : World} (h : PF lo N W W') (i : Nat) (cs : Array Value) (ty : TypeId) (h1 : i ≠ N) (h2 : ty ≠ 5) (h3 : Blk W i cs ty) : Blk W' i cs ty := h.ko i _ h1 (fun cs' f e => by injection e with _ e2; exact h2 e2) h3
theorem PF.refl (lo N : Nat) (W : World) : PF lo N W W := ⟨Fr.refl _ _ _ _, fun _ _ _ _ h => h⟩
theorem PF.trans {lo N : Nat} {a b c : World} (h : PF lo N a b) (k : PF lo N b c) : PF lo N a c := ⟨h.fr.trans k.fr, fun i o h1 h2 h3 => k.ko i o h1 h2 (h.ko i o h1 h2 h3)⟩
theorem PF.own {lo N : Nat} {W W' : World} (hlo : lo ≤ W.heap.size) (hg : W.grownBy W' (some N)) : PF lo N W W' := ⟨Fr.grown hlo hg (fun b e => .inl (Option.some.inj e).symm), fun i o h1 _ h3 => by rw [hg.block i (Array.getElem?_eq_some_iff.1 h3).1 (fun e => h1 (Option.some.inj e))]; exact h3⟩
theorem PF.below {lo N : Nat} {W W' : World} (hlo : lo ≤ W.heap.size) (hb : Below W.heap.size W W') : PF lo N W W' := PF.own hlo (below_grown2 hb)
theorem PrAt.put {W W1 : World} {lo N : Nat} {t t' : List UInt8} {bg wr : Bool} {p v v' : Value} (hlt : N < lo) (hw : lo ≤ W.heap.size) (hb : Blk W N #[p, v, .bool bg, .bool wr] 95) (hp : p = .pointer none ∨ p = .pointer (some ⟨N, 0, none⟩)) (ho : W.ownsRow lo 5 1 v t.length (Lib.byteCells t)) (hn : W1.ownsRow lo 5 1 v' t'.length (Lib.byteCells t')) (hg : W.grownBy W1 v.ownBlock) :
    PrAt (W1.setCell ⟨N, 1, none⟩ v') lo N t' bg wr ∧ PF lo N W (W1.setCell ⟨N, 1, none⟩ v') := by
  have hvl := rd_from ho
  have b1 := hb.kept hg (fun e => by have := hvl N e.symm; omega)
  have q := grown_set' W1 N 1 v'
  refine ⟨⟨⟨p, v', b1.set 1 v', hp, rd_other hn q (.inr fun e => by have := rd_from hn N e; omega)⟩, hlt, by have := hg.size; have := q.size; omega⟩, ?_⟩
  exact PF.trans ⟨Fr.grown hw hg (fun b e => .inr (.inr (hvl b e))), fun i o h1 h2 h3 => by
    rw [hg.block i (Array.getElem?_eq_some_iff.1 h3).1 ?_]
    · exact h3
    · rcases ho.2 with ⟨rfl, _⟩ | ⟨g, cap, cur, rfl, _, hgc, _⟩
      · simp [Value.ownBlock]
      · intro e
        have e := Option.some.inj e
        subst e
        exact h2 cur (0, 0) (Option.some.inj (h3.symm.trans hgc))⟩ (PF.own (by have := hg.size; omega) q)
set_option maxRecDepth 100000 in
set_option maxHeartbeats 4000000 in
theorem pn_string (lo N : Nat) (t : List UInt8) (bg wr : Bool) (s : ByteArray) (hl : t.length + s.size ≤ 1000000) (W : World) (h : PrAt W lo N t bg wr) :
    Calls Tryz.prog 98 #[.pointer (some ⟨N, 0, none⟩), .string s] W fun e w' => (∃ r, e = .returned r) ∧ PrAt w' lo N (t ++ s.data.toList) bg wr ∧ PF lo N W w' := by
  obtain ⟨i0, hi, hz0, hz1, hz2⟩ := info_parts infoByte8
  have H := hide h
  clear h
  go_enter Tryz.func98, Tryz.ntmps98
  go_wp2_with fail
  refine (pn_check lo N t bg wr W (unhide H)).mono ?_
  rintro e w1 ⟨⟨r, rfl⟩, h1, hg1⟩
  obtain ⟨p, v, hb, hp, ho⟩ := h1.blk
  have hlt := h1.lt
  have hlw := h1.lw
  have HG1 := hide (PF.own (unhide H).lw hg1)
  have c1 := hb.cell 1
  have HP := hide (And.intro hb (And.intro hp ho))
  clear h1 hg1 hb hp H
  go_wp2_with (at_builtin; refine Lib.wpList_append_own_string _ rfl _ _ 91 9 rfl lo 5 i0 Tryz.underlying91 Tryz.underlying9 hi hz0 hz1 hz2 _ _ _ rfl ho s rfl ?c3 ?c4 ?c5 ?_)
  case c3 => unfold maxLen; omega
  case c4 => omega
  case c5 => omega
  intro v' w2 hown' hgrow _
  have hn : w2.ownsRow lo 5 1 v' (t ++ s.data.toList).length (Lib.byteCells (t ++ s.data.toList)) := by
    have e1 : Lib.byteCells (t ++ s.data.toList) = Lib.byteCells t ++ Lib.strCells s := by simp [Lib.byteCells, Lib.strCells]
    rw [e1, List.length_append, show s.data.toList.length = s.size from rfl]
    exact hown'
  have hfin := PrAt.put hlt hlw (unhide HP).1 (unhide HP).2.1 ho hn hgrow
  have b2 := (unhide HP).1.kept hgrow (fun e => by have := rd_from ho N e.symm; omega)
  have d1 := b2.cell 1
  have f1 := b2.frozen 1
  obtain ⟨ao, cap, rfl⟩ := own_slice hn
  have HF := hide hfin
  rw [show (t ++ s.data.toList).length = t.length + s.size by rw [List.length_append]; rfl] at HF
  clear hfin b2 hn hown' hgrow ho c1
  go_wp2_with fail
  first
  | (go_ret2; exact ⟨⟨_, rfl⟩, (unhide HF).1, (unhide HG1).trans (unhide HF).2⟩)
  | (exact bodyPost_ret (v := .tuple #[.int .i64 s.size, .nilIface]) (by simp [results, Tryz.results98, go_sem]) rfl ⟨⟨_, rfl⟩, (unhide HF).1, (unhide HG1).trans (unhide HF).2⟩)
set_option maxRecDepth 100000 in
set_option maxHeartbeats 4000000 in
theorem pn_byte (lo N : Nat) (t : List UInt8) (bg wr : Bool) (c : UInt8) (hl : t.length ≤ 1000000) (W : World) (h : PrAt W lo N t bg wr) :
    Calls Tryz.prog 97 #[.pointer (some ⟨N, 0, none⟩), .int .u8 c.toNat] W fun e w' => (∃ r, e = .returned r) ∧ PrAt w' lo N (t ++ [c]) bg wr ∧ PF lo N W w' := by
  obtain ⟨i0, hi, hz0, hz1, hz2⟩ := info_parts infoByte8
  have H := hide h
  clear h
  go_enter Tryz.func97, Tryz.ntmps97
  go_wp2_with fail
  refine (pn_check lo N t bg wr W (unhide H)).mono ?_
  rintro e w1 ⟨⟨r, rfl⟩, h1, hg1⟩
  obtain ⟨p, v, hb, hp, ho⟩ := h1.blk
  have hlt := h1.lt
  have hlw := h1.lw
  have HG1 := hide (PF.own (unhide H).lw hg1)
  have c1 := hb.cell 1
  have HP := hide (And.intro hb (And.intro hp ho))
  clear h1 hg1 hb hp H
  go_wp2_with (at_builtin; refine append_k rfl _ _ 91 5 rfl i0 (.int .u8 0) 1 1 Tryz.underlying91 ⟨hi, hz0, hz1, hz2⟩ rfl (by decide) (by decide) lo _ t.length (Lib.byteCells t) [.int .u8 c.toNat] rfl rfl (by omega) w1 rfl (by intro u hu; simp at hu; rw [hu]; rfl) ho hlw _ rfl rfl ?_)
  intro v' w2 hown' hgrow
  have hn : w2.ownsRow lo 5 1 v' (t ++ [c]).length (Lib.byteCells (t ++ [c])) := by
    have e1 : Lib.byteCells (t ++ [c]) = Lib.byteCells t ++ [.int .u8 c.toNat] := by simp [Lib.byteCells]
    rw [e1, List.length_append, List.length_singleton]
    exact hown'
  have hgA : (w1.alloc (.cells #[.int .u8 c.toNat] 5)).grownBy w2 v.ownBlock := hgrow
  have hfin := PrAt.put (W := w1.alloc (.cells #[.int .u8 c.toNat] 5)) hlt (by simp; omega) ((unhide HP).1.alloc _) (unhide HP).2.1 (ho.alloc _) hn hgA
  have b2 := ((unhide HP).1.alloc (.cells #[.int .u8 c.toNat] 5)).kept hgA (fun e => by have := rd_from ho N e.symm; omega)
  have d1 := b2.cell 1
  have f1 := b2.frozen 1
  obtain ⟨ao, cap, rfl⟩ := own_slice hn
  have HF := hide (And.intro hfin.1 ((PF.own hlw (World.grownBy_alloc w1 (.cells #[.int .u8 c.toNat] 5) (some N))).trans hfin.2))
  rw [show (t ++ [c]).length = t.length + 1 by rw [List.length_append]; rfl] at HF
  clear hfin b2 hn hown' hgrow ho c1 hgA
  go_wp2_with fail
  go_ret
  exact ⟨⟨_, rfl⟩, (unhide HF).1, (unhide HG1).trans (unhide HF).2⟩
theorem pow16_any (w : World) : Calls Tryz.prog 159 #[.int .i64 16] w fun e w' => e = .returned (.bool true) ∧ w' = w := by
  go_enter Tryz.func159, Tryz.ntmps159
  go_wp2
  go_ret
  exact ⟨rfl, rfl⟩
theorem tz16_any (w : World) (hT : w.cell? ⟨11, 15, none⟩ = some (.int .u8 4)) : Calls Tryz.prog 167 #[.int .u64 16] w fun e w' => e = .returned (.int .i64 4) ∧ w' = w := by
  have hk : IntKind.u64.wrap (bits BinOp.and IntKind.u64 16 (IntKind.u64.wrap (-16)) * 285870213051353865) / 288230376151711744 = 15 := by decide +kernel
  go_enter Tryz.func167, Tryz.ntmps167
  go_wp2
  go_ret
  exact ⟨rfl, rfl⟩
theorem tz_any (w : World) (hT : w.cell? ⟨11, 15, none⟩ = some (.int .u8 4)) : Calls Tryz.prog 160 #[.int .u64 16] w fun e w' => e = .returned (.int .i64 4) ∧ w' = w := by
  go_enter Tryz.func160, Tryz.ntmps160
  go_wp2_with (go_at_call 167; refine (tz16_any _ hT).mono ?_; rintro e w' ⟨rfl, rfl⟩)
  go_ret
  exact ⟨rfl, rfl⟩
end Go.Proofs.YtjgfmobmilgapaaGreatDoor
