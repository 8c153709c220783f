/- Texts of this claim, one behind the other. -/
import Derived.Test.YtbbnppcpjpdpaaaGreatDoorRdB
/- The reader of rules: one span. -/
namespace Go.Proofs.YtbbnppcpjpdpaaaGreatDoor
open Go.RowKit Go.Shelf
set_option linter.unusedVariables false
/-- The reader with the end of its text. -/
structure RdE (W : World) (R Tx g : Nat) (ws : List W8) (k : Nat) (bad : Option Rf) (eb el ec : Int) : Prop where
  rd : RdAt W R Tx g ws k bad
  en : EndAt W Tx eb el ec
  ne : Tx ≠ R
theorem RdE.step {W W' : World} {R Tx g : Nat} {ws : List W8} {k k2 : Nat} {bad bad2 : Option Rf} {eb el ec : Int} (h : RdE W R Tx g ws k bad eb el ec) (h2 : RdAt W' R Tx g ws k2 bad2) (hg : W.grownBy W' (some R)) : RdE W' R Tx g ws k2 bad2 eb el ec := ⟨h2, h.en.kept hg (fun e => h.ne (Option.some.inj e)), h.ne⟩
theorem RdE.alloc {W : World} {R Tx g : Nat} {ws : List W8} {k : Nat} {bad : Option Rf} {eb el ec : Int} (h : RdE W R Tx g ws k bad eb el ec) (o : Obj) : RdE (W.alloc o) R Tx g ws k bad eb el ec := ⟨h.rd.alloc o, h.en.kept (World.grownBy_alloc W o none) (by simp), h.ne⟩
theorem take_e (R Tx g : Nat) (ws : List W8) (k : Nat) (bad : Option Rf) (eb el ec kind : Int) (W : World) (h : RdE W R Tx g ws k bad eb el ec) :
    Calls Tryz.prog 52 #[.pointer (some ⟨R, 0, none⟩), .int .i64 kind] W fun e w' => e = .returned (wV (takeV ws k bad eb el ec kind).x) ∧ RdE w' R Tx g ws (takeV ws k bad eb el ec kind).k (takeV ws k bad eb el ec kind).bad eb el ec ∧ W.grownBy w' (some R) :=
  (take_any R Tx g ws k bad eb el ec kind W h.rd h.en).mono fun e w' ⟨h1, h2, h3⟩ => ⟨h1, h.step h2 h3, h3⟩
theorem field_r (a : Int) (b : ByteArray) (c d e f g h : Int) (w : World) : (Instr.field 124 (.agg #[.int .i64 a, .string b, .int .i32 c, .int .i64 d, .int .i64 e, .int .i64 f, .int .i64 g, .int .i64 h]) 2).run Tryz.prog w = .ok (.int .i32 c) w := by kernel_rfl
/-- A span is written into a box that is newer than all that the reader has. -/
theorem span_fin {W w1 : World} {R Tx g N : Nat} {ws : List W8} {k : Nat} {bad : Option Rf} {eb el ec : Int} {a b : Value} (h : RdE w1 R Tx g ws k bad eb el ec) (hg : W.grownBy w1 (some R)) (hb : Blk w1 N #[a, b] 54) (hN : N = W.heap.size) (hR : R < N) (hT : Tx < N) (hgl : ∀ (j : Nat) (y : W8), ws[j]? = some y → g < N) (u v : Value) :
    RdE ((w1.setCell ⟨N, 0, none⟩ u).setCell ⟨N, 1, none⟩ v) R Tx g ws k bad eb el ec ∧ W.grownBy ((w1.setCell ⟨N, 0, none⟩ u).setCell ⟨N, 1, none⟩ v) (some R) ∧ Blk ((w1.setCell ⟨N, 0, none⟩ u).setCell ⟨N, 1, none⟩ v) N #[u, v] 54 := by
  have q : w1.grownBy ((w1.setCell ⟨N, 0, none⟩ u).setCell ⟨N, 1, none⟩ v) (some N) := grown_trans' (grown_set' w1 N 0 u) (grown_set' _ N 1 v)
  refine ⟨⟨h.rd.far q (by omega) (fun j y hy => by have := hgl j y hy; omega) (fun F y hy e => by subst e; have := blk_types hy hb; revert this; decide), h.en.kept q (fun e => by have := Option.some.inj e; omega), h.ne⟩, ⟨q.os.trans hg.os, q.tape.trans hg.tape, q.output.trans hg.output, Nat.le_trans hg.size q.size, fun i hi hn => (q.block i (by have := hg.size; omega) (fun e => by injection e; omega)).trans (hg.block i hi hn)⟩, (hb.set 0 u).set 1 v⟩
/-- What span answers. -/
structure Sn where
  lo : Int
  hi : Int
  k : Nat
  bad : Option Rf
def spanV (ws : List W8) (k : Nat) (bad : Option Rf) (eb el ec : Int) : Sn :=
  let a := takeV ws k bad eb el ec 3
  if seesB ws a.k a.bad 9 then
    let b := takeV ws a.k a.bad eb el ec 9
    let c := takeV ws b.k b.bad eb el ec 3
    ⟨a.x.r, c.x.r, c.k, c.bad⟩
  else ⟨a.x.r, a.x.r, a.k, a.bad⟩
set_option maxRecDepth 100000 in
set_option maxHeartbeats 4000000 in
theorem span_any (R Tx g : Nat) (ws : List W8) (k : Nat) (bad : Option Rf) (eb el ec : Int) (W : World) (h : RdE W R Tx g ws k bad eb el ec) :
    Calls Tryz.prog 138 #[.pointer (some ⟨R, 0, none⟩)] W fun e w' => e = .returned (.agg #[.int .i32 (spanV ws k bad eb el ec).lo, .int .i32 (spanV ws k bad eb el ec).hi]) ∧ RdE w' R Tx g ws (spanV ws k bad eb el ec).k (spanV ws k bad eb el ec).bad eb el ec ∧ W.grownBy w' (some R) := by
  have hRW : R < W.heap.size := by obtain ⟨a, c, v, hb, _⟩ := h.rd.blk; exact hb.lt
  have hglt := h.rd.glt
  have hTW : Tx < W.heap.size := cell_lt h.en.c0
  have hz := h.alloc (.cells #[.int .i32 0, .int .i32 0] 54)
  have hgz := World.grownBy_alloc W (.cells #[.int .i32 0, .int .i32 0] 54) (some R)
  have hbz := Blk.new W #[.int .i32 0, .int .i32 0] 54
  obtain ⟨N, hN⟩ : ∃ N, N = W.heap.size := ⟨_, rfl⟩
  have HN := hide hN
  rw [← hN] at hbz
  have H := hide (And.intro hz (And.intro hgz hbz))
  have hRN : R < N := by omega
  have hTN : Tx < N := by omega
  have HGL : Hz (∀ (j : Nat) (y : W8), ws[j]? = some y → g < N) := hide (fun j y hy => by have := hglt j y hy; omega)
  clear h hz hgz hbz hglt
  go_enter Tryz.func138, Tryz.ntmps138
  go_wp2_with fail
  generalize W.alloc (.cells #[.int .i32 0, .int .i32 0] 54) = WZ at *
  rw [← unhide HN]
  clear hN
  refine (take_e R Tx g ws k bad eb el ec 3 WZ (unhide H).1).mono ?_
  rintro e w1 ⟨rfl, hR1, hg1⟩
  have H1 := hide (And.intro hR1 (And.intro (grown_trans' (unhide H).2.1 hg1) ((unhide H).2.2.kept hg1 (fun e => by have := Option.some.inj e; omega))))
  have HSV : Hz (spanV ws k bad eb el ec = if seesB ws (takeV ws k bad eb el ec 3).k (takeV ws k bad eb el ec 3).bad 9 then ⟨(takeV ws k bad eb el ec 3).x.r, (takeV ws (takeV ws (takeV ws k bad eb el ec 3).k (takeV ws k bad eb el ec 3).bad eb el ec 9).k (takeV ws (takeV ws k bad eb el ec 3).k (takeV ws k bad eb el ec 3).bad eb el ec 9).bad eb el ec 3).x.r, (takeV ws (takeV ws (takeV ws k bad eb el ec 3).k (takeV ws k bad eb el ec 3).bad eb el ec 9).k (takeV ws (takeV ws k bad eb el ec 3).k (takeV ws k bad eb el ec 3).bad eb el ec 9).bad eb el ec 3).k, (takeV ws (takeV ws (takeV ws k bad eb el ec 3).k (takeV ws k bad eb el ec 3).bad eb el ec 9).k (takeV ws (takeV ws k bad eb el ec 3).k (takeV ws k bad eb el ec 3).bad eb el ec 9).bad eb el ec 3).bad⟩ else ⟨(takeV ws k bad eb el ec 3).x.r, (takeV ws k bad eb el ec 3).x.r, (takeV ws k bad eb el ec 3).k, (takeV ws k bad eb el ec 3).bad⟩) := hide rfl
  clear hR1 hg1 H
  generalize takeV ws k bad eb el ec 3 = A at *
  obtain ⟨⟨ak, aS, ar, an, ab, al, ac, ae⟩, k1, bad1⟩ := A
  dsimp only at HSV H1
  unfold wV
  dsimp only
  have hf := field_r ak aS ar an ab al ac ae
  have HS := hide (sees_any R Tx g ws k1 bad1 9 w1 (unhide H1).1.rd)
  cases hs : seesB ws k1 bad1 9 with
  | false =>
    rw [hs] at HS HSV
    have HSV2 : Hz (spanV ws k bad eb el ec = ⟨ar, ar, k1, bad1⟩) := hide ((unhide HSV).trans rfl)
    clear hs HSV
    go_wp2_with fail
    refine (unhide HS).mono ?_
    rintro e w2 ⟨rfl, hw2⟩
    rw [hw2]
    clear hw2 HS
    have hb1 := (unhide H1).2.2
    have k0 := hb1.cell 0
    have q0 := hb1.frozen 0
    have k1' := hb1.cell 1
    have q1 := hb1.frozen 1
    have hfin := span_fin (unhide H1).1 (unhide H1).2.1 hb1 (unhide HN) hRN hTN (unhide HGL) (.int .i32 ar) (.int .i32 ar)
    have r0 := hfin.2.2.cell 0
    have r1 := hfin.2.2.cell 1
    have HFIN := hide (And.intro hfin.1 hfin.2.1)
    clear hfin hb1
    go_wp2_with fail
    rw [unhide HSV2]
    exact bodyPost_ret (v := .agg #[.int .i32 ar, .int .i32 ar]) (by simp [results, Tryz.results138, go_sem, r0, r1]) rfl ⟨rfl, (unhide HFIN).1, (unhide HFIN).2⟩
  | true =>
    rw [hs] at HS HSV
    have HSV2 := hide ((unhide HSV).trans (if_pos rfl))
    clear hs HSV
    go_wp2_with fail
    refine (unhide HS).mono ?_
    rintro e w2 ⟨rfl, hw2⟩
    rw [hw2]
    clear hw2 HS
    go_wp2_with fail
    refine (take_e R Tx g ws k1 bad1 eb el ec 9 w1 (unhide H1).1).mono ?_
    rintro e w3 ⟨rfl, hR3, hg3⟩
    have H3 := hide (And.intro hR3 (And.intro (grown_trans' (unhide H1).2.1 hg3) ((unhide H1).2.2.kept hg3 (fun e => by have := Option.some.inj e; omega))))
    clear hR3 hg3 H1
    generalize takeV ws k1 bad1 eb el ec 9 = B9 at *
    obtain ⟨b9, k3, bad3⟩ := B9
    dsimp only at HSV2 H3
    dsimp only
    generalize wV b9 = vb9
    go_wp2_with fail
    refine (take_e R Tx g ws k3 bad3 eb el ec 3 w3 (unhide H3).1).mono ?_
    rintro e w4 ⟨rfl, hR4, hg4⟩
    have H4 := hide (And.intro hR4 (And.intro (grown_trans' (unhide H3).2.1 hg4) ((unhide H3).2.2.kept hg4 (fun e => by have := Option.some.inj e; omega))))
    clear hR4 hg4 H3
    generalize takeV ws k3 bad3 eb el ec 3 = C3 at *
    obtain ⟨⟨ck, cS, cr, cn, cb, cl, cc, ce⟩, k4, bad4⟩ := C3
    dsimp only at HSV2 H4
    unfold wV
    dsimp only
    have hf2 := field_r ck cS cr cn cb cl cc ce
    have hb1 := (unhide H4).2.2
    have k0 := hb1.cell 0
    have q0 := hb1.frozen 0
    have k1' := hb1.cell 1
    have q1 := hb1.frozen 1
    have hfin := span_fin (unhide H4).1 (unhide H4).2.1 hb1 (unhide HN) hRN hTN (unhide HGL) (.int .i32 ar) (.int .i32 cr)
    have r0 := hfin.2.2.cell 0
    have r1 := hfin.2.2.cell 1
    have HFIN := hide (And.intro hfin.1 hfin.2.1)
    clear hfin hb1
    go_wp2_with fail
    rw [unhide HSV2]
    exact bodyPost_ret (v := .agg #[.int .i32 ar, .int .i32 cr]) (by simp [results, Tryz.results138, go_sem, r0, r1]) rfl ⟨rfl, (unhide HFIN).1, (unhide HFIN).2⟩
end Go.Proofs.YtbbnppcpjpdpaaaGreatDoor
/- The reader of rules beside lists that a call owns. -/
namespace Go.Proofs.YtbbnppcpjpdpaaaGreatDoor
open Go.RowKit Go.Shelf
set_option linter.unusedVariables false
theorem rd_other {W W' : World} {lo E sz n : Nat} {v : Value} {xs : List Value} {row : Option Nat} (h : W.ownsRow lo E sz v n xs) (hg : W.grownBy W' row) (hne : v.ownBlock = none ∨ v.ownBlock ≠ row) : W'.ownsRow lo E sz v n xs := by
  refine ⟨h.1, ?_⟩
  rcases h.2 with h2 | ⟨g, cap, cur, e, hb, h3, r⟩
  · exact .inl h2
  · refine .inr ⟨g, cap, cur, e, hb, ?_, r⟩
    subst e
    rw [hg.block g (Array.getElem?_eq_some_iff.1 h3).1 (by rcases hne with h4 | h4; exact absurd h4 (by simp [Value.ownBlock]); exact h4)]
    exact h3
theorem rd_apart {W : World} {base base' E E' sz sz' n n' : Nat} {v v' : Value} {xs xs' : List Value} (h : W.ownsRow base E sz v n xs) (h' : W.ownsRow base' E' sz' v' n' xs') (hE : E ≠ E') : v.ownBlock = none ∨ v.ownBlock ≠ v'.ownBlock := by
  rcases h.2 with ⟨rfl, _⟩ | ⟨g, cap, cur, rfl, _, hg, _⟩
  · exact .inl rfl
  · refine .inr ?_
    rcases h'.2 with ⟨rfl, _⟩ | ⟨g', cap', cur', rfl, _, hg', _⟩
    · simp [Value.ownBlock]
    · simp only [Value.ownBlock]
      intro e
      have e := Option.some.inj e
      subst e
      exact hE (blk_types (show Blk W g cur E from hg) (show Blk W g cur' E' from hg'))
theorem rd_from {W : World} {lo E sz n : Nat} {v : Value} {xs : List Value} (h : W.ownsRow lo E sz v n xs) : ∀ k, v.ownBlock = some k → lo ≤ k := by
  rcases h.2 with ⟨rfl, _⟩ | ⟨g, cap, cur, rfl, hl, hg, _⟩
  · intro k e; simp [Value.ownBlock] at e
  · intro k e; simp [Value.ownBlock] at e; omega
/-- The reader stays when a list that the call owns is written. -/
theorem RdE.own {W W' : World} {R Tx g lo E sz n : Nat} {v : Value} {xs : List Value} {ws : List W8} {k : Nat} {bad : Option Rf} {eb el ec : Int} (h : RdE W R Tx g ws k bad eb el ec) (ho : W.ownsRow lo E sz v n xs) (hE : E ≠ 83) (hR : R < lo) (hT : Tx < lo) (hgl : ∀ (j : Nat) (y : W8), ws[j]? = some y → g < lo) (hg : W.grownBy W' v.ownBlock) : RdE W' R Tx g ws k bad eb el ec := by
  rcases ho.2 with ⟨rfl, _⟩ | ⟨N, cap, cur, rfl, hl, hN, _⟩
  · have hg : W.grownBy W' none := hg
    obtain ⟨a, c, v, hb, ha, hc, hv⟩ := h.rd.blk
    exact ⟨h.rd.upd ⟨hg.os, hg.tape, hg.output, hg.size, fun i hi _ => hg.block i hi (by simp)⟩ h.rd.kn a c v (hb.kept hg (by simp)) ha hc (hv.kept hg (fun F x _ => by simp)), h.en.kept hg (by simp), h.ne⟩
  · have hg : W.grownBy W' (some N) := hg
    exact ⟨h.rd.far hg (by omega) (fun j y hy => by have := hgl j y hy; omega) (fun F y hy e => by subst e; exact hE (blk_types (show Blk W F cur E from hN) hy)), h.en.kept hg (fun e => by have := Option.some.inj e; omega), h.ne⟩
def encS2 : List (Int × Int) → List Value
  | [] => []
  | x :: t => .int .i32 x.1 :: .int .i32 x.2 :: encS2 t
def encA3 : List (Int × Int × Int) → List Value
  | [] => []
  | x :: t => .int .i64 x.1 :: .int .i64 x.2.1 :: .int .i64 x.2.2 :: encA3 t
theorem encS2_snoc (t : List (Int × Int)) (a b : Int) : encS2 (t ++ [(a, b)]) = encS2 t ++ [.int .i32 a, .int .i32 b] := by
  induction t with
  | nil => rfl
  | cons x t ih => show _ :: _ :: encS2 (t ++ [(a, b)]) = _ :: _ :: _; rw [ih]; rfl
theorem encA3_snoc (t : List (Int × Int × Int)) (a b c : Int) : encA3 (t ++ [(a, b, c)]) = encA3 t ++ [.int .i64 a, .int .i64 b, .int .i64 c] := by
  induction t with
  | nil => rfl
  | cons x t ih => show _ :: _ :: _ :: encA3 (t ++ [(a, b, c)]) = _ :: _ :: _ :: _; rw [ih]; rfl
/-- Spans and places that a call owns, beside the reader. -/
structure SpSt (W W' : World) (R Tx g : Nat) (ws : List W8) (k : Nat) (bad : Option Rf) (eb el ec : Int) (vs vp : Value) (ss : List (Int × Int)) (ps : List (Int × Int × Int)) : Prop where
  rd : RdE W' R Tx g ws k bad eb el ec
  os : W'.ownsRow W.heap.size 54 2 vs ss.length (encS2 ss)
  op : W'.ownsRow W.heap.size 61 3 vp ps.length (encA3 ps)
  gr : W.grownBy W' (some R)
  hR : R < W.heap.size
  hT : Tx < W.heap.size
  hg : ∀ (j : Nat) (y : W8), ws[j]? = some y → g < W.heap.size
  ns : ss = [] → vs = .slice none 0 0
  np : ps = [] → vp = .slice none 0 0
theorem grown_own {W W1 W2 : World} {R : Nat} {v : Value} (h : W.grownBy W1 (some R)) (hv : ∀ k, v.ownBlock = some k → W.heap.size ≤ k) (hg : W1.grownBy W2 v.ownBlock) : W.grownBy W2 (some R) :=
  ⟨hg.os.trans h.os, hg.tape.trans h.tape, hg.output.trans h.output, Nat.le_trans h.size hg.size, fun i hi hn => (hg.block i (by have := h.size; omega) (fun e => by have := hv i e.symm; omega)).trans (h.block i hi hn)⟩
theorem SpSt.call {W W1 W2 : World} {R Tx g : Nat} {ws : List W8} {k k2 : Nat} {bad bad2 : Option Rf} {eb el ec : Int} {vs vp : Value} {ss : List (Int × Int)} {ps : List (Int × Int × Int)} (h : SpSt W W1 R Tx g ws k bad eb el ec vs vp ss ps) (h2 : RdE W2 R Tx g ws k2 bad2 eb el ec) (hg : W1.grownBy W2 (some R)) : SpSt W W2 R Tx g ws k2 bad2 eb el ec vs vp ss ps :=
  ⟨h2, rd_other h.os hg (.inr fun e => by have := rd_from h.os R e; have := h.hR; omega), rd_other h.op hg (.inr fun e => by have := rd_from h.op R e; have := h.hR; omega), grown_trans' h.gr hg, h.hR, h.hT, h.hg, h.ns, h.np⟩
theorem SpSt.alloc {W W1 : World} {R Tx g : Nat} {ws : List W8} {k : Nat} {bad : Option Rf} {eb el ec : Int} {vs vp : Value} {ss : List (Int × Int)} {ps : List (Int × Int × Int)} (h : SpSt W W1 R Tx g ws k bad eb el ec vs vp ss ps) (o : Obj) : SpSt W (W1.alloc o) R Tx g ws k bad eb el ec vs vp ss ps := h.call (h.rd.alloc o) (World.grownBy_alloc W1 o _)
theorem SpSt.place {W W1 W2 : World} {R Tx g : Nat} {ws : List W8} {k : Nat} {bad : Option Rf} {eb el ec : Int} {vs vp vp' : Value} {ss : List (Int × Int)} {ps : List (Int × Int × Int)} {a b c : Int} (h : SpSt W W1 R Tx g ws k bad eb el ec vs vp ss ps) (ho : W2.ownsRow W.heap.size 61 3 vp' (ps.length + 1) (encA3 ps ++ [.int .i64 a, .int .i64 b, .int .i64 c])) (hg : W1.grownBy W2 vp.ownBlock) : SpSt W W2 R Tx g ws k bad eb el ec vs vp' ss (ps ++ [(a, b, c)]) :=
  ⟨h.rd.own h.op (by decide) h.hR h.hT h.hg hg, rd_other h.os hg (rd_apart h.os h.op (by decide)), by rw [encA3_snoc, List.length_append]; exact ho, grown_own h.gr (rd_from h.op) hg, h.hR, h.hT, h.hg, h.ns, fun e => absurd e (by simp)⟩
theorem SpSt.span {W W1 W2 : World} {R Tx g : Nat} {ws : List W8} {k : Nat} {bad : Option Rf} {eb el ec : Int} {vs vs' vp : Value} {ss : List (Int × Int)} {ps : List (Int × Int × Int)} {a b : Int} (h : SpSt W W1 R Tx g ws k bad eb el ec vs vp ss ps) (ho : W2.ownsRow W.heap.size 54 2 vs' (ss.length + 1) (encS2 ss ++ [.int .i32 a, .int .i32 b])) (hg : W1.grownBy W2 vs.ownBlock) : SpSt W W2 R Tx g ws k bad eb el ec vs' vp (ss ++ [(a, b)]) ps :=
  ⟨h.rd.own h.os (by decide) h.hR h.hT h.hg hg, by rw [encS2_snoc, List.length_append]; exact ho, rd_other h.op hg (rd_apart h.op h.os (by decide)), grown_own h.gr (rd_from h.os) hg, h.hR, h.hT, h.hg, fun e => absurd e (by simp), h.np⟩
/-- What spans answers. -/
structure Sps where
  ss : List (Int × Int)
  ps : List (Int × Int × Int)
  k : Nat
  bad : Option Rf
def atV (ws : List W8) (k : Nat) : Int × Int × Int := match ws[k]? with
  | some x => (x.b, x.l, x.c)
  | none => (0, 0, 0)
def spansGo (ws : List W8) (eb el ec : Int) : Nat → Nat → Option Rf → Sps
  | 0, k, bad => ⟨[], [], k, bad⟩
  | f + 1, k, bad => if seesB ws k bad 3 then
      let s := spanV ws k bad eb el ec
      let r := spansGo ws eb el ec f s.k s.bad
      ⟨(s.lo, s.hi) :: r.ss, atV ws k :: r.ps, r.k, r.bad⟩
    else ⟨[], [], k, bad⟩
def spansV (ws : List W8) (k : Nat) (bad : Option Rf) (eb el ec : Int) : Sps :=
  let a := takeV ws k bad eb el ec 4
  let r := spansGo ws eb el ec (ws.length + 1) a.k a.bad
  let z := takeV ws r.k r.bad eb el ec 5
  ⟨r.ss, r.ps, z.k, z.bad⟩
theorem seesB_some {ws : List W8} {k : Nat} {bad : Option Rf} {kind : Int} (h : seesB ws k bad kind = true) : ∃ x, ws[k]? = some x ∧ k < ws.length ∧ bad = none := by
  unfold seesB at h
  split at h
  · rename_i x hx; exact ⟨x, hx, (List.getElem?_eq_some_iff.1 hx).1, rfl⟩
  · cases h
theorem takeV_le (ws : List W8) (k : Nat) (bad : Option Rf) (eb el ec kind : Int) (hk : k ≤ ws.length) : k ≤ (takeV ws k bad eb el ec kind).k ∧ (takeV ws k bad eb el ec kind).k ≤ ws.length := by
  unfold takeV
  split
  · rename_i x h1 h2; have := (List.getElem?_eq_some_iff.1 h2).1; exact ⟨Nat.le_succ k, this⟩
  · exact ⟨Nat.le_refl k, hk⟩
theorem takeV_yes {ws : List W8} {k : Nat} {bad : Option Rf} (eb el ec : Int) {kind : Int} (h : seesB ws k bad kind = true) : (takeV ws k bad eb el ec kind).k = k + 1 := by
  obtain ⟨x, hx, _, _⟩ := seesB_some h
  unfold takeV
  rw [h, hx]
theorem spanV_lt {ws : List W8} {k : Nat} {bad : Option Rf} (eb el ec : Int) (h : seesB ws k bad 3 = true) : k < (spanV ws k bad eb el ec).k ∧ (spanV ws k bad eb el ec).k ≤ ws.length := by
  have h1 := takeV_yes eb el ec h
  obtain ⟨x, hx, hk, _⟩ := seesB_some h
  unfold spanV
  dsimp only
  split
  · have h2 := takeV_le ws (takeV ws k bad eb el ec 3).k (takeV ws k bad eb el ec 3).bad eb el ec 9 (by omega)
    have h3 := takeV_le ws _ (takeV ws (takeV ws k bad eb el ec 3).k (takeV ws k bad eb el ec 3).bad eb el ec 9).bad eb el ec 3 h2.2
    dsimp only
    omega
  · dsimp only; omega
/-- What is read so far, and what will be. -/
structure SgSt (ws : List W8) (eb el ec : Int) (T : Sps) (f k : Nat) (bad : Option Rf) (ss : List (Int × Int)) (ps : List (Int × Int × Int)) : Prop where
  eq : T = ⟨ss ++ (spansGo ws eb el ec f k bad).ss, ps ++ (spansGo ws eb el ec f k bad).ps, (spansGo ws eb el ec f k bad).k, (spansGo ws eb el ec f k bad).bad⟩
  fu : ws.length - k < f
  le : k ≤ ws.length
  len : ss.length ≤ k
  lep : ps.length ≤ k
theorem SgSt.stop {ws : List W8} {eb el ec : Int} {T : Sps} {f k : Nat} {bad : Option Rf} {ss : List (Int × Int)} {ps : List (Int × Int × Int)} (h : SgSt ws eb el ec T f k bad ss ps) (hs : seesB ws k bad 3 = false) : T = ⟨ss, ps, k, bad⟩ := by
  obtain ⟨g, rfl⟩ : ∃ g, f = g + 1 := ⟨f - 1, by have := h.fu; omega⟩
  have e := h.eq
  unfold spansGo at e
  rw [if_neg (by rw [hs]; decide)] at e
  rw [e]
  simp
theorem SgSt.next {ws : List W8} {eb el ec : Int} {T : Sps} {f k : Nat} {bad : Option Rf} {ss : List (Int × Int)} {ps : List (Int × Int × Int)} (h : SgSt ws eb el ec T f k bad ss ps) (hs : seesB ws k bad 3 = true) : ∃ f', SgSt ws eb el ec T f' (spanV ws k bad eb el ec).k (spanV ws k bad eb el ec).bad (ss ++ [((spanV ws k bad eb el ec).lo, (spanV ws k bad eb el ec).hi)]) (ps ++ [atV ws k]) := by
  obtain ⟨g, rfl⟩ : ∃ g, f = g + 1 := ⟨f - 1, by have := h.fu; omega⟩
  have hl := spanV_lt eb el ec hs
  have e := h.eq
  unfold spansGo at e
  rw [if_pos hs] at e
  have h1 := h.fu
  have h2 := h.len
  have h3 := h.lep
  refine ⟨g, by rw [e]; simp, by omega, hl.2, by rw [List.length_append, List.length_singleton]; omega, by rw [List.length_append, List.length_singleton]; omega⟩
end Go.Proofs.YtbbnppcpjpdpaaaGreatDoor
