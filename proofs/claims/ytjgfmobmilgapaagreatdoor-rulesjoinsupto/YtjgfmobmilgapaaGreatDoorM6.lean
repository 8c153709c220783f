/- Texts of this claim, one behind the other. -/
import Derived.Test.YtjgfmobmilgapaaGreatDoorM5
import Derived.Maps.AppendAt
/- The reader of rules: one span. -/
namespace Go.Proofs.YtjgfmobmilgapaaGreatDoor
open Go.RowKit Go.Shelf
set_option linter.unusedVariables false
structure RdE (W : World) (R Tx g : Nat) (ws : List W8) (k : Nat) (bad : Option Rf) (eb el ec : Int) : Prop where
  rd : RdAt W R Tx g ws k bad
  en : EndAt W Tx eb el ec
  ne : Tx ≠ R
theorem RdE.step {W W' : World} {R Tx g : Nat} {ws : List W8} {k k2 : Nat} {bad bad2 : Option Rf} {eb el ec : Int} (h : RdE W R Tx g ws k bad eb el ec) (h2 : RdAt W' R Tx g ws k2 bad2) (hg : W.grownBy W' (some R)) : RdE W' R Tx g ws k2 bad2 eb el ec := ⟨h2, h.en.kept hg (fun e => h.ne (Option.some.inj e)), h.ne⟩
theorem RdE.alloc {W : World} {R Tx g : Nat} {ws : List W8} {k : Nat} {bad : Option Rf} {eb el ec : Int} (h : RdE W R Tx g ws k bad eb el ec) (o : Obj) : RdE (W.alloc o) R Tx g ws k bad eb el ec := ⟨h.rd.alloc o, h.en.kept (World.grownBy_alloc W o none) (by simp), h.ne⟩
theorem take_e (R Tx g : Nat) (ws : List W8) (k : Nat) (bad : Option Rf) (eb el ec kind : Int) (W : World) (h : RdE W R Tx g ws k bad eb el ec) :
    Calls Tryz.prog 45 #[.pointer (some ⟨R, 0, none⟩), .int .i64 kind] W fun e w' => e = .returned (wV (takeV ws k bad eb el ec kind).x) ∧ RdE w' R Tx g ws (takeV ws k bad eb el ec kind).k (takeV ws k bad eb el ec kind).bad eb el ec ∧ W.grownBy w' (some R) :=
  (take_any R Tx g ws k bad eb el ec kind W h.rd h.en).mono fun e w' ⟨h1, h2, h3⟩ => ⟨h1, h.step h2 h3, h3⟩
theorem field_r (a : Int) (b : ByteArray) (c d e f g h : Int) (w : World) : (Instr.field 115 (.agg #[.int .i64 a, .string b, .int .i32 c, .int .i64 d, .int .i64 e, .int .i64 f, .int .i64 g, .int .i64 h]) 2).run Tryz.prog w = .ok (.int .i32 c) w := by kernel_rfl
theorem span_fin {W w1 : World} {R Tx g N : Nat} {ws : List W8} {k : Nat} {bad : Option Rf} {eb el ec : Int} {a b : Value} (h : RdE w1 R Tx g ws k bad eb el ec) (hg : W.grownBy w1 (some R)) (hb : Blk w1 N #[a, b] 68) (hN : N = W.heap.size) (hR : R < N) (hT : Tx < N) (hgl : ∀ (j : Nat) (y : W8), ws[j]? = some y → g < N) (u v : Value) :
    RdE ((w1.setCell ⟨N, 0, none⟩ u).setCell ⟨N, 1, none⟩ v) R Tx g ws k bad eb el ec ∧ W.grownBy ((w1.setCell ⟨N, 0, none⟩ u).setCell ⟨N, 1, none⟩ v) (some R) ∧ Blk ((w1.setCell ⟨N, 0, none⟩ u).setCell ⟨N, 1, none⟩ v) N #[u, v] 68 := by
  have q : w1.grownBy ((w1.setCell ⟨N, 0, none⟩ u).setCell ⟨N, 1, none⟩ v) (some N) := grown_trans' (grown_set' w1 N 0 u) (grown_set' _ N 1 v)
  refine ⟨⟨h.rd.far q (by omega) (fun j y hy => by have := hgl j y hy; omega) (fun F y hy e => by subst e; have := blk_types hy hb; revert this; decide), h.en.kept q (fun e => by have := Option.some.inj e; omega), h.ne⟩, ⟨q.os.trans hg.os, q.tape.trans hg.tape, q.output.trans hg.output, Nat.le_trans hg.size q.size, fun i hi hn => (q.block i (by have := hg.size; omega) (fun e => by injection e; omega)).trans (hg.block i hi hn)⟩, (hb.set 0 u).set 1 v⟩
structure Sn where
  lo : Int
  hi : Int
  k : Nat
  bad : Option Rf
def spanV (ws : List W8) (k : Nat) (bad : Option Rf) (eb el ec : Int) : Sn :=
  let a := takeV ws k bad eb el ec 3
  if seesB ws a.k a.bad 9 then
    let b := takeV ws a.k a.bad eb el ec 9
    let c := takeV ws b.k b.bad eb el ec 3
    ⟨a.x.r, c.x.r, c.k, c.bad⟩
  else ⟨a.x.r, a.x.r, a.k, a.bad⟩
set_option maxRecDepth 100000 in
set_option maxHeartbeats 4000000 in
theorem span_any (R Tx g : Nat) (ws : List W8) (k : Nat) (bad : Option Rf) (eb el ec : Int) (W : World) (h : RdE W R Tx g ws k bad eb el ec) :
    Calls Tryz.prog 133 #[.pointer (some ⟨R, 0, none⟩)] W fun e w' => e = .returned (.agg #[.int .i32 (spanV ws k bad eb el ec).lo, .int .i32 (spanV ws k bad eb el ec).hi]) ∧ RdE w' R Tx g ws (spanV ws k bad eb el ec).k (spanV ws k bad eb el ec).bad eb el ec ∧ W.grownBy w' (some R) := by
  have hRW : R < W.heap.size := by obtain ⟨a, c, v, hb, _⟩ := h.rd.blk; exact hb.lt
  have hglt := h.rd.glt
  have hTW : Tx < W.heap.size := cell_lt h.en.c0
  have hz := h.alloc (.cells #[.int .i32 0, .int .i32 0] 68)
  have hgz := World.grownBy_alloc W (.cells #[.int .i32 0, .int .i32 0] 68) (some R)
  have hbz := Blk.new W #[.int .i32 0, .int .i32 0] 68
  obtain ⟨N, hN⟩ : ∃ N, N = W.heap.size := ⟨_, rfl⟩
  have HN := hide hN
  rw [← hN] at hbz
  have H := hide (And.intro hz (And.intro hgz hbz))
  have hRN : R < N := by omega
  have hTN : Tx < N := by omega
  have HGL : Hz (∀ (j : Nat) (y : W8), ws[j]? = some y → g < N) := hide (fun j y hy => by have := hglt j y hy; omega)
  clear h hz hgz hbz hglt
  go_enter Tryz.func133, Tryz.ntmps133
  go_wp2_with fail
  generalize W.alloc (.cells #[.int .i32 0, .int .i32 0] 68) = WZ at *
  rw [← unhide HN]
  clear hN
  refine (take_e R Tx g ws k bad eb el ec 3 WZ (unhide H).1).mono ?_
  rintro e w1 ⟨rfl, hR1, hg1⟩
  have H1 := hide (And.intro hR1 (And.intro (grown_trans' (unhide H).2.1 hg1) ((unhide H).2.2.kept hg1 (fun e => by have := Option.some.inj e; omega))))
  have HSV : Hz (spanV ws k bad eb el ec = if seesB ws (takeV ws k bad eb el ec 3).k (takeV ws k bad eb el ec 3).bad 9 then ⟨(takeV ws k bad eb el ec 3).x.r, (takeV ws (takeV ws (takeV ws k bad eb el ec 3).k (takeV ws k bad eb el ec 3).bad eb el ec 9).k (takeV ws (takeV ws k bad eb el ec 3).k (takeV ws k bad eb el ec 3).bad eb el ec 9).bad eb el ec 3).x.r, (takeV ws (takeV ws (takeV ws k bad eb el ec 3).k (takeV ws k bad eb el ec 3).bad eb el ec 9).k (takeV ws (takeV ws k bad eb el ec 3).k (takeV ws k bad eb el ec 3).bad eb el ec 9).bad eb el ec 3).k, (takeV ws (takeV ws (takeV ws k bad eb el ec 3).k (takeV ws k bad eb el ec 3).bad eb el ec 9).k (takeV ws (takeV ws k bad eb el ec 3).k (takeV ws k bad eb el ec 3).bad eb el ec 9).bad eb el ec 3).bad⟩ else ⟨(takeV ws k bad eb el ec 3).x.r, (takeV ws k bad eb el ec 3).x.r, (takeV ws k bad eb el ec 3).k, (takeV ws k bad eb el ec 3).bad⟩) := hide rfl
  clear hR1 hg1 H
  generalize takeV ws k bad eb el ec 3 = A at *
  obtain ⟨⟨ak, aS, ar, an, ab, al, ac, ae⟩, k1, bad1⟩ := A
  dsimp only at HSV H1
  unfold wV
  dsimp only
  have hf := field_r ak aS ar an ab al ac ae
  have HS := hide (sees_any R Tx g ws k1 bad1 9 w1 (unhide H1).1.rd)
  cases hs : seesB ws k1 bad1 9 with
  | false =>
    rw [hs] at HS HSV
    have HSV2 : Hz (spanV ws k bad eb el ec = ⟨ar, ar, k1, bad1⟩) := hide ((unhide HSV).trans rfl)
    clear hs HSV
    go_wp2_with fail
    refine (unhide HS).mono ?_
    rintro e w2 ⟨rfl, hw2⟩
    rw [hw2]
    clear hw2 HS
    have hb1 := (unhide H1).2.2
    have k0 := hb1.cell 0
    have q0 := hb1.frozen 0
    have k1' := hb1.cell 1
    have q1 := hb1.frozen 1
    have hfin := span_fin (unhide H1).1 (unhide H1).2.1 hb1 (unhide HN) hRN hTN (unhide HGL) (.int .i32 ar) (.int .i32 ar)
    have r0 := hfin.2.2.cell 0
    have r1 := hfin.2.2.cell 1
    have HFIN := hide (And.intro hfin.1 hfin.2.1)
    clear hfin hb1
    go_wp2_with fail
    rw [unhide HSV2]
    exact bodyPost_ret (v := .agg #[.int .i32 ar, .int .i32 ar]) (by simp [results, Tryz.results133, go_sem, r0, r1]) rfl ⟨rfl, (unhide HFIN).1, (unhide HFIN).2⟩
  | true =>
    rw [hs] at HS HSV
    have HSV2 := hide ((unhide HSV).trans (if_pos rfl))
    clear hs HSV
    go_wp2_with fail
    refine (unhide HS).mono ?_
    rintro e w2 ⟨rfl, hw2⟩
    rw [hw2]
    clear hw2 HS
    go_wp2_with fail
    refine (take_e R Tx g ws k1 bad1 eb el ec 9 w1 (unhide H1).1).mono ?_
    rintro e w3 ⟨rfl, hR3, hg3⟩
    have H3 := hide (And.intro hR3 (And.intro (grown_trans' (unhide H1).2.1 hg3) ((unhide H1).2.2.kept hg3 (fun e => by have := Option.some.inj e; omega))))
    clear hR3 hg3 H1
    generalize takeV ws k1 bad1 eb el ec 9 = B9 at *
    obtain ⟨b9, k3, bad3⟩ := B9
    dsimp only at HSV2 H3
    dsimp only
    generalize wV b9 = vb9
    go_wp2_with fail
    refine (take_e R Tx g ws k3 bad3 eb el ec 3 w3 (unhide H3).1).mono ?_
    rintro e w4 ⟨rfl, hR4, hg4⟩
    have H4 := hide (And.intro hR4 (And.intro (grown_trans' (unhide H3).2.1 hg4) ((unhide H3).2.2.kept hg4 (fun e => by have := Option.some.inj e; omega))))
    clear hR4 hg4 H3
    generalize takeV ws k3 bad3 eb el ec 3 = C3 at *
    obtain ⟨⟨ck, cS, cr, cn, cb, cl, cc, ce⟩, k4, bad4⟩ := C3
    dsimp only at HSV2 H4
    unfold wV
    dsimp only
    have hf2 := field_r ck cS cr cn cb cl cc ce
    have hb1 := (unhide H4).2.2
    have k0 := hb1.cell 0
    have q0 := hb1.frozen 0
    have k1' := hb1.cell 1
    have q1 := hb1.frozen 1
    have hfin := span_fin (unhide H4).1 (unhide H4).2.1 hb1 (unhide HN) hRN hTN (unhide HGL) (.int .i32 ar) (.int .i32 cr)
    have r0 := hfin.2.2.cell 0
    have r1 := hfin.2.2.cell 1
    have HFIN := hide (And.intro hfin.1 hfin.2.1)
    clear hfin hb1
    go_wp2_with fail
    rw [unhide HSV2]
    exact bodyPost_ret (v := .agg #[.int .i32 ar, .int .i32 cr]) (by simp [results, Tryz.results133, go_sem, r0, r1]) rfl ⟨rfl, (unhide HFIN).1, (unhide HFIN).2⟩
theorem rd_other {W W' : World} {lo E sz n : Nat} {v : Value} {xs : List Value} {row : Option Nat} (h : W.ownsRow lo E sz v n xs) (hg : W.grownBy W' row) (hne : v.ownBlock = none ∨ v.ownBlock ≠ row) : W'.ownsRow lo E sz v n xs := by
  refine ⟨h.1, ?_⟩
  rcases h.2 with h2 | ⟨g, cap, cur, e, hb, h3, r⟩
  · exact .inl h2
  · refine .inr ⟨g, cap, cur, e, hb, ?_, r⟩
    subst e
    rw [hg.block g (Array.getElem?_eq_some_iff.1 h3).1 (by rcases hne with h4 | h4; exact absurd h4 (by simp [Value.ownBlock]); exact h4)]
    exact h3
theorem rd_apart {W : World} {base base' E E' sz sz' n n' : Nat} {v v' : Value} {xs xs' : List Value} (h : W.ownsRow base E sz v n xs) (h' : W.ownsRow base' E' sz' v' n' xs') (hE : E ≠ E') : v.ownBlock = none ∨ v.ownBlock ≠ v'.ownBlock := by
  rcases h.2 with ⟨rfl, _⟩ | ⟨g, cap, cur, rfl, _, hg, _⟩
  · exact .inl rfl
  · refine .inr ?_
    rcases h'.2 with ⟨rfl, _⟩ | ⟨g', cap', cur', rfl, _, hg', _⟩
    · simp [Value.ownBlock]
    · simp only [Value.ownBlock]
      intro e
      have e := Option.some.inj e
      subst e
      exact hE (blk_types (show Blk W g cur E from hg) (show Blk W g cur' E' from hg'))
theorem rd_from {W : World} {lo E sz n : Nat} {v : Value} {xs : List Value} (h : W.ownsRow lo E sz v n xs) : ∀ k, v.ownBlock = some k → lo ≤ k := by
  rcases h.2 with ⟨rfl, _⟩ | ⟨g, cap, cur, rfl, hl, hg, _⟩
  · intro k e; simp [Value.ownBlock] at e
  · intro k e; simp [Value.ownBlock] at e; omega
theorem RdE.own {W W' : World} {R Tx g lo E sz n : Nat} {v : Value} {xs : List Value} {ws : List W8} {k : Nat} {bad : Option Rf} {eb el ec : Int} (h : RdE W R Tx g ws k bad eb el ec) (ho : W.ownsRow lo E sz v n xs) (hE : E ≠ 54) (hR : R < lo) (hT : Tx < lo) (hgl : ∀ (j : Nat) (y : W8), ws[j]? = some y → g < lo) (hg : W.grownBy W' v.ownBlock) : RdE W' R Tx g ws k bad eb el ec := by
  rcases ho.2 with ⟨rfl, _⟩ | ⟨N, cap, cur, rfl, hl, hN, _⟩
  · have hg : W.grownBy W' none := hg
    obtain ⟨a, c, v, hb, ha, hc, hv⟩ := h.rd.blk
    exact ⟨h.rd.upd ⟨hg.os, hg.tape, hg.output, hg.size, fun i hi _ => hg.block i hi (by simp)⟩ h.rd.kn a c v (hb.kept hg (by simp)) ha hc (hv.kept hg (fun F x _ => by simp)), h.en.kept hg (by simp), h.ne⟩
  · have hg : W.grownBy W' (some N) := hg
    exact ⟨h.rd.far hg (by omega) (fun j y hy => by have := hgl j y hy; omega) (fun F y hy e => by subst e; exact hE (blk_types (show Blk W F cur E from hN) hy)), h.en.kept hg (fun e => by have := Option.some.inj e; omega), h.ne⟩
def encS2 : List (Int × Int) → List Value
  | [] => []
  | x :: t => .int .i32 x.1 :: .int .i32 x.2 :: encS2 t
def encA3 : List (Int × Int × Int) → List Value
  | [] => []
  | x :: t => .int .i64 x.1 :: .int .i64 x.2.1 :: .int .i64 x.2.2 :: encA3 t
theorem encS2_snoc (t : List (Int × Int)) (a b : Int) : encS2 (t ++ [(a, b)]) = encS2 t ++ [.int .i32 a, .int .i32 b] := by
  induction t with
  | nil => rfl
  | cons x t ih => show _ :: _ :: encS2 (t ++ [(a, b)]) = _ :: _ :: _; rw [ih]; rfl
theorem encA3_snoc (t : List (Int × Int × Int)) (a b c : Int) : encA3 (t ++ [(a, b, c)]) = encA3 t ++ [.int .i64 a, .int .i64 b, .int .i64 c] := by
  induction t with
  | nil => rfl
  | cons x t ih => show _ :: _ :: _ :: encA3 (t ++ [(a, b, c)]) = _ :: _ :: _ :: _; rw [ih]; rfl
structure SpSt (W W' : World) (R Tx g : Nat) (ws : List W8) (k : Nat) (bad : Option Rf) (eb el ec : Int) (vs vp : Value) (ss : List (Int × Int)) (ps : List (Int × Int × Int)) : Prop where
  rd : RdE W' R Tx g ws k bad eb el ec
  os : W'.ownsRow W.heap.size 68 2 vs ss.length (encS2 ss)
  op : W'.ownsRow W.heap.size 49 3 vp ps.length (encA3 ps)
  gr : W.grownBy W' (some R)
  hR : R < W.heap.size
  hT : Tx < W.heap.size
  hg : ∀ (j : Nat) (y : W8), ws[j]? = some y → g < W.heap.size
  ns : ss = [] → vs = .slice none 0 0
  np : ps = [] → vp = .slice none 0 0
theorem grown_own {W W1 W2 : World} {R : Nat} {v : Value} (h : W.grownBy W1 (some R)) (hv : ∀ k, v.ownBlock = some k → W.heap.size ≤ k) (hg : W1.grownBy W2 v.ownBlock) : W.grownBy W2 (some R) :=
  ⟨hg.os.trans h.os, hg.tape.trans h.tape, hg.output.trans h.output, Nat.le_trans h.size hg.size, fun i hi hn => (hg.block i (by have := h.size; omega) (fun e => by have := hv i e.symm; omega)).trans (h.block i hi hn)⟩
theorem SpSt.call {W W1 W2 : World} {R Tx g : Nat} {ws : List W8} {k k2 : Nat} {bad bad2 : Option Rf} {eb el ec : Int} {vs vp : Value} {ss : List (Int × Int)} {ps : List (Int × Int × Int)} (h : SpSt W W1 R Tx g ws k bad eb el ec vs vp ss ps) (h2 : RdE W2 R Tx g ws k2 bad2 eb el ec) (hg : W1.grownBy W2 (some R)) : SpSt W W2 R Tx g ws k2 bad2 eb el ec vs vp ss ps :=
  ⟨h2, rd_other h.os hg (.inr fun e => by have := rd_from h.os R e; have := h.hR; omega), rd_other h.op hg (.inr fun e => by have := rd_from h.op R e; have := h.hR; omega), grown_trans' h.gr hg, h.hR, h.hT, h.hg, h.ns, h.np⟩
theorem SpSt.alloc {W W1 : World} {R Tx g : Nat} {ws : List W8} {k : Nat} {bad : Option Rf} {eb el ec : Int} {vs vp : Value} {ss : List (Int × Int)} {ps : List (Int × Int × Int)} (h : SpSt W W1 R Tx g ws k bad eb el ec vs vp ss ps) (o : Obj) : SpSt W (W1.alloc o) R Tx g ws k bad eb el ec vs vp ss ps := h.call (h.rd.alloc o) (World.grownBy_alloc W1 o _)
theorem SpSt.place {W W1 W2 : World} {R Tx g : Nat} {ws : List W8} {k : Nat} {bad : Option Rf} {eb el ec : Int} {vs vp vp' : Value} {ss : List (Int × Int)} {ps : List (Int × Int × Int)} {a b c : Int} (h : SpSt W W1 R Tx g ws k bad eb el ec vs vp ss ps) (ho : W2.ownsRow W.heap.size 49 3 vp' (ps.length + 1) (encA3 ps ++ [.int .i64 a, .int .i64 b, .int .i64 c])) (hg : W1.grownBy W2 vp.ownBlock) : SpSt W W2 R Tx g ws k bad eb el ec vs vp' ss (ps ++ [(a, b, c)]) :=
  ⟨h.rd.own h.op (by decide) h.hR h.hT h.hg hg, rd_other h.os hg (rd_apart h.os h.op (by decide)), by rw [encA3_snoc, List.length_append]; exact ho, grown_own h.gr (rd_from h.op) hg, h.hR, h.hT, h.hg, h.ns, fun e => absurd e (by simp)⟩
theorem SpSt.span {W W1 W2 : World} {R Tx g : Nat} {ws : List W8} {k : Nat} {bad : Option Rf} {eb el ec : Int} {vs vs' vp : Value} {ss : List (Int × Int)} {ps : List (Int × Int × Int)} {a b : Int} (h : SpSt W W1 R Tx g ws k bad eb el ec vs vp ss ps) (ho : W2.ownsRow W.heap.size 68 2 vs' (ss.length + 1) (encS2 ss ++ [.int .i32 a, .int .i32 b])) (hg : W1.grownBy W2 vs.ownBlock) : SpSt W W2 R Tx g ws k bad eb el ec vs' vp (ss ++ [(a, b)]) ps :=
  ⟨h.rd.own h.os (by decide) h.hR h.hT h.hg hg, by rw [encS2_snoc, List.length_append]; exact ho, rd_other h.op hg (rd_apart h.op h.os (by decide)), grown_own h.gr (rd_from h.os) hg, h.hR, h.hT, h.hg, fun e => absurd e (by simp), h.np⟩
structure Sps where
  ss : List (Int × Int)
  ps : List (Int × Int × Int)
  k : Nat
  bad : Option Rf
def atV (ws : List W8) (k : Nat) : Int × Int × Int := match ws[k]? with
  | some x => (x.b, x.l, x.c)
  | none => (0, 0, 0)
def spansGo (ws : List W8) (eb el ec : Int) : Nat → Nat → Option Rf → Sps
  | 0, k, bad => ⟨[], [], k, bad⟩
  | f + 1, k, bad => if seesB ws k bad 3 then
      let s := spanV ws k bad eb el ec
      let r := spansGo ws eb el ec f s.k s.bad
      ⟨(s.lo, s.hi) :: r.ss, atV ws k :: r.ps, r.k, r.bad⟩
    else ⟨[], [], k, bad⟩
def spansV (ws : List W8) (k : Nat) (bad : Option Rf) (eb el ec : Int) : Sps :=
  let a := takeV ws k bad eb el ec 4
  let r := spansGo ws eb el ec (ws.length + 1) a.k a.bad
  let z := takeV ws r.k r.bad eb el ec 5
  ⟨r.ss, r.ps, z.k, z.bad⟩
theorem seesB_some {ws : List W8} {k : Nat} {bad : Option Rf} {kind : Int} (h : seesB ws k bad kind = true) : ∃ x, ws[k]? = some x ∧ k < ws.length ∧ bad = none := by
  unfold seesB at h
  split at h
  · rename_i x hx; exact ⟨x, hx, (List.getElem?_eq_some_iff.1 hx).1, rfl⟩
  · cases h
theorem takeV_le (ws : List W8) (k : Nat) (bad : Option Rf) (eb el ec kind : Int) (hk : k ≤ ws.length) : k ≤ (takeV ws k bad eb el ec kind).k ∧ (takeV ws k bad eb el ec kind).k ≤ ws.length := by
  unfold takeV
  split
  · rename_i x h1 h2; have := (List.getElem?_eq_some_iff.1 h2).1; exact ⟨Nat.le_succ k, this⟩
  · exact ⟨Nat.le_refl k, hk⟩
theorem takeV_yes {ws : List W8} {k : Nat} {bad : Option Rf} (eb el ec : Int) {kind : Int} (h : seesB ws k bad kind = true) : (takeV ws k bad eb el ec kind).k = k + 1 := by
  obtain ⟨x, hx, _, _⟩ := seesB_some h
  unfold takeV
  rw [h, hx]
theorem spanV_lt {ws : List W8} {k : Nat} {bad : Option Rf} (eb el ec : Int) (h : seesB ws k bad 3 = true) : k < (spanV ws k bad eb el ec).k ∧ (spanV ws k bad eb el ec).k ≤ ws.length := by
  have h1 := takeV_yes eb el ec h
  obtain ⟨x, hx, hk, _⟩ := seesB_some h
  unfold spanV
  dsimp only
  split
  · have h2 := takeV_le ws (takeV ws k bad eb el ec 3).k (takeV ws k bad eb el ec 3).bad eb el ec 9 (by omega)
    have h3 := takeV_le ws _ (takeV ws (takeV ws k bad eb el ec 3).k (takeV ws k bad eb el ec 3).bad eb el ec 9).bad eb el ec 3 h2.2
    dsimp only
    omega
  · dsimp only; omega
structure SgSt (ws : List W8) (eb el ec : Int) (T : Sps) (f k : Nat) (bad : Option Rf) (ss : List (Int × Int)) (ps : List (Int × Int × Int)) : Prop where
  eq : T = ⟨ss ++ (spansGo ws eb el ec f k bad).ss, ps ++ (spansGo ws eb el ec f k bad).ps, (spansGo ws eb el ec f k bad).k, (spansGo ws eb el ec f k bad).bad⟩
  fu : ws.length - k < f
  le : k ≤ ws.length
  len : ss.length ≤ k
  lep : ps.length ≤ k
theorem SgSt.stop {ws : List W8} {eb el ec : Int} {T : Sps} {f k : Nat} {bad : Option Rf} {ss : List (Int × Int)} {ps : List (Int × Int × Int)} (h : SgSt ws eb el ec T f k bad ss ps) (hs : seesB ws k bad 3 = false) : T = ⟨ss, ps, k, bad⟩ := by
  obtain ⟨g, rfl⟩ : ∃ g, f = g + 1 := ⟨f - 1, by have := h.fu; omega⟩
  have e := h.eq
  unfold spansGo at e
  rw [if_neg (by rw [hs]; decide)] at e
  rw [e]
  simp
theorem SgSt.next {ws : List W8} {eb el ec : Int} {T : Sps} {f k : Nat} {bad : Option Rf} {ss : List (Int × Int)} {ps : List (Int × Int × Int)} (h : SgSt ws eb el ec T f k bad ss ps) (hs : seesB ws k bad 3 = true) : ∃ f', SgSt ws eb el ec T f' (spanV ws k bad eb el ec).k (spanV ws k bad eb el ec).bad (ss ++ [((spanV ws k bad eb el ec).lo, (spanV ws k bad eb el ec).hi)]) (ps ++ [atV ws k]) := by
  obtain ⟨g, rfl⟩ : ∃ g, f = g + 1 := ⟨f - 1, by have := h.fu; omega⟩
  have hl := spanV_lt eb el ec hs
  have e := h.eq
  unfold spansGo at e
  rw [if_pos hs] at e
  have h1 := h.fu
  have h2 := h.len
  have h3 := h.lep
  refine ⟨g, by rw [e]; simp, by omega, hl.2, by rw [List.length_append, List.length_singleton]; omega, by rw [List.length_append, List.length_singleton]; omega⟩
theorem infoSpan : (Tryz.prog.info? 68).map (fun i => (i.zero, i.size, i.bytes)) = some (some (.agg #[.int .i32 0, .int .i32 0]), 2, 8) := by kernel_rfl
theorem infoAt : (Tryz.prog.info? 49).map (fun i => (i.zero, i.size, i.bytes)) = some (some (.agg #[.int .i64 0, .int .i64 0, .int .i64 0]), 3, 24) := by kernel_rfl
theorem span_e (R Tx g : Nat) (ws : List W8) (k : Nat) (bad : Option Rf) (eb el ec : Int) (lo hi : Int) (k2 : Nat) (bad2 : Option Rf) (he : spanV ws k bad eb el ec = ⟨lo, hi, k2, bad2⟩) (W : World) (h : RdE W R Tx g ws k bad eb el ec) :
    Calls Tryz.prog 133 #[.pointer (some ⟨R, 0, none⟩)] W fun e w' => e = .returned (.agg #[.int .i32 lo, .int .i32 hi]) ∧ RdE w' R Tx g ws k2 bad2 eb el ec ∧ W.grownBy w' (some R) := by
  have := span_any R Tx g ws k bad eb el ec W h
  rw [he] at this
  exact this
theorem append_k {w : World} {ops : Array Oper} {rest : List Oper} {o : Oper} {a : Act} {Q : Exit → Act → World → Prop} (hgd : o.guard = none) (s x : Operand) (T E : TypeId)
    (ho : o.op = .call { callee := .builtin .append, args := #[s, x], argTypes := #[T, T] }) (i : TypeInfo) (z : Value) (sz bytes : Nat) (hT : Tryz.prog.underlying T = some (.slice E)) (hi : Tryz.prog.info? E = some i ∧ i.zero = some z ∧ i.size = sz ∧ i.bytes = bytes) (hzs : z.cells.size = sz) (hsz : 0 < sz) (hb8 : bytes ≤ 64)
    (lo : Nat) (v : Value) (n : Nat) (xs : List Value) (cs : List Value) (hcs : cs.length = sz) (hs : a.eval s = v) (hl : n ≤ 1000000) (W : World) (hW : w = W.alloc (.cells cs.toArray E)) (hu : ∀ u ∈ cs, u.oneCell' = true) (hv : W.ownsRow lo E sz v n xs) (hlo : lo ≤ W.heap.size) (m : Nat) (hm : m = W.heap.size) (hx : a.eval x = .slice (some ⟨m, 0, none⟩) 1 1)
    (h : ∀ v' w', w'.ownsRow lo E sz v' (n + 1) (xs ++ cs) → (W.alloc (.cells cs.toArray E)).grownBy w' v.ownBlock → wpList Tryz.prog ops Q rest (a.put o.dst v') w') : wpList Tryz.prog ops Q (o :: rest) a w := by
  subst hW
  subst hm
  have b := Blk.new W cs.toArray E
  refine wpList_append_own _ hgd s x T ho lo E i z sz bytes hT hi.1 hi.2.1 hi.2.2.1 hi.2.2.2 hzs hsz v n xs hs (hv.alloc _) ⟨W.heap.size, 0, none⟩ 1 1 cs hx (by omega) (fun j y hj => ?_) hu (by unfold maxLen; omega) ?_ (by simp; omega) (fun v' w' h4 h5 _ => h v' w' h4 h5)
  · have e := b.cell j
    rw [List.getElem?_toArray, hj] at e
    have ea : (⟨W.heap.size, 0, none⟩ : Addr).add j = ⟨W.heap.size, j, none⟩ := by cases j <;> simp [Addr.add]
    rw [ea]
    exact e
  · have : (n + 1) * bytes ≤ 1000001 * 64 := Nat.mul_le_mul (by omega) hb8
    omega
def slLen : Value → Nat
  | .slice _ n _ => n
  | _ => 0
theorem own_len {W : World} {lo E sz n : Nat} {v : Value} {xs : List Value} (h : W.ownsRow lo E sz v n xs) : slLen v = n := by
  rcases h.2 with ⟨rfl, h2⟩ | ⟨g, cap, cur, rfl, _⟩
  · exact h2.symm
  · rfl
set_option maxRecDepth 100000 in
set_option maxHeartbeats 4000000 in
theorem spans_any (R Tx g : Nat) (ws : List W8) (k : Nat) (bad : Option Rf) (eb el ec : Int) (W : World) (h : RdE W R Tx g ws k bad eb el ec) :
    Calls Tryz.prog 113 #[.pointer (some ⟨R, 0, none⟩)] W fun e w' => ∃ vs vp, e = .returned (.tuple #[vs, vp]) ∧ SpSt W w' R Tx g ws (spansV ws k bad eb el ec).k (spansV ws k bad eb el ec).bad eb el ec vs vp (spansV ws k bad eb el ec).ss (spansV ws k bad eb el ec).ps := by
  have hRW : R < W.heap.size := by obtain ⟨a, c, v, hb, _⟩ := h.rd.blk; exact hb.lt
  have hTW : Tx < W.heap.size := cell_lt h.en.c0
  have hgl := h.rd.glt
  have hkn := h.rd.kn
  have hnm := h.rd.nmax
  have H := hide h
  have H0 := fun (w1 : World) (k1 : Nat) (bad1 : Option Rf) (h1 : RdE w1 R Tx g ws k1 bad1 eb el ec) (hg1 : W.grownBy w1 (some R)) => (⟨h1, World.ownsRow_nil _ _ _ _, World.ownsRow_nil _ _ _ _, hg1, hRW, hTW, hgl, fun _ => rfl, fun _ => rfl⟩ : SpSt W w1 R Tx g ws k1 bad1 eb el ec (.slice none 0 0) (.slice none 0 0) [] [])
  have H0 := hide H0
  have HT := hide (takeV_le ws k bad eb el ec 4 hkn)
  obtain ⟨T, hT⟩ : ∃ T, T = spansGo ws eb el ec (ws.length + 1) (takeV ws k bad eb el ec 4).k (takeV ws k bad eb el ec 4).bad := ⟨_, rfl⟩
  have HV : Hz (spansV ws k bad eb el ec = ⟨T.ss, T.ps, (takeV ws T.k T.bad eb el ec 5).k, (takeV ws T.k T.bad eb el ec 5).bad⟩) := hide (by rw [hT]; rfl)
  have HT2 := hide hT
  clear hT h hgl
  generalize spansV ws k bad eb el ec = V at *
  obtain ⟨ia, hia, ha0, ha1, ha2⟩ := info_parts infoAt
  obtain ⟨is, his, hs0, hs1, hs2⟩ := info_parts infoSpan
  have HIA := hide (And.intro hia (And.intro ha0 (And.intro ha1 ha2)))
  have HIS := hide (And.intro his (And.intro hs0 (And.intro hs1 hs2)))
  clear hia ha0 ha1 ha2 his hs0 hs1 hs2
  go_enter Tryz.func113, Tryz.ntmps113
  go_wp2_with fail
  refine (take_e R Tx g ws k bad eb el ec 4 W (unhide H)).mono ?_
  rintro e w1 ⟨rfl, hR1, hg1⟩
  generalize takeV ws k bad eb el ec 4 = A at *
  obtain ⟨ax, k1, bad1⟩ := A
  dsimp only at hR1 HT HT2
  dsimp only
  generalize wV ax = vax
  have HS1 := hide (unhide H0 w1 k1 bad1 hR1 hg1)
  have HG1 : Hz (SgSt ws eb el ec T (ws.length + 1) k1 bad1 [] []) := hide ⟨by rw [unhide HT2]; simp, by omega, (unhide HT).2, by simp, by simp⟩
  clear hR1 hg1 HT2 H0 H HT
  go_wp2_with fail
  go_loopw [4, 5] (fun vs vp wr => ∃ (f k2 : Nat) (bad2 : Option Rf) (ss : List (Int × Int)) (ps : List (Int × Int × Int)), Hz (SgSt ws eb el ec T f k2 bad2 ss ps) ∧ Hz (SpSt W wr R Tx g ws k2 bad2 eb el ec vs vp ss ps))
    (fun vs _ _ => ws.length - slLen vs)
  case atStart => exact ⟨_, k1, bad1, [], [], HG1, HS1⟩
  case round =>
    obtain ⟨f, k2, bad2, ss, ps, HG, HS⟩ := hrel
    clear HG1 HS1 H0
    have HSE := hide (sees_any R Tx g ws k2 bad2 3 wr (unhide HS).rd.rd)
    cases hs : seesB ws k2 bad2 3 with
    | false =>
      rw [hs] at HSE
      have HTE := hide ((unhide HG).stop hs)
      clear hs HG
      go_wp2_with fail
      refine (unhide HSE).mono ?_
      rintro e w2 ⟨rfl, hw2⟩
      rw [hw2]
      clear hw2 HSE
      go_wp2_with fail
      refine (take_e R Tx g ws k2 bad2 eb el ec 5 wr (unhide HS).rd).mono ?_
      rintro e w3 ⟨rfl, hR3, hg3⟩
      have HF := hide ((unhide HS).call hR3 hg3)
      clear hR3 hg3
      generalize wV (takeV ws k2 bad2 eb el ec 5).x = vz
      go_wp2_with fail
      exact bodyPost_ret (v := .tuple #[u4, u5]) (by simp [results, Tryz.results113, go_sem]) rfl ⟨_, _, rfl, by rw [unhide HV, unhide HTE]; exact unhide HF⟩
    | true =>
      rw [hs] at HSE
      obtain ⟨x, hx, hlt, hbad⟩ := seesB_some hs
      obtain ⟨f', hnext⟩ := (unhide HG).next hs
      rw [show atV ws k2 = (x.b, x.l, x.c) by unfold atV; rw [hx]] at hnext
      have hls : ss.length ≤ 999999 := by have := (unhide HG).len; omega
      have hlp : ps.length ≤ 999999 := by have := (unhide HG).lep; omega
      have hme : ss.length < ws.length := by have := (unhide HG).len; omega
      obtain ⟨a, c, v, hb, ha, hc, hv⟩ := (unhide HS).rd.rd.blk
      obtain rfl := ha hlt
      have hw := (unhide HS).rd.rd.words
      have c0 := hb.cell 0
      have w4 : wr.cell? ⟨g, 8 * k2 + 4, none⟩ = some (.int .i64 x.b) := hw k2 x hx 4 _ rfl
      have w5 : wr.cell? ⟨g, 8 * k2 + 4 + 1, none⟩ = some (.int .i64 x.l) := hw k2 x hx 5 _ rfl
      have w6 : wr.cell? ⟨g, 8 * k2 + 4 + 2, none⟩ = some (.int .i64 x.c) := hw k2 x hx 6 _ rfl
      have hpos : (0 : Int) < ((ws.length - k2 : Nat) : Int) := by omega
      have hpos2 : 0 < ws.length - k2 := by omega
      obtain ⟨m, hm⟩ : ∃ m, m = ws.length - k2 := ⟨_, rfl⟩
      rw [← hm] at c0 hpos hpos2
      have HSP := hide (fun (w : World) => span_e R Tx g ws k2 bad2 eb el ec (spanV ws k2 bad2 eb el ec).lo (spanV ws k2 bad2 eb el ec).hi (spanV ws k2 bad2 eb el ec).k (spanV ws k2 bad2 eb el ec).bad rfl w)
      have HNX := hide hnext
      have HME := hide hme
      clear hb ha hc hv hw hx hm hlt hbad hs hnext HG hme
      generalize spanV ws k2 bad2 eb el ec = SV at *
      obtain ⟨lo, hi, k3, bad3⟩ := SV
      dsimp only at HSP HNX
      go_wp2_with fail
      refine (unhide HSE).mono ?_
      rintro e w2 ⟨rfl, hw2⟩
      rw [hw2]
      clear hw2 HSE
      go_wp2_with (at_builtin; refine append_k rfl _ _ 56 49 rfl ia (.agg #[.int .i64 0, .int .i64 0, .int .i64 0]) 3 24 Tryz.underlying56 (unhide HIA) rfl (by decide) (by decide) W.heap.size _ ps.length (encA3 ps) [.int .i64 x.b, .int .i64 x.l, .int .i64 x.c] rfl rfl (by omega) wr rfl (by intro u hu; simp at hu; rcases hu with rfl | rfl | rfl <;> rfl) (unhide HS).op (unhide HS).gr.size _ rfl rfl ?_)
      intro vp' w3 hown hgrow
      have HS3 := hide (((unhide HS).alloc _).place hown hgrow)
      clear hown hgrow HS c0 w4 w5 w6
      go_wp2_with fail
      refine (unhide HSP w3 (unhide HS3).rd).mono ?_
      rintro e w4 ⟨rfl, hR4, hg4⟩
      have HS4 := hide ((unhide HS3).call hR4 hg4)
      clear hR4 hg4 HS3 HSP
      go_wp2_with (at_builtin; refine append_k rfl _ _ 23 68 rfl is (.agg #[.int .i32 0, .int .i32 0]) 2 8 Tryz.underlying23 (unhide HIS) rfl (by decide) (by decide) W.heap.size _ ss.length (encS2 ss) [.int .i32 lo, .int .i32 hi] rfl rfl (by omega) w4 rfl (by intro u hu; simp at hu; rcases hu with rfl | rfl <;> rfl) (unhide HS4).os (unhide HS4).gr.size _ rfl rfl ?_)
      intro vs' w5 hown hgrow
      have HS5 := hide (((unhide HS4).alloc _).span hown hgrow)
      have HL1 := hide (own_len (unhide HS4).os)
      have HL2 := hide (own_len hown)
      clear hown hgrow HS4
      go_wp2_with fail
      go_roundw
      case rel => exact ⟨f', k3, bad3, _, _, HNX, HS5⟩
      case measure => have := unhide HL1; have := unhide HL2; have := unhide HME; omega
structure Ln where
  E : Nat
  sz : Nat
  n : Nat
  xs : List Value
structure TbAt (W : World) (lo Tx : Nat) (vs : List Value) (ls : List Ln) (eb el ec : Int) : Prop where
  lv : 17 ≤ vs.length
  ll : ls.length = vs.length
  blk : Blk W Tx (vs.take 17 ++ [Value.int .i64 eb, Value.int .i64 el, Value.int .i64 ec]).toArray 59
  own : ∀ (i : Nat) (v : Value) (l : Ln), vs[i]? = some v → ls[i]? = some l → W.ownsRow lo l.E l.sz v l.n l.xs
  apart : ∀ (i j : Nat) (v u : Value), i ≠ j → vs[i]? = some v → vs[j]? = some u → v.ownBlock = none ∨ v.ownBlock ≠ u.ownBlock
  lt : Tx < lo
theorem TbAt.cell {W : World} {lo Tx : Nat} {vs : List Value} {ls : List Ln} {eb el ec : Int} (h : TbAt W lo Tx vs ls eb el ec) {i : Nat} {v : Value} (hi : i < 17) (hv : vs[i]? = some v) : W.cell? ⟨Tx, i, none⟩ = some v := by
  have hl := h.lv
  have := h.blk.cell i
  rw [List.getElem?_toArray, List.getElem?_append_left (by rw [List.length_take]; omega), List.getElem?_take_of_lt hi, hv] at this
  exact this
theorem TbAt.ending {W : World} {lo Tx : Nat} {vs : List Value} {ls : List Ln} {eb el ec : Int} (h : TbAt W lo Tx vs ls eb el ec) : EndAt W Tx eb el ec := by
  have hl : (vs.take 17).length = 17 := by rw [List.length_take]; have := h.lv; omega
  have e := fun i => h.blk.cell i
  refine ⟨(e 17).trans ?_, (e 18).trans ?_, (e 19).trans ?_⟩ <;> rw [List.getElem?_toArray, List.getElem?_append_right (by omega), hl] <;> rfl
theorem TbAt.kept {W W' : World} {lo Tx R : Nat} {vs : List Value} {ls : List Ln} {eb el ec : Int} (h : TbAt W lo Tx vs ls eb el ec) (hR : R < lo) (hT : Tx ≠ R) (hg : W.grownBy W' (some R)) : TbAt W' lo Tx vs ls eb el ec :=
  ⟨h.lv, h.ll, h.blk.kept hg (fun e => hT (Option.some.inj e)), fun i v l hv hl => rd_other (h.own i v l hv hl) hg (.inr fun e => by have := rd_from (h.own i v l hv hl) R e; omega), h.apart, h.lt⟩
theorem own_ltW {W : World} {lo E sz n : Nat} {v : Value} {xs : List Value} (h : W.ownsRow lo E sz v n xs) : ∀ k, v.ownBlock = some k → k < W.heap.size := by
  rcases h.2 with ⟨rfl, _⟩ | ⟨g, cap, cur, rfl, hl, hg, _⟩
  · intro k e; simp [Value.ownBlock] at e
  · intro k e; simp [Value.ownBlock] at e; subst e; exact (Array.getElem?_eq_some_iff.1 hg).1
theorem grown_none {W W' : World} {row : Option Nat} (h : W.grownBy W' none) : W.grownBy W' row := ⟨h.os, h.tape, h.output, h.size, fun i hi _ => h.block i hi (by simp)⟩
theorem TbAt.put {W W1 : World} {lo Tx i : Nat} {vs : List Value} {ls : List Ln} {eb el ec : Int} {v v' : Value} {l : Ln} {n : Nat} {xs : List Value} (h : TbAt W lo Tx vs ls eb el ec) (h17 : i < 17) (hv : vs[i]? = some v) (hl : ls[i]? = some l)
    (ho : W1.ownsRow lo l.E l.sz v' n xs) (hg : W.grownBy W1 v.ownBlock) (hat : v'.ownBlock = v.ownBlock ∨ v'.ownBlock = some W.heap.size) : TbAt (W1.setCell ⟨Tx, i, none⟩ v') lo Tx (vs.set i v') (ls.set i ⟨l.E, l.sz, n, xs⟩) eb el ec := by
  have hi := (List.getElem?_eq_some_iff.1 hv).1
  have hq := grown_set' W1 Tx i v'
  have hvl := rd_from (h.own i v l hv hl)
  have hlt := h.lt
  have hTne : ∀ (u : Value) (m : Ln) (V : World), V.ownsRow lo m.E m.sz u m.n m.xs → u.ownBlock = none ∨ u.ownBlock ≠ some Tx := fun u m V hu => .inr fun e => by have := rd_from hu Tx e; omega
  have hA : ∀ (j : Nat) (u : Value), j ≠ i → vs[j]? = some u → u.ownBlock = none ∨ u.ownBlock ≠ v'.ownBlock := by
    intro j u hj hu
    rcases hat with e | e
    · rw [e]; exact h.apart j i u v hj hu hv
    · rw [e]
      refine .inr fun e2 => ?_
      obtain ⟨m, hm⟩ : ∃ m, ls[j]? = some m := ⟨_, List.getElem?_eq_getElem (by have := (List.getElem?_eq_some_iff.1 hu).1; have := h.lv; have := h.ll; omega)⟩
      have := own_ltW (h.own j u m hu hm) _ e2
      omega
  refine ⟨by rw [List.length_set]; exact h.lv, by rw [List.length_set, List.length_set]; exact h.ll, ?_, ?_, ?_, h.lt⟩
  · have b1 : Blk W1 Tx _ _ := h.blk.kept hg (fun e => by have := hvl Tx e.symm; omega)
    have b2 := b1.set i v'
    rw [show ((vs.set i v').take 17 ++ [Value.int .i64 eb, .int .i64 el, .int .i64 ec]).toArray = ((vs.take 17 ++ [Value.int .i64 eb, .int .i64 el, .int .i64 ec]).toArray).setIfInBounds i v' by
      rw [List.setIfInBounds_toArray, List.set_append_left _ _ (by rw [List.length_take]; have := h.lv; omega), List.take_set]]
    exact b2
  · intro j u m hu hm
    by_cases hj : j = i
    · subst hj
      rw [List.getElem?_set_self (by omega)] at hu
      rw [List.getElem?_set_self (by have := h.lv; have := h.ll; omega)] at hm
      obtain rfl := Option.some.inj hu
      obtain rfl := Option.some.inj hm
      exact rd_other ho hq (.inr fun e => by have := rd_from ho Tx e; omega)
    · rw [List.getElem?_set_ne (Ne.symm hj)] at hu
      rw [List.getElem?_set_ne (Ne.symm hj)] at hm
      have o1 := h.own j u m hu hm
      exact rd_other (rd_other o1 hg (h.apart j i u v hj hu hv)) hq (.inr fun e => by have := rd_from o1 Tx e; omega)
  · intro j p u x hjp hu hx
    by_cases hj : j = i
    · subst hj
      rw [List.getElem?_set_self (by omega)] at hu
      rw [List.getElem?_set_ne hjp] at hx
      obtain rfl := Option.some.inj hu
      rcases hA p x (Ne.symm hjp) hx with e | e
      · rw [e]
        cases e2 : v'.ownBlock with
        | none => exact .inl rfl
        | some y => exact .inr (by simp)
      · exact .inr (Ne.symm e)
    · rw [List.getElem?_set_ne (Ne.symm hj)] at hu
      by_cases hp : p = i
      · subst hp
        rw [List.getElem?_set_self (by omega)] at hx
        obtain rfl := Option.some.inj hx
        exact hA j u hj hu
      · rw [List.getElem?_set_ne (Ne.symm hp)] at hx
        exact h.apart j p u x hjp hu hx
theorem TbAt.more {W : World} {lo Tx : Nat} {vs : List Value} {ls : List Ln} {eb el ec : Int} (h : TbAt W lo Tx vs ls eb el ec) {u : Value} {m : Ln} (hu : W.ownsRow lo m.E m.sz u m.n m.xs) (ha : ∀ (j : Nat) (x : Value), vs[j]? = some x → u.ownBlock = none ∨ u.ownBlock ≠ x.ownBlock) : TbAt W lo Tx (vs ++ [u]) (ls ++ [m]) eb el ec := by
  have hlv := h.lv
  have hll := h.ll
  have hq : ∀ (a b : Option Nat), a = none ∨ a ≠ b → b = none ∨ b ≠ a := by
    intro a b hab
    cases b with
    | none => exact .inl rfl
    | some y => rcases hab with e | e
                · rw [e]; exact .inr (by simp)
                · exact .inr (Ne.symm e)
  refine ⟨by rw [List.length_append]; omega, by rw [List.length_append, List.length_append, hll]; rfl, by rw [List.take_append_of_le_length hlv]; exact h.blk, ?_, ?_, h.lt⟩
  · intro i v l hv hl
    by_cases hi : i < vs.length
    · rw [List.getElem?_append_left hi] at hv
      rw [List.getElem?_append_left (by omega)] at hl
      exact h.own i v l hv hl
    · have hi2 := (List.getElem?_eq_some_iff.1 hv).1
      rw [List.length_append, List.length_singleton] at hi2
      obtain rfl : i = vs.length := by omega
      rw [List.getElem?_concat_length] at hv
      rw [← hll, List.getElem?_concat_length] at hl
      obtain rfl := Option.some.inj hv
      obtain rfl := Option.some.inj hl
      exact hu
  · intro i j v x hij hv hx
    have key : ∀ (i : Nat) (v : Value), (vs ++ [u])[i]? = some v → (i < vs.length ∧ vs[i]? = some v) ∨ (i = vs.length ∧ v = u) := by
      intro i v hv
      by_cases hi : i < vs.length
      · rw [List.getElem?_append_left hi] at hv; exact .inl ⟨hi, hv⟩
      · have hi2 := (List.getElem?_eq_some_iff.1 hv).1
        rw [List.length_append, List.length_singleton] at hi2
        obtain rfl : i = vs.length := by omega
        rw [List.getElem?_concat_length] at hv
        exact .inr ⟨rfl, (Option.some.inj hv).symm⟩
    rcases key i v hv with ⟨h1, h2⟩ | ⟨h1, rfl⟩ <;> rcases key j x hx with ⟨h3, h4⟩ | ⟨h3, rfl⟩
    · exact h.apart i j v x hij h2 h4
    · exact hq _ _ (ha i v h2)
    · exact ha j x h4
    · exact absurd (h1.trans h3.symm) hij
end Go.Proofs.YtjgfmobmilgapaaGreatDoor
