/- Texts of this claim, one behind the other. -/
import Derived.Test.YtgchlilpjkndlaaGreatDoorM5
/- The reader of rules: refuse, take. -/
namespace Go.Proofs.YtgchlilpjkndlaaGreatDoor
open Go.RowKit Go.Shelf
set_option linter.unusedVariables false
structure EndAt (W : World) (Tx : Nat) (eb el ec : Int) : Prop where
  c0 : W.cell? ⟨Tx, 17, none⟩ = some (.int .i64 eb)
  c1 : W.cell? ⟨Tx, 18, none⟩ = some (.int .i64 el)
  c2 : W.cell? ⟨Tx, 19, none⟩ = some (.int .i64 ec)
def refV (ws : List W8) (k : Nat) (eb el ec : Int) : Rf := match ws[k]? with
  | some x => ⟨x.b, x.l, x.c, 5⟩
  | none => ⟨eb, el, ec, 21⟩
theorem grown_trans' {a b c : World} {row : Option Nat} (h : a.grownBy b row) (k : b.grownBy c row) : a.grownBy c row :=
  ⟨k.os.trans h.os, k.tape.trans h.tape, k.output.trans h.output, Nat.le_trans h.size k.size, fun i hi hn => (k.block i (by have := h.size; omega) hn).trans (h.block i hi hn)⟩
theorem grown_set' (W : World) (B i : Nat) (v : Value) : W.grownBy (W.setCell ⟨B, i, none⟩ v) (some B) := ⟨rfl, rfl, rfl, (KeepsWalks.setCell W _ _).size, fun k hk hn => Below.heap_setCell W ⟨B, i, none⟩ _ k (fun e => hn (by rw [e]))⟩
theorem RefAt.kept {W W' : World} {R : Nat} {v : Value} {bad : Option Rf} {row : Option Nat} (h : RefAt W R v bad) (hg : W.grownBy W' row) (hne : ∀ F x, Blk W F (rfCells x) 120 → some F ≠ row) : RefAt W' R v bad := by
  cases bad with
  | none => exact h
  | some x =>
    obtain ⟨F, e, hRF, hF⟩ := h
    exact ⟨F, e, hRF, hF.kept hg (hne F x hF)⟩
theorem RdAt.upd {W W' : World} {R Tx g : Nat} {ws : List W8} {k k2 : Nat} {bad bad2 : Option Rf} (h : RdAt W R Tx g ws k bad) (hg : W.grownBy W' (some R)) (hk : k2 ≤ ws.length) (a : Option Addr) (c : Nat) (v : Value)
    (hb : Blk W' R #[.slice a (ws.length - k2) c, .pointer (some ⟨Tx, 0, none⟩), v] 127) (ha : k2 < ws.length → a = some ⟨g, 8 * k2, none⟩) (hc : ws.length - k2 ≤ c) (hv : RefAt W' R v bad2) : RdAt W' R Tx g ws k2 bad2 :=
  ⟨hk, h.nmax, ⟨a, c, v, hb, ha, hc, hv⟩, fun j x hx i u hu => hg.cell (h.words j x hx i u hu) (by show some g ≠ some R; intro e; exact h.gR (Option.some.inj e)), h.gR⟩
set_option maxRecDepth 100000 in
set_option maxHeartbeats 4000000 in
theorem refuse_any (R Tx g : Nat) (ws : List W8) (k : Nat) (bad : Option Rf) (eb el ec : Int) (W : World) (h : RdAt W R Tx g ws k bad) (hE : EndAt W Tx eb el ec) :
    Calls Tryz.prog 90 #[.pointer (some ⟨R, 0, none⟩)] W fun e w' => (∃ r, e = .returned r) ∧ RdAt w' R Tx g ws k (some (refV ws k eb el ec)) ∧ W.grownBy w' (some R) := by
  have H := hide h
  obtain ⟨a, c, v, hb, ha, hc, hv⟩ := h.blk
  have hkn := h.kn
  have hnm := h.nmax
  have c0 := hb.cell 0
  have c1 := hb.cell 1
  have c2 := hb.cell 2
  have f2 := hb.frozen 2
  have e0 := hE.c0
  have e1 := hE.c1
  have e2 := hE.c2
  have hRl := hb.lt
  clear h hE
  go_enter Tryz.func90, Tryz.ntmps90
  cases hx : ws[k]? with
  | none =>
    have hk : ws.length - k = 0 := by have := List.getElem?_eq_none_iff.1 hx; omega
    have HE := hide (show refV ws k eb el ec = ⟨eb, el, ec, 21⟩ by simp only [refV, hx])
    have HK := hide hk
    rw [hk] at c0
    have HB := hide hb
    have HA := hide ha
    have HC := hide hc
    clear hb ha hc hv hk hx
    go_wp2_with fail
    go_end0
    have hz : (W.setCell ⟨R, 2, none⟩ (.pointer (some ⟨W.heap.size, 0, none⟩))).heap.size = W.heap.size := by simp
    have hg : W.grownBy ((W.setCell ⟨R, 2, none⟩ (.pointer (some ⟨W.heap.size, 0, none⟩))).alloc (.cells (rfCells ⟨eb, el, ec, 21⟩) 120)) (some R) := grown_trans' (grown_set' W R 2 _) (World.grownBy_alloc _ _ _)
    have hF := Blk.new (W.setCell ⟨R, 2, none⟩ (.pointer (some ⟨W.heap.size, 0, none⟩))) (rfCells ⟨eb, el, ec, 21⟩) 120
    rw [hz] at hF
    refine ⟨⟨_, rfl⟩, ?_, hg⟩
    rw [unhide HE]
    exact (unhide H).upd hg hkn a c (.pointer (some ⟨W.heap.size, 0, none⟩)) (((unhide HB).set 2 _).alloc _) (unhide HA) (unhide HC) ⟨W.heap.size, rfl, hRl, hF⟩
  | some x =>
    have hk := (List.getElem?_eq_some_iff.1 hx).1
    obtain rfl := ha hk
    have hw := (unhide H).words
    have hgR := (unhide H).gR
    have hg1 : W.grownBy ((W.setCell ⟨R, 2, none⟩ (.pointer (some ⟨W.heap.size, 0, none⟩))).alloc (.cells #[.int .i64 eb, .int .i64 el, .int .i64 ec, .int .i64 21] 120)) (some R) := grown_trans' (grown_set' W R 2 _) (World.grownBy_alloc _ _ _)
    have w4 := hg1.cell (a := ⟨g, 8 * k + 4, none⟩) (hw k x hx 4 _ rfl) (by show some g ≠ some R; intro e; exact hgR (Option.some.inj e))
    have w5 := hg1.cell (a := ⟨g, 8 * k + 4 + 1, none⟩) (hw k x hx 5 _ rfl) (by show some g ≠ some R; intro e; exact hgR (Option.some.inj e))
    have w6 := hg1.cell (a := ⟨g, 8 * k + 4 + 2, none⟩) (hw k x hx 6 _ rfl) (by show some g ≠ some R; intro e; exact hgR (Option.some.inj e))
    have HG1 := hide hg1
    clear hg1
    have HE := hide (show refV ws k eb el ec = ⟨x.b, x.l, x.c, 5⟩ by simp only [refV, hx])
    have hpos : (0 : Int) < ((ws.length - k : Nat) : Int) := by omega
    have hpos2 : 0 < ws.length - k := by omega
    obtain ⟨m, hm⟩ : ∃ m, m = ws.length - k := ⟨_, rfl⟩
    rw [← hm] at c0 hpos hpos2
    have HB := hide hb
    have HA := hide ha
    have HC := hide hc
    clear hb ha hc hv hx hw hm hk
    go_wp2_with fail
    go_end0
    have hz : (((W.setCell ⟨R, 2, none⟩ (.pointer (some ⟨W.heap.size, 0, none⟩))).setCell ⟨R, 2, none⟩ (.pointer (some ⟨W.heap.size + 1, 0, none⟩))).alloc (.cells (rfCells ⟨eb, el, ec, 21⟩) 120)).heap.size = W.heap.size + 1 := by simp
    have hg : W.grownBy ((((W.setCell ⟨R, 2, none⟩ (.pointer (some ⟨W.heap.size, 0, none⟩))).setCell ⟨R, 2, none⟩ (.pointer (some ⟨W.heap.size + 1, 0, none⟩))).alloc (.cells (rfCells ⟨eb, el, ec, 21⟩) 120)).alloc (.cells (rfCells ⟨x.b, x.l, x.c, 5⟩) 120)) (some R) :=
      grown_trans' (grown_trans' (grown_trans' (grown_set' W R 2 _) (grown_set' _ R 2 _)) (World.grownBy_alloc _ _ _)) (World.grownBy_alloc _ _ _)
    have hF := Blk.new (((W.setCell ⟨R, 2, none⟩ (.pointer (some ⟨W.heap.size, 0, none⟩))).setCell ⟨R, 2, none⟩ (.pointer (some ⟨W.heap.size + 1, 0, none⟩))).alloc (.cells (rfCells ⟨eb, el, ec, 21⟩) 120)) (rfCells ⟨x.b, x.l, x.c, 5⟩) 120
    rw [hz] at hF
    refine ⟨⟨_, rfl⟩, ?_, hg⟩
    rw [unhide HE]
    exact (unhide H).upd hg hkn _ c (.pointer (some ⟨W.heap.size + 1, 0, none⟩)) (((((unhide HB).set 2 _).set 2 _).alloc _).alloc _) (fun _ => rfl) (unhide HC) ⟨W.heap.size + 1, rfl, Nat.lt_succ_of_lt hRl, hF⟩
theorem RdAt.alloc {W : World} {R Tx g : Nat} {ws : List W8} {k : Nat} {bad : Option Rf} (h : RdAt W R Tx g ws k bad) (o : Obj) : RdAt (W.alloc o) R Tx g ws k bad := by
  obtain ⟨a, c, v, hb, ha, hc, hv⟩ := h.blk
  exact h.upd (World.grownBy_alloc W o _) h.kn a c v (hb.alloc o) ha hc (hv.kept (World.grownBy_alloc W o none) (fun F x _ => by simp))
theorem EndAt.kept {W W' : World} {Tx : Nat} {eb el ec : Int} {row : Option Nat} (h : EndAt W Tx eb el ec) (hg : W.grownBy W' row) (hne : some Tx ≠ row) : EndAt W' Tx eb el ec := ⟨hg.cell h.c0 hne, hg.cell h.c1 hne, hg.cell h.c2 hne⟩
def wV (x : W8) : Value := .agg #[.int .i64 x.k, .string x.S, .int .i32 x.r, .int .i64 x.n, .int .i64 x.b, .int .i64 x.l, .int .i64 x.c, .int .i64 x.e]
theorem box8 {W : World} {N : Nat} {a0 a1 a2 a3 a4 a5 a6 a7 : Value} {ty : TypeId} (h : Blk W N #[a0, a1, a2, a3, a4, a5, a6, a7] ty) (v0 v1 v2 v3 v4 v5 v6 v7 : Value) : Blk ((((((((W.setCell ⟨N, 0, none⟩ v0).setCell ⟨N, 1, none⟩ v1).setCell ⟨N, 2, none⟩ v2).setCell ⟨N, 3, none⟩ v3).setCell ⟨N, 4, none⟩ v4).setCell ⟨N, 5, none⟩ v5).setCell ⟨N, 6, none⟩ v6).setCell ⟨N, 7, none⟩ v7) N #[v0, v1, v2, v3, v4, v5, v6, v7] ty := by
  have h0 : Blk (_ : World) N #[v0, a1, a2, a3, a4, a5, a6, a7] ty := h.set 0 v0
  have h1 : Blk (_ : World) N #[v0, v1, a2, a3, a4, a5, a6, a7] ty := h0.set 1 v1
  have h2 : Blk (_ : World) N #[v0, v1, v2, a3, a4, a5, a6, a7] ty := h1.set 2 v2
  have h3 : Blk (_ : World) N #[v0, v1, v2, v3, a4, a5, a6, a7] ty := h2.set 3 v3
  have h4 : Blk (_ : World) N #[v0, v1, v2, v3, v4, a5, a6, a7] ty := h3.set 4 v4
  have h5 : Blk (_ : World) N #[v0, v1, v2, v3, v4, v5, a6, a7] ty := h4.set 5 v5
  have h6 : Blk (_ : World) N #[v0, v1, v2, v3, v4, v5, v6, a7] ty := h5.set 6 v6
  have h7 : Blk (_ : World) N #[v0, v1, v2, v3, v4, v5, v6, v7] ty := h6.set 7 v7
  exact h7
theorem grown8 (W : World) (N : Nat) (v0 v1 v2 v3 v4 v5 v6 v7 : Value) : W.grownBy ((((((((W.setCell ⟨N, 0, none⟩ v0).setCell ⟨N, 1, none⟩ v1).setCell ⟨N, 2, none⟩ v2).setCell ⟨N, 3, none⟩ v3).setCell ⟨N, 4, none⟩ v4).setCell ⟨N, 5, none⟩ v5).setCell ⟨N, 6, none⟩ v6).setCell ⟨N, 7, none⟩ v7) (some N) :=
  grown_trans' (grown_trans' (grown_trans' (grown_trans' (grown_trans' (grown_trans' (grown_trans' (grown_set' W N 0 v0) (grown_set' _ N 1 v1)) (grown_set' _ N 2 v2)) (grown_set' _ N 3 v3)) (grown_set' _ N 4 v4)) (grown_set' _ N 5 v5)) (grown_set' _ N 6 v6)) (grown_set' _ N 7 v7)
theorem RdAt.far {W W' : World} {R Tx g N : Nat} {ws : List W8} {k : Nat} {bad : Option Rf} (h : RdAt W R Tx g ws k bad) (hg : W.grownBy W' (some N)) (hR : R ≠ N) (hgN : ∀ (j : Nat) (x : W8), ws[j]? = some x → g ≠ N) (hF : ∀ F x, Blk W F (rfCells x) 120 → F ≠ N) : RdAt W' R Tx g ws k bad := by
  obtain ⟨a, c, v, hb, ha, hc, hv⟩ := h.blk
  refine ⟨h.kn, h.nmax, ⟨a, c, v, hb.kept hg (fun e => hR (Option.some.inj e)), ha, hc, hv.kept hg (fun F x hx e => hF F x hx (Option.some.inj e))⟩, fun j x hx i u hu => hg.cell (h.words j x hx i u hu) (fun e => hgN j x hx (Option.some.inj e)), h.gR⟩
theorem RdAt.glt {W : World} {R Tx g : Nat} {ws : List W8} {k : Nat} {bad : Option Rf} (h : RdAt W R Tx g ws k bad)   : ∀ (j : Nat) (x : W8), ws[j]? = some x → g < W.heap.size := fun j x hx => cell_lt (h.words j x hx 0 _ rfl)
theorem blk_types {W : World} {B : Nat} {cs cs' : Array Value} {t t' : TypeId} (h : Blk W B cs t) (h' : Blk W B cs' t') : t = t' := by
  have := h.symm.trans h'
  injection this with e
  injection e
def zeroW : W8 := ⟨0, ⟨#[]⟩, 0, 0, 0, 0, 0, 0⟩
structure Tk where
  x : W8
  k : Nat
  bad : Option Rf
def takeV (ws : List W8) (k : Nat) (bad : Option Rf) (eb el ec kind : Int) : Tk := match seesB ws k bad kind, ws[k]? with
  | true, some x => ⟨x, k + 1, bad⟩
  | _, _ => ⟨zeroW, k, some (refV ws k eb el ec)⟩
set_option maxRecDepth 100000 in
set_option maxHeartbeats 4000000 in
theorem take_any (R Tx g : Nat) (ws : List W8) (k : Nat) (bad : Option Rf) (eb el ec kind : Int) (W : World) (h : RdAt W R Tx g ws k bad) (hE : EndAt W Tx eb el ec) :
    Calls Tryz.prog 91 #[.pointer (some ⟨R, 0, none⟩), .int .i64 kind] W fun e w' => e = .returned (wV (takeV ws k bad eb el ec kind).x) ∧ RdAt w' R Tx g ws (takeV ws k bad eb el ec kind).k (takeV ws k bad eb el ec kind).bad ∧ W.grownBy w' (some R) := by
  obtain ⟨Z, hZ⟩ : ∃ Z, Z = Obj.cells #[.int .i64 0, .string ⟨#[]⟩, .int .i32 0, .int .i64 0, .int .i64 0, .int .i64 0, .int .i64 0, .int .i64 0] 171 := ⟨_, rfl⟩
  have h2 := h.alloc Z
  have hE2 := hE.kept (World.grownBy_alloc W Z none) (by simp)
  have hgZ := World.grownBy_alloc W Z (some R)
  have hbz : Blk (W.alloc Z) W.heap.size #[.int .i64 0, .string ⟨#[]⟩, .int .i32 0, .int .i64 0, .int .i64 0, .int .i64 0, .int .i64 0, .int .i64 0] 171 := by rw [hZ]; exact Blk.new W _ _
  have hszW : W.heap.size < (W.alloc Z).heap.size := by simp
  have hRW : R < W.heap.size := by obtain ⟨a, c, v, hb, _⟩ := h.blk; exact hb.lt
  have H := hide h2
  have HGZ := hide hgZ
  have HS := hide (sees_any R Tx g ws k bad kind _ h2)
  have HF := hide (refuse_any R Tx g ws k bad eb el ec _ h2 hE2)
  subst hZ
  go_enter Tryz.func91, Tryz.ntmps91
  cases hs : seesB ws k bad kind with
  | false =>
    rw [hs] at HS
    have HT := hide (show takeV ws k bad eb el ec kind = ⟨zeroW, k, some (refV ws k eb el ec)⟩ by unfold takeV; rw [hs])
    clear hE hs h2 hE2 hgZ
    go_wp2_with fail
    generalize W.alloc (.cells #[.int .i64 0, .string ⟨#[]⟩, .int .i32 0, .int .i64 0, .int .i64 0, .int .i64 0, .int .i64 0, .int .i64 0] 171) = WZ at *
    refine (unhide HS).mono ?_
    rintro e w1 ⟨rfl, hw1⟩
    subst hw1
    go_wp2_with fail
    refine (unhide HF).mono ?_
    rintro e w2 ⟨⟨r, rfl⟩, hR, hg⟩
    have hb2 := hbz.kept hg (by simp; omega)
    have HR := hide hR
    have HG := hide (grown_trans' (unhide HGZ) hg)
    have HB2 := hide hb2
    have hW2 : W.heap.size < w2.heap.size := hb2.lt
    have k0 := hb2.cell 0
    have f0 := hb2.frozen 0
    have k1 := hb2.cell 1
    have f1 := hb2.frozen 1
    have k2 := hb2.cell 2
    have f2 := hb2.frozen 2
    have k3 := hb2.cell 3
    have f3 := hb2.frozen 3
    have k4 := hb2.cell 4
    have f4 := hb2.frozen 4
    have k5 := hb2.cell 5
    have f5 := hb2.frozen 5
    have k6 := hb2.cell 6
    have f6 := hb2.frozen 6
    have k7 := hb2.cell 7
    have f7 := hb2.frozen 7
    obtain ⟨N, hN⟩ : ∃ N, N = W.heap.size := ⟨_, rfl⟩
    rw [← hN] at HB2 k0 k1 k2 k3 k4 k5 k6 k7 f0 f1 f2 f3 f4 f5 f6 f7 ⊢
    have hb8 := box8 (unhide HB2) (.int .i64 0) (.string ⟨#[]⟩) (.int .i32 0) (.int .i64 0) (.int .i64 0) (.int .i64 0) (.int .i64 0) (.int .i64 0)
    have r0 := hb8.cell 0
    have r1 := hb8.cell 1
    have r2 := hb8.cell 2
    have r3 := hb8.cell 3
    have r4 := hb8.cell 4
    have r5 := hb8.cell 5
    have r6 := hb8.cell 6
    have r7 := hb8.cell 7
    have hglt := h.glt
    have HFAR : Hz (RdAt ((((((((w2.setCell ⟨N, 0, none⟩ (.int .i64 0)).setCell ⟨N, 1, none⟩ (.string ⟨#[]⟩)).setCell ⟨N, 2, none⟩ (.int .i32 0)).setCell ⟨N, 3, none⟩ (.int .i64 0)).setCell ⟨N, 4, none⟩ (.int .i64 0)).setCell ⟨N, 5, none⟩ (.int .i64 0)).setCell ⟨N, 6, none⟩ (.int .i64 0)).setCell ⟨N, 7, none⟩ (.int .i64 0)) R Tx g ws k (some (refV ws k eb el ec))) := hide (hR.far (grown8 w2 N _ _ _ _ _ _ _ _) (by omega) (fun j x hx => by have := hglt j x hx; omega) (fun F x hx e => by subst e; have := blk_types hx (unhide HB2); revert this; decide))
    have HGG : Hz (W.grownBy ((((((((w2.setCell ⟨N, 0, none⟩ (.int .i64 0)).setCell ⟨N, 1, none⟩ (.string ⟨#[]⟩)).setCell ⟨N, 2, none⟩ (.int .i32 0)).setCell ⟨N, 3, none⟩ (.int .i64 0)).setCell ⟨N, 4, none⟩ (.int .i64 0)).setCell ⟨N, 5, none⟩ (.int .i64 0)).setCell ⟨N, 6, none⟩ (.int .i64 0)).setCell ⟨N, 7, none⟩ (.int .i64 0)) (some R)) := hide (by
      have q := grown8 w2 N (.int .i64 0) (.string ⟨#[]⟩) (.int .i32 0) (.int .i64 0) (.int .i64 0) (.int .i64 0) (.int .i64 0) (.int .i64 0)
      exact ⟨q.os.trans (unhide HG).os, q.tape.trans (unhide HG).tape, q.output.trans (unhide HG).output, Nat.le_trans (unhide HG).size q.size, fun i hi hn => (q.block i (by have := (unhide HG).size; omega) (fun e => by injection e; omega)).trans ((unhide HG).block i hi hn)⟩)
    clear hR hg HF HS H hbz hb2 hb8 hN hglt h
    go_wp2_with fail
    rw [unhide HT]
    exact bodyPost_ret (v := wV zeroW) (by simp [results, Tryz.results91, go_sem, r0, r1, r2, r3, r4, r5, r6, r7, wV, zeroW]) rfl ⟨rfl, unhide HFAR, unhide HGG⟩
  | true =>
    rw [hs] at HS
    obtain ⟨x, hx, hbn⟩ : ∃ x, ws[k]? = some x ∧ bad = none := by
      cases bad with
      | some y => simp [seesB] at hs
      | none =>
        cases hx : ws[k]? with
        | none => simp [seesB, hx] at hs
        | some x => exact ⟨x, rfl, rfl⟩
    subst hbn
    have HT := hide (show takeV ws k none eb el ec kind = ⟨x, k + 1, none⟩ by unfold takeV; rw [hs, hx])
    have hk := (List.getElem?_eq_some_iff.1 hx).1
    obtain ⟨a, c, v, hb, ha, hc, hv⟩ := h2.blk
    obtain rfl := ha hk
    have hw := h2.words
    have w0 := hw.first hx
    have w1 := hw k x hx 1 _ rfl
    have w2 := hw k x hx 2 _ rfl
    have w3 := hw k x hx 3 _ rfl
    have w4 := hw k x hx 4 _ rfl
    have w5 := hw k x hx 5 _ rfl
    have w6 := hw k x hx 6 _ rfl
    have w7 := hw k x hx 7 _ rfl
    have c0 := hb.cell 0
    have f0 := hb.frozen 0
    obtain ⟨m, hm⟩ : ∃ m, m = ws.length - (k + 1) := ⟨_, rfl⟩
    have hm1 : ws.length - k = m + 1 := by omega
    rw [hm1] at c0 hc
    have HB := hide hb
    have HM := hide (And.intro hm hm1)
    have hcm : m + 1 ≤ c := hc
    have HK := hide hk
    have HX := hide hx
    have HV := hide hv
    clear hE hs hE2 hgZ hw hx hm hm1 hb ha hc hv hk HF
    go_wp2_with fail
    generalize W.alloc (.cells #[.int .i64 0, .string ⟨#[]⟩, .int .i32 0, .int .i64 0, .int .i64 0, .int .i64 0, .int .i64 0, .int .i64 0] 171) = WZ at *
    refine (unhide HS).mono ?_
    rintro e w1 ⟨rfl, hw1⟩
    rw [hw1]
    clear hw1
    have hbW := unhide HB
    rw [(unhide HM).2] at hbW
    have d0 := (hbW.alloc (.cells #[.int .i64 x.k, .string x.S, .int .i32 x.r, .int .i64 x.n, .int .i64 x.b, .int .i64 x.l, .int .i64 x.c, .int .i64 x.e] 171)).cell 0
    have g0 := (hbW.alloc (.cells #[.int .i64 x.k, .string x.S, .int .i32 x.r, .int .i64 x.n, .int .i64 x.b, .int .i64 x.l, .int .i64 x.c, .int .i64 x.e] 171)).frozen 0
    obtain ⟨N, hN⟩ : ∃ N, N = W.heap.size := ⟨_, rfl⟩
    rw [← hN] at hbz
    rw [← hN]
    have HBZ := hide hbz
    have hRN : R < N := by omega
    have hglt : ∀ (j : Nat) (y : W8), ws[j]? = some y → g < N := fun j y hy => by have := h.glt j y hy; omega
    have hNZ : N < WZ.heap.size := hbz.lt
    have HN := hide hN
    clear hbz h h2 hRW hN HS
    by_cases hc1 : c = 1
    · obtain rfl : m = 0 := by omega
      subst hc1
      have hg3 : WZ.grownBy ((WZ.alloc (.cells #[.int .i64 x.k, .string x.S, .int .i32 x.r, .int .i64 x.n, .int .i64 x.b, .int .i64 x.l, .int .i64 x.c, .int .i64 x.e] 171)).setCell ⟨R, 0, none⟩ (.slice (some ⟨g, 8 * k, none⟩) 0 0)) (some R) := grown_trans' (World.grownBy_alloc _ _ _) (grown_set' _ R 0 _)
      have hbN : Blk ((WZ.alloc (.cells #[.int .i64 x.k, .string x.S, .int .i32 x.r, .int .i64 x.n, .int .i64 x.b, .int .i64 x.l, .int .i64 x.c, .int .i64 x.e] 171)).setCell ⟨R, 0, none⟩ (.slice (some ⟨g, 8 * k, none⟩) 0 0)) N #[.int .i64 0, .string ⟨#[]⟩, .int .i32 0, .int .i64 0, .int .i64 0, .int .i64 0, .int .i64 0, .int .i64 0] 171 := (unhide HBZ).kept hg3 (fun e => by have := Option.some.inj e; omega)
      have hbR : Blk ((WZ.alloc (.cells #[.int .i64 x.k, .string x.S, .int .i32 x.r, .int .i64 x.n, .int .i64 x.b, .int .i64 x.l, .int .i64 x.c, .int .i64 x.e] 171)).setCell ⟨R, 0, none⟩ (.slice (some ⟨g, 8 * k, none⟩) 0 0)) R #[.slice (some ⟨g, 8 * k, none⟩) 0 0, .pointer (some ⟨Tx, 0, none⟩), v] 127 := (hbW.alloc _).set 0 _
      have k0 := hbN.cell 0
      have q0 := hbN.frozen 0
      have k1 := hbN.cell 1
      have q1 := hbN.frozen 1
      have k2 := hbN.cell 2
      have q2 := hbN.frozen 2
      have k3 := hbN.cell 3
      have q3 := hbN.frozen 3
      have k4 := hbN.cell 4
      have q4 := hbN.frozen 4
      have k5 := hbN.cell 5
      have q5 := hbN.frozen 5
      have k6 := hbN.cell 6
      have q6 := hbN.frozen 6
      have k7 := hbN.cell 7
      have q7 := hbN.frozen 7
      have hb8 := box8 hbN (.int .i64 x.k) (.string x.S) (.int .i32 x.r) (.int .i64 x.n) (.int .i64 x.b) (.int .i64 x.l) (.int .i64 x.c) (.int .i64 x.e)
      have r0 := hb8.cell 0
      have r1 := hb8.cell 1
      have r2 := hb8.cell 2
      have r3 := hb8.cell 3
      have r4 := hb8.cell 4
      have r5 := hb8.cell 5
      have r6 := hb8.cell 6
      have r7 := hb8.cell 7
      have hR3 : RdAt ((WZ.alloc (.cells #[.int .i64 x.k, .string x.S, .int .i32 x.r, .int .i64 x.n, .int .i64 x.b, .int .i64 x.l, .int .i64 x.c, .int .i64 x.e] 171)).setCell ⟨R, 0, none⟩ (.slice (some ⟨g, 8 * k, none⟩) 0 0)) R Tx g ws (k + 1) none := (unhide H).upd hg3 (unhide HK) (some ⟨g, 8 * k, none⟩) 0 v (by rw [← (unhide HM).1]; exact hbR) (fun h9 => by have := (unhide HM).1; omega) (by rw [← (unhide HM).1]; omega) (unhide HV)
      have HFAR : Hz (RdAt ((((((((((WZ.alloc (.cells #[.int .i64 x.k, .string x.S, .int .i32 x.r, .int .i64 x.n, .int .i64 x.b, .int .i64 x.l, .int .i64 x.c, .int .i64 x.e] 171)).setCell ⟨R, 0, none⟩ (.slice (some ⟨g, 8 * k, none⟩) 0 0)).setCell ⟨N, 0, none⟩ (.int .i64 x.k)).setCell ⟨N, 1, none⟩ (.string x.S)).setCell ⟨N, 2, none⟩ (.int .i32 x.r)).setCell ⟨N, 3, none⟩ (.int .i64 x.n)).setCell ⟨N, 4, none⟩ (.int .i64 x.b)).setCell ⟨N, 5, none⟩ (.int .i64 x.l)).setCell ⟨N, 6, none⟩ (.int .i64 x.c)).setCell ⟨N, 7, none⟩ (.int .i64 x.e)) R Tx g ws (k + 1) none) := hide (hR3.far (grown8 _ N _ _ _ _ _ _ _ _) (by omega) (fun j y hy => by have := hglt j y hy; omega) (fun F y hy e => by subst e; have := blk_types hy hbN; revert this; decide))
      have HGG : Hz (W.grownBy ((((((((((WZ.alloc (.cells #[.int .i64 x.k, .string x.S, .int .i32 x.r, .int .i64 x.n, .int .i64 x.b, .int .i64 x.l, .int .i64 x.c, .int .i64 x.e] 171)).setCell ⟨R, 0, none⟩ (.slice (some ⟨g, 8 * k, none⟩) 0 0)).setCell ⟨N, 0, none⟩ (.int .i64 x.k)).setCell ⟨N, 1, none⟩ (.string x.S)).setCell ⟨N, 2, none⟩ (.int .i32 x.r)).setCell ⟨N, 3, none⟩ (.int .i64 x.n)).setCell ⟨N, 4, none⟩ (.int .i64 x.b)).setCell ⟨N, 5, none⟩ (.int .i64 x.l)).setCell ⟨N, 6, none⟩ (.int .i64 x.c)).setCell ⟨N, 7, none⟩ (.int .i64 x.e)) (some R)) := hide (by
        have q := grown8 ((WZ.alloc (.cells #[.int .i64 x.k, .string x.S, .int .i32 x.r, .int .i64 x.n, .int .i64 x.b, .int .i64 x.l, .int .i64 x.c, .int .i64 x.e] 171)).setCell ⟨R, 0, none⟩ (.slice (some ⟨g, 8 * k, none⟩) 0 0)) N (.int .i64 x.k) (.string x.S) (.int .i32 x.r) (.int .i64 x.n) (.int .i64 x.b) (.int .i64 x.l) (.int .i64 x.c) (.int .i64 x.e)
        have q0 := grown_trans' (unhide HGZ) hg3
        have hNN := unhide HN
        exact ⟨q.os.trans q0.os, q.tape.trans q0.tape, q.output.trans q0.output, Nat.le_trans q0.size q.size, fun i hi hn => (q.block i (by have := q0.size; omega) (fun e => by injection e; omega)).trans (q0.block i hi hn)⟩)
      clear hg3 hbN hbR hb8 hR3
      go_wp2_with fail
      rw [unhide HT]
      exact bodyPost_ret (v := wV x) (by simp [results, Tryz.results91, go_sem, r0, r1, r2, r3, r4, r5, r6, r7, wV]) rfl ⟨rfl, unhide HFAR, unhide HGG⟩
    · obtain ⟨c2, rfl⟩ : ∃ c2, c = c2 + 2 := ⟨c - 2, by omega⟩
      have hg3 : WZ.grownBy ((WZ.alloc (.cells #[.int .i64 x.k, .string x.S, .int .i32 x.r, .int .i64 x.n, .int .i64 x.b, .int .i64 x.l, .int .i64 x.c, .int .i64 x.e] 171)).setCell ⟨R, 0, none⟩ (.slice (some ⟨g, 8 * k + 8, none⟩) m (c2 + 1))) (some R) := grown_trans' (World.grownBy_alloc _ _ _) (grown_set' _ R 0 _)
      have hbN : Blk ((WZ.alloc (.cells #[.int .i64 x.k, .string x.S, .int .i32 x.r, .int .i64 x.n, .int .i64 x.b, .int .i64 x.l, .int .i64 x.c, .int .i64 x.e] 171)).setCell ⟨R, 0, none⟩ (.slice (some ⟨g, 8 * k + 8, none⟩) m (c2 + 1))) N #[.int .i64 0, .string ⟨#[]⟩, .int .i32 0, .int .i64 0, .int .i64 0, .int .i64 0, .int .i64 0, .int .i64 0] 171 := (unhide HBZ).kept hg3 (fun e => by have := Option.some.inj e; omega)
      have hbR : Blk ((WZ.alloc (.cells #[.int .i64 x.k, .string x.S, .int .i32 x.r, .int .i64 x.n, .int .i64 x.b, .int .i64 x.l, .int .i64 x.c, .int .i64 x.e] 171)).setCell ⟨R, 0, none⟩ (.slice (some ⟨g, 8 * k + 8, none⟩) m (c2 + 1))) R #[.slice (some ⟨g, 8 * k + 8, none⟩) m (c2 + 1), .pointer (some ⟨Tx, 0, none⟩), v] 127 := (hbW.alloc _).set 0 _
      have k0 := hbN.cell 0
      have q0 := hbN.frozen 0
      have k1 := hbN.cell 1
      have q1 := hbN.frozen 1
      have k2 := hbN.cell 2
      have q2 := hbN.frozen 2
      have k3 := hbN.cell 3
      have q3 := hbN.frozen 3
      have k4 := hbN.cell 4
      have q4 := hbN.frozen 4
      have k5 := hbN.cell 5
      have q5 := hbN.frozen 5
      have k6 := hbN.cell 6
      have q6 := hbN.frozen 6
      have k7 := hbN.cell 7
      have q7 := hbN.frozen 7
      have hb8 := box8 hbN (.int .i64 x.k) (.string x.S) (.int .i32 x.r) (.int .i64 x.n) (.int .i64 x.b) (.int .i64 x.l) (.int .i64 x.c) (.int .i64 x.e)
      have r0 := hb8.cell 0
      have r1 := hb8.cell 1
      have r2 := hb8.cell 2
      have r3 := hb8.cell 3
      have r4 := hb8.cell 4
      have r5 := hb8.cell 5
      have r6 := hb8.cell 6
      have r7 := hb8.cell 7
      have hR3 : RdAt ((WZ.alloc (.cells #[.int .i64 x.k, .string x.S, .int .i32 x.r, .int .i64 x.n, .int .i64 x.b, .int .i64 x.l, .int .i64 x.c, .int .i64 x.e] 171)).setCell ⟨R, 0, none⟩ (.slice (some ⟨g, 8 * k + 8, none⟩) m (c2 + 1))) R Tx g ws (k + 1) none := (unhide H).upd hg3 (unhide HK) (some ⟨g, 8 * k + 8, none⟩) (c2 + 1) v (by rw [← (unhide HM).1]; exact hbR) (fun _ => by congr 2) (by rw [← (unhide HM).1]; omega) (unhide HV)
      have HFAR : Hz (RdAt ((((((((((WZ.alloc (.cells #[.int .i64 x.k, .string x.S, .int .i32 x.r, .int .i64 x.n, .int .i64 x.b, .int .i64 x.l, .int .i64 x.c, .int .i64 x.e] 171)).setCell ⟨R, 0, none⟩ (.slice (some ⟨g, 8 * k + 8, none⟩) m (c2 + 1))).setCell ⟨N, 0, none⟩ (.int .i64 x.k)).setCell ⟨N, 1, none⟩ (.string x.S)).setCell ⟨N, 2, none⟩ (.int .i32 x.r)).setCell ⟨N, 3, none⟩ (.int .i64 x.n)).setCell ⟨N, 4, none⟩ (.int .i64 x.b)).setCell ⟨N, 5, none⟩ (.int .i64 x.l)).setCell ⟨N, 6, none⟩ (.int .i64 x.c)).setCell ⟨N, 7, none⟩ (.int .i64 x.e)) R Tx g ws (k + 1) none) := hide (hR3.far (grown8 _ N _ _ _ _ _ _ _ _) (by omega) (fun j y hy => by have := hglt j y hy; omega) (fun F y hy e => by subst e; have := blk_types hy hbN; revert this; decide))
      have HGG : Hz (W.grownBy ((((((((((WZ.alloc (.cells #[.int .i64 x.k, .string x.S, .int .i32 x.r, .int .i64 x.n, .int .i64 x.b, .int .i64 x.l, .int .i64 x.c, .int .i64 x.e] 171)).setCell ⟨R, 0, none⟩ (.slice (some ⟨g, 8 * k + 8, none⟩) m (c2 + 1))).setCell ⟨N, 0, none⟩ (.int .i64 x.k)).setCell ⟨N, 1, none⟩ (.string x.S)).setCell ⟨N, 2, none⟩ (.int .i32 x.r)).setCell ⟨N, 3, none⟩ (.int .i64 x.n)).setCell ⟨N, 4, none⟩ (.int .i64 x.b)).setCell ⟨N, 5, none⟩ (.int .i64 x.l)).setCell ⟨N, 6, none⟩ (.int .i64 x.c)).setCell ⟨N, 7, none⟩ (.int .i64 x.e)) (some R)) := hide (by
        have q := grown8 ((WZ.alloc (.cells #[.int .i64 x.k, .string x.S, .int .i32 x.r, .int .i64 x.n, .int .i64 x.b, .int .i64 x.l, .int .i64 x.c, .int .i64 x.e] 171)).setCell ⟨R, 0, none⟩ (.slice (some ⟨g, 8 * k + 8, none⟩) m (c2 + 1))) N (.int .i64 x.k) (.string x.S) (.int .i32 x.r) (.int .i64 x.n) (.int .i64 x.b) (.int .i64 x.l) (.int .i64 x.c) (.int .i64 x.e)
        have q0 := grown_trans' (unhide HGZ) hg3
        have hNN := unhide HN
        exact ⟨q.os.trans q0.os, q.tape.trans q0.tape, q.output.trans q0.output, Nat.le_trans q0.size q.size, fun i hi hn => (q.block i (by have := q0.size; omega) (fun e => by injection e; omega)).trans (q0.block i hi hn)⟩)
      clear hg3 hbN hbR hb8 hR3
      go_wp2_with fail
      rw [unhide HT]
      exact bodyPost_ret (v := wV x) (by simp [results, Tryz.results91, go_sem, r0, r1, r2, r3, r4, r5, r6, r7, wV]) rfl ⟨rfl, unhide HFAR, unhide HGG⟩
structure RdE (W : World) (R Tx g : Nat) (ws : List W8) (k : Nat) (bad : Option Rf) (eb el ec : Int) : Prop where
  rd : RdAt W R Tx g ws k bad
  en : EndAt W Tx eb el ec
  ne : Tx ≠ R
theorem RdE.step {W W' : World} {R Tx g : Nat} {ws : List W8} {k k2 : Nat} {bad bad2 : Option Rf} {eb el ec : Int} (h : RdE W R Tx g ws k bad eb el ec) (h2 : RdAt W' R Tx g ws k2 bad2) (hg : W.grownBy W' (some R)) : RdE W' R Tx g ws k2 bad2 eb el ec := ⟨h2, h.en.kept hg (fun e => h.ne (Option.some.inj e)), h.ne⟩
theorem RdE.alloc {W : World} {R Tx g : Nat} {ws : List W8} {k : Nat} {bad : Option Rf} {eb el ec : Int} (h : RdE W R Tx g ws k bad eb el ec) (o : Obj) : RdE (W.alloc o) R Tx g ws k bad eb el ec := ⟨h.rd.alloc o, h.en.kept (World.grownBy_alloc W o none) (by simp), h.ne⟩
theorem take_e (R Tx g : Nat) (ws : List W8) (k : Nat) (bad : Option Rf) (eb el ec kind : Int) (W : World) (h : RdE W R Tx g ws k bad eb el ec) :
    Calls Tryz.prog 91 #[.pointer (some ⟨R, 0, none⟩), .int .i64 kind] W fun e w' => e = .returned (wV (takeV ws k bad eb el ec kind).x) ∧ RdE w' R Tx g ws (takeV ws k bad eb el ec kind).k (takeV ws k bad eb el ec kind).bad eb el ec ∧ W.grownBy w' (some R) :=
  (take_any R Tx g ws k bad eb el ec kind W h.rd h.en).mono fun e w' ⟨h1, h2, h3⟩ => ⟨h1, h.step h2 h3, h3⟩
theorem field_r (a : Int) (b : ByteArray) (c d e f g h : Int) (w : World) : (Instr.field 171 (.agg #[.int .i64 a, .string b, .int .i32 c, .int .i64 d, .int .i64 e, .int .i64 f, .int .i64 g, .int .i64 h]) 2).run Tryz.prog w = .ok (.int .i32 c) w := by kernel_rfl
theorem span_fin {W w1 : World} {R Tx g N : Nat} {ws : List W8} {k : Nat} {bad : Option Rf} {eb el ec : Int} {a b : Value} (h : RdE w1 R Tx g ws k bad eb el ec) (hg : W.grownBy w1 (some R)) (hb : Blk w1 N #[a, b] 76) (hN : N = W.heap.size) (hR : R < N) (hT : Tx < N) (hgl : ∀ (j : Nat) (y : W8), ws[j]? = some y → g < N) (u v : Value) :
    RdE ((w1.setCell ⟨N, 0, none⟩ u).setCell ⟨N, 1, none⟩ v) R Tx g ws k bad eb el ec ∧ W.grownBy ((w1.setCell ⟨N, 0, none⟩ u).setCell ⟨N, 1, none⟩ v) (some R) ∧ Blk ((w1.setCell ⟨N, 0, none⟩ u).setCell ⟨N, 1, none⟩ v) N #[u, v] 76 := by
  have q : w1.grownBy ((w1.setCell ⟨N, 0, none⟩ u).setCell ⟨N, 1, none⟩ v) (some N) := grown_trans' (grown_set' w1 N 0 u) (grown_set' _ N 1 v)
  refine ⟨⟨h.rd.far q (by omega) (fun j y hy => by have := hgl j y hy; omega) (fun F y hy e => by subst e; have := blk_types hy hb; revert this; decide), h.en.kept q (fun e => by have := Option.some.inj e; omega), h.ne⟩, ⟨q.os.trans hg.os, q.tape.trans hg.tape, q.output.trans hg.output, Nat.le_trans hg.size q.size, fun i hi hn => (q.block i (by have := hg.size; omega) (fun e => by injection e; omega)).trans (hg.block i hi hn)⟩, (hb.set 0 u).set 1 v⟩
structure Sn where
  lo : Int
  hi : Int
  k : Nat
  bad : Option Rf
def spanV (ws : List W8) (k : Nat) (bad : Option Rf) (eb el ec : Int) : Sn :=
  let a := takeV ws k bad eb el ec 3
  if seesB ws a.k a.bad 9 then
    let b := takeV ws a.k a.bad eb el ec 9
    let c := takeV ws b.k b.bad eb el ec 3
    ⟨a.x.r, c.x.r, c.k, c.bad⟩
  else ⟨a.x.r, a.x.r, a.k, a.bad⟩
set_option maxRecDepth 100000 in
set_option maxHeartbeats 4000000 in
theorem span_any (R Tx g : Nat) (ws : List W8) (k : Nat) (bad : Option Rf) (eb el ec : Int) (W : World) (h : RdE W R Tx g ws k bad eb el ec) :
    Calls Tryz.prog 191 #[.pointer (some ⟨R, 0, none⟩)] W fun e w' => e = .returned (.agg #[.int .i32 (spanV ws k bad eb el ec).lo, .int .i32 (spanV ws k bad eb el ec).hi]) ∧ RdE w' R Tx g ws (spanV ws k bad eb el ec).k (spanV ws k bad eb el ec).bad eb el ec ∧ W.grownBy w' (some R) := by
  have hRW : R < W.heap.size := by obtain ⟨a, c, v, hb, _⟩ := h.rd.blk; exact hb.lt
  have hglt := h.rd.glt
  have hTW : Tx < W.heap.size := cell_lt h.en.c0
  have hz := h.alloc (.cells #[.int .i32 0, .int .i32 0] 76)
  have hgz := World.grownBy_alloc W (.cells #[.int .i32 0, .int .i32 0] 76) (some R)
  have hbz := Blk.new W #[.int .i32 0, .int .i32 0] 76
  obtain ⟨N, hN⟩ : ∃ N, N = W.heap.size := ⟨_, rfl⟩
  have HN := hide hN
  rw [← hN] at hbz
  have H := hide (And.intro hz (And.intro hgz hbz))
  have hRN : R < N := by omega
  have hTN : Tx < N := by omega
  have HGL : Hz (∀ (j : Nat) (y : W8), ws[j]? = some y → g < N) := hide (fun j y hy => by have := hglt j y hy; omega)
  clear h hz hgz hbz hglt
  go_enter Tryz.func191, Tryz.ntmps191
  go_wp2_with fail
  generalize W.alloc (.cells #[.int .i32 0, .int .i32 0] 76) = WZ at *
  rw [← unhide HN]
  clear hN
  refine (take_e R Tx g ws k bad eb el ec 3 WZ (unhide H).1).mono ?_
  rintro e w1 ⟨rfl, hR1, hg1⟩
  have H1 := hide (And.intro hR1 (And.intro (grown_trans' (unhide H).2.1 hg1) ((unhide H).2.2.kept hg1 (fun e => by have := Option.some.inj e; omega))))
  have HSV : Hz (spanV ws k bad eb el ec = if seesB ws (takeV ws k bad eb el ec 3).k (takeV ws k bad eb el ec 3).bad 9 then ⟨(takeV ws k bad eb el ec 3).x.r, (takeV ws (takeV ws (takeV ws k bad eb el ec 3).k (takeV ws k bad eb el ec 3).bad eb el ec 9).k (takeV ws (takeV ws k bad eb el ec 3).k (takeV ws k bad eb el ec 3).bad eb el ec 9).bad eb el ec 3).x.r, (takeV ws (takeV ws (takeV ws k bad eb el ec 3).k (takeV ws k bad eb el ec 3).bad eb el ec 9).k (takeV ws (takeV ws k bad eb el ec 3).k (takeV ws k bad eb el ec 3).bad eb el ec 9).bad eb el ec 3).k, (takeV ws (takeV ws (takeV ws k bad eb el ec 3).k (takeV ws k bad eb el ec 3).bad eb el ec 9).k (takeV ws (takeV ws k bad eb el ec 3).k (takeV ws k bad eb el ec 3).bad eb el ec 9).bad eb el ec 3).bad⟩ else ⟨(takeV ws k bad eb el ec 3).x.r, (takeV ws k bad eb el ec 3).x.r, (takeV ws k bad eb el ec 3).k, (takeV ws k bad eb el ec 3).bad⟩) := hide rfl
  clear hR1 hg1 H
  generalize takeV ws k bad eb el ec 3 = A at *
  obtain ⟨⟨ak, aS, ar, an, ab, al, ac, ae⟩, k1, bad1⟩ := A
  dsimp only at HSV H1
  unfold wV
  dsimp only
  have hf := field_r ak aS ar an ab al ac ae
  have HS := hide (sees_any R Tx g ws k1 bad1 9 w1 (unhide H1).1.rd)
  cases hs : seesB ws k1 bad1 9 with
  | false =>
    rw [hs] at HS HSV
    have HSV2 : Hz (spanV ws k bad eb el ec = ⟨ar, ar, k1, bad1⟩) := hide ((unhide HSV).trans rfl)
    clear hs HSV
    go_wp2_with fail
    refine (unhide HS).mono ?_
    rintro e w2 ⟨rfl, hw2⟩
    rw [hw2]
    clear hw2 HS
    have hb1 := (unhide H1).2.2
    have k0 := hb1.cell 0
    have q0 := hb1.frozen 0
    have k1' := hb1.cell 1
    have q1 := hb1.frozen 1
    have hfin := span_fin (unhide H1).1 (unhide H1).2.1 hb1 (unhide HN) hRN hTN (unhide HGL) (.int .i32 ar) (.int .i32 ar)
    have r0 := hfin.2.2.cell 0
    have r1 := hfin.2.2.cell 1
    have HFIN := hide (And.intro hfin.1 hfin.2.1)
    clear hfin hb1
    go_wp2_with fail
    rw [unhide HSV2]
    exact bodyPost_ret (v := .agg #[.int .i32 ar, .int .i32 ar]) (by simp [results, Tryz.results191, go_sem, r0, r1]) rfl ⟨rfl, (unhide HFIN).1, (unhide HFIN).2⟩
  | true =>
    rw [hs] at HS HSV
    have HSV2 := hide ((unhide HSV).trans (if_pos rfl))
    clear hs HSV
    go_wp2_with fail
    refine (unhide HS).mono ?_
    rintro e w2 ⟨rfl, hw2⟩
    rw [hw2]
    clear hw2 HS
    go_wp2_with fail
    refine (take_e R Tx g ws k1 bad1 eb el ec 9 w1 (unhide H1).1).mono ?_
    rintro e w3 ⟨rfl, hR3, hg3⟩
    have H3 := hide (And.intro hR3 (And.intro (grown_trans' (unhide H1).2.1 hg3) ((unhide H1).2.2.kept hg3 (fun e => by have := Option.some.inj e; omega))))
    clear hR3 hg3 H1
    generalize takeV ws k1 bad1 eb el ec 9 = B9 at *
    obtain ⟨b9, k3, bad3⟩ := B9
    dsimp only at HSV2 H3
    dsimp only
    generalize wV b9 = vb9
    go_wp2_with fail
    refine (take_e R Tx g ws k3 bad3 eb el ec 3 w3 (unhide H3).1).mono ?_
    rintro e w4 ⟨rfl, hR4, hg4⟩
    have H4 := hide (And.intro hR4 (And.intro (grown_trans' (unhide H3).2.1 hg4) ((unhide H3).2.2.kept hg4 (fun e => by have := Option.some.inj e; omega))))
    clear hR4 hg4 H3
    generalize takeV ws k3 bad3 eb el ec 3 = C3 at *
    obtain ⟨⟨ck, cS, cr, cn, cb, cl, cc, ce⟩, k4, bad4⟩ := C3
    dsimp only at HSV2 H4
    unfold wV
    dsimp only
    have hf2 := field_r ck cS cr cn cb cl cc ce
    have hb1 := (unhide H4).2.2
    have k0 := hb1.cell 0
    have q0 := hb1.frozen 0
    have k1' := hb1.cell 1
    have q1 := hb1.frozen 1
    have hfin := span_fin (unhide H4).1 (unhide H4).2.1 hb1 (unhide HN) hRN hTN (unhide HGL) (.int .i32 ar) (.int .i32 cr)
    have r0 := hfin.2.2.cell 0
    have r1 := hfin.2.2.cell 1
    have HFIN := hide (And.intro hfin.1 hfin.2.1)
    clear hfin hb1
    go_wp2_with fail
    rw [unhide HSV2]
    exact bodyPost_ret (v := .agg #[.int .i32 ar, .int .i32 cr]) (by simp [results, Tryz.results191, go_sem, r0, r1]) rfl ⟨rfl, (unhide HFIN).1, (unhide HFIN).2⟩
end Go.Proofs.YtgchlilpjkndlaaGreatDoor
