/- Texts of this claim, one behind the other. -/
import Derived.Test.YtnnbaodillnkkaaGreatM22
import Derived.Test.YtnnbaodillnkkaaGreatTkY
import Derived.Test.YtnnbaodillnkkaaGreatM1
import Derived.Sort.LotD3
import Derived.Sort.Row
import Derived.WalkKit
import Derived.BigGuard
import Derived.BigCall
import Derived.CellFam
import Derived.Deep.Draws
import Derived.Deep.QuietTactic
import Derived.BigQuiet
/- A Book of tables, or what is wrong. -/
namespace Go.Proofs.YtnnbaodillnkkaaGreat
open Go.RowKit Go.Shelf Go.Maps
set_option linter.unusedVariables false
theorem ret23 {fn : Func} {u p : Tmp} {tmps : Array Value} {w : World} {R : Nat} {cs : Array Value} (h : fn.results = #[.tmp u, .cell p 37]) (hp : tmps.getD p undef = .pointer (some ⟨R, 0, none⟩)) (hb : Blk w R cs 37) (hc : cs.size = 3) : (results fn tmps).run Tryz.prog w = .ok (.tuple #[tmps.getD u undef, .agg cs]) w := by
  have hp' : tmps[p]?.getD undef = .pointer (some ⟨R, 0, none⟩) := by simpa using hp
  have hl := run_loadVar_row (P := Tryz.prog) w R _ 37 cs _ _ hb Tryz.underlying37 rfl (by rw [hc]; kernel_rfl)
  simp only [results, h]
  simp [Result.andThen, hp', asAddr, hl]
theorem ts_wrong (T : TV) (us : List Value) (l : Ln) (hl : l ∈ tsOf T us) : l.E ≠ 37 := by
  have key : l.E = 70 ∨ l.E = 68 ∨ l.E = 53 ∨ l.E = 56 ∨ l.E = 59 := by
    unfold tsOf at hl
    simp only [List.mem_append, List.mem_cons, List.mem_map, List.not_mem_nil, or_false] at hl
    rcases hl with ((((((((h | ⟨_, _, h⟩) | h) | h) | h) | h) | h) | h) | h)
    · rw [h]; exact .inl rfl
    · rw [← h]; exact .inr (.inl rfl)
    · rw [h]; exact .inr (.inl rfl)
    · rw [h]; exact .inr (.inr (.inl rfl))
    · rw [h]; exact .inr (.inr (.inr (.inl rfl)))
    · rw [h]; exact .inr (.inr (.inr (.inr rfl)))
    · rw [h]; exact .inr (.inr (.inr (.inr rfl)))
    · rw [h]; exact .inr (.inl rfl)
    · rw [h]; exact .inr (.inl rfl)
  generalize l.E = x at key
  rcases key with rfl | rfl | rfl | rfl | rfl
  all_goals decide
theorem below_drew3 {lo R : Nat} {W w : World} (h : Below lo W w) (hl : lo ≤ R) (hs : lo ≤ w.heap.size) (x y z : Value) : Below lo W (((w.drew.setCell ⟨R, 0, none⟩ x).setCell ⟨R, 1, none⟩ y).setCell ⟨R, 2, none⟩ z) := below3 (w := w.drew) (h.trans (show Below lo w w.drew from ⟨rfl, rfl, rfl, Nat.le_refl _, fun _ _ => rfl⟩)) hl hs x y z
theorem wr_x {w : World} {R : Nat} {cs : Array Value} (b : Blk w R cs 37) {g : Nat} {cur : Array Value} {t : TypeId} (hb : Blk w g cur t) (ht : t ≠ 37) : ¬ g = R := by
  rintro rfl
  unfold Blk at b hb
  rw [b] at hb
  injection hb with e
  injection e with _ e
  exact ht e.symm
theorem book_keptW {w w' : World} {B R : Nat} {T : TV} {cs : Array Value} (h : BookAt w B T) (b : Blk w R cs 37) (k : KeptX (fun g => g = R) w w') (hints : ∀ (j : Nat) (y : Int), cs[j]? ≠ some (.int .i32 y)) : BookAt w' B T := by
  obtain ⟨lo, t0, t1, t2, t3, t4, t5, t6, t7, sv, bs, Bc, Bd, Ba, M5, n5, M6, n6, M7, n7, MF, nF, ML, nL, h⟩ := h
  have row : ∀ {lo E sz n : Nat} {v : Value} {xs : List Value}, w.ownsRow lo E sz v n xs → E ≠ 37 → w'.ownsRow lo E sz v n xs := fun {lo E sz n v xs} h hE => by
    rcases h.2 with ⟨e, h0⟩ | ⟨g, cap, cur, e, hb, hg, r⟩
    · exact ⟨h.1, .inl ⟨e, h0⟩⟩
    · exact ⟨h.1, .inr ⟨g, cap, cur, e, hb, k.blk hg (wr_x b hg hE), r⟩⟩
  have setv : ∀ l C, SetV w l C → SetV w' l C := fun l C ⟨zs, lo0, h1, h2⟩ => by
    obtain ⟨va, vb, f1, f2, f3⟩ := h1.form
    exact ⟨zs, lo0, ⟨⟨va, vb, k.blk f1 (wr_x b f1 (by decide)), row f2 (by decide), row f3 (by decide)⟩, h1.lo⟩, h2⟩
  have mpx : ∀ {kt : TypeId} {Rd : Value → Option (DataW Unit × List MemPlace)} {M n : Nat} {G : Lit → Option (DataW Unit)}, MpAt w kt Rd M n G → MpAt w' kt Rd M n G := fun {kt Rd M n G} hm => k.mp hm (mp_ne_blk hm b)
  have foa : ∀ M n l, FoAt w M n l → FoAt w' M n l := fun M n l hf => by
    obtain ⟨G, h1, h2⟩ := hf.mp
    refine ⟨G, mpx h1, fun r hr => ?_⟩
    rcases h2 r hr with h3 | ⟨x, hx, e, g, c, h4, h5, h6⟩
    · exact .inl h3
    · refine .inr ⟨x, hx, e, g, c, h4, h5, Nat.lt_of_lt_of_le h6.1 k.size, fun j y hy => (k.cell (p := ⟨g, j, none⟩) h6.1 (fun e => ?_)).trans (h6.2 j y hy)⟩
      have e : g = R := e
      subst e
      have := h6.2 j y hy
      rw [b.cell j] at this
      exact hints _ _ this
  exact ⟨lo, t0, t1, t2, t3, t4, t5, t6, t7, sv, bs, Bc, Bd, Ba, M5, n5, M6, n6, M7, n7, MF, nF, ML, nL,
    { bx := k.blk h.bx (wr_x b h.bx (by decide))
      tb := by
        obtain ⟨v0, us, v1, v2, v3, v4, v5, v6, v7, e, hl, h1⟩ := h.tb
        exact ⟨v0, us, v1, v2, v3, v4, v5, v6, v7, e, hl, h1.ll, fun i v l hv hl => row (h1.own i v l hv hl) (ts_wrong T us l (List.mem_of_getElem? hl)), h1.apart⟩
      len := h.len
      row := row h.row (by decide)
      sets := fun j s b h1 h2 => setv _ _ (h.sets j s b h1 h2)
      co := setv _ _ h.co
      dr := setv _ _ h.dr
      al := setv _ _ h.al
      cl := let ⟨G, g1, g2⟩ := h.cl.mp; ⟨G, mpx g1, g2⟩
      pa := let ⟨G, g1, g2⟩ := h.pa.mp; ⟨G, mpx g1, g2⟩
      jo := let ⟨G, g1, g2⟩ := h.jo.mp; ⟨G, mpx g1, g2⟩
      fo := foa _ _ _ h.fo
      lk := foa _ _ _ h.lk }⟩
theorem keptX_mono3 (w : World) (R : Nat) (x y z : Value) : KeptX (fun g => g = R) w (((w.setCell ⟨R, 0, none⟩ x).setCell ⟨R, 1, none⟩ y).setCell ⟨R, 2, none⟩ z) := ((keptX_set w R 0 x).trans (keptX_set _ R 1 y)).trans (keptX_set _ R 2 z)
theorem book_set3 {w : World} {B R : Nat} {T : TV} (h : BookAt w B T) (b : Blk w R #[.int .i64 0, .int .i64 0, .int .i64 0] 37) (x y z : Value) : BookAt (((w.setCell ⟨R, 0, none⟩ x).setCell ⟨R, 1, none⟩ y).setCell ⟨R, 2, none⟩ z) B T :=
  book_keptW h b (keptX_mono3 w R x y z) (fun j y e => by
    rcases j with _ | _ | _ | j
    · injection e with e; cases e
    · injection e with e; cases e
    · injection e with e; cases e
    · simp at e)
theorem size_spots4 (s : ByteArray) : ∀ f i, s.size ≤ i + f → s.size ≤ i + 4 * (startsFrom s f i).length
  | 0, i, h => by simp only [startsFrom, List.length_nil]; omega
  | f + 1, i, h => by
    by_cases hi : i < s.size
    · rw [startsFrom_cons s f i hi, List.length_cons]
      have h1 := wd_pos s i
      have h2 := wd_four s i
      have := size_spots4 s f (i + wd s i) (by omega)
      omega
    · rw [startsFrom_end s _ i hi]; simp; omega
theorem to_small {s : ByteArray} (h : toB s = true) : s.size ≤ 1048576 := by
  have h1 := (toB_iff h).2.2
  have h2 := size_spots4 s s.size 0 (by omega)
  unfold runesL starts at h1
  rw [List.length_map] at h1
  omega
theorem name_small {s : ByteArray} (h : nameB s = true) : s.size ≤ 1048576 := by
  unfold nameB at h
  rw [Bool.and_eq_true, decide_eq_true_eq] at h
  omega
theorem boOk_of {T : TV} (hO : TabOk T) (hR : RowsOk T) : BoOk T :=
  ⟨hO, fun x hx => name_small (hR.f0 x hx).1, fun x hx => ⟨to_small (hR.f4 x hx).2, rune32 (hR.f4 x hx).1⟩, fun x hx => ⟨to_small (hR.f5 x hx).2, rune32 (hR.f5 x hx).1⟩, fun x hx => rune32 (hR.f2 x hx).1, fun x hx => ⟨rune32 (hR.f3 x hx).1, rune32 (hR.f3 x hx).2.1, rune32 (hR.f3 x hx).2.2⟩, hR.f1, hR.f6, hR.f7, fun x hx => (hR.f0 x hx).2⟩
theorem check_eq (T : TV) : checkV T = if (orW [longV T, formsV T, twiceV T]).1 = 0 then orW (wrL T) else orW [longV T, formsV T, twiceV T] := orW_append [longV T, formsV T, twiceV T] (wrL T)
structure NewV (W w : World) (T : TV) (p : Option Addr) : Prop where
  bl : Below W.heap.size W w
  ok : (checkV T).1 = 0 → RowsOk T ∧ ∃ B, p = some ⟨B, 0, none⟩ ∧ W.heap.size ≤ B ∧ BookAt w B T
  no : (checkV T).1 ≠ 0 → p = none
structure NwS (W w : World) (T : TV) (a0 a1 a2 a3 a4 a5 a6 a7 : Option Addr) (c0 c1 c2 c3 c4 c5 c6 c7 : Nat) (us : List Value) : Prop where
  bl : Below W.heap.size W w
  bx : Blk w W.heap.size #[.slice a0 T.sc.length c0, .slice a1 T.co.length c1, .slice a2 T.ma.length c2, .slice a3 T.pr.length c3, .slice a4 T.fo.length c4, .slice a5 T.lk.length c5, .slice a6 T.dr.length c6, .slice a7 T.al.length c7] 32
  rs : Blk w (W.heap.size + 1) #[.int .i64 0, .int .i64 0, .int .i64 0] 37
  ti : TabIn w T a0 a1 a2 a3 a4 a5 a6 a7 us
theorem NwS.below {W w w' : World} {T : TV} {a0 a1 a2 a3 a4 a5 a6 a7 : Option Addr} {c0 c1 c2 c3 c4 c5 c6 c7 : Nat} {us : List Value} (h : NwS W w T a0 a1 a2 a3 a4 a5 a6 a7 c0 c1 c2 c3 c4 c5 c6 c7 us) (hb : Below w.heap.size w w') : NwS W w' T a0 a1 a2 a3 a4 a5 a6 a7 c0 c1 c2 c3 c4 c5 c6 c7 us := ⟨h.bl.trans (hb.mono h.bl.size), h.bx.below hb h.bx.lt, h.rs.below hb h.rs.lt, h.ti.lower hb⟩
set_option maxRecDepth 100000 in
set_option maxHeartbeats 8000000 in
theorem new_any6 (T : TV) (hOk : TabOk T) (hI : TabI T) (a0 a1 a2 a3 a4 a5 a6 a7 : Option Addr) (c0 c1 c2 c3 c4 c5 c6 c7 : Nat) (us : List Value) (W : World) (hT : TabIn W T a0 a1 a2 a3 a4 a5 a6 a7 us) :
    Calls Tryz.prog 8 #[.agg #[.slice a0 T.sc.length c0, .slice a1 T.co.length c1, .slice a2 T.ma.length c2, .slice a3 T.pr.length c3, .slice a4 T.fo.length c4, .slice a5 T.lk.length c5, .slice a6 T.dr.length c6, .slice a7 T.al.length c7]] W fun e w' => ∃ p, e = .returned (.tuple #[.pointer p, wrV (checkV T)]) ∧ NewV W w' T p := by
  have hmx : Tryz.prog.follows .mixedOrders = true := by kernel_rfl
  have hB0 : Below W.heap.size W ((W.alloc (.cells #[.slice a0 T.sc.length c0, .slice a1 T.co.length c1, .slice a2 T.ma.length c2, .slice a3 T.pr.length c3, .slice a4 T.fo.length c4, .slice a5 T.lk.length c5, .slice a6 T.dr.length c6, .slice a7 T.al.length c7] 32)).alloc (.cells #[.int .i64 0, .int .i64 0, .int .i64 0] 37)) := ((Below.refl _ W).alloc (Nat.le_refl _) _).alloc (by simp) _
  have bR : Blk ((W.alloc (.cells #[.slice a0 T.sc.length c0, .slice a1 T.co.length c1, .slice a2 T.ma.length c2, .slice a3 T.pr.length c3, .slice a4 T.fo.length c4, .slice a5 T.lk.length c5, .slice a6 T.dr.length c6, .slice a7 T.al.length c7] 32)).alloc (.cells #[.int .i64 0, .int .i64 0, .int .i64 0] 37)) (W.heap.size + 1) #[.int .i64 0, .int .i64 0, .int .i64 0] 37 := by
    have h := Blk.new (W.alloc (.cells #[.slice a0 T.sc.length c0, .slice a1 T.co.length c1, .slice a2 T.ma.length c2, .slice a3 T.pr.length c3, .slice a4 T.fo.length c4, .slice a5 T.lk.length c5, .slice a6 T.dr.length c6, .slice a7 T.al.length c7] 32)) #[.int .i64 0, .int .i64 0, .int .i64 0] 37
    rw [World.size_alloc] at h
    exact h
  have hS : NwS W ((W.alloc (.cells #[.slice a0 T.sc.length c0, .slice a1 T.co.length c1, .slice a2 T.ma.length c2, .slice a3 T.pr.length c3, .slice a4 T.fo.length c4, .slice a5 T.lk.length c5, .slice a6 T.dr.length c6, .slice a7 T.al.length c7] 32)).alloc (.cells #[.int .i64 0, .int .i64 0, .int .i64 0] 37)) T a0 a1 a2 a3 a4 a5 a6 a7 c0 c1 c2 c3 c4 c5 c6 c7 us := ⟨hB0, (Blk.new W _ _).alloc _, bR, hT.lower hB0⟩
  have HR := hide (rowsWrong_any T hOk hI a0 a1 a2 a3 a4 a5 a6 a7 c0 c1 c2 c3 c4 c5 c6 c7 us ((W.alloc (.cells #[.slice a0 T.sc.length c0, .slice a1 T.co.length c1, .slice a2 T.ma.length c2, .slice a3 T.pr.length c3, .slice a4 T.fo.length c4, .slice a5 T.lk.length c5, .slice a6 T.dr.length c6, .slice a7 T.al.length c7] 32)).alloc (.cells #[.int .i64 0, .int .i64 0, .int .i64 0] 37)) hS.ti)
  have HOk := hide (And.intro hOk hI)
  have HCE := hide (check_eq T)
  have HRO := hide (rowsOk_of (T := T))
  have HS := hide hS
  have q0 := hS.bx.cell 0
  have q1 := hS.bx.cell 1
  have q2 := hS.bx.cell 2
  have q3 := hS.bx.cell 3
  have q4 := hS.bx.cell 4
  have q5 := hS.bx.cell 5
  have q6 := hS.bx.cell 6
  have q7 := hS.bx.cell 7
  clear hB0 bR hS hT hOk hI
  generalize orW [longV T, formsV T, twiceV T] = x at *
  obtain ⟨x0, x1, x2⟩ := x
  unfold wrV at HR
  dsimp only at HR HCE HRO
  by_cases hx : x0 = 0
  · have hx1 := hx
    obtain ⟨y, hy⟩ : ∃ y, orW (wrL T) = y := ⟨_, rfl⟩
    have HC : Hz (checkV T = y) := hide (by rw [unhide HCE, if_pos hx1, hy])
    have hR := unhide HRO hx1
    subst hx
    have HBo := hide (fun w (ti : TabIn w T a0 a1 a2 a3 a4 a5 a6 a7 us) => bookOf_any T (boOk_of (unhide HOk).1 hR) a0 a1 a2 a3 a4 a5 a6 a7 c0 c1 c2 c3 c4 c5 c6 c7 us w ti)
    have HWr := hide (fun B w (h : BookAt w B T) => bkWrong_any hR ⟨fun x hx => to_small (hR.f4 x hx).2, fun x hx => to_small (hR.f5 x hx).2⟩ B w h)
    rw [hy] at HWr
    have HRw := hide hR
    clear hx1 hR HCE HRO hy
    obtain ⟨y0, y1, y2⟩ := y
    unfold wrV at HWr
    dsimp only at HWr
    rw [unhide HC]
    unfold wrV
    dsimp only
    go_enter Tryz.func8, Tryz.ntmps8
    go_wp2_with fail
    refine (unhide HR).mono ?_
    rintro e w1 ⟨rfl, hb⟩
    have HS1 := hide (((unhide HS).below hb).below (al1 w1 (.cells #[.int .i64 0, .int .i64 x1, .int .i64 x2] 37)))
    clear hb HR HS q0 q1 q2 q3 q4 q5 q6 q7
    have q0 := (unhide HS1).bx.cell 0
    have q1 := (unhide HS1).bx.cell 1
    have q2 := (unhide HS1).bx.cell 2
    have q3 := (unhide HS1).bx.cell 3
    have q4 := (unhide HS1).bx.cell 4
    have q5 := (unhide HS1).bx.cell 5
    have q6 := (unhide HS1).bx.cell 6
    have q7 := (unhide HS1).bx.cell 7
    go_wp2_with fail
    refine (unhide HBo _ (unhide HS1).ti).mono ?_
    rintro e w2 ⟨B, rfl, hlB, hbk, hb⟩
    have HS2 := hide (And.intro ((unhide HS1).below hb) (And.intro hbk (Nat.le_trans (unhide HS1).bl.size hlB)))
    clear hb hbk hlB HS1 HBo q0 q1 q2 q3 q4 q5 q6 q7
    go_wp2_with fail
    refine (unhide HWr B w2 (unhide HS2).2.1).mono ?_
    rintro e w3 ⟨rfl, hb⟩
    have hn := al1 w3 (.cells #[.int .i64 y0, .int .i64 y1, .int .i64 y2] 37)
    have HS3 := hide (And.intro (((unhide HS2).1.below hb).below hn) (And.intro (((unhide HS2).2.1.below hb).below hn) (unhide HS2).2.2))
    have bY := Blk.new w3 #[.int .i64 y0, .int .i64 y1, .int .i64 y2] 37
    have s0 := bY.cell 0
    have s1 := bY.cell 1
    have s2 := bY.cell 2
    have r0 := (unhide HS3).1.rs.cell 0
    have r1 := (unhide HS3).1.rs.cell 1
    have r2 := (unhide HS3).1.rs.cell 2
    have f0 := (unhide HS3).1.rs.frozen 0
    have f1 := (unhide HS3).1.rs.frozen 1
    have f2 := (unhide HS3).1.rs.frozen 2
    clear hb hn HWr HS2 bY
    by_cases hy0 : y0 = 0
    · have HY : Hz ((0, y1, y2) = ((0 : Int), (0 : Int), (0 : Int))) := hide (by
        subst hy0
        have := checkV_okW T
        rw [unhide HC] at this
        exact this rfl)
      subst hy0
      obtain ⟨_, hh⟩ := Prod.mk.inj (unhide HY)
      obtain ⟨rfl, rfl⟩ := Prod.mk.inj hh
      clear hh HY
      go_wp2_with fail
      refine bodyPost_ret (v := .tuple #[.pointer (some ⟨B, 0, none⟩), .agg #[.int .i64 0, .int .i64 0, .int .i64 0]]) (ret23 Tryz.results8 rfl (blk3 (unhide HS3).1.rs _ _ _) rfl) rfl ⟨_, rfl, ?_⟩
      refine ⟨below3 (unhide HS3).1.bl (by omega) (unhide HS3).1.bl.size _ _ _, fun _ => ⟨unhide HRw, B, rfl, (unhide HS3).2.2, book_set3 (unhide HS3).2.1 (unhide HS3).1.rs _ _ _⟩, fun q => absurd (by rw [unhide HC]) q⟩
    · have n0 : (y0 == 0) = false := by simpa using hy0
      have n1 : (y0 != 0) = true := by simpa using hy0
      go_wp2_with fail
      go_region_with (fail)
      all_goals
        go_wp2_with fail
        refine bodyPost_ret (v := .tuple #[.pointer none, .agg #[.int .i64 y0, .int .i64 y1, .int .i64 y2]]) (ret23 Tryz.results8 rfl (blk3 (show Blk _ _ _ _ from (unhide HS3).1.rs) _ _ _) rfl) rfl ⟨_, rfl, ?_⟩
        exact ⟨below_drew3 (unhide HS3).1.bl (by omega) (unhide HS3).1.bl.size _ _ _, fun q => absurd (by rw [unhide HC] at q; exact q) hy0, fun _ => rfl⟩
  · have HC : Hz (checkV T = (x0, x1, x2)) := hide (by rw [unhide HCE, if_neg hx])
    have n0 : (x0 == 0) = false := by simpa using hx
    have n1 : (x0 != 0) = true := by simpa using hx
    rw [unhide HC]
    unfold wrV
    dsimp only
    clear HCE HRO
    go_enter Tryz.func8, Tryz.ntmps8
    go_wp2_with fail
    refine (unhide HR).mono ?_
    rintro e w1 ⟨rfl, hb⟩
    have HS1 := hide (((unhide HS).below hb).below (al1 w1 (.cells #[.int .i64 x0, .int .i64 x1, .int .i64 x2] 37)))
    have bY := Blk.new w1 #[.int .i64 x0, .int .i64 x1, .int .i64 x2] 37
    have s0 := bY.cell 0
    have s1 := bY.cell 1
    have s2 := bY.cell 2
    have r0 := (unhide HS1).rs.cell 0
    have r1 := (unhide HS1).rs.cell 1
    have r2 := (unhide HS1).rs.cell 2
    have f0 := (unhide HS1).rs.frozen 0
    have f1 := (unhide HS1).rs.frozen 1
    have f2 := (unhide HS1).rs.frozen 2
    clear hb HR HS q0 q1 q2 q3 q4 q5 q6 q7 bY
    go_wp2_with fail
    go_region_with (fail)
    all_goals
      go_wp2_with fail
      refine bodyPost_ret (v := .tuple #[.pointer none, .agg #[.int .i64 x0, .int .i64 x1, .int .i64 x2]]) (ret23 Tryz.results8 rfl (blk3 (show Blk _ _ _ _ from (unhide HS1).rs) _ _ _) rfl) rfl ⟨_, rfl, ?_⟩
      exact ⟨below_drew3 (unhide HS1).bl (by omega) (unhide HS1).bl.size _ _ _, fun q => absurd (by rw [unhide HC] at q; exact q) hx, fun _ => rfl⟩
end Go.Proofs.YtnnbaodillnkkaaGreat
namespace Go.Proofs.YtnnbaodillnkkaaGreat
open Go.RowKit Go.Shelf
set_option linter.unusedVariables false
structure SoAt (w W : World) (blk off : Nat) (d : Array Int) : Prop where
  row : Sort.Holds (Value.int .i32) W blk off d
  gr : w.grownBy W (some blk)
theorem SoAt.start {w : World} {blk off : Nat} {d : Array Int} (h : Sort.Holds (Value.int .i32) w blk off d) : SoAt w w blk off d :=
  ⟨h, ⟨rfl, rfl, rfl, Nat.le_refl _, fun _ _ _ => rfl⟩⟩
theorem grown_trans {a b c : World} {row : Option Nat} (h : a.grownBy b row) (k : b.grownBy c row) : a.grownBy c row :=
  ⟨k.os.trans h.os, k.tape.trans h.tape, k.output.trans h.output, Nat.le_trans h.size k.size, fun i hi hn => (k.block i (by have := h.size; omega) hn).trans (h.block i hi hn)⟩
theorem SoAt.trans {w W W2 : World} {blk off : Nat} {d d2 : Array Int} (h : SoAt w W blk off d) (k : SoAt W W2 blk off d2) : SoAt w W2 blk off d2 :=
  ⟨k.row, grown_trans h.gr k.gr⟩
theorem SoAt.drewN {w W : World} {blk off : Nat} {d : Array Int} (h : SoAt w W blk off d) (q : Nat) : SoAt w (W.drewN q) blk off d :=
  ⟨h.row, ⟨h.gr.os, h.gr.tape, h.gr.output, h.gr.size, h.gr.block⟩⟩
theorem SoAt.drew {w W : World} {blk off : Nat} {d : Array Int} (h : SoAt w W blk off d) : SoAt w W.drew blk off d :=
  ⟨h.row, ⟨h.gr.os, h.gr.tape, h.gr.output, h.gr.size, h.gr.block⟩⟩
theorem holds_of {W W' : World} {blk off : Nat} {d : Array Int} (h : Sort.Holds (Value.int .i32) W blk off d) (hb : W'.heap[blk]? = W.heap[blk]?) : Sort.Holds (Value.int .i32) W' blk off d :=
  fun j hj => ⟨(World.cell?_of_block (a := ⟨blk, off + j, none⟩) hb).trans (h j hj).1, (World.frozen?_of_block (a := ⟨blk, off + j, none⟩) hb).trans (h j hj).2⟩
theorem size_swp' (d : Array Int) (i j : Nat) : (Sort.swp d i j).size = d.size := by simp [Sort.swp]
theorem SoAt.swap {w W : World} {blk off : Nat} {d : Array Int} (h : SoAt w W blk off d) {i j : Nat} (hi : i < d.size) (hj : j < d.size) :
    SoAt w ((W.setCell ⟨blk, off + i, none⟩ (.int .i32 d[j]!)).setCell ⟨blk, off + j, none⟩ (.int .i32 d[i]!)) blk off (Sort.swp d i j) := by
  have e := Sort.putRow_swp (Value.int .i32) W blk off d i j hi hj
  rw [Sort.putRow_self _ _ _ _ _ h.row] at e
  refine ⟨?_, ?_⟩
  · rw [e]
    exact Sort.holds_putRow _ _ _ _ d _ h.row (size_swp' d i j)
  · have g1 : W.grownBy (W.setCell ⟨blk, off + i, none⟩ (.int .i32 d[j]!)) (some blk) := ⟨rfl, rfl, rfl, (KeepsWalks.setCell W _ _).size, fun k hk hn => Below.heap_setCell W ⟨blk, off + i, none⟩ _ k (fun e => hn (by rw [e]))⟩
    have g2 : (W.setCell ⟨blk, off + i, none⟩ (.int .i32 d[j]!)).grownBy ((W.setCell ⟨blk, off + i, none⟩ (.int .i32 d[j]!)).setCell ⟨blk, off + j, none⟩ (.int .i32 d[i]!)) (some blk) := ⟨rfl, rfl, rfl, (KeepsWalks.setCell _ _ _).size, fun k hk hn => Below.heap_setCell _ ⟨blk, off + j, none⟩ _ k (fun e => hn (by rw [e]))⟩
    exact grown_trans h.gr (grown_trans g1 g2)
theorem SoAt.cells {w W : World} {blk off : Nat} {d : Array Int} (h : SoAt w W blk off d) (n : Nat) (hn : d.size = n) : ∃ G : Nat → Int, (∀ t, G t = d[t]!) ∧ (∀ t, t < n → W.cell? ⟨blk, off + t, none⟩ = some (.int .i32 (G t))) ∧ (∀ t, t < n → W.frozen? ⟨blk, off + t, none⟩ = false) :=
  ⟨fun t => d[t]!, fun _ => rfl, fun t ht => (h.row t (by omega)).1, fun t ht => (h.row t (by omega)).2⟩
theorem mid_cell {W : World} {blk off N : Nat} {G : Nat → Int} (hc : ∀ t, t < N → W.cell? ⟨blk, off + t, none⟩ = some (.int .i32 (G t))) {i j : Nat} (hi : i < N) (hj : j < N) : (W.setCell ⟨blk, off + i, none⟩ (.int .i32 (G j))).drew.cell? ⟨blk, off + j, none⟩ = some (.int .i32 (G j)) := by
  show (W.setCell ⟨blk, off + i, none⟩ (.int .i32 (G j))).cell? ⟨blk, off + j, none⟩ = _
  by_cases e : i = j
  · subst e
    exact World.cell?_setCell_same _ _ _ (hc i hi)
  · rw [World.cell?_setCell_other _ _ _ _ (by intro h; injection h with h1 h2; omega)]
    exact hc j hj
theorem mid_frozen {W : World} {blk off N : Nat} {G : Nat → Int} (hf : ∀ t, t < N → W.frozen? ⟨blk, off + t, none⟩ = false) {i j : Nat} (hj : j < N) : (W.setCell ⟨blk, off + i, none⟩ (.int .i32 (G j))).drew.frozen? ⟨blk, off + j, none⟩ = false := by
  show (W.setCell ⟨blk, off + i, none⟩ (.int .i32 (G j))).frozen? ⟨blk, off + j, none⟩ = _
  rw [World.frozen?_setCell]
  exact hf j hj
theorem less32 (a b : Int) (w : World) : Calls Tryz.prog 132 #[.int .i32 a, .int .i32 b] w fun e w' => e = .returned (.bool (Sort.ltInt a b)) ∧ w' = w := by
  have ha : (a != a) = false := by simp
  go_enter Tryz.func132, Tryz.ntmps132
  go_wp2_with go_in
  go_ret
  exact ⟨rfl, rfl⟩
theorem insI_go {a j : Nat} {d : Array Int} (hj : a < j) (hl : Sort.ltInt d[j]! d[j - 1]! = true) : Sort.insInner Sort.ltInt a j d = Sort.insInner Sort.ltInt a (j - 1) (Sort.swp d j (j - 1)) := by
  cases j with
  | zero => omega
  | succ k =>
    rw [Nat.add_sub_cancel] at hl ⊢
    show (if _ then _ else _) = _
    rw [if_pos (by rw [hl, Bool.and_true]; exact decide_eq_true hj)]
theorem insI_stop {a j : Nat} {d : Array Int} (h : j ≤ a ∨ Sort.ltInt d[j]! d[j - 1]! = false) : Sort.insInner Sort.ltInt a j d = d := by
  cases j with
  | zero => rfl
  | succ k =>
    rw [Nat.add_sub_cancel] at h
    show (if _ then _ else _) = _
    rw [if_neg]
    intro e
    rcases Bool.and_eq_true_iff.1 e with ⟨e1, e2⟩
    have := of_decide_eq_true e1
    rcases h with h | h
    · omega
    · rw [h] at e2; exact Bool.false_ne_true e2
theorem insO_go {a b i : Nat} {d : Array Int} (h : i < b) : Sort.insOuter Sort.ltInt a b i d = Sort.insOuter Sort.ltInt a b (i + 1) (Sort.insInner Sort.ltInt a i d) := by rw [Sort.insOuter, if_pos h]
theorem insO_stop {a b i : Nat} {d : Array Int} (h : ¬ i < b) : Sort.insOuter Sort.ltInt a b i d = d := by rw [Sort.insOuter, if_neg h]
set_option maxRecDepth 100000 in
set_option maxHeartbeats 4000000 in
theorem so_ins (blk off cap a b : Nat) (d : Array Int) (hab : a ≤ b) (hb : b ≤ d.size) (hsz : d.size ≤ 1000000) (w : World) (hH : Sort.Holds (Value.int .i32) w blk off d) :
    Calls Tryz.prog 126 #[.slice (some ⟨blk, off, none⟩) d.size cap, .int .i64 a, .int .i64 b] w fun e w' => e = .returned (.tuple #[]) ∧ SoAt w w' blk off (Sort.insertionSort Sort.ltInt d a b) := by
  have HS := hide (SoAt.start hH)
  obtain ⟨N, hN⟩ : ∃ N, N = d.size := ⟨_, rfl⟩
  rw [← hN] at hb hsz ⊢
  have HN := hide hN
  clear hH hN
  go_enter Tryz.func126, Tryz.ntmps126
  go_wp2
  go_loopw [6] (fun vi wr => ∃ (i : Nat) (dk : Array Int), vi = .int .i64 i ∧ a < i ∧ i ≤ b + 1 ∧ Hz (dk.size = N ∧ SoAt w wr blk off dk ∧ Sort.insOuter Sort.ltInt a b i dk = Sort.insertionSort Sort.ltInt d a b)) (fun vi _ => b + 1 - (intOf vi).toNat)
  case atStart => exact ⟨a + 1, d, by go_num, by omega, by omega, hide ⟨(unhide HN).symm, unhide HS, rfl⟩⟩
  case round =>
    obtain ⟨i, dk, rfl, hai, hib, HO⟩ := hrel
    clear HS
    by_cases hlt : i < b
    · have hlt' : (i : Int) < (b : Int) := by omega
      go_wp2
      go_loopw [7] (fun vj wr2 => ∃ (j : Nat) (dj : Array Int), vj = .int .i64 j ∧ a ≤ j ∧ j ≤ i ∧ Hz (dj.size = N ∧ SoAt w wr2 blk off dj ∧ Sort.insInner Sort.ltInt a j dj = Sort.insInner Sort.ltInt a i dk)) (fun vj _ => (intOf vj).toNat)
      case atStart => exact ⟨i, dk, rfl, by omega, Nat.le_refl _, hide ⟨(unhide HO).1, (unhide HO).2.1, rfl⟩⟩
      case round =>
        obtain ⟨j, dj, rfl, haj, hji, HI⟩ := hrel
        obtain ⟨G, hG, hc, hf⟩ := (unhide HI).2.1.cells N (unhide HI).1
        have HG := hide hG
        clear hG
        have HOUT : Hz ((j ≤ a ∨ Sort.ltInt (G j) (G (j - 1)) = false) → ∀ q, SoAt w (wr.drewN q) blk off dj ∧ Sort.insOuter Sort.ltInt a b (i + 1) dj = Sort.insertionSort Sort.ltInt d a b) := hide (fun hs q => ⟨(unhide HI).2.1.drewN q, by
          rw [← (unhide HO).2.2, insO_go hlt, ← (unhide HI).2.2, insI_stop (by rw [← unhide HG, ← unhide HG]; exact hs)]⟩)
        go_wp2
        by_cases hja : a < j
        · cases hl : Sort.ltInt (G j) (G (j - 1)) with
          | true =>
            go_quiet (first | (go_at_call 132; refine Calls.quiet_of_same (less32 _ _ _)))
            go_wp2
            go_region
            all_goals go_wp2
            go_roundw
            case rel =>
              refine ⟨j - 1, Sort.swp dj j (j - 1), by congr 1; omega, by omega, by omega, hide ⟨by rw [size_swp']; exact (unhide HI).1, ?_, ?_⟩⟩
              · have hsz' := (unhide HI).1
                rw [unhide HG, unhide HG]
                exact ((unhide HI).2.1.drewN _).swap (by omega) (by omega)
              · rw [← (unhide HI).2.2, insI_go hja (by rw [← unhide HG, ← unhide HG]; exact hl)]
            case measure => simp [intOf]; omega
          | false =>
            go_quiet (first | (go_at_call 132; refine Calls.quiet_of_same (less32 _ _ _)))
            go_wp2
            go_roundw
            case rel => exact ⟨i + 1, dj, by go_num, by omega, by omega, hide ⟨(unhide HI).1, unhide HOUT (.inr hl) _⟩⟩
            case measure => simp [intOf]; omega
        · go_quiet (first | (go_at_call 132; refine Calls.quiet_of_same (less32 _ _ _)))
          go_wp2
          go_roundw
          case rel => exact ⟨i + 1, dj, by go_num, by omega, by omega, hide ⟨(unhide HI).1, unhide HOUT (.inl (by omega)) _⟩⟩
          case measure => simp [intOf]; omega
    · have hlt' : ¬ (i : Int) < (b : Int) := by omega
      go_wp2
      go_end0
      exact ⟨rfl, by rw [← (unhide HO).2.2, insO_stop hlt]; exact (unhide HO).2.1⟩
theorem sd_end' {hi F root : Nat} {d : Array Int} (h : hi ≤ 2 * root + 1) : Sort.siftDown Sort.ltInt hi F root d = d := by rw [Sort.siftDown, dif_pos h]
theorem sd_two {hi F root : Nat} {d : Array Int} (h0 : ¬ hi ≤ 2 * root + 1) (h1 : 2 * root + 2 < hi) (h2 : Sort.ltInt d[F + 2 * root + 1]! d[F + 2 * root + 2]! = true) : Sort.siftDown Sort.ltInt hi F root d = if Sort.ltInt d[F + root]! d[F + 2 * root + 2]! then Sort.siftDown Sort.ltInt hi F (2 * root + 2) (Sort.swp d (F + root) (F + (2 * root + 2))) else d := by
  rw [show F + 2 * root + 1 = F + (2 * root + 1) from by omega, show F + 2 * root + 2 = F + (2 * root + 2) from by omega] at h2
  rw [Sort.siftDown, dif_neg h0, if_pos (by rw [show F + (2 * root + 1) + 1 = F + (2 * root + 2) from by omega, h2, Bool.and_true]; exact decide_eq_true (by omega)), dif_pos h1, show F + 2 * root + 2 = F + (2 * root + 2) from by omega]
  cases Sort.ltInt d[F + root]! d[F + (2 * root + 2)]! <;> rfl
theorem sd_one {hi F root : Nat} {d : Array Int} (h0 : ¬ hi ≤ 2 * root + 1) (h1 : ¬ 2 * root + 2 < hi ∨ Sort.ltInt d[F + 2 * root + 1]! d[F + 2 * root + 2]! = false) : Sort.siftDown Sort.ltInt hi F root d = if Sort.ltInt d[F + root]! d[F + 2 * root + 1]! then Sort.siftDown Sort.ltInt hi F (2 * root + 1) (Sort.swp d (F + root) (F + (2 * root + 1))) else d := by
  rw [show F + 2 * root + 1 = F + (2 * root + 1) from by omega, show F + 2 * root + 2 = F + (2 * root + 2) from by omega] at h1
  rw [Sort.siftDown, dif_neg h0, if_neg (by
    intro e
    rcases Bool.and_eq_true_iff.1 e with ⟨e1, e2⟩
    have := of_decide_eq_true e1
    rw [show F + (2 * root + 1) + 1 = F + (2 * root + 2) from by omega] at e2
    rcases h1 with h1 | h1
    · omega
    · rw [h1] at e2; exact Bool.false_ne_true e2), show F + 2 * root + 1 = F + (2 * root + 1) from by omega]
  cases Sort.ltInt d[F + root]! d[F + (2 * root + 1)]! <;> rfl
set_option maxRecDepth 100000 in
set_option maxHeartbeats 8000000 in
theorem so_sift (blk off cap lo hi first N : Nat) (d : Array Int) (hN : d.size = N) (hlo : lo ≤ hi) (hb : first + hi ≤ N) (hsz : N ≤ 1000000) (w : World) (hH : Sort.Holds (Value.int .i32) w blk off d) :
    Calls Tryz.prog 163 #[.slice (some ⟨blk, off, none⟩) N cap, .int .i64 lo, .int .i64 hi, .int .i64 first] w fun e w' => e = .returned (.tuple #[]) ∧ SoAt w w' blk off (Sort.siftDown Sort.ltInt hi first lo d) := by
  have HS := hide (SoAt.start hH)
  have HN := hide hN
  clear hH hN
  go_enter Tryz.func163, Tryz.ntmps163
  go_wp2
  go_loopw [8] (fun vi wr => ∃ (root : Nat) (dk : Array Int), vi = .int .i64 root ∧ root ≤ hi ∧ Hz (dk.size = N ∧ SoAt w wr blk off dk ∧ Sort.siftDown Sort.ltInt hi first root dk = Sort.siftDown Sort.ltInt hi first lo d)) (fun vi _ => hi - (intOf vi).toNat)
  case atStart => exact ⟨lo, d, rfl, hlo, hide ⟨unhide HN, unhide HS, rfl⟩⟩
  case round =>
    obtain ⟨root, dj, rfl, hr, HI⟩ := hrel
    clear HS
    obtain ⟨G, hG, hc, hf⟩ := (unhide HI).2.1.cells N (unhide HI).1
    have HZ := hide (unhide HI).1
    have HA := hide (unhide HI).2.1
    have HE := hide (unhide HI).2.2
    have HG := hide hG
    clear hG HI
    by_cases h0 : hi ≤ 2 * root + 1
    · have h0z : (hi : Int) ≤ 2 * (root : Int) + 1 := by omega
      go_wp2
      go_end0
      exact ⟨rfl, by rw [← unhide HE, sd_end' h0]; exact unhide HA⟩
    · have h0z : ¬ ((hi : Int) ≤ 2 * (root : Int) + 1) := by omega
      by_cases h1 : 2 * root + 2 < hi
      · have h1z : 2 * (root : Int) + 1 + 1 < (hi : Int) := by omega
        cases h2 : Sort.ltInt (G (first + 2 * root + 1)) (G (first + 2 * root + 2)) with
        | true =>
          go_wp2_with fail
          go_big_quiet (first | (go_at_call 132; refine Calls.quiet_of_same (less32 _ _ _)))
          go_wp2_with fail
          have HA2 : Hz (SoAt w (wr.drewN nq) blk off dj) := hide ((unhide HA).drewN nq)
          have hc2 : ∀ t, t < N → (wr.drewN nq).cell? ⟨blk, off + t, none⟩ = some (.int .i32 (G t)) := hc
          have hf2 : ∀ t, t < N → (wr.drewN nq).frozen? ⟨blk, off + t, none⟩ = false := hf
          clear hc hf HA
          generalize wr.drewN nq = W2 at HA2 hc2 hf2 ⊢
          clear nq
          cases hl : Sort.ltInt (G (first + root)) (G (first + 2 * root + 2)) with
          | false =>
            go_big_quiet (first | (go_at_call 132; refine Calls.quiet_of_same (less32 _ _ _)))
            go_wp2_with fail
            (try simp only [Exit.inBlock, Exit.then])
            refine bodyPost_ret (results_none rfl _ _ _) rfl ?_
            exact ⟨rfl, by rw [← unhide HE, sd_two h0 h1 (by rw [← unhide HG, ← unhide HG]; exact h2), if_neg (by rw [← unhide HG, ← unhide HG, hl]; exact Bool.false_ne_true)]; exact (unhide HA2).drewN _⟩
          | true =>
            go_big_quiet (first | (go_at_call 132; refine Calls.quiet_of_same (less32 _ _ _)))
            go_wp2_with fail
            have HA3 : Hz (SoAt w (W2.drewN nq) blk off dj) := hide ((unhide HA2).drewN nq)
            have hc3 : ∀ t, t < N → (W2.drewN nq).cell? ⟨blk, off + t, none⟩ = some (.int .i32 (G t)) := hc2
            have hf3 : ∀ t, t < N → (W2.drewN nq).frozen? ⟨blk, off + t, none⟩ = false := hf2
            clear hc2 hf2 HA2
            generalize W2.drewN nq = W3 at HA3 hc3 hf3 ⊢
            clear nq
            go_region
            all_goals go_wp2
            go_roundw
            case rel =>
              refine ⟨2 * root + 2, Sort.swp dj (first + root) (first + (2 * root + 2)), by simp <;> omega, by omega, hide ⟨by rw [size_swp']; exact unhide HZ, ?_, ?_⟩⟩
              · have hsz' := unhide HZ
                rw [unhide HG, unhide HG]
                exact (unhide HA3).drew.swap (by omega) (by omega)
              · rw [← unhide HE, sd_two h0 h1 (by rw [← unhide HG, ← unhide HG]; exact h2), if_pos (by rw [← unhide HG, ← unhide HG]; exact hl)]
            case measure => simp [intOf]; omega
        | false =>
          go_wp2_with fail
          go_big_quiet (first | (go_at_call 132; refine Calls.quiet_of_same (less32 _ _ _)))
          go_wp2_with fail
          have HA2 : Hz (SoAt w (wr.drewN nq) blk off dj) := hide ((unhide HA).drewN nq)
          have hc2 : ∀ t, t < N → (wr.drewN nq).cell? ⟨blk, off + t, none⟩ = some (.int .i32 (G t)) := hc
          have hf2 : ∀ t, t < N → (wr.drewN nq).frozen? ⟨blk, off + t, none⟩ = false := hf
          clear hc hf HA
          generalize wr.drewN nq = W2 at HA2 hc2 hf2 ⊢
          clear nq
          cases hl : Sort.ltInt (G (first + root)) (G (first + 2 * root + 1)) with
          | false =>
            go_big_quiet (first | (go_at_call 132; refine Calls.quiet_of_same (less32 _ _ _)))
            go_wp2_with fail
            (try simp only [Exit.inBlock, Exit.then])
            refine bodyPost_ret (results_none rfl _ _ _) rfl ?_
            exact ⟨rfl, by rw [← unhide HE, sd_one h0 (.inr (by rw [← unhide HG, ← unhide HG]; exact h2)), if_neg (by rw [← unhide HG, ← unhide HG, hl]; exact Bool.false_ne_true)]; exact (unhide HA2).drewN _⟩
          | true =>
            go_big_quiet (first | (go_at_call 132; refine Calls.quiet_of_same (less32 _ _ _)))
            go_wp2_with fail
            have HA3 : Hz (SoAt w (W2.drewN nq) blk off dj) := hide ((unhide HA2).drewN nq)
            have hc3 : ∀ t, t < N → (W2.drewN nq).cell? ⟨blk, off + t, none⟩ = some (.int .i32 (G t)) := hc2
            have hf3 : ∀ t, t < N → (W2.drewN nq).frozen? ⟨blk, off + t, none⟩ = false := hf2
            clear hc2 hf2 HA2
            generalize W2.drewN nq = W3 at HA3 hc3 hf3 ⊢
            clear nq
            go_region
            all_goals go_wp2
            go_roundw
            case rel =>
              refine ⟨2 * root + 1, Sort.swp dj (first + root) (first + (2 * root + 1)), by simp <;> omega, by omega, hide ⟨by rw [size_swp']; exact unhide HZ, ?_, ?_⟩⟩
              · have hsz' := unhide HZ
                rw [unhide HG, unhide HG]
                exact (unhide HA3).drew.swap (by omega) (by omega)
              · rw [← unhide HE, sd_one h0 (.inr (by rw [← unhide HG, ← unhide HG]; exact h2)), if_pos (by rw [← unhide HG, ← unhide HG]; exact hl)]
            case measure => simp [intOf]; omega
      · have h1z : ¬ (2 * (root : Int) + 1 + 1 < (hi : Int)) := by omega
        go_wp2_with fail
        have h1d : decide (2 * (root : Int) + 1 + 1 < (hi : Int)) = false := decide_eq_false (by omega)
        go_big_quiet (first | (go_at_call 132; refine Calls.quiet_of_same (less32 _ _ _)))
        go_wp2_with fail
        have HA2 : Hz (SoAt w (wr.drewN nq) blk off dj) := hide ((unhide HA).drewN nq)
        have hc2 : ∀ t, t < N → (wr.drewN nq).cell? ⟨blk, off + t, none⟩ = some (.int .i32 (G t)) := hc
        have hf2 : ∀ t, t < N → (wr.drewN nq).frozen? ⟨blk, off + t, none⟩ = false := hf
        clear hc hf HA
        generalize wr.drewN nq = W2 at HA2 hc2 hf2 ⊢
        clear nq
        cases hl : Sort.ltInt (G (first + root)) (G (first + 2 * root + 1)) with
        | false =>
          go_big_quiet (first | (go_at_call 132; refine Calls.quiet_of_same (less32 _ _ _)))
          go_wp2_with fail
          (try simp only [Exit.inBlock, Exit.then])
          refine bodyPost_ret (results_none rfl _ _ _) rfl ?_
          exact ⟨rfl, by rw [← unhide HE, sd_one h0 (.inl h1), if_neg (by rw [← unhide HG, ← unhide HG, hl]; exact Bool.false_ne_true)]; exact (unhide HA2).drewN _⟩
        | true =>
          go_big_quiet (first | (go_at_call 132; refine Calls.quiet_of_same (less32 _ _ _)))
          go_wp2_with fail
          have HA3 : Hz (SoAt w (W2.drewN nq) blk off dj) := hide ((unhide HA2).drewN nq)
          have hc3 : ∀ t, t < N → (W2.drewN nq).cell? ⟨blk, off + t, none⟩ = some (.int .i32 (G t)) := hc2
          have hf3 : ∀ t, t < N → (W2.drewN nq).frozen? ⟨blk, off + t, none⟩ = false := hf2
          clear hc2 hf2 HA2
          generalize W2.drewN nq = W3 at HA3 hc3 hf3 ⊢
          clear nq
          go_region
          all_goals go_wp2
          go_roundw
          case rel =>
            refine ⟨2 * root + 1, Sort.swp dj (first + root) (first + (2 * root + 1)), by simp <;> omega, by omega, hide ⟨by rw [size_swp']; exact unhide HZ, ?_, ?_⟩⟩
            · have hsz' := unhide HZ
              rw [unhide HG, unhide HG]
              exact (unhide HA3).drew.swap (by omega) (by omega)
            · rw [← unhide HE, sd_one h0 (.inl h1), if_pos (by rw [← unhide HG, ← unhide HG]; exact hl)]
          case measure => simp [intOf]; omega
end Go.Proofs.YtnnbaodillnkkaaGreat
