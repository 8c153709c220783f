/- Texts of this claim, one behind the other. -/
import Derived.Test.YtbbnppcpjpdpaaaGreatDoorRdX
import Derived.Test.YtbbnppcpjpdpaaaGreatDoorRlA
import Derived.Test.YtbbnppcpjpdpaaaGreatDoorM21
/- A text of rules: Where, Find. -/
namespace Go.Proofs.YtbbnppcpjpdpaaaGreatDoor
open Go.RowKit Go.Shelf
set_option linter.unusedVariables false
def rowsOf (T : TV) : Nat → List (Int × Int × Int)
  | 1 => T.r1 | 2 => T.r2 | 3 => T.r3 | 4 => T.r4 | 5 => T.r5 | 6 => T.r6 | 7 => T.r7 | 8 => T.r8 | _ => []
theorem rowsOf_ls (T : TV) (us : List Value) (i : Nat) (hi : i < 9) : (lsOf T us)[8 + i]? = some (Ln.mk 61 3 (rowsOf T i).length (encA3 (rowsOf T i))) := by
  rcases (by omega : i = 0 ∨ i = 1 ∨ i = 2 ∨ i = 3 ∨ i = 4 ∨ i = 5 ∨ i = 6 ∨ i = 7 ∨ i = 8) with rfl | rfl | rfl | rfl | rfl | rfl | rfl | rfl | rfl <;> rfl
/-- Where a row stands. -/
def whereV (T : TV) (eb el ec : Int) (list row : Int) : Int × Int × Int :=
  if 0 ≤ list ∧ list < 9 ∧ 0 ≤ row then (match (rowsOf T list.toNat)[row.toNat]? with | some x => x | none => (eb, el, ec)) else (eb, el, ec)
theorem encA3_at (l : List (Int × Int × Int)) (j : Nat) (x : Int × Int × Int) (h : l[j]? = some x) : (encA3 l)[j * 3]? = some (.int .i64 x.1) ∧ (encA3 l)[j * 3 + 1]? = some (.int .i64 x.2.1) ∧ (encA3 l)[j * 3 + 2]? = some (.int .i64 x.2.2) := by
  induction l generalizing j with
  | nil => simp at h
  | cons y l ih => cases j with
    | zero => obtain rfl := Option.some.inj h; exact ⟨rfl, rfl, rfl⟩
    | succ j => have := ih j (by simpa using h); rw [show (j + 1) * 3 = j * 3 + 1 + 1 + 1 by omega]; exact this
def atV3 (x : Int × Int × Int) : Value := .agg #[.int .i64 x.1, .int .i64 x.2.1, .int .i64 x.2.2]
set_option maxRecDepth 100000 in
set_option maxHeartbeats 4000000 in
theorem whereT_any (lo Tx : Nat) (vs : List Value) (T : TV) (eb el ec list row : Int) (W : World) (h : TbAt W lo Tx vs (lsOf T (vs.drop 17)) eb el ec) (hl : -9223372036854775808 ≤ list ∧ list ≤ 9223372036854775807) (hr : -9223372036854775808 ≤ row ∧ row ≤ 9223372036854775807) (hT : ∀ i, (rowsOf T i).length ≤ 1000000) :
    Calls Tryz.prog 16 #[.pointer (some ⟨Tx, 0, none⟩), .int .i64 list, .int .i64 row] W fun e w' => e = .returned (atV3 (whereV T eb el ec list row)) ∧ Below W.heap.size W w' := by
  have hWA := World.grownBy_alloc W (.cells #[.int .i64 0, .int .i64 0, .int .i64 0] 61) none
  have h := h.fresh hWA
  have hE := h.ending
  have e0 := hE.c0
  have e1 := hE.c1
  have e2 := hE.c2
  have hbx := Blk.new W #[.int .i64 0, .int .i64 0, .int .i64 0] 61
  have hbw : Below W.heap.size W (W.alloc (.cells #[.int .i64 0, .int .i64 0, .int .i64 0] 61)) := (Below.refl _ W).alloc (Nat.le_refl _) _
  have x0 := hbx.cell 0
  have x1 := hbx.cell 1
  have x2 := hbx.cell 2
  have f0 := hbx.frozen 0
  have f1 := hbx.frozen 1
  have f2 := hbx.frozen 2
  have hmx : Tryz.prog.follows .mixedOrders = true := by kernel_rfl
  have key : ∀ (u0 u1 u2 : Int), (∀ (A : World), True) → Blk ((((W.alloc (.cells #[.int .i64 0, .int .i64 0, .int .i64 0] 61)).setCell ⟨W.heap.size, 0, none⟩ (.int .i64 u0)).setCell ⟨W.heap.size, 1, none⟩ (.int .i64 u1)).setCell ⟨W.heap.size, 2, none⟩ (.int .i64 u2)) W.heap.size #[.int .i64 u0, .int .i64 u1, .int .i64 u2] 61 ∧ Below W.heap.size W ((((W.alloc (.cells #[.int .i64 0, .int .i64 0, .int .i64 0] 61)).setCell ⟨W.heap.size, 0, none⟩ (.int .i64 u0)).setCell ⟨W.heap.size, 1, none⟩ (.int .i64 u1)).setCell ⟨W.heap.size, 2, none⟩ (.int .i64 u2)) := fun u0 u1 u2 _ => ⟨((hbx.set 0 _).set 1 _).set 2 _, ((hbw.setCell (p := ⟨W.heap.size, 0, none⟩) (Nat.le_refl _) _).setCell (p := ⟨W.heap.size, 1, none⟩) (Nat.le_refl _) _).setCell (p := ⟨W.heap.size, 2, none⟩) (Nat.le_refl _) _⟩
  have KEY := hide key
  clear key hbx hbw hWA
  by_cases h1 : 0 ≤ list ∧ list < 9 ∧ 0 ≤ row
  · obtain ⟨i, rfl⟩ : ∃ i : Nat, list = (i : Int) := ⟨list.toNat, by omega⟩
    obtain ⟨j, rfl⟩ : ∃ j : Nat, row = (j : Int) := ⟨row.toNat, by omega⟩
    have hi : i < 9 := by omega
    obtain ⟨v, hv⟩ : ∃ v, vs[8 + i]? = some v := ⟨_, List.getElem?_eq_getElem (by have := h.lv; omega)⟩
    have ho := h.own (8 + i) v _ hv (rowsOf_ls T _ i hi)
    have t0 := h.cell (i := 8 + i) (by omega) hv
    obtain ⟨a, c, rfl⟩ := own_slice ho
    dsimp only at t0 ho
    have hlen := hT i
    obtain ⟨l, hl2⟩ : ∃ l, l = rowsOf T i := ⟨_, rfl⟩
    rw [← hl2] at ho t0 hlen
    have i0 : (0 : Int) ≤ (i : Int) := by omega
    have i9 : (i : Int) < 9 := by omega
    have j0 : (0 : Int) ≤ (j : Int) := by omega
    by_cases hj : j < l.length
    · obtain ⟨x, hx⟩ : ∃ x, l[j]? = some x := ⟨_, List.getElem?_eq_getElem hj⟩
      have HV : Hz (whereV T eb el ec (i : Int) (j : Int) = x) := hide (by unfold whereV; rw [if_pos h1]; simp only [Int.toNat_natCast]; rw [← hl2, hx])
      rcases own_some ho (fun e => by omega) with ⟨_, e, _⟩ | ⟨g, c', e, _, _, _, hcs⟩
      · omega
      · injection e with e3 e4 e5
        subst e3
        have hat := encA3_at l j x hx
        have ad : ∀ k, (⟨g, 0, none⟩ : Addr).add k = ⟨g, k, none⟩ := fun k => by cases k <;> simp [Addr.add]
        have d0 := hcs _ _ hat.1
        have d1 := hcs _ _ hat.2.1
        have d2 := hcs _ _ hat.2.2
        rw [ad] at d0 d1 d2
        obtain ⟨y0, y1, y2⟩ := x
        dsimp only at d0 d1 d2
        have jl : (j : Int) < (l.length : Int) := by omega
        have K1 := unhide KEY y0 y1 y2 (fun _ => trivial)
        have r0 := K1.1.cell 0
        have r1 := K1.1.cell 1
        have r2 := K1.1.cell 2
        have HK := hide K1.2
        clear h ho hv hcs hat hx hl2 h1 hl hr hT hj K1 KEY hE
        go_enter Tryz.func16, Tryz.ntmps16
        go_wp2_with fail
        rw [unhide HV]
        exact bodyPost_ret (v := .agg #[.int .i64 y0, .int .i64 y1, .int .i64 y2]) (by simp [results, Tryz.results16, go_sem]) rfl ⟨rfl, (Below.refl _ W).alloc (Nat.le_refl _) _⟩
    · have HV : Hz (whereV T eb el ec (i : Int) (j : Int) = (eb, el, ec)) := hide (by unfold whereV; rw [if_pos h1]; simp only [Int.toNat_natCast]; rw [← hl2, List.getElem?_eq_none (by omega)])
      have jl : ¬ ((j : Int) < (l.length : Int)) := by omega
      have K1 := unhide KEY eb el ec (fun _ => trivial)
      have r0 := K1.1.cell 0
      have r1 := K1.1.cell 1
      have r2 := K1.1.cell 2
      have HK := hide K1.2
      clear h ho hv hl2 h1 hl hr hT hj K1 KEY hE
      go_enter Tryz.func16, Tryz.ntmps16
      go_wp2_with fail
      rw [unhide HV]
      exact bodyPost_ret (v := .agg #[.int .i64 eb, .int .i64 el, .int .i64 ec]) (by simp [results, Tryz.results16, go_sem]) rfl ⟨rfl, (Below.refl _ W).alloc (Nat.le_refl _) _⟩
  · have HV : Hz (whereV T eb el ec list row = (eb, el, ec)) := hide (by unfold whereV; rw [if_neg h1])
    have K1 := unhide KEY eb el ec (fun _ => trivial)
    have r0 := K1.1.cell 0
    have r1 := K1.1.cell 1
    have r2 := K1.1.cell 2
    have HK := hide K1.2
    clear h hl hr hT K1 KEY hE
    by_cases ha : list < 0
    · clear h1
      go_enter Tryz.func16, Tryz.ntmps16
      go_wp2_with fail
      rw [unhide HV]
      exact bodyPost_ret (v := .agg #[.int .i64 eb, .int .i64 el, .int .i64 ec]) (by simp [results, Tryz.results16, go_sem]) rfl ⟨rfl, (Below.refl _ W).alloc (Nat.le_refl _) _⟩
    · by_cases hb : list < 9
      · have hc : row < 0 := by omega
        clear h1
        go_enter Tryz.func16, Tryz.ntmps16
        go_wp2_with fail
        rw [unhide HV]
        exact bodyPost_ret (v := .agg #[.int .i64 eb, .int .i64 el, .int .i64 ec]) (by simp [results, Tryz.results16, go_sem]) rfl ⟨rfl, (Below.refl _ W).alloc (Nat.le_refl _) _⟩
      · clear h1
        go_enter Tryz.func16, Tryz.ntmps16
        go_wp2_with fail
        rw [unhide HV]
        exact bodyPost_ret (v := .agg #[.int .i64 eb, .int .i64 el, .int .i64 ec]) (by simp [results, Tryz.results16, go_sem]) rfl ⟨rfl, (Below.refl _ W).alloc (Nat.le_refl _) _⟩
end Go.Proofs.YtbbnppcpjpdpaaaGreatDoor
/- Chapter 5's runs: what a table of one's own is to Print. -/
namespace Go.Proofs.YtbbnppcpjpdpaaaGreatDoor
open Go.RowKit Go.Shelf
set_option linter.unusedVariables false
theorem own_rowC {W : World} {lo E sz n : Nat} {a : Option Addr} {c : Nat} {xs : List Value} (h : W.ownsRow lo E sz (.slice a n c) n xs) : RowC W W.heap.size a xs := by
  intro h0
  have hl := h.1
  have hn : n ≠ 0 := fun e => by rw [e, Nat.zero_mul] at hl; omega
  rcases own_some h (fun e => absurd e hn) with ⟨_, e, _⟩ | ⟨g, c', e, _, _, _, hx⟩
  · exact absurd e hn
  · injection e with e1
    refine ⟨g, 0, e1, own_ltW h g (by rw [e1]; rfl), fun j u hu => ?_⟩
    have := hx j u hu
    rw [show (⟨g, 0, none⟩ : Addr).add j = ⟨g, 0 + j, none⟩ by cases j <;> simp [Addr.add]] at this
    exact this
/-- A table that was made is one that lies in memory. -/
theorem TabAt.inn {W : World} {lo : Nat} {T : TV} {v : Value} (h : TabAt W lo T v) : ∃ a0 a1 a2 a3 a4 a5 a6 a7 c0 c1 c2 c3 c4 c5 c6 c7 us, v = .agg #[.slice a0 T.sc.length c0, .slice a1 T.co.length c1, .slice a2 T.ma.length c2, .slice a3 T.pr.length c3, .slice a4 T.fo.length c4, .slice a5 T.lk.length c5, .slice a6 T.dr.length c6, .slice a7 T.al.length c7] ∧ TabIn W T a0 a1 a2 a3 a4 a5 a6 a7 us ∧ Lst W lo ((.slice a0 T.sc.length c0 :: us) ++ [.slice a1 T.co.length c1] ++ [.slice a2 T.ma.length c2] ++ [.slice a3 T.pr.length c3] ++ [.slice a4 T.fo.length c4] ++ [.slice a5 T.lk.length c5] ++ [.slice a6 T.dr.length c6] ++ [.slice a7 T.al.length c7]) (tsOf T us) := by
  obtain ⟨v0, us, v1, v2, v3, v4, v5, v6, v7, rfl, hu, hL⟩ := h
  have hM : (T.sc.map (fun s => Ln.mk 54 2 s.2.length (encS2 s.2))).length = us.length := by rw [List.length_map, hu]
  have key : ∀ (k : Nat) (x : Value) (l : Ln), ((v0 :: us) ++ [v1] ++ [v2] ++ [v3] ++ [v4] ++ [v5] ++ [v6] ++ [v7])[k]? = some x → (tsOf T us)[k]? = some l → W.ownsRow lo l.E l.sz x l.n l.xs := fun k x l hx hl => hL.own k x l hx hl
  have A : ∀ (k : Nat), ((v0 :: us) ++ [v1] ++ [v2] ++ [v3] ++ [v4] ++ [v5] ++ [v6] ++ [v7])[us.length + 1 + k]? = [v1, v2, v3, v4, v5, v6, v7][k]? := fun k => by
    rw [show (v0 :: us) ++ [v1] ++ [v2] ++ [v3] ++ [v4] ++ [v5] ++ [v6] ++ [v7] = (v0 :: us) ++ [v1, v2, v3, v4, v5, v6, v7] by simp, List.getElem?_append_right (by simp)]
    congr 1
    simp
  have B : ∀ (k : Nat), (tsOf T us)[us.length + 1 + k]? = [Ln.mk 54 2 T.co.length (encS2 T.co), Ln.mk 72 2 T.ma.length (encM2 T.ma), Ln.mk 76 3 T.pr.length (encP3 T.pr), Ln.mk 56 2 T.fo.length (encF2 T.fo), Ln.mk 56 2 T.lk.length (encF2 T.lk), Ln.mk 54 2 T.dr.length (encS2 T.dr), Ln.mk 54 2 T.al.length (encS2 T.al)][k]? := fun k => by
    unfold tsOf
    rw [show ∀ (a : List Ln) (b c d e f g h : Ln), a ++ [b] ++ [c] ++ [d] ++ [e] ++ [f] ++ [g] ++ [h] = a ++ [b, c, d, e, f, g, h] from fun a b c d e f g h => by simp, List.getElem?_append_right (by rw [List.length_cons, hM]; omega)]
    congr 1
    rw [List.length_cons, hM]
    omega
  have o0 := key 0 v0 _ rfl rfl
  have o1 := key _ v1 _ (A 0) (B 0)
  have o2 := key _ v2 _ (A 1) (B 1)
  have o3 := key _ v3 _ (A 2) (B 2)
  have o4 := key _ v4 _ (A 3) (B 3)
  have o5 := key _ v5 _ (A 4) (B 4)
  have o6 := key _ v6 _ (A 5) (B 5)
  have o7 := key _ v7 _ (A 6) (B 6)
  obtain ⟨a0, c0, rfl⟩ := own_slice o0
  obtain ⟨a1, c1, rfl⟩ := own_slice o1
  obtain ⟨a2, c2, rfl⟩ := own_slice o2
  obtain ⟨a3, c3, rfl⟩ := own_slice o3
  obtain ⟨a4, c4, rfl⟩ := own_slice o4
  obtain ⟨a5, c5, rfl⟩ := own_slice o5
  obtain ⟨a6, c6, rfl⟩ := own_slice o6
  obtain ⟨a7, c7, rfl⟩ := own_slice o7
  refine ⟨a0, a1, a2, a3, a4, a5, a6, a7, c0, c1, c2, c3, c4, c5, c6, c7, us, rfl, ⟨hu, own_rowC o0, own_rowC o1, own_rowC o2, own_rowC o3, own_rowC o4, own_rowC o5, own_rowC o6, own_rowC o7, ?_⟩, hL⟩
  intro j x u hx hu2
  have oj := key (j + 1) u (Ln.mk 54 2 x.2.length (encS2 x.2)) (by
    rw [show ∀ (a : List Value) (b c d e f g h : Value), a ++ [b] ++ [c] ++ [d] ++ [e] ++ [f] ++ [g] ++ [h] = a ++ [b, c, d, e, f, g, h] from fun a b c d e f g h => by simp, List.getElem?_append_left (by have := (List.getElem?_eq_some_iff.1 hu2).1; simp; omega), List.getElem?_cons_succ]
    exact hu2) (by
    unfold tsOf
    rw [show ∀ (a : List Ln) (b c d e f g h : Ln), a ++ [b] ++ [c] ++ [d] ++ [e] ++ [f] ++ [g] ++ [h] = a ++ [b, c, d, e, f, g, h] from fun a b c d e f g h => by simp, List.getElem?_append_left (by rw [List.length_cons, hM]; have := (List.getElem?_eq_some_iff.1 hu2).1; omega), List.getElem?_cons_succ, List.getElem?_map, hx]
    rfl)
  obtain ⟨b, d, rfl⟩ := own_slice oj
  exact ⟨b, d, rfl, own_rowC oj⟩
end Go.Proofs.YtbbnppcpjpdpaaaGreatDoor
/- Chapter 5's runs, walked. -/
namespace Go.Proofs.YtbbnppcpjpdpaaaGreatDoor
open Go.RowKit Go.Shelf
set_option linter.unusedVariables false
/-- What the walks of layer 5 want of the world. -/
structure EnvK (m : Int) (W : World) : Prop where
  p : EnvP W
  max : W.cell? ⟨3, 0, none⟩ = some (.int .i64 m)
  et : W.cell? ⟨2, 0, none⟩ = some (.iface 160 (.agg #[.pointer (some ⟨8, 47, none⟩)]))
theorem EnvK.below {m : Int} {W W' : World} (h : EnvK m W) (hb : Below W.heap.size W W') : EnvK m W' := by
  have hbig := h.p.big
  have hc : ∀ {b i : Nat} {v : Value}, b < W.heap.size → W.cell? ⟨b, i, none⟩ = some v → W'.cell? ⟨b, i, none⟩ = some v := fun {b i v} h1 h2 => (hb.cell (p := ⟨b, i, none⟩) h1).trans h2
  have hs := hb.size
  exact ⟨⟨hc (by omega) h.p.t64, tab_fr (lo := W.heap.size) (N := W.heap.size) ⟨hb.os, hb.tape, hb.output, hb.size, fun i hi _ _ => hb.block i hi⟩ (by omega) (by omega) h.p.pow, ⟨fun c h2 => hc (by omega) (h.p.utf.1 c h2), fun i hi => ⟨hc (by omega) (h.p.utf.2 i hi).1, hc (by omega) (h.p.utf.2 i hi).2⟩⟩, by omega⟩, hc (by omega) h.max, hc (by omega) h.et⟩
theorem TV_ext (X Y : TV) (h_sc : X.sc = Y.sc) (h_co : X.co = Y.co) (h_ma : X.ma = Y.ma) (h_pr : X.pr = Y.pr) (h_fo : X.fo = Y.fo) (h_lk : X.lk = Y.lk) (h_dr : X.dr = Y.dr) (h_al : X.al = Y.al) (h_r1 : X.r1 = Y.r1) (h_r2 : X.r2 = Y.r2) (h_r3 : X.r3 = Y.r3) (h_r4 : X.r4 = Y.r4) (h_r5 : X.r5 = Y.r5) (h_r6 : X.r6 = Y.r6) (h_r7 : X.r7 = Y.r7) (h_r8 : X.r8 = Y.r8) : X = Y := by
  obtain ⟨x1, x2, x3, x4, x5, x6, x7, x8, y1, y2, y3, y4, y5, y6, y7, y8⟩ := X
  dsimp only at h_sc h_co h_ma h_pr h_fo h_lk h_dr h_al h_r1 h_r2 h_r3 h_r4 h_r5 h_r6 h_r7 h_r8
  subst h_sc h_co h_ma h_pr h_fo h_lk h_dr h_al h_r1 h_r2 h_r3 h_r4 h_r5 h_r6 h_r7 h_r8
  rfl
theorem Ps_ext (P : Ps) (T : TV) (hb : P.bad.isNone = true) (hT : P.T = T) : P = ⟨P.k, none, T⟩ := by
  obtain ⟨k, bad, X⟩ := P
  subst hT
  cases bad with
  | none => rfl
  | some z => cases hb
theorem kn1_co : (parseA kn1).T.co = knT.co := by decide +kernel
theorem kn1_ma : (parseA kn1).T.ma = knT.ma := by decide +kernel
theorem kn1_pr : (parseA kn1).T.pr = knT.pr := by decide +kernel
theorem kn1_fo : (parseA kn1).T.fo = knT.fo := by decide +kernel
theorem kn1_lk : (parseA kn1).T.lk = knT.lk := by decide +kernel
theorem kn1_dr : (parseA kn1).T.dr = knT.dr := by decide +kernel
theorem kn1_al : (parseA kn1).T.al = knT.al := by decide +kernel
theorem kn1_r1 : (parseA kn1).T.r1 = knT.r1 := by decide +kernel
theorem kn1_r2 : (parseA kn1).T.r2 = knT.r2 := by decide +kernel
theorem kn1_r3 : (parseA kn1).T.r3 = knT.r3 := by decide +kernel
theorem kn1_r4 : (parseA kn1).T.r4 = knT.r4 := by decide +kernel
theorem kn1_r5 : (parseA kn1).T.r5 = knT.r5 := by decide +kernel
theorem kn1_r6 : (parseA kn1).T.r6 = knT.r6 := by decide +kernel
theorem kn1_r7 : (parseA kn1).T.r7 = knT.r7 := by decide +kernel
theorem kn1_r8 : (parseA kn1).T.r8 = knT.r8 := by decide +kernel
theorem kn1_eq : parseA kn1 = ⟨(parseA kn1).k, none, knT⟩ := Ps_ext _ _ kn1_bad (TV_ext _ _ kn1_sc kn1_co kn1_ma kn1_pr kn1_fo kn1_lk kn1_dr kn1_al kn1_r1 kn1_r2 kn1_r3 kn1_r4 kn1_r5 kn1_r6 kn1_r7 kn1_r8)
theorem Ps_no (P : Ps) (b l c w : Int) (h : P.bad.map (fun r => (r.b, r.l, r.c, r.why)) = some (b, l, c, w)) : ∃ k T, P = ⟨k, some ⟨b, l, c, w⟩, T⟩ := by
  obtain ⟨k, bad, T⟩ := P
  refine ⟨k, T, ?_⟩
  cases bad with
  | none => cases h
  | some z =>
    obtain ⟨b', l', c', w'⟩ := z
    simp only [Option.map_some, Option.some.injEq, Prod.mk.injEq] at h
    obtain ⟨rfl, rfl, rfl, rfl⟩ := h
    rfl
theorem kn2_eq : ∃ k T, parseA kn2 = ⟨k, some ⟨11, 1, 12, 5⟩, T⟩ := Ps_no _ _ _ _ _ kn2_bad
theorem knT_le : knT.Le 1000000 := ⟨by decide, by decide, by decide, by decide, by decide, by decide, by decide, by decide, by decide, by decide, by decide, by decide, by decide, by decide, by decide, by decide⟩
theorem knT_ok : TabOk knT := ⟨by decide, by decide, by decide, by decide, by decide, by decide, by decide, by decide, by intro x hx; simp [knT] at hx; subst hx; exact ⟨by unfold maxLen; decide, by decide⟩, by intro x hx; simp [knT] at hx, by intro x hx; simp [knT] at hx; subst hx; unfold maxLen; decide, by intro x hx; simp [knT] at hx⟩
end Go.Proofs.YtbbnppcpjpdpaaaGreatDoor
