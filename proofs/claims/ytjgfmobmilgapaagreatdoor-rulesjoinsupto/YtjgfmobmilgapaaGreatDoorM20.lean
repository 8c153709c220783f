/- Texts of this claim, one behind the other. -/
import Derived.Test.YtjgfmobmilgapaaGreatDoorM19
import Derived.Test.YtjgfmobmilgapaaGreatDoorM15
import Derived.Test.YtjgfmobmilgapaaGreatDoorM10
import Derived.Test.YtjgfmobmilgapaaGreatDoorM8
import Derived.Test.YtjgfmobmilgapaaGreatDoorM17
import Derived.Test.YtjgfmobmilgapaaGreatDoorShM
import Derived.Test.YtjgfmobmilgapaaGreatDoorRows
import Derived.LaidMore
import Derived.ProofKit
import Derived.Lib.LaidTab
import Derived.Stop.Joined
import Derived.Test.YtjgfmobmilgapaaGreatDoorShV
import Derived.LaidHandle
import Derived.Lib.LaidU8T
/- A text of rules: Where, Find. -/
namespace Go.Proofs.YtjgfmobmilgapaaGreatDoor
open Go.RowKit Go.Shelf
set_option linter.unusedVariables false
def rowsOf (T : TV) : Nat → List (Int × Int × Int)
  | 1 => T.r1 | 2 => T.r2 | 3 => T.r3 | 4 => T.r4 | 5 => T.r5 | 6 => T.r6 | 7 => T.r7 | 8 => T.r8 | _ => []
theorem rowsOf_ls (T : TV) (us : List Value) (i : Nat) (hi : i < 9) : (lsOf T us)[8 + i]? = some (Ln.mk 49 3 (rowsOf T i).length (encA3 (rowsOf T i))) := by
  rcases (by omega : i = 0 ∨ i = 1 ∨ i = 2 ∨ i = 3 ∨ i = 4 ∨ i = 5 ∨ i = 6 ∨ i = 7 ∨ i = 8) with rfl | rfl | rfl | rfl | rfl | rfl | rfl | rfl | rfl <;> rfl
def whereV (T : TV) (eb el ec : Int) (list row : Int) : Int × Int × Int :=
  if 0 ≤ list ∧ list < 9 ∧ 0 ≤ row then (match (rowsOf T list.toNat)[row.toNat]? with | some x => x | none => (eb, el, ec)) else (eb, el, ec)
theorem encA3_at (l : List (Int × Int × Int)) (j : Nat) (x : Int × Int × Int) (h : l[j]? = some x) : (encA3 l)[j * 3]? = some (.int .i64 x.1) ∧ (encA3 l)[j * 3 + 1]? = some (.int .i64 x.2.1) ∧ (encA3 l)[j * 3 + 2]? = some (.int .i64 x.2.2) := by
  induction l generalizing j with
  | nil => simp at h
  | cons y l ih => cases j with
    | zero => obtain rfl := Option.some.inj h; exact ⟨rfl, rfl, rfl⟩
    | succ j => have := ih j (by simpa using h); rw [show (j + 1) * 3 = j * 3 + 1 + 1 + 1 by omega]; exact this
def atV3 (x : Int × Int × Int) : Value := .agg #[.int .i64 x.1, .int .i64 x.2.1, .int .i64 x.2.2]
set_option maxRecDepth 100000 in
set_option maxHeartbeats 4000000 in
theorem whereT_any (lo Tx : Nat) (vs : List Value) (T : TV) (eb el ec list row : Int) (W : World) (h : TbAt W lo Tx vs (lsOf T (vs.drop 17)) eb el ec) (hl : -9223372036854775808 ≤ list ∧ list ≤ 9223372036854775807) (hr : -9223372036854775808 ≤ row ∧ row ≤ 9223372036854775807) (hT : ∀ i, (rowsOf T i).length ≤ 1000000) :
    Calls Tryz.prog 29 #[.pointer (some ⟨Tx, 0, none⟩), .int .i64 list, .int .i64 row] W fun e w' => e = .returned (atV3 (whereV T eb el ec list row)) ∧ Below W.heap.size W w' := by
  have hWA := World.grownBy_alloc W (.cells #[.int .i64 0, .int .i64 0, .int .i64 0] 49) none
  have h := h.fresh hWA
  have hE := h.ending
  have e0 := hE.c0
  have e1 := hE.c1
  have e2 := hE.c2
  have hbx := Blk.new W #[.int .i64 0, .int .i64 0, .int .i64 0] 49
  have hbw : Below W.heap.size W (W.alloc (.cells #[.int .i64 0, .int .i64 0, .int .i64 0] 49)) := (Below.refl _ W).alloc (Nat.le_refl _) _
  have x0 := hbx.cell 0
  have x1 := hbx.cell 1
  have x2 := hbx.cell 2
  have f0 := hbx.frozen 0
  have f1 := hbx.frozen 1
  have f2 := hbx.frozen 2
  have hmx : Tryz.prog.follows .mixedOrders = true := by kernel_rfl
  have key : ∀ (u0 u1 u2 : Int), (∀ (A : World), True) → Blk ((((W.alloc (.cells #[.int .i64 0, .int .i64 0, .int .i64 0] 49)).setCell ⟨W.heap.size, 0, none⟩ (.int .i64 u0)).setCell ⟨W.heap.size, 1, none⟩ (.int .i64 u1)).setCell ⟨W.heap.size, 2, none⟩ (.int .i64 u2)) W.heap.size #[.int .i64 u0, .int .i64 u1, .int .i64 u2] 49 ∧ Below W.heap.size W ((((W.alloc (.cells #[.int .i64 0, .int .i64 0, .int .i64 0] 49)).setCell ⟨W.heap.size, 0, none⟩ (.int .i64 u0)).setCell ⟨W.heap.size, 1, none⟩ (.int .i64 u1)).setCell ⟨W.heap.size, 2, none⟩ (.int .i64 u2)) := fun u0 u1 u2 _ => ⟨((hbx.set 0 _).set 1 _).set 2 _, ((hbw.setCell (p := ⟨W.heap.size, 0, none⟩) (Nat.le_refl _) _).setCell (p := ⟨W.heap.size, 1, none⟩) (Nat.le_refl _) _).setCell (p := ⟨W.heap.size, 2, none⟩) (Nat.le_refl _) _⟩
  have KEY := hide key
  clear key hbx hbw hWA
  by_cases h1 : 0 ≤ list ∧ list < 9 ∧ 0 ≤ row
  · obtain ⟨i, rfl⟩ : ∃ i : Nat, list = (i : Int) := ⟨list.toNat, by omega⟩
    obtain ⟨j, rfl⟩ : ∃ j : Nat, row = (j : Int) := ⟨row.toNat, by omega⟩
    have hi : i < 9 := by omega
    obtain ⟨v, hv⟩ : ∃ v, vs[8 + i]? = some v := ⟨_, List.getElem?_eq_getElem (by have := h.lv; omega)⟩
    have ho := h.own (8 + i) v _ hv (rowsOf_ls T _ i hi)
    have t0 := h.cell (i := 8 + i) (by omega) hv
    obtain ⟨a, c, rfl⟩ := own_slice ho
    dsimp only at t0 ho
    have hlen := hT i
    obtain ⟨l, hl2⟩ : ∃ l, l = rowsOf T i := ⟨_, rfl⟩
    rw [← hl2] at ho t0 hlen
    have i0 : (0 : Int) ≤ (i : Int) := by omega
    have i9 : (i : Int) < 9 := by omega
    have j0 : (0 : Int) ≤ (j : Int) := by omega
    by_cases hj : j < l.length
    · obtain ⟨x, hx⟩ : ∃ x, l[j]? = some x := ⟨_, List.getElem?_eq_getElem hj⟩
      have HV : Hz (whereV T eb el ec (i : Int) (j : Int) = x) := hide (by unfold whereV; rw [if_pos h1]; simp only [Int.toNat_natCast]; rw [← hl2, hx])
      rcases own_some ho (fun e => by omega) with ⟨_, e, _⟩ | ⟨g, c', e, _, _, _, hcs⟩
      · omega
      · injection e with e3 e4 e5
        subst e3
        have hat := encA3_at l j x hx
        have ad : ∀ k, (⟨g, 0, none⟩ : Addr).add k = ⟨g, k, none⟩ := fun k => by cases k <;> simp [Addr.add]
        have d0 := hcs _ _ hat.1
        have d1 := hcs _ _ hat.2.1
        have d2 := hcs _ _ hat.2.2
        rw [ad] at d0 d1 d2
        obtain ⟨y0, y1, y2⟩ := x
        dsimp only at d0 d1 d2
        have jl : (j : Int) < (l.length : Int) := by omega
        have K1 := unhide KEY y0 y1 y2 (fun _ => trivial)
        have r0 := K1.1.cell 0
        have r1 := K1.1.cell 1
        have r2 := K1.1.cell 2
        have HK := hide K1.2
        clear h ho hv hcs hat hx hl2 h1 hl hr hT hj K1 KEY hE
        go_enter Tryz.func29, Tryz.ntmps29
        go_wp2_with fail
        rw [unhide HV]
        exact bodyPost_ret (v := .agg #[.int .i64 y0, .int .i64 y1, .int .i64 y2]) (by simp [results, Tryz.results29, go_sem]) rfl ⟨rfl, (Below.refl _ W).alloc (Nat.le_refl _) _⟩
    · have HV : Hz (whereV T eb el ec (i : Int) (j : Int) = (eb, el, ec)) := hide (by unfold whereV; rw [if_pos h1]; simp only [Int.toNat_natCast]; rw [← hl2, List.getElem?_eq_none (by omega)])
      have jl : ¬ ((j : Int) < (l.length : Int)) := by omega
      have K1 := unhide KEY eb el ec (fun _ => trivial)
      have r0 := K1.1.cell 0
      have r1 := K1.1.cell 1
      have r2 := K1.1.cell 2
      have HK := hide K1.2
      clear h ho hv hl2 h1 hl hr hT hj K1 KEY hE
      go_enter Tryz.func29, Tryz.ntmps29
      go_wp2_with fail
      rw [unhide HV]
      exact bodyPost_ret (v := .agg #[.int .i64 eb, .int .i64 el, .int .i64 ec]) (by simp [results, Tryz.results29, go_sem]) rfl ⟨rfl, (Below.refl _ W).alloc (Nat.le_refl _) _⟩
  · have HV : Hz (whereV T eb el ec list row = (eb, el, ec)) := hide (by unfold whereV; rw [if_neg h1])
    have K1 := unhide KEY eb el ec (fun _ => trivial)
    have r0 := K1.1.cell 0
    have r1 := K1.1.cell 1
    have r2 := K1.1.cell 2
    have HK := hide K1.2
    clear h hl hr hT K1 KEY hE
    by_cases ha : list < 0
    · clear h1
      go_enter Tryz.func29, Tryz.ntmps29
      go_wp2_with fail
      rw [unhide HV]
      exact bodyPost_ret (v := .agg #[.int .i64 eb, .int .i64 el, .int .i64 ec]) (by simp [results, Tryz.results29, go_sem]) rfl ⟨rfl, (Below.refl _ W).alloc (Nat.le_refl _) _⟩
    · by_cases hb : list < 9
      · have hc : row < 0 := by omega
        clear h1
        go_enter Tryz.func29, Tryz.ntmps29
        go_wp2_with fail
        rw [unhide HV]
        exact bodyPost_ret (v := .agg #[.int .i64 eb, .int .i64 el, .int .i64 ec]) (by simp [results, Tryz.results29, go_sem]) rfl ⟨rfl, (Below.refl _ W).alloc (Nat.le_refl _) _⟩
      · clear h1
        go_enter Tryz.func29, Tryz.ntmps29
        go_wp2_with fail
        rw [unhide HV]
        exact bodyPost_ret (v := .agg #[.int .i64 eb, .int .i64 el, .int .i64 ec]) (by simp [results, Tryz.results29, go_sem]) rfl ⟨rfl, (Below.refl _ W).alloc (Nat.le_refl _) _⟩
theorem own_rowC {W : World} {lo E sz n : Nat} {a : Option Addr} {c : Nat} {xs : List Value} (h : W.ownsRow lo E sz (.slice a n c) n xs) : RowC W W.heap.size a xs := by
  intro h0
  have hl := h.1
  have hn : n ≠ 0 := fun e => by rw [e, Nat.zero_mul] at hl; omega
  rcases own_some h (fun e => absurd e hn) with ⟨_, e, _⟩ | ⟨g, c', e, _, _, _, hx⟩
  · exact absurd e hn
  · injection e with e1
    refine ⟨g, 0, e1, own_ltW h g (by rw [e1]; rfl), fun j u hu => ?_⟩
    have := hx j u hu
    rw [show (⟨g, 0, none⟩ : Addr).add j = ⟨g, 0 + j, none⟩ by cases j <;> simp [Addr.add]] at this
    exact this
theorem TabAt.inn {W : World} {lo : Nat} {T : TV} {v : Value} (h : TabAt W lo T v) : ∃ a0 a1 a2 a3 a4 a5 a6 a7 c0 c1 c2 c3 c4 c5 c6 c7 us, v = .agg #[.slice a0 T.sc.length c0, .slice a1 T.co.length c1, .slice a2 T.ma.length c2, .slice a3 T.pr.length c3, .slice a4 T.fo.length c4, .slice a5 T.lk.length c5, .slice a6 T.dr.length c6, .slice a7 T.al.length c7] ∧ TabIn W T a0 a1 a2 a3 a4 a5 a6 a7 us ∧ Lst W lo ((.slice a0 T.sc.length c0 :: us) ++ [.slice a1 T.co.length c1] ++ [.slice a2 T.ma.length c2] ++ [.slice a3 T.pr.length c3] ++ [.slice a4 T.fo.length c4] ++ [.slice a5 T.lk.length c5] ++ [.slice a6 T.dr.length c6] ++ [.slice a7 T.al.length c7]) (tsOf T us) := by
  obtain ⟨v0, us, v1, v2, v3, v4, v5, v6, v7, rfl, hu, hL⟩ := h
  have hM : (T.sc.map (fun s => Ln.mk 68 2 s.2.length (encS2 s.2))).length = us.length := by rw [List.length_map, hu]
  have key : ∀ (k : Nat) (x : Value) (l : Ln), ((v0 :: us) ++ [v1] ++ [v2] ++ [v3] ++ [v4] ++ [v5] ++ [v6] ++ [v7])[k]? = some x → (tsOf T us)[k]? = some l → W.ownsRow lo l.E l.sz x l.n l.xs := fun k x l hx hl => hL.own k x l hx hl
  have A : ∀ (k : Nat), ((v0 :: us) ++ [v1] ++ [v2] ++ [v3] ++ [v4] ++ [v5] ++ [v6] ++ [v7])[us.length + 1 + k]? = [v1, v2, v3, v4, v5, v6, v7][k]? := fun k => by
    rw [show (v0 :: us) ++ [v1] ++ [v2] ++ [v3] ++ [v4] ++ [v5] ++ [v6] ++ [v7] = (v0 :: us) ++ [v1, v2, v3, v4, v5, v6, v7] by simp, List.getElem?_append_right (by simp)]
    congr 1
    simp
  have B : ∀ (k : Nat), (tsOf T us)[us.length + 1 + k]? = [Ln.mk 68 2 T.co.length (encS2 T.co), Ln.mk 71 2 T.ma.length (encM2 T.ma), Ln.mk 74 3 T.pr.length (encP3 T.pr), Ln.mk 77 2 T.fo.length (encF2 T.fo), Ln.mk 77 2 T.lk.length (encF2 T.lk), Ln.mk 68 2 T.dr.length (encS2 T.dr), Ln.mk 68 2 T.al.length (encS2 T.al)][k]? := fun k => by
    unfold tsOf
    rw [show ∀ (a : List Ln) (b c d e f g h : Ln), a ++ [b] ++ [c] ++ [d] ++ [e] ++ [f] ++ [g] ++ [h] = a ++ [b, c, d, e, f, g, h] from fun a b c d e f g h => by simp, List.getElem?_append_right (by rw [List.length_cons, hM]; omega)]
    congr 1
    rw [List.length_cons, hM]
    omega
  have o0 := key 0 v0 _ rfl rfl
  have o1 := key _ v1 _ (A 0) (B 0)
  have o2 := key _ v2 _ (A 1) (B 1)
  have o3 := key _ v3 _ (A 2) (B 2)
  have o4 := key _ v4 _ (A 3) (B 3)
  have o5 := key _ v5 _ (A 4) (B 4)
  have o6 := key _ v6 _ (A 5) (B 5)
  have o7 := key _ v7 _ (A 6) (B 6)
  obtain ⟨a0, c0, rfl⟩ := own_slice o0
  obtain ⟨a1, c1, rfl⟩ := own_slice o1
  obtain ⟨a2, c2, rfl⟩ := own_slice o2
  obtain ⟨a3, c3, rfl⟩ := own_slice o3
  obtain ⟨a4, c4, rfl⟩ := own_slice o4
  obtain ⟨a5, c5, rfl⟩ := own_slice o5
  obtain ⟨a6, c6, rfl⟩ := own_slice o6
  obtain ⟨a7, c7, rfl⟩ := own_slice o7
  refine ⟨a0, a1, a2, a3, a4, a5, a6, a7, c0, c1, c2, c3, c4, c5, c6, c7, us, rfl, ⟨hu, own_rowC o0, own_rowC o1, own_rowC o2, own_rowC o3, own_rowC o4, own_rowC o5, own_rowC o6, own_rowC o7, ?_⟩, hL⟩
  intro j x u hx hu2
  have oj := key (j + 1) u (Ln.mk 68 2 x.2.length (encS2 x.2)) (by
    rw [show ∀ (a : List Value) (b c d e f g h : Value), a ++ [b] ++ [c] ++ [d] ++ [e] ++ [f] ++ [g] ++ [h] = a ++ [b, c, d, e, f, g, h] from fun a b c d e f g h => by simp, List.getElem?_append_left (by have := (List.getElem?_eq_some_iff.1 hu2).1; simp; omega), List.getElem?_cons_succ]
    exact hu2) (by
    unfold tsOf
    rw [show ∀ (a : List Ln) (b c d e f g h : Ln), a ++ [b] ++ [c] ++ [d] ++ [e] ++ [f] ++ [g] ++ [h] = a ++ [b, c, d, e, f, g, h] from fun a b c d e f g h => by simp, List.getElem?_append_left (by rw [List.length_cons, hM]; have := (List.getElem?_eq_some_iff.1 hu2).1; omega), List.getElem?_cons_succ, List.getElem?_map, hx]
    rfl)
  obtain ⟨b, d, rfl⟩ := own_slice oj
  exact ⟨b, d, rfl, own_rowC oj⟩
structure EnvK (m : Int) (W : World) : Prop where
  p : EnvP W
  max : W.cell? ⟨7, 0, none⟩ = some (.int .i64 m)
  et : W.cell? ⟨4, 0, none⟩ = some (.iface 186 (.agg #[.pointer (some ⟨12, 33, none⟩)]))
theorem EnvK.below {m : Int} {W W' : World} (h : EnvK m W) (hb : Below W.heap.size W W') : EnvK m W' := by
  have hbig := h.p.big
  have hc : ∀ {b i : Nat} {v : Value}, b < W.heap.size → W.cell? ⟨b, i, none⟩ = some v → W'.cell? ⟨b, i, none⟩ = some v := fun {b i v} h1 h2 => (hb.cell (p := ⟨b, i, none⟩) h1).trans h2
  have hs := hb.size
  exact ⟨⟨hc (by omega) h.p.t64, tab_fr (lo := W.heap.size) (N := W.heap.size) ⟨hb.os, hb.tape, hb.output, hb.size, fun i hi _ _ => hb.block i hi⟩ (by omega) (by omega) h.p.pow, ⟨fun c h2 => hc (by omega) (h.p.utf.1 c h2), fun i hi => ⟨hc (by omega) (h.p.utf.2 i hi).1, hc (by omega) (h.p.utf.2 i hi).2⟩⟩, by omega⟩, hc (by omega) h.max, hc (by omega) h.et⟩
theorem TV_ext (X Y : TV) (h_sc : X.sc = Y.sc) (h_co : X.co = Y.co) (h_ma : X.ma = Y.ma) (h_pr : X.pr = Y.pr) (h_fo : X.fo = Y.fo) (h_lk : X.lk = Y.lk) (h_dr : X.dr = Y.dr) (h_al : X.al = Y.al) (h_r1 : X.r1 = Y.r1) (h_r2 : X.r2 = Y.r2) (h_r3 : X.r3 = Y.r3) (h_r4 : X.r4 = Y.r4) (h_r5 : X.r5 = Y.r5) (h_r6 : X.r6 = Y.r6) (h_r7 : X.r7 = Y.r7) (h_r8 : X.r8 = Y.r8) : X = Y := by
  obtain ⟨x1, x2, x3, x4, x5, x6, x7, x8, y1, y2, y3, y4, y5, y6, y7, y8⟩ := X
  dsimp only at h_sc h_co h_ma h_pr h_fo h_lk h_dr h_al h_r1 h_r2 h_r3 h_r4 h_r5 h_r6 h_r7 h_r8
  subst h_sc h_co h_ma h_pr h_fo h_lk h_dr h_al h_r1 h_r2 h_r3 h_r4 h_r5 h_r6 h_r7 h_r8
  rfl
theorem Ps_ext (P : Ps) (T : TV) (hb : P.bad.isNone = true) (hT : P.T = T) : P = ⟨P.k, none, T⟩ := by
  obtain ⟨k, bad, X⟩ := P
  subst hT
  cases bad with
  | none => rfl
  | some z => cases hb
theorem kn1_co : (parseA kn1).T.co = knT.co := by decide +kernel
theorem kn1_ma : (parseA kn1).T.ma = knT.ma := by decide +kernel
theorem kn1_pr : (parseA kn1).T.pr = knT.pr := by decide +kernel
theorem kn1_fo : (parseA kn1).T.fo = knT.fo := by decide +kernel
theorem kn1_lk : (parseA kn1).T.lk = knT.lk := by decide +kernel
theorem kn1_dr : (parseA kn1).T.dr = knT.dr := by decide +kernel
theorem kn1_al : (parseA kn1).T.al = knT.al := by decide +kernel
theorem kn1_r1 : (parseA kn1).T.r1 = knT.r1 := by decide +kernel
theorem kn1_r2 : (parseA kn1).T.r2 = knT.r2 := by decide +kernel
theorem kn1_r3 : (parseA kn1).T.r3 = knT.r3 := by decide +kernel
theorem kn1_r4 : (parseA kn1).T.r4 = knT.r4 := by decide +kernel
theorem kn1_r5 : (parseA kn1).T.r5 = knT.r5 := by decide +kernel
theorem kn1_r6 : (parseA kn1).T.r6 = knT.r6 := by decide +kernel
theorem kn1_r7 : (parseA kn1).T.r7 = knT.r7 := by decide +kernel
theorem kn1_r8 : (parseA kn1).T.r8 = knT.r8 := by decide +kernel
theorem kn1_eq : parseA kn1 = ⟨(parseA kn1).k, none, knT⟩ := Ps_ext _ _ kn1_bad (TV_ext _ _ kn1_sc kn1_co kn1_ma kn1_pr kn1_fo kn1_lk kn1_dr kn1_al kn1_r1 kn1_r2 kn1_r3 kn1_r4 kn1_r5 kn1_r6 kn1_r7 kn1_r8)
theorem Ps_no (P : Ps) (b l c w : Int) (h : P.bad.map (fun r => (r.b, r.l, r.c, r.why)) = some (b, l, c, w)) : ∃ k T, P = ⟨k, some ⟨b, l, c, w⟩, T⟩ := by
  obtain ⟨k, bad, T⟩ := P
  refine ⟨k, T, ?_⟩
  cases bad with
  | none => cases h
  | some z =>
    obtain ⟨b', l', c', w'⟩ := z
    simp only [Option.map_some, Option.some.injEq, Prod.mk.injEq] at h
    obtain ⟨rfl, rfl, rfl, rfl⟩ := h
    rfl
theorem kn2_eq : ∃ k T, parseA kn2 = ⟨k, some ⟨11, 1, 12, 5⟩, T⟩ := Ps_no _ _ _ _ _ kn2_bad
theorem knT_le : knT.Le 1000000 := ⟨by decide, by decide, by decide, by decide, by decide, by decide, by decide, by decide, by decide, by decide, by decide, by decide, by decide, by decide, by decide, by decide⟩
theorem knT_ok : TabOk knT := ⟨by decide, by decide, by decide, by decide, by decide, by decide, by decide, by decide, by intro x hx; simp [knT] at hx; subst hx; exact ⟨by unfold maxLen; decide, by decide⟩, by intro x hx; simp [knT] at hx, by intro x hx; simp [knT] at hx; subst hx; unfold maxLen; decide, by intro x hx; simp [knT] at hx⟩
theorem parse_eq (s : ByteArray) (hs : s.size ≤ 262144) (P : Ps) (hP : parseA s = P) (m : Int) (W : World) (hm : W.cell? ⟨7, 0, none⟩ = some (.int .i64 m)) (hgm : 7 < W.heap.size) :
    Calls Tryz.prog 5 #[.string s] W fun e w' => ∃ v er, e = .returned (.tuple #[v, er]) ∧ Below W.heap.size W w' ∧ ParsedAt W w' s P v er := by
  subst hP
  exact parse_any s hs m W hm hgm
theorem TabIn.below {W W' : World} {T : TV} {a0 a1 a2 a3 a4 a5 a6 a7 : Option Addr} {us : List Value} (h : TabIn W T a0 a1 a2 a3 a4 a5 a6 a7 us) (hb : Below W.heap.size W W') : TabIn W' T a0 a1 a2 a3 a4 a5 a6 a7 us :=
  ⟨h.lu, h.r0.below hb hb.size, h.r1.below hb hb.size, h.r2.below hb hb.size, h.r3.below hb hb.size, h.r4.below hb hb.size, h.r5.below hb hb.size, h.r6.below hb hb.size, h.r7.below hb hb.size, fun j x u hx hu => by
    obtain ⟨b, d, e, hr⟩ := h.rs j x u hx hu
    exact ⟨b, d, e, hr.below hb hb.size⟩⟩
set_option maxRecDepth 100000 in
set_option maxHeartbeats 4000000 in
theorem known_any5 (m : Int) (W : World) (hE : EnvK m W) : Calls Tryz.prog 10 #[] W fun e w' => e = .returned (.bool true) ∧ Below W.heap.size W w' := by
  have hmx : Tryz.prog.follows .mixedOrders = true := by kernel_rfl
  have HE := hide hE
  have hbig := hE.p.big
  have HP1 := hide (parse_eq kn1 (by decide) _ kn1_eq m W hE.max (by omega))
  clear hE
  go_enter Tryz.func10, Tryz.ntmps10
  go_wp2_with fail
  refine (show Calls Tryz.prog 5 #[.string kn1] W _ from unhide HP1).mono ?_
  rintro e w1 ⟨v, er, rfl, hb1, hpa⟩
  obtain ⟨rfl, Tx, lo, vs, rfl, hTx, hlo, hTb⟩ := hpa
  have HE1 := hide ((unhide HE).below hb1)
  have HB1 := hide hb1
  have HTB := hide hTb
  have HTA := hide (tables_any lo Tx vs knT _ _ _ knT_le (by intro s hs; simp [knT] at hs; subst hs; decide) w1 hTb)
  clear hb1 hTb HP1
  go_wp2_with fail
  refine (unhide HTA).mono ?_
  rintro e w2 ⟨v2, rfl, hta, hb2⟩
  obtain ⟨a0, a1, a2, a3, a4, a5, a6, a7, c0, c1, c2, c3, c4, c5, c6, c7, us, rfl, htin, hL⟩ := hta.inn
  have HL := hide hL
  have HB2 := hide hb2
  have HTI := hide htin
  obtain ⟨g0, o0, rfl, _, k0⟩ := htin.r0 (by rw [encSc_length _ _ htin.lu]; decide)
  obtain ⟨u, rfl⟩ : ∃ u, us = [u] := by
    have := htin.lu
    match us, this with
    | [u], _ => exact ⟨u, rfl⟩
  obtain ⟨b, d, rfl, hrs⟩ := htin.rs 0 (⟨#[97]⟩, [(97, 122), (233, 233)]) u rfl rfl
  obtain ⟨gs, os, rfl, _, ks⟩ := hrs (by decide)
  obtain ⟨g4, o4, rfl, _, k4⟩ := htin.r4 (by decide)
  have hal := World.grownBy_alloc w2 (.cells #[.slice (some ⟨g0, o0, none⟩) 1 c0, .slice a1 0 c1, .slice a2 0 c2, .slice a3 0 c3, .slice (some ⟨g4, o4, none⟩) 1 c4, .slice a5 0 c5, .slice a6 2 c6, .slice a7 0 c7] 28) none
  have HB3 : Hz (Below w2.heap.size w2 (w2.alloc (.cells #[.slice (some ⟨g0, o0, none⟩) 1 c0, .slice a1 0 c1, .slice a2 0 c2, .slice a3 0 c3, .slice (some ⟨g4, o4, none⟩) 1 c4, .slice a5 0 c5, .slice a6 2 c6, .slice a7 0 c7] 28))) := hide ((Below.refl _ w2).alloc (Nat.le_refl _) _)
  have y0 : w2.cell? ⟨g0, o0, none⟩ = some (.string ⟨#[97]⟩) := k0 0 _ rfl
  have y1 : w2.cell? ⟨g0, o0 + 1, none⟩ = some (.slice (some ⟨gs, os, none⟩) 2 d) := k0 1 _ rfl
  have y2 : w2.cell? ⟨gs, os, none⟩ = some (.int .i32 97) := ks 0 _ rfl
  have y3 : w2.cell? ⟨gs, os + 1, none⟩ = some (.int .i32 122) := ks 1 _ rfl
  have y4 : w2.cell? ⟨g4, o4, none⟩ = some (.int .i32 65) := k4 0 _ rfl
  have y5 : w2.cell? ⟨g4, o4 + 1, none⟩ = some (.string ⟨#[97, 98]⟩) := k4 1 _ rfl
  have x0 := hal.cell (a := ⟨g0, o0, none⟩) y0 (by simp)
  have x1 := hal.cell (a := ⟨g0, o0 + 1, none⟩) y1 (by simp)
  have x2 := hal.cell (a := ⟨gs, os, none⟩) y2 (by simp)
  have x3 := hal.cell (a := ⟨gs, os + 1, none⟩) y3 (by simp)
  have x4 := hal.cell (a := ⟨g4, o4, none⟩) y4 (by simp)
  have x5 := hal.cell (a := ⟨g4, o4 + 1, none⟩) y5 (by simp)
  have HPR := hide (print_any knT (some ⟨g0, o0, none⟩) a1 a2 a3 (some ⟨g4, o4, none⟩) a5 a6 a7 c0 c1 c2 c3 c4 c5 c6 c7 [.slice (some ⟨gs, os, none⟩) 2 d])
  clear hta hb2 htin hL k0 ks k4 hrs y0 y1 y2 y3 y4 y5 hal
  simp only [show knT.sc.length = 1 from rfl, show knT.co.length = 0 from rfl, show knT.ma.length = 0 from rfl, show knT.pr.length = 0 from rfl, show knT.fo.length = 1 from rfl, show knT.lk.length = 0 from rfl, show knT.dr.length = 2 from rfl, show knT.al.length = 0 from rfl]
  go_wp2_with fail
  generalize w2.alloc (.cells #[.slice (some ⟨g0, o0, none⟩) 1 c0, .slice a1 0 c1, .slice a2 0 c2, .slice a3 0 c3, .slice (some ⟨g4, o4, none⟩) 1 c4, .slice a5 0 c5, .slice a6 2 c6, .slice a7 0 c7] 28) = w3 at *
  have HE3 := hide (((unhide HE1).below (unhide HB2)).below (unhide HB3))
  have HB13 := hide ((unhide HB2).trans ((unhide HB3).mono (unhide HB2).size))
  have HP3 := hide (unhide HPR w3 ((unhide HTI).below (unhide HB3)) knT_ok (unhide HE3).p)
  rw [knP_p] at HP3
  unfold knP at HP3
  dsimp only at HP3
  clear HPR x0 x1 x2 x3 x4 x5 HTI HL HE1
  refine (show Calls Tryz.prog 11 #[.agg #[.slice (some ⟨g0, o0, none⟩) 1 c0, .slice a1 0 c1, .slice a2 0 c2, .slice a3 0 c3, .slice (some ⟨g4, o4, none⟩) 1 c4, .slice a5 0 c5, .slice a6 2 c6, .slice a7 0 c7]] w3 _ from unhide HP3).mono ?_
  rintro e w4 ⟨rfl, hb4⟩
  have HE4 := hide ((unhide HE3).below hb4)
  have HB14 := hide ((unhide HB13).trans (hb4.mono (unhide HB13).size))
  have hbig4 := (unhide HE4).p.big
  obtain ⟨k5, T5, hk5⟩ := kn2_eq
  have HP5 := hide (parse_eq kn2 (by decide) _ hk5 m w4 (unhide HE4).max (by omega))
  clear hk5
  clear hb4 HP3 HE3 HB13
  go_wp2_with fail
  refine (show Calls Tryz.prog 5 #[.string kn2] w4 _ from unhide HP5).mono ?_
  rintro e w5 ⟨v5, er5, rfl, hb5, hpa5⟩
  obtain ⟨rfl, F, rfl, hF, hbF⟩ := hpa5
  have HE5 := hide ((unhide HE4).below hb5)
  have HB15 := hide ((unhide HB14).trans (hb5.mono (unhide HB14).size))
  have hbig5 := (unhide HE5).p.big
  have HRF := hide (refused_none F 11 1 12 5 w5 hbF (by omega) (by omega) (unhide HE5).p.pow (by omega) (unhide HE5).et errno_5)
  clear hb5 HP5 HE4 HB14 hbF
  go_wp2_with fail
  refine (unhide HRF).mono ?_
  rintro e w6 ⟨rfl, hb6⟩
  have HB16 := hide ((unhide HB15).trans (hb6.mono (unhide HB15).size))
  have HT6 := hide ((unhide HTB).fresh (below_grown2 (row := none) (unhide HB16)))
  have HWH := hide (whereT_any lo Tx vs knT _ _ _ 5 0 w6 (unhide HT6) (by omega) (by omega) (fun i => by unfold rowsOf; split <;> decide))
  rw [show whereV knT ((kn1.size : Nat) : Int) (endL kn1) (endC kn1) 5 0 = (29, 1, 30) from rfl] at HWH
  clear hb6 HRF
  go_wp2_with fail
  refine (show Calls Tryz.prog 29 #[.pointer (some ⟨Tx, 0, none⟩), .int .i64 5, .int .i64 0] w6 _ from unhide HWH).mono ?_
  rintro e w7 ⟨rfl, hb7⟩
  have HB17 := hide ((unhide HB16).trans (hb7.mono (unhide HB16).size))
  have HFZ := hide (find_zero Tx 0 0 w7)
  unfold atV3
  dsimp only
  clear hb7 HWH
  go_wp2_with fail
  refine (unhide HFZ).mono ?_
  rintro e w8 ⟨rfl, hb8⟩
  have HB18 := hide ((unhide HB17).trans (hb8.mono (unhide HB17).size))
  clear hb8 HFZ
  go_wp2_with fail
  go_ret
  exact ⟨rfl, (unhide HB1).trans ((unhide HB18).mono (unhide HB1).size)⟩
end Go.Proofs.YtjgfmobmilgapaaGreatDoor
namespace Go.Proofs.YtjgfmobmilgapaaGreatDoor
open Go.ChangeShapes Go.WideShapes Go.ChangeAt Go.RowKit
set_option linter.unusedVariables false
def tab64 : List Int := [0, 1, 56, 2, 57, 49, 28, 3, 61, 58, 42, 50, 38, 29, 17, 4, 62, 47, 59, 36, 45, 43, 51, 22, 53, 39, 33, 30, 24, 18, 12, 5, 63, 55, 48, 27, 60, 41, 37, 16, 46, 35, 44, 21, 52, 32, 23, 11, 54, 26, 40, 15, 34, 20, 31, 10, 25, 14, 19, 9, 13, 8, 7, 6]
theorem laid64 : (Rows.laid_math_bits_deBruijn64tab : DataW Unit) = Lib.tabData .u8 tab64 := by kernel_rfl
theorem gTab : Tryz.prog.globalNamed "math/bits.deBruijn64tab" = some 11 := by kernel_rfl
theorem gTabT : (Tryz.prog.globals[11]?).map (·.type) = some 253 := by kernel_rfl
theorem cellsT : Tryz.prog.cellsOf 253 = 64 := by kernel_rfl
theorem cells5 : Tryz.prog.cellsOf 5 = 1 := by kernel_rfl
end Go.Proofs.YtjgfmobmilgapaaGreatDoor
namespace Go.Proofs.YtjgfmobmilgapaaGreatDoor
open Go.ChangeShapes Go.WideShapes Go.ChangeAt Go.RowKit Go.Lib
set_option linter.unusedVariables false
theorem powT : Tryz.prog.globalNamed "internal/strconv.uint64pow10" = some 8 := by kernel_rfl
theorem powTy : (Tryz.prog.globals[8]?).map (·.type) = some 239 := by kernel_rfl
theorem cellsPow : Tryz.prog.cellsOf 239 = 20 := by kernel_rfl
theorem cellsU64 : Tryz.prog.cellsOf 202 = 1 := by kernel_rfl
theorem laidPow : (Rows.laid_internal_strconv_uint64pow10 : DataW Unit) = Lib.tabData .u64 Lib.pow10Tab := by kernel_rfl
theorem laidFirst : Rows.laid_unicode_utf8_first = Lib.firstData := by kernel_rfl
theorem laidAcc : (Rows.laid_unicode_utf8_acceptRanges : DataW Unit) = Lib.acceptData := by kernel_rfl
theorem u8x : U8Extra Tryz.prog lay196_ren := ⟨by kernel_rfl, by kernel_rfl, by kernel_rfl, by kernel_rfl, by kernel_rfl, by kernel_rfl, by kernel_rfl⟩
theorem etG : Tryz.prog.globalNamed "errors.errorType" = some 4 := by kernel_rfl
theorem etR : (Tryz.prog.cutTypes.find? (·.1 == "internal/reflectlite.rtype")).map (·.2) = some 186 := by kernel_rfl
theorem etOne : ((List.range Tryz.prog.types.size).filter fun t => Tryz.prog.rowNamed t [101, 114, 114, 111, 114]) = [33] := by kernel_rfl
theorem etH : typeHandle Tryz.prog 33 = .pointer (some ⟨12, 33, none⟩) := by kernel_rfl
theorem env5_of {laid pl : List (String × DataW Unit)} {W : World} (h : laidMetH Tryz.prog laid W)
    (e1 : (laid.filter fun x => x.2.handleName?.isSome) = [("errors.errorType", Rows.laid_errors_errorType)])
    (e2 : (laid.filter fun x => x.2.handleName?.isNone) = pl)
    (m1 : ("math/bits.deBruijn64tab", Rows.laid_math_bits_deBruijn64tab) ∈ pl) (m2 : ("internal/strconv.uint64pow10", Rows.laid_internal_strconv_uint64pow10) ∈ pl)
    (m3 : ("unicode/utf8.first", Rows.laid_unicode_utf8_first) ∈ pl) (m4 : ("unicode/utf8.acceptRanges", Rows.laid_unicode_utf8_acceptRanges) ∈ pl)
    (hS : World.ShapedOpen Tryz.prog W) : ∃ m, EnvK m W := by
  obtain ⟨m, hm⟩ := layM145.s1_3 W hS
  unfold laidMetH at h
  rw [e1, e2] at h
  obtain ⟨hp, hh⟩ := h
  have t64 : W.cell? ⟨11, 15, none⟩ = some (.int .u8 4) := by
    obtain ⟨g1, t1, cs1, f1, p1, hg1, ht1, hv1, hd1⟩ := laidMet.reads hp m1
    obtain rfl := Option.some.inj (gTab.symm.trans hg1)
    obtain rfl := Option.some.inj (gTabT.symm.trans ht1)
    rw [laid64] at hd1
    have hc := Lib.cells_of_tab Tryz.underlying253 Tryz.underlying5 cells5 cellsT hd1
    have := World.var?_cell hg1 hv1 15
    rw [this, ← Array.getElem?_toList, hc]
    rfl
  have pow : Lib.TabIs Tryz.prog W "internal/strconv.uint64pow10" .u64 Lib.pow10Tab := by
    obtain ⟨g1, t1, cs1, f1, p1, hg1, ht1, hv1, hd1⟩ := laidMet.reads hp m2
    obtain rfl := Option.some.inj (powT.symm.trans hg1)
    obtain rfl := Option.some.inj (powTy.symm.trans ht1)
    rw [laidPow] at hd1
    have hc := Lib.cells_of_tab Tryz.underlying239 Tryz.underlying202 cellsU64 cellsPow hd1
    unfold Lib.TabIs
    rw [hv1, ← hc]
  have r3 := laidMet.reads hp m3
  have r4 := laidMet.reads hp m4
  rw [laidFirst] at r3
  rw [laidAcc] at r4
  have utf := utf8Tabs_of_readsT (U8Types.of196 lay196) u8x r3 r4
  have big : 12 ≤ W.heap.size := Nat.succ_le_of_lt (cell_lt t64)
  refine ⟨m, ⟨t64, pow, utf, big⟩, hm, ?_⟩
  obtain ⟨name, u, ty, a1, a2, a3, a4, a5⟩ := hh _ (List.mem_singleton.2 rfl)
  have en : name = [101, 114, 114, 111, 114] := (Option.some.inj a1).symm
  subst en
  obtain rfl := Option.some.inj (etR.symm.trans a2)
  have hmm : ty ∈ (List.range Tryz.prog.types.size).filter fun t => Tryz.prog.rowNamed t [101, 114, 114, 111, 114] := List.mem_filter.2 ⟨List.mem_range.2 a3, a4⟩
  rw [etOne] at hmm
  obtain rfl := List.mem_singleton.1 hmm
  rw [etH] at a5
  simpa using World.var?_cell etG a5 0
end Go.Proofs.YtjgfmobmilgapaaGreatDoor
