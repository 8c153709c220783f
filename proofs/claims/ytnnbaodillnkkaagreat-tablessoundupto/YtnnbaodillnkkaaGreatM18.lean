/- Texts of this claim, one behind the other. -/
import Derived.Test.YtnnbaodillnkkaaGreatM17
import Derived.Test.YtnnbaodillnkkaaGreatM14
import Derived.Test.YtnnbaodillnkkaaGreatM3
/- A Book of tables: what it tells of a rune. -/
namespace Go.Proofs.YtnnbaodillnkkaaGreat
open Go.RowKit Go.Shelf Go.Maps
set_option linter.unusedVariables false
theorem BookAt.cls {w : World} {B : Nat} {T : TV} (h : BookAt w B T) : ∃ M n, w.cell? ⟨B, 12, none⟩ = some (.map (some M)) ∧ ClAt w M n T.ma := by
  obtain ⟨lo, t0, t1, t2, t3, t4, t5, t6, t7, sv, bs, Bc, Bd, Ba, M5, n5, M6, n6, M7, n7, MF, nF, ML, nL, h⟩ := h
  exact ⟨M5, n5, h.bx.cell 12, h.cl⟩
theorem BookAt.pas {w : World} {B : Nat} {T : TV} (h : BookAt w B T) : ∃ M n, w.cell? ⟨B, 13, none⟩ = some (.map (some M)) ∧ PaAt w M n T.pr := by
  obtain ⟨lo, t0, t1, t2, t3, t4, t5, t6, t7, sv, bs, Bc, Bd, Ba, M5, n5, M6, n6, M7, n7, MF, nF, ML, nL, h⟩ := h
  exact ⟨M6, n6, h.bx.cell 13, h.pa⟩
theorem BookAt.jos {w : World} {B : Nat} {T : TV} (h : BookAt w B T) : ∃ M n, w.cell? ⟨B, 14, none⟩ = some (.map (some M)) ∧ JoAt w M n T.pr := by
  obtain ⟨lo, t0, t1, t2, t3, t4, t5, t6, t7, sv, bs, Bc, Bd, Ba, M5, n5, M6, n6, M7, n7, MF, nF, ML, nL, h⟩ := h
  exact ⟨M7, n7, h.bx.cell 14, h.jo⟩
theorem BookAt.fos {w : World} {B : Nat} {T : TV} (h : BookAt w B T) : ∃ M n, w.cell? ⟨B, 15, none⟩ = some (.map (some M)) ∧ FoAt w M n T.fo := by
  obtain ⟨lo, t0, t1, t2, t3, t4, t5, t6, t7, sv, bs, Bc, Bd, Ba, M5, n5, M6, n6, M7, n7, MF, nF, ML, nL, h⟩ := h
  exact ⟨MF, nF, h.bx.cell 15, h.fo⟩
theorem BookAt.lks {w : World} {B : Nat} {T : TV} (h : BookAt w B T) : ∃ M n, w.cell? ⟨B, 16, none⟩ = some (.map (some M)) ∧ FoAt w M n T.lk := by
  obtain ⟨lo, t0, t1, t2, t3, t4, t5, t6, t7, sv, bs, Bc, Bd, Ba, M5, n5, M6, n6, M7, n7, MF, nF, ML, nL, h⟩ := h
  exact ⟨ML, nL, h.bx.cell 16, h.lk⟩
theorem BookAt.cos {w : World} {B : Nat} {T : TV} (h : BookAt w B T) : ∃ C, w.cell? ⟨B, 9, none⟩ = some (.pointer (some ⟨C, 0, none⟩)) ∧ SetV w T.co C := by
  obtain ⟨lo, t0, t1, t2, t3, t4, t5, t6, t7, sv, bs, Bc, Bd, Ba, M5, n5, M6, n6, M7, n7, MF, nF, ML, nL, h⟩ := h
  exact ⟨Bc, h.bx.cell 9, h.co⟩
theorem BookAt.drs {w : World} {B : Nat} {T : TV} (h : BookAt w B T) : ∃ C, w.cell? ⟨B, 10, none⟩ = some (.pointer (some ⟨C, 0, none⟩)) ∧ SetV w T.dr C := by
  obtain ⟨lo, t0, t1, t2, t3, t4, t5, t6, t7, sv, bs, Bc, Bd, Ba, M5, n5, M6, n6, M7, n7, MF, nF, ML, nL, h⟩ := h
  exact ⟨Bd, h.bx.cell 10, h.dr⟩
theorem BookAt.als {w : World} {B : Nat} {T : TV} (h : BookAt w B T) : ∃ C, w.cell? ⟨B, 11, none⟩ = some (.pointer (some ⟨C, 0, none⟩)) ∧ SetV w T.al C := by
  obtain ⟨lo, t0, t1, t2, t3, t4, t5, t6, t7, sv, bs, Bc, Bd, Ba, M5, n5, M6, n6, M7, n7, MF, nF, ML, nL, h⟩ := h
  exact ⟨Ba, h.bx.cell 11, h.al⟩
theorem setIn_any {w : World} {l : List (Int × Int)} {C : Nat} (hl : l.length ≤ 1000000) (h : SetV w l C) (r : Int) : Calls Tryz.prog 33 #[.pointer (some ⟨C, 0, none⟩), .int .i32 r] w fun e w' => e = .returned (.bool (memB l r)) ∧ Below w.heap.size w w' := by
  obtain ⟨zs, lo0, h1, h2, h3, h4⟩ := h
  have := in_any C zs r w (h1.set h2 (by omega))
  rwa [h4 r] at this
set_option maxRecDepth 100000 in
theorem bkDropped_any {T : TV} (hO : RowsOk T) (B : Nat) (r : Int) (w : World) (h : BookAt w B T) : Calls Tryz.prog 14 #[.pointer (some ⟨B, 0, none⟩), .int .i32 r] w fun e w' => e = .returned (.bool (drB T r)) ∧ Below w.heap.size w w' := by
  obtain ⟨C, c0, hs⟩ := h.drs
  have HC := hide (setIn_any (by have := hO.l6; omega) hs r)
  clear hs h hO
  go_enter Tryz.func14, Tryz.ntmps14
  go_wp2_with fail
  refine (unhide HC).mono ?_
  rintro e w1 ⟨rfl, hb⟩
  have HB := hide hb
  clear hb HC
  go_wp2_with fail
  go_ret
  exact ⟨rfl, unhide HB⟩
theorem MpAt.look1 {w : World} {kt mt et : TypeId} {R : Value → Option (DataW Unit × List MemPlace)} {M n : Nat} {G : Lit → Option (DataW Unit)} (h : MpAt w kt R M n G) (K : Keyed Tryz.prog kt) (ht : Tryz.prog.underlying mt = some (.map kt et)) {z : Value} (hz : (zeroValue et).run Tryz.prog w = .ok z w) {zd : DataW Unit} {zp : List MemPlace} (hzd : R z = some (zd, zp)) {key : Value} {k : Lit} (hk : keyOf Tryz.prog kt key = some k) (hkl : WideAt.IsKeyLit k) :
    ∃ v ps, (Instr.lookup mt (.map (some M)) key false).run Tryz.prog w = .ok v w ∧ R v = some ((G k).getD zd, ps) := by
  obtain ⟨D, h1, h2⟩ := h
  obtain ⟨v, ps, hr, hv⟩ := h1.lookup K ht hz hzd hk
  rw [(h2 k hkl).2] at hv
  exact ⟨v, ps, hr, hv⟩
theorem zero_int (u : World) : (zeroValue 3).run Tryz.prog u = .ok (.int .i64 0) u := by kernel_rfl
set_option maxRecDepth 100000 in
theorem classLook {T : TV} (hO : RowsOk T) {w : World} {M n : Nat} (h : ClAt w M n T.ma) {r : Int} (hr : R32 r) : (Instr.lookup 77 (.map (some M)) (.int .i32 r) false).run Tryz.prog w = .ok (.int .i64 (classOf T r)) w := by
  obtain ⟨G, hm, hg⟩ := h.mp
  obtain ⟨v, ps, hl, hv⟩ := hm.look1 (int_keyed Tryz.underlying21) Tryz.underlying77 (zero_int w) (plainElem_int Tryz.underlying3 (by decide)) (keyOf_int_mk Tryz.underlying21 (wf32 hr)) trivial
  obtain ⟨a, rfl, ha, _⟩ := plainElem_int_inv Tryz.underlying3 hv
  injection ha with ha _
  rw [hl]
  rcases hg r hr with ⟨h1, h2⟩ | ⟨x, hx, rfl, h2⟩
  · rw [h2] at ha
    injection ha with ha
    injection ha with _ ha
    rw [class_none h1, ha]
  · rw [h2] at ha
    injection ha with ha
    injection ha with _ ha
    rw [class_of hO hx, ha]
set_option maxRecDepth 100000 in
theorem bkClass_any {T : TV} (hO : RowsOk T) (B : Nat) (r : Int) (hr : R32 r) (w : World) (h : BookAt w B T) : Calls Tryz.prog 13 #[.pointer (some ⟨B, 0, none⟩), .int .i32 r] w fun e w' => e = .returned (.int .i64 (classOf T r)) ∧ w' = w := by
  obtain ⟨M, n, c0, hs⟩ := h.cls
  have hl := classLook hO hs hr
  clear hs h hO hr
  go_enter Tryz.func13, Tryz.ntmps13
  go_wp2_with fail
  go_ret
  exact ⟨rfl, rfl⟩
def twoV (x : Option (Int × Int × Int)) : Value := .agg #[.int .i32 ((x.map (·.2.1)).getD 0), .int .i32 ((x.map (·.2.2)).getD 0)]
set_option maxRecDepth 100000 in
theorem pairLook {T : TV} (hO : RowsOk T) {w : World} {M n : Nat} (h : PaAt w M n T.pr) {r : Int} (hr : R32 r) : (Instr.lookup 78 (.map (some M)) (.int .i32 r) true).run Tryz.prog w = .ok (.tuple #[twoV (wholP T r), .bool (wholP T r).isSome]) w := by
  obtain ⟨G, hm, hg⟩ := h.mp
  obtain ⟨v, ps, hl, hv⟩ := hm.look (int_keyed Tryz.underlying21) Tryz.underlying78 (zero_two w) (twoElem_mk 0 0) (keyOf_int_mk Tryz.underlying21 (wf32 hr)) trivial
  rw [hl]
  rcases hg r hr with ⟨h1, h2⟩ | ⟨x, hx, rfl, h2⟩
  · rw [h2] at hv
    rw [twoElem_inv hv, whol_none h1, h2]
    rfl
  · rw [h2] at hv
    rw [twoElem_inv hv, whol_of hO hx, h2]
    rfl
set_option maxRecDepth 100000 in
theorem joinLook {T : TV} (hO : RowsOk T) {w : World} {M n : Nat} (h : JoAt w M n T.pr) {a b : Int} (ha : R32 a) (hb : R32 b) : (Instr.lookup 79 (.map (some M)) (.agg #[.int .i32 a, .int .i32 b]) true).run Tryz.prog w = .ok (.tuple #[.int .i32 (((joinP T a b).map (·.1)).getD 0), .bool (joinP T a b).isSome]) w := by
  obtain ⟨G, hm, hg⟩ := h.mp
  have hkey := WideMaps.keyOf_pair arrK Tryz.underlying21 typesPos (wf32 ha) (wf32 hb)
  obtain ⟨v, ps, hl, hv⟩ := hm.look arr_keyed Tryz.underlying79 (zero_i32 w) (plainElem_int Tryz.underlying21 (by decide)) hkey (arr_keyed.key hkey)
  obtain ⟨c, rfl, hc, _⟩ := plainElem_int_inv Tryz.underlying21 hv
  injection hc with hc _
  rw [hl]
  rcases hg a b _ hkey with ⟨h1, h2⟩ | ⟨x, hx, rfl, rfl, h2⟩
  · rw [h2] at hc
    injection hc with hc
    injection hc with _ hc
    rw [join_none h1, h2, ← hc]
    rfl
  · rw [h2] at hc
    injection hc with hc
    injection hc with _ hc
    rw [join_of hO hx, h2, ← hc]
    rfl
theorem hdrElem_inv {v : Value} {g n c : Nat} {ps : List MemPlace} (h : hdrElem v = some (hdr g n c, ps)) : v = .slice (some ⟨g, 0, none⟩) n c := by
  unfold hdrElem at h
  split at h
  · injection h with h
    injection h with h _
    unfold hdr at h
    injection h with h
    injection h with h1 h2
    injection h2 with h2 h3
    injection h3 with h3 _
    injection h1 with h1
    injection h1 with _ h1
    injection h2 with h2
    injection h2 with _ h2
    injection h3 with h3
    injection h3 with _ h3
    rw [Int.ofNat.inj h1, Int.ofNat.inj h2, Int.ofNat.inj h3]
  · injection h with h
    injection h with h _
    unfold hdr at h
    injection h with h
    cases h
  · cases h
theorem hdrElem_inv0 {v : Value} {ps : List MemPlace} (h : hdrElem v = some (.agg [], ps)) : v = .slice none 0 0 := by
  unfold hdrElem at h
  split at h
  · injection h with h
    injection h with h _
    unfold hdr at h
    injection h with h
    cases h
  · rfl
  · cases h
set_option maxRecDepth 100000 in
theorem toLook {T : TV} {zs : List (Int × ByteArray)} (hpw : zs.Pairwise (fun x y => x.1 ≠ y.1)) {w : World} {M n : Nat} (h : FoAt w M n zs) {r : Int} (hr : R32 r) : ∃ a c, (Instr.lookup 80 (.map (some M)) (.int .i32 r) true).run Tryz.prog w = .ok (.tuple #[.slice a (((toP zs r).map (fun x => runesL x.2)).getD []).length c, .bool (toP zs r).isSome]) w ∧ RnC w w.heap.size a (((toP zs r).map (fun x => runesL x.2)).getD []) ∧ (toP zs r = none → a = none ∧ c = 0) := by
  obtain ⟨G, hm, hg⟩ := h.mp
  obtain ⟨v, ps, hl, hv⟩ := hm.look (int_keyed Tryz.underlying21) Tryz.underlying80 (z := .slice none 0 0) (by kernel_rfl) hdrElem_nil (keyOf_int_mk Tryz.underlying21 (wf32 hr)) trivial
  rcases hg r hr with ⟨h1, h2⟩ | ⟨x, hx, rfl, g, c, h2, h3, h4⟩
  · rw [h2] at hv hl
    refine ⟨none, 0, ?_, ?_, fun _ => ⟨rfl, rfl⟩⟩
    · rw [hl, to_none h1, hdrElem_inv0 hv]
      rfl
    · rw [to_none h1]
      intro h0
      simp at h0
  · rw [h2] at hv hl
    refine ⟨some ⟨g, 0, none⟩, c, ?_, ?_, fun q => ?_⟩
    · rw [hl, to_of hpw hx, hdrElem_inv hv]
      rfl
    · rw [to_of hpw hx]
      intro h0
      exact ⟨g, 0, rfl, h4.1, fun j y hy => by rw [Nat.zero_add]; exact h4.2 j y hy⟩
    · rw [to_of hpw hx] at q
      cases q
end Go.Proofs.YtnnbaodillnkkaaGreat
namespace Go.Proofs.YtnnbaodillnkkaaGreat
open Go.RowKit Go.Shelf
set_option linter.unusedVariables false
theorem own_rowC {W : World} {lo E sz n : Nat} {a : Option Addr} {c : Nat} {xs : List Value} (h : W.ownsRow lo E sz (.slice a n c) n xs) : RowC W W.heap.size a xs := by
  intro h0
  have hl := h.1
  have hn : n ≠ 0 := fun e => by rw [e, Nat.zero_mul] at hl; omega
  rcases own_some h (fun e => absurd e hn) with ⟨_, e, _⟩ | ⟨g, c', e, _, _, _, hx⟩
  · exact absurd e hn
  · injection e with e1
    refine ⟨g, 0, e1, own_ltW h g (by rw [e1]; rfl), fun j u hu => ?_⟩
    have := hx j u hu
    rw [show (⟨g, 0, none⟩ : Addr).add j = ⟨g, 0 + j, none⟩ by cases j <;> simp [Addr.add]] at this
    exact this
theorem TabAt.inn {W : World} {lo : Nat} {T : TV} {v : Value} (h : TabAt W lo T v) : ∃ a0 a1 a2 a3 a4 a5 a6 a7 c0 c1 c2 c3 c4 c5 c6 c7 us, v = .agg #[.slice a0 T.sc.length c0, .slice a1 T.co.length c1, .slice a2 T.ma.length c2, .slice a3 T.pr.length c3, .slice a4 T.fo.length c4, .slice a5 T.lk.length c5, .slice a6 T.dr.length c6, .slice a7 T.al.length c7] ∧ TabIn W T a0 a1 a2 a3 a4 a5 a6 a7 us ∧ Lst W lo ((.slice a0 T.sc.length c0 :: us) ++ [.slice a1 T.co.length c1] ++ [.slice a2 T.ma.length c2] ++ [.slice a3 T.pr.length c3] ++ [.slice a4 T.fo.length c4] ++ [.slice a5 T.lk.length c5] ++ [.slice a6 T.dr.length c6] ++ [.slice a7 T.al.length c7]) (tsOf T us) := by
  obtain ⟨v0, us, v1, v2, v3, v4, v5, v6, v7, rfl, hu, hL⟩ := h
  have hM : (T.sc.map (fun s => Ln.mk 68 2 s.2.length (encS2 s.2))).length = us.length := by rw [List.length_map, hu]
  have key : ∀ (k : Nat) (x : Value) (l : Ln), ((v0 :: us) ++ [v1] ++ [v2] ++ [v3] ++ [v4] ++ [v5] ++ [v6] ++ [v7])[k]? = some x → (tsOf T us)[k]? = some l → W.ownsRow lo l.E l.sz x l.n l.xs := fun k x l hx hl => hL.own k x l hx hl
  have A : ∀ (k : Nat), ((v0 :: us) ++ [v1] ++ [v2] ++ [v3] ++ [v4] ++ [v5] ++ [v6] ++ [v7])[us.length + 1 + k]? = [v1, v2, v3, v4, v5, v6, v7][k]? := fun k => by
    rw [show (v0 :: us) ++ [v1] ++ [v2] ++ [v3] ++ [v4] ++ [v5] ++ [v6] ++ [v7] = (v0 :: us) ++ [v1, v2, v3, v4, v5, v6, v7] by simp, List.getElem?_append_right (by simp)]
    congr 1
    simp
  have B : ∀ (k : Nat), (tsOf T us)[us.length + 1 + k]? = [Ln.mk 68 2 T.co.length (encS2 T.co), Ln.mk 53 2 T.ma.length (encM2 T.ma), Ln.mk 56 3 T.pr.length (encP3 T.pr), Ln.mk 59 2 T.fo.length (encF2 T.fo), Ln.mk 59 2 T.lk.length (encF2 T.lk), Ln.mk 68 2 T.dr.length (encS2 T.dr), Ln.mk 68 2 T.al.length (encS2 T.al)][k]? := fun k => by
    unfold tsOf
    rw [show ∀ (a : List Ln) (b c d e f g h : Ln), a ++ [b] ++ [c] ++ [d] ++ [e] ++ [f] ++ [g] ++ [h] = a ++ [b, c, d, e, f, g, h] from fun a b c d e f g h => by simp, List.getElem?_append_right (by rw [List.length_cons, hM]; omega)]
    congr 1
    rw [List.length_cons, hM]
    omega
  have o0 := key 0 v0 _ rfl rfl
  have o1 := key _ v1 _ (A 0) (B 0)
  have o2 := key _ v2 _ (A 1) (B 1)
  have o3 := key _ v3 _ (A 2) (B 2)
  have o4 := key _ v4 _ (A 3) (B 3)
  have o5 := key _ v5 _ (A 4) (B 4)
  have o6 := key _ v6 _ (A 5) (B 5)
  have o7 := key _ v7 _ (A 6) (B 6)
  obtain ⟨a0, c0, rfl⟩ := own_slice o0
  obtain ⟨a1, c1, rfl⟩ := own_slice o1
  obtain ⟨a2, c2, rfl⟩ := own_slice o2
  obtain ⟨a3, c3, rfl⟩ := own_slice o3
  obtain ⟨a4, c4, rfl⟩ := own_slice o4
  obtain ⟨a5, c5, rfl⟩ := own_slice o5
  obtain ⟨a6, c6, rfl⟩ := own_slice o6
  obtain ⟨a7, c7, rfl⟩ := own_slice o7
  refine ⟨a0, a1, a2, a3, a4, a5, a6, a7, c0, c1, c2, c3, c4, c5, c6, c7, us, rfl, ⟨hu, own_rowC o0, own_rowC o1, own_rowC o2, own_rowC o3, own_rowC o4, own_rowC o5, own_rowC o6, own_rowC o7, ?_⟩, hL⟩
  intro j x u hx hu2
  have oj := key (j + 1) u (Ln.mk 68 2 x.2.length (encS2 x.2)) (by
    rw [show ∀ (a : List Value) (b c d e f g h : Value), a ++ [b] ++ [c] ++ [d] ++ [e] ++ [f] ++ [g] ++ [h] = a ++ [b, c, d, e, f, g, h] from fun a b c d e f g h => by simp, List.getElem?_append_left (by have := (List.getElem?_eq_some_iff.1 hu2).1; simp; omega), List.getElem?_cons_succ]
    exact hu2) (by
    unfold tsOf
    rw [show ∀ (a : List Ln) (b c d e f g h : Ln), a ++ [b] ++ [c] ++ [d] ++ [e] ++ [f] ++ [g] ++ [h] = a ++ [b, c, d, e, f, g, h] from fun a b c d e f g h => by simp, List.getElem?_append_left (by rw [List.length_cons, hM]; have := (List.getElem?_eq_some_iff.1 hu2).1; omega), List.getElem?_cons_succ, List.getElem?_map, hx]
    rfl)
  obtain ⟨b, d, rfl⟩ := own_slice oj
  exact ⟨b, d, rfl, own_rowC oj⟩
end Go.Proofs.YtnnbaodillnkkaaGreat
namespace Go.Proofs.YtnnbaodillnkkaaGreat
open Go.RowKit Go.Shelf Go.Maps
set_option linter.unusedVariables false
def pairT (x : Option (Int × Int × Int)) : Value := .tuple #[.int .i32 ((x.map (·.2.1)).getD 0), .int .i32 ((x.map (·.2.2)).getD 0), .bool x.isSome]
set_option maxRecDepth 100000 in
set_option maxHeartbeats 4000000 in
theorem bkPair_any {T : TV} (hO : RowsOk T) (B : Nat) (r : Int) (hr : R32 r) (w : World) (h : BookAt w B T) : Calls Tryz.prog 10 #[.pointer (some ⟨B, 0, none⟩), .int .i32 r] w fun e w' => e = .returned (pairT (wholP T r)) ∧ Below w.heap.size w w' := by
  obtain ⟨M, n, c0, hs⟩ := h.pas
  have hl := pairLook hO hs hr
  unfold pairT twoV at *
  generalize ((wholP T r).map (·.2.1)).getD 0 = x1 at *
  generalize ((wholP T r).map (·.2.2)).getD 0 = x2 at *
  generalize (wholP T r).isSome = ok at *
  have bP := Blk.new w #[.int .i32 x1, .int .i32 x2] 85
  have q0 := bP.cell 0
  have q1 := bP.cell 1
  have HB : Hz (Below w.heap.size w (w.alloc (.cells #[.int .i32 x1, .int .i32 x2] 85))) := hide ((Below.refl _ w).alloc (Nat.le_refl _) _)
  clear hs h hO hr bP
  go_enter Tryz.func10, Tryz.ntmps10
  go_wp2_with fail
  generalize w.alloc (.cells #[.int .i32 x1, .int .i32 x2] 85) = w1 at *
  go_quiet (fail)
  go_wp2_with fail
  exact bodyPost_ret (v := .tuple #[.int .i32 x1, .int .i32 x2, .bool ok]) (by simp [results, Tryz.results10, go_sem]) rfl ⟨rfl, (unhide HB).trans ⟨rfl, rfl, rfl, Nat.le_refl _, fun _ _ => rfl⟩⟩
set_option maxRecDepth 100000 in
theorem bkJoined_any {T : TV} (hO : RowsOk T) (B : Nat) (a b : Int) (ha : R32 a) (hb : R32 b) (w : World) (h : BookAt w B T) : Calls Tryz.prog 12 #[.pointer (some ⟨B, 0, none⟩), .int .i32 a, .int .i32 b] w fun e w' => e = .returned (.tuple #[.int .i32 (((joinP T a b).map (·.1)).getD 0), .bool (joinP T a b).isSome]) ∧ w' = w := by
  obtain ⟨M, n, c0, hs⟩ := h.jos
  have hl := joinLook hO hs ha hb
  generalize ((joinP T a b).map (·.1)).getD 0 = x1 at *
  generalize (joinP T a b).isSome = ok at *
  clear hs h hO ha hb
  go_enter Tryz.func12, Tryz.ntmps12
  go_wp2_with fail
  exact bodyPost_ret (v := .tuple #[.int .i32 x1, .bool ok]) (by simp [results, Tryz.results12, go_sem]) rfl ⟨rfl, rfl⟩
set_option maxRecDepth 100000 in
theorem bkMarkOrWhole_any {T : TV} (hO : RowsOk T) (B : Nat) (r : Int) (hr : R32 r) (w : World) (h : BookAt w B T) : Calls Tryz.prog 36 #[.pointer (some ⟨B, 0, none⟩), .int .i32 r] w fun e w' => e = .returned (.bool (markB T r || wholB T r)) ∧ Below w.heap.size w w' := by
  obtain ⟨M, n, c0, hs⟩ := h.pas
  have hl := pairLook hO hs hr
  rw [whol_some] at hl
  have hcm := class_mark hO r
  unfold twoV at *
  generalize ((wholP T r).map (·.2.1)).getD 0 = x1 at *
  generalize ((wholP T r).map (·.2.2)).getD 0 = x2 at *
  have hB : Below w.heap.size w (w.alloc (.cells #[.int .i32 x1, .int .i32 x2] 85)) := (Below.refl _ w).alloc (Nat.le_refl _) _
  have HC := hide (bkClass_any hO B r hr _ (h.below hB))
  have HB := hide hB
  have HM := hide hcm
  clear hs h hO hr hB hcm
  generalize wholB T r = ok at *
  cases ok with
  | true =>
    go_enter Tryz.func36, Tryz.ntmps36
    go_wp2_with fail
    go_ret
    exact ⟨by rw [Bool.or_true]; rfl, unhide HB⟩
  | false =>
    go_enter Tryz.func36, Tryz.ntmps36
    go_wp2_with fail
    refine (unhide HC).mono ?_
    rintro e w1 ⟨rfl, rfl⟩
    clear HC
    go_wp2_with fail
    go_ret
    refine ⟨?_, unhide HB⟩
    rw [Bool.or_false, ← Bool.not_not (b := markB T r), ← unhide HM]
    rfl
set_option maxRecDepth 100000 in
set_option maxHeartbeats 4000000 in
theorem bkPlain_any {T : TV} (hO : RowsOk T) (B : Nat) (r : Int) (hr : R32 r) (w : World) (h : BookAt w B T) : Calls Tryz.prog 17 #[.pointer (some ⟨B, 0, none⟩), .int .i32 r] w fun e w' => e = .returned (.bool (plainB T r)) ∧ Below w.heap.size w w' := by
  obtain ⟨M, n, c0, hs⟩ := h.fos
  obtain ⟨a, c, hl, _⟩ := toLook (T := T) hO.t4 hs hr
  rw [to_some] at hl
  generalize (((toP T.fo r).map (fun x => runesL x.2)).getD []).length = ln at *
  have HW := hide (width_any r w)
  have hwr := width_rune r
  have HM := hide (bkMarkOrWhole_any hO B r hr w h)
  have HD := hide (fun w1 (hb : Below w.heap.size w w1) => bkDropped_any hO B r w1 (h.below hb))
  have hP : plainB T r = (runeB r && (!fromB T.fo r && (!(markB T r || wholB T r) && !drB T r))) := by
    unfold plainB
    cases runeB r <;> cases markB T r <;> cases wholB T r <;> cases drB T r <;> cases fromB T.fo r <;> rfl
  rw [hP]
  clear hs h hO hr hP
  obtain ⟨wd, hwd⟩ : ∃ wd, widthOf r = wd := ⟨_, rfl⟩
  rw [hwd] at HW hwr
  clear hwd
  generalize runeB r = b1 at *
  generalize fromB T.fo r = b2 at *
  generalize (markB T r || wholB T r) = b3 at *
  generalize drB T r = b4 at *
  cases b1 with
  | false =>
    obtain rfl : wd = 0 := by simpa using hwr
    clear hwr
    cases b2 with
    | true =>
      go_enter Tryz.func17, Tryz.ntmps17
      go_wp2_with fail
      refine (unhide HW).mono ?_
      rintro e w1 ⟨rfl, rfl⟩
      go_wp2_with fail
      go_ret
      exact ⟨rfl, Below.refl _ _⟩
    | false =>
      go_enter Tryz.func17, Tryz.ntmps17
      go_wp2_with fail
      refine (unhide HW).mono ?_
      rintro e w1 ⟨rfl, rfl⟩
      go_wp2_with fail
      go_ret
      exact ⟨rfl, Below.refl _ _⟩
  | true =>
    have hw0 : (wd == 0) = false := hwr
    have hw1 : ¬ wd = 0 := by simpa using hwr
    clear hwr
    cases b2 with
    | true =>
      go_enter Tryz.func17, Tryz.ntmps17
      go_wp2_with fail
      refine (unhide HW).mono ?_
      rintro e w1 ⟨rfl, rfl⟩
      go_wp2_with fail
      go_ret
      exact ⟨rfl, Below.refl _ _⟩
    | false =>
      go_enter Tryz.func17, Tryz.ntmps17
      go_wp2_with fail
      refine (unhide HW).mono ?_
      rintro e w1 ⟨rfl, rfl⟩
      go_wp2_with fail
      refine (unhide HM).mono ?_
      rintro e w2 ⟨rfl, hb2⟩
      have HB2 := hide hb2
      clear hb2 HM
      cases b3 with
      | true =>
        go_wp2_with fail
        go_ret
        exact ⟨rfl, unhide HB2⟩
      | false =>
        go_wp2_with fail
        refine (unhide HD w2 (unhide HB2)).mono ?_
        rintro e w3 ⟨rfl, hb3⟩
        have HB3 := hide ((unhide HB2).trans (hb3.mono (unhide HB2).size))
        clear hb3 HD
        go_wp2_with fail
        go_ret
        refine ⟨?_, unhide HB3⟩
        show Ending.returned (.bool (wd != 0 && !b4)) = _
        rw [show (wd != 0) = true by simpa using hw1]
        rfl
structure BkT (w : World) (B : Nat) (T : TV) (a0 a1 a2 a3 a4 a5 a6 a7 : Option Addr) (c0 c1 c2 c3 c4 c5 c6 c7 : Nat) (us : List Value) : Prop where
  k0 : w.cell? ⟨B, 0, none⟩ = some (.slice a0 T.sc.length c0)
  k1 : w.cell? ⟨B, 1, none⟩ = some (.slice a1 T.co.length c1)
  k2 : w.cell? ⟨B, 2, none⟩ = some (.slice a2 T.ma.length c2)
  k3 : w.cell? ⟨B, 3, none⟩ = some (.slice a3 T.pr.length c3)
  k4 : w.cell? ⟨B, 4, none⟩ = some (.slice a4 T.fo.length c4)
  k5 : w.cell? ⟨B, 5, none⟩ = some (.slice a5 T.lk.length c5)
  k6 : w.cell? ⟨B, 6, none⟩ = some (.slice a6 T.dr.length c6)
  k7 : w.cell? ⟨B, 7, none⟩ = some (.slice a7 T.al.length c7)
  lt : B < w.heap.size
  ti : TabIn w T a0 a1 a2 a3 a4 a5 a6 a7 us
theorem BkT.below {w w' : World} {B : Nat} {T : TV} {a0 a1 a2 a3 a4 a5 a6 a7 : Option Addr} {c0 c1 c2 c3 c4 c5 c6 c7 : Nat} {us : List Value} (h : BkT w B T a0 a1 a2 a3 a4 a5 a6 a7 c0 c1 c2 c3 c4 c5 c6 c7 us) (hb : Below w.heap.size w w') : BkT w' B T a0 a1 a2 a3 a4 a5 a6 a7 c0 c1 c2 c3 c4 c5 c6 c7 us := by
  have k : ∀ j, w'.cell? ⟨B, j, none⟩ = w.cell? ⟨B, j, none⟩ := fun j => hb.cell (p := ⟨B, j, none⟩) h.lt
  exact ⟨(k 0).trans h.k0, (k 1).trans h.k1, (k 2).trans h.k2, (k 3).trans h.k3, (k 4).trans h.k4, (k 5).trans h.k5, (k 6).trans h.k6, (k 7).trans h.k7, Nat.lt_of_lt_of_le h.lt hb.size, h.ti.lower hb⟩
theorem BookAt.tabs {w : World} {B : Nat} {T : TV} (h : BookAt w B T) : ∃ a0 a1 a2 a3 a4 a5 a6 a7 c0 c1 c2 c3 c4 c5 c6 c7 us, BkT w B T a0 a1 a2 a3 a4 a5 a6 a7 c0 c1 c2 c3 c4 c5 c6 c7 us := by
  obtain ⟨lo, t0, t1, t2, t3, t4, t5, t6, t7, sv, bs, Bc, Bd, Ba, M5, n5, M6, n6, M7, n7, MF, nF, ML, nL, h⟩ := h
  obtain ⟨a0, a1, a2, a3, a4, a5, a6, a7, c0, c1, c2, c3, c4, c5, c6, c7, us, e, ti, _⟩ := h.tb.inn
  injection e with e
  have key : ∀ j v, #[t0, t1, t2, t3, t4, t5, t6, t7][j]? = some v → w.cell? ⟨B, j, none⟩ = some v := fun j v hv => by
    rw [h.bx.cell j, ← hv]
    have hj : j < 8 := (Array.getElem?_eq_some_iff.1 hv).1
    obtain rfl | rfl | rfl | rfl | rfl | rfl | rfl | rfl : j = 0 ∨ j = 1 ∨ j = 2 ∨ j = 3 ∨ j = 4 ∨ j = 5 ∨ j = 6 ∨ j = 7 := by omega
    all_goals rfl
  rw [e] at key
  exact ⟨a0, a1, a2, a3, a4, a5, a6, a7, c0, c1, c2, c3, c4, c5, c6, c7, us, key 0 _ rfl, key 1 _ rfl, key 2 _ rfl, key 3 _ rfl, key 4 _ rfl, key 5 _ rfl, key 6 _ rfl, key 7 _ rfl, h.bx.lt, ti⟩
end Go.Proofs.YtnnbaodillnkkaaGreat
