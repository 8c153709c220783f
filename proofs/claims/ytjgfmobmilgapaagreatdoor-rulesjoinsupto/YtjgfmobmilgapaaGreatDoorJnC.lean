/- Two tables put together (guiselaw5.both). -/
import Derived.Test.YtjgfmobmilgapaaGreatDoorM24
namespace Go.Proofs.YtjgfmobmilgapaaGreatDoor
open Go.RowKit Go.Shelf
set_option linter.unusedVariables false
/-- A table and behind it another one. -/
def addT (T U : TV) : TV := { TV0 with sc := T.sc ++ U.sc, co := T.co ++ U.co, ma := T.ma ++ U.ma, pr := T.pr ++ U.pr, fo := T.fo ++ U.fo, lk := T.lk ++ U.lk, dr := T.dr ++ U.dr, al := T.al ++ U.al }
/-- A table in memory, as it is handed on. -/
def TabX (w : World) (T : TV) (X : Array Value) : Prop := ∃ a0 a1 a2 a3 a4 a5 a6 a7 c0 c1 c2 c3 c4 c5 c6 c7 us, X = tabV T a0 a1 a2 a3 a4 a5 a6 a7 c0 c1 c2 c3 c4 c5 c6 c7 ∧ TabIn w T a0 a1 a2 a3 a4 a5 a6 a7 us
/-- The call at work: the three boxes, the rows that it owns, the other table. -/
structure JnS (W w : World) (N : Nat) (T U : TV) (bx : Array Value) (vl : List Value) (ll : List Ln) (b0 b1 b2 b3 b4 b5 b6 b7 : Option Addr) (ut : List Value) : Prop where
  bt : Blk w N bx 28
  br : Blk w (N + 2) #[.slice none 0 0, .slice none 0 0, .slice none 0 0, .slice none 0 0, .slice none 0 0, .slice none 0 0, .slice none 0 0, .slice none 0 0] 28
  li : Lst w (N + 3) vl ll
  ui : TabIn w U b0 b1 b2 b3 b4 b5 b6 b7 ut
  bl : Below N W w
  lw : N + 3 ≤ w.heap.size
theorem st_tab {ops : Array Oper} {rest : List Oper} {op : Oper} {a : Act} {w : World} {Q : Exit → Act → World → Prop} (hgd : op.guard = none) (x y : Operand) (ho : op.op = .store 28 x y) (b : Nat) (cs : List Value) (hx : a.eval x = .pointer (some ⟨b, 0, none⟩)) (hy : a.eval y = .agg cs.toArray) {ds : Array Value} (hb : Blk w b ds 28) (hd : ds.size = 8) (hl : cs.length = 8) (h1 : ∀ v ∈ cs, v.oneCell' = true) (h : wpList Tryz.prog ops Q rest (a.put op.dst undef) (w.setCells b 0 cs)) : wpList Tryz.prog ops Q (op :: rest) a w :=
  wpList_store_mid hgd _ x y ho b 0 cs.toArray hx hy (blk_there hb _ (by simp; omega)) (by rw [List.size_toArray, hl]; kernel_rfl) (all_oneCell_toArray h1) h
theorem ld_tab {ops : Array Oper} {rest : List Oper} {op : Oper} {a : Act} {w : World} {Q : Exit → Act → World → Prop} (hgd : op.guard = none) (x : Operand) (ho : op.op = .load 28 x) (b : Nat) (hx : a.eval x = .pointer (some ⟨b, 0, none⟩)) (cs : List Value) (hc : w.rangeAt b 0 cs) (hl : cs.length = 8) (h : wpList Tryz.prog ops Q rest (a.put op.dst (.agg cs.toArray)) w) : wpList Tryz.prog ops Q (op :: rest) a w :=
  wpList_load_mid hgd _ x ho b 0 hx cs _ hc Tryz.underlying28 rfl (by rw [hl]; kernel_rfl) h
theorem JnS.hit {W w w1 : World} {N i g g' c' n : Nat} {T U : TV} {bx : Array Value} {vl : List Value} {ll : List Ln} {v : Value} {l l' : Ln} {b0 b1 b2 b3 b4 b5 b6 b7 : Option Addr} {ut : List Value} (h : JnS W w N T U bx vl ll b0 b1 b2 b3 b4 b5 b6 b7 ut) (hN : W.heap.size = N) (hUI : TabIn W U b0 b1 b2 b3 b4 b5 b6 b7 ut) (hv : vl[i]? = some v) (hl : ll[i]? = some l) (hb : v.ownBlock = some g) (hE : l.E ≠ 28) (hg : w.grownBy w1 (some g)) (ho : w1.ownsRow (N + 3) l'.E l'.sz (.slice (some ⟨g', 0, none⟩) n c') l'.n l'.xs) (hf : g' = g ∨ g' = w.heap.size) : JnS W (w1.setCell ⟨N, i, none⟩ (.slice (some ⟨g', 0, none⟩) n c')) N T U (bx.setIfInBounds i (.slice (some ⟨g', 0, none⟩) n c')) (vl.set i (.slice (some ⟨g', 0, none⟩) n c')) (ll.set i l') b0 b1 b2 b3 b4 b5 b6 b7 ut ∧ Blk w1 N bx 28 := by
  have how := h.li.own i v l hv hl
  have hgl := (how.lt g hb).1
  have b1 := h.bt.kept hg (by rw [← hb]; exact blk_row h.bt how hE)
  have b2 := h.br.kept hg (by rw [← hb]; exact blk_row h.br how hE)
  have q := grown_set' w1 N i (.slice (some ⟨g', 0, none⟩) n c')
  have hl2 := (h.li.put hv hl (by rw [hb]; exact hg) ho (by rw [hb]; rcases hf with rfl | rfl; exact .inl rfl; exact .inr rfl)).kept q (fun b e => by have := Option.some.inj e; omega)
  have hbl : Below N W w1 := h.bl.grown hg (by have := h.lw; omega) (fun k hk => by have := Option.some.inj hk; omega)
  have hbl2 := hbl.setCell (p := ⟨N, i, none⟩) (Nat.le_refl _) (.slice (some ⟨g', 0, none⟩) n c')
  refine ⟨⟨b1.set i _, b2.kept q (fun e => by have := Option.some.inj e; omega), hl2, hUI.lower (by rw [hN]; exact hbl2), hbl2, by have := h.lw; have := hg.size; have := q.size; omega⟩, b1⟩
theorem both_tab {w : World} {lo : Nat} {T U : TV} {vs ut : List Value} {hh0 hh1 hh2 hh3 hh4 hh5 hh6 hh7 : Nat} {ee0 ee1 ee2 ee3 ee4 ee5 ee6 ee7 : Nat} {b0 b1 b2 b3 b4 b5 b6 b7 : Option Addr} (hvs : vs.length = T.sc.length) (h : Lst w lo ([.slice (some ⟨hh0, 0, none⟩) (T.sc.length + U.sc.length) ee0, .slice (some ⟨hh1, 0, none⟩) (T.co.length + U.co.length) ee1, .slice (some ⟨hh2, 0, none⟩) (T.ma.length + U.ma.length) ee2, .slice (some ⟨hh3, 0, none⟩) (T.pr.length + U.pr.length) ee3, .slice (some ⟨hh4, 0, none⟩) (T.fo.length + U.fo.length) ee4, .slice (some ⟨hh5, 0, none⟩) (T.lk.length + U.lk.length) ee5, .slice (some ⟨hh6, 0, none⟩) (T.dr.length + U.dr.length) ee6, .slice (some ⟨hh7, 0, none⟩) (T.al.length + U.al.length) ee7] ++ vs) ([Ln.mk 64 2 (T.sc.length + U.sc.length) (encSc T.sc vs ++ encSc U.sc ut), Ln.mk 68 2 (T.co.length + U.co.length) (encS2 T.co ++ encS2 U.co), Ln.mk 71 2 (T.ma.length + U.ma.length) (encM2 T.ma ++ encM2 U.ma), Ln.mk 74 3 (T.pr.length + U.pr.length) (encP3 T.pr ++ encP3 U.pr), Ln.mk 77 2 (T.fo.length + U.fo.length) (encF2 T.fo ++ encF2 U.fo), Ln.mk 77 2 (T.lk.length + U.lk.length) (encF2 T.lk ++ encF2 U.lk), Ln.mk 68 2 (T.dr.length + U.dr.length) (encS2 T.dr ++ encS2 U.dr), Ln.mk 68 2 (T.al.length + U.al.length) (encS2 T.al ++ encS2 U.al)] ++ T.sc.map (fun s => Ln.mk 68 2 s.2.length (encS2 s.2)))) (hU : TabIn w U b0 b1 b2 b3 b4 b5 b6 b7 ut) : TabX w (addT T U) #[.slice (some ⟨hh0, 0, none⟩) (T.sc.length + U.sc.length) ee0, .slice (some ⟨hh1, 0, none⟩) (T.co.length + U.co.length) ee1, .slice (some ⟨hh2, 0, none⟩) (T.ma.length + U.ma.length) ee2, .slice (some ⟨hh3, 0, none⟩) (T.pr.length + U.pr.length) ee3, .slice (some ⟨hh4, 0, none⟩) (T.fo.length + U.fo.length) ee4, .slice (some ⟨hh5, 0, none⟩) (T.lk.length + U.lk.length) ee5, .slice (some ⟨hh6, 0, none⟩) (T.dr.length + U.dr.length) ee6, .slice (some ⟨hh7, 0, none⟩) (T.al.length + U.al.length) ee7] := by
  have o0 := h.own 0 _ _ rfl rfl
  have o1 := h.own 1 _ _ rfl rfl
  have o2 := h.own 2 _ _ rfl rfl
  have o3 := h.own 3 _ _ rfl rfl
  have o4 := h.own 4 _ _ rfl rfl
  have o5 := h.own 5 _ _ rfl rfl
  have o6 := h.own 6 _ _ rfl rfl
  have o7 := h.own 7 _ _ rfl rfl
  refine ⟨some ⟨hh0, 0, none⟩, some ⟨hh1, 0, none⟩, some ⟨hh2, 0, none⟩, some ⟨hh3, 0, none⟩, some ⟨hh4, 0, none⟩, some ⟨hh5, 0, none⟩, some ⟨hh6, 0, none⟩, some ⟨hh7, 0, none⟩, ee0, ee1, ee2, ee3, ee4, ee5, ee6, ee7, vs ++ ut, by simp only [tabV, addT, List.length_append], ⟨by show (vs ++ ut).length = (T.sc ++ U.sc).length; rw [List.length_append, List.length_append, hvs, hU.lu], by show RowC w w.heap.size _ (encSc (T.sc ++ U.sc) (vs ++ ut)); rw [encSc_append T.sc U.sc vs ut hvs]; exact own_rowC o0, by show RowC w w.heap.size _ (encS2 (T.co ++ U.co)); rw [encS2_app T.co U.co]; exact own_rowC o1, by show RowC w w.heap.size _ (encM2 (T.ma ++ U.ma)); rw [encM2_app T.ma U.ma]; exact own_rowC o2, by show RowC w w.heap.size _ (encP3 (T.pr ++ U.pr)); rw [encP3_app T.pr U.pr]; exact own_rowC o3, by show RowC w w.heap.size _ (encF2 (T.fo ++ U.fo)); rw [encF2_app T.fo U.fo]; exact own_rowC o4, by show RowC w w.heap.size _ (encF2 (T.lk ++ U.lk)); rw [encF2_app T.lk U.lk]; exact own_rowC o5, by show RowC w w.heap.size _ (encS2 (T.dr ++ U.dr)); rw [encS2_app T.dr U.dr]; exact own_rowC o6, by show RowC w w.heap.size _ (encS2 (T.al ++ U.al)); rw [encS2_app T.al U.al]; exact own_rowC o7, ?_⟩⟩
  intro j x u hx hu
  have hx : (T.sc ++ U.sc)[j]? = some x := hx
  by_cases hj : j < T.sc.length
  · rw [List.getElem?_append_left hj] at hx
    rw [List.getElem?_append_left (by omega)] at hu
    have hx2 : (T.sc.map (fun s => Ln.mk 68 2 s.2.length (encS2 s.2)))[j]? = some (Ln.mk 68 2 x.2.length (encS2 x.2)) := by rw [List.getElem?_map, hx]; rfl
    have oj := h.own (j + 8) u (Ln.mk 68 2 x.2.length (encS2 x.2)) hu hx2
    obtain ⟨b, d, rfl⟩ := own_slice oj
    exact ⟨b, d, rfl, own_rowC oj⟩
  · rw [List.getElem?_append_right (by omega)] at hx
    rw [List.getElem?_append_right (by omega)] at hu
    rw [hvs] at hu
    exact hU.rs (j - T.sc.length) x u hx hu
set_option maxRecDepth 100000 in
set_option maxHeartbeats 4000000 in
theorem both_any (T U : TV) (hO : TabOk T) (hU : TabOk U) (a0 a1 a2 a3 a4 a5 a6 a7 : Option Addr) (c0 c1 c2 c3 c4 c5 c6 c7 : Nat) (us : List Value) (b0 b1 b2 b3 b4 b5 b6 b7 : Option Addr) (d0 d1 d2 d3 d4 d5 d6 d7 : Nat) (ut : List Value) (W : World) (hA : TabIn W T a0 a1 a2 a3 a4 a5 a6 a7 us) (hB : TabIn W U b0 b1 b2 b3 b4 b5 b6 b7 ut) (hR : EnvR W) :
    Calls Tryz.prog 8 #[.agg (tabV T a0 a1 a2 a3 a4 a5 a6 a7 c0 c1 c2 c3 c4 c5 c6 c7), .agg (tabV U b0 b1 b2 b3 b4 b5 b6 b7 d0 d1 d2 d3 d4 d5 d6 d7)] W fun e w' => ∃ X, e = .returned (.agg X) ∧ TabX w' (addT T U) X ∧ Below W.heap.size W w' := by
  have hmx : Tryz.prog.follows .mixedOrders = true := by kernel_rfl
  have hut : ∀ u ∈ ut, u.oneCell' = true := fun u hu => by
    obtain ⟨j, hj⟩ := List.mem_iff_getElem?.1 hu
    obtain ⟨x, hx⟩ : ∃ x, U.sc[j]? = some x := ⟨_, List.getElem?_eq_getElem (by have := (List.getElem?_eq_some_iff.1 hj).1; have := hB.lu; omega)⟩
    obtain ⟨b, d, rfl, _⟩ := hB.rs j x u hx hj
    rfl
  have HUT := hide hut
  have HUL := hide hB.lu
  obtain ⟨iScript, hiScript⟩ := info_parts infoScript
  have HIScript := hide hiScript
  clear hiScript
  obtain ⟨iSpan, hiSpan⟩ := info_parts infoSpan
  have HISpan := hide hiSpan
  clear hiSpan
  obtain ⟨iMark, hiMark⟩ := info_parts infoMark
  have HIMark := hide hiMark
  clear hiMark
  obtain ⟨iPair, hiPair⟩ := info_parts infoPair
  have HIPair := hide hiPair
  clear hiPair
  obtain ⟨iMap, hiMap⟩ := info_parts infoMap
  have HIMap := hide hiMap
  clear hiMap
  have hA1 : Below W.heap.size W (((W.alloc (.cells #[.slice a0 T.sc.length c0, .slice a1 T.co.length c1, .slice a2 T.ma.length c2, .slice a3 T.pr.length c3, .slice a4 T.fo.length c4, .slice a5 T.lk.length c5, .slice a6 T.dr.length c6, .slice a7 T.al.length c7] 28)).alloc (.cells #[.slice b0 U.sc.length d0, .slice b1 U.co.length d1, .slice b2 U.ma.length d2, .slice b3 U.pr.length d3, .slice b4 U.fo.length d4, .slice b5 U.lk.length d5, .slice b6 U.dr.length d6, .slice b7 U.al.length d7] 28)).alloc (.cells #[.slice none 0 0, .slice none 0 0, .slice none 0 0, .slice none 0 0, .slice none 0 0, .slice none 0 0, .slice none 0 0, .slice none 0 0] 28)) := (((Below.refl _ W).alloc (Nat.le_refl _) _).alloc (by simp) _).alloc (by simp; omega) _
  have B0 := ((Blk.new W #[.slice a0 T.sc.length c0, .slice a1 T.co.length c1, .slice a2 T.ma.length c2, .slice a3 T.pr.length c3, .slice a4 T.fo.length c4, .slice a5 T.lk.length c5, .slice a6 T.dr.length c6, .slice a7 T.al.length c7] 28).alloc (.cells #[.slice b0 U.sc.length d0, .slice b1 U.co.length d1, .slice b2 U.ma.length d2, .slice b3 U.pr.length d3, .slice b4 U.fo.length d4, .slice b5 U.lk.length d5, .slice b6 U.dr.length d6, .slice b7 U.al.length d7] 28)).alloc (.cells #[.slice none 0 0, .slice none 0 0, .slice none 0 0, .slice none 0 0, .slice none 0 0, .slice none 0 0, .slice none 0 0, .slice none 0 0] 28)
  have B1 := (Blk.new (W.alloc (.cells #[.slice a0 T.sc.length c0, .slice a1 T.co.length c1, .slice a2 T.ma.length c2, .slice a3 T.pr.length c3, .slice a4 T.fo.length c4, .slice a5 T.lk.length c5, .slice a6 T.dr.length c6, .slice a7 T.al.length c7] 28)) #[.slice b0 U.sc.length d0, .slice b1 U.co.length d1, .slice b2 U.ma.length d2, .slice b3 U.pr.length d3, .slice b4 U.fo.length d4, .slice b5 U.lk.length d5, .slice b6 U.dr.length d6, .slice b7 U.al.length d7] 28).alloc (.cells #[.slice none 0 0, .slice none 0 0, .slice none 0 0, .slice none 0 0, .slice none 0 0, .slice none 0 0, .slice none 0 0, .slice none 0 0] 28)
  have B2 := Blk.new ((W.alloc (.cells #[.slice a0 T.sc.length c0, .slice a1 T.co.length c1, .slice a2 T.ma.length c2, .slice a3 T.pr.length c3, .slice a4 T.fo.length c4, .slice a5 T.lk.length c5, .slice a6 T.dr.length c6, .slice a7 T.al.length c7] 28)).alloc (.cells #[.slice b0 U.sc.length d0, .slice b1 U.co.length d1, .slice b2 U.ma.length d2, .slice b3 U.pr.length d3, .slice b4 U.fo.length d4, .slice b5 U.lk.length d5, .slice b6 U.dr.length d6, .slice b7 U.al.length d7] 28)) #[.slice none 0 0, .slice none 0 0, .slice none 0 0, .slice none 0 0, .slice none 0 0, .slice none 0 0, .slice none 0 0, .slice none 0 0] 28
  rw [World.size_alloc] at B1
  rw [World.size_alloc, World.size_alloc] at B2
  have HW1 := hide (And.intro hA1 (And.intro B0 (And.intro B1 B2)))
  have HWH := hide (keepWhole_any T hO a0 a1 a2 a3 a4 a5 a6 a7 c0 c1 c2 c3 c4 c5 c6 c7 us _ (hA.lower hA1) (hR.lo hR.big hA1 hA1.size))
  have HLS := hide (And.intro hO hU)
  have HUI := hide hB
  unfold tabV at HWH ⊢
  have z0 := B0.cell 0
  have z1 := B0.cell 1
  have z2 := B0.cell 2
  have z3 := B0.cell 3
  have z4 := B0.cell 4
  have z5 := B0.cell 5
  have z6 := B0.cell 6
  have z7 := B0.cell 7
  clear hA1 B0 B1 B2 hA hB hR hO hU hut
  go_enter Tryz.func8, Tryz.ntmps8
  go_wp2_with fail
  generalize ((W.alloc (.cells #[.slice a0 T.sc.length c0, .slice a1 T.co.length c1, .slice a2 T.ma.length c2, .slice a3 T.pr.length c3, .slice a4 T.fo.length c4, .slice a5 T.lk.length c5, .slice a6 T.dr.length c6, .slice a7 T.al.length c7] 28)).alloc (.cells #[.slice b0 U.sc.length d0, .slice b1 U.co.length d1, .slice b2 U.ma.length d2, .slice b3 U.pr.length d3, .slice b4 U.fo.length d4, .slice b5 U.lk.length d5, .slice b6 U.dr.length d6, .slice b7 U.al.length d7] 28)).alloc (.cells #[.slice none 0 0, .slice none 0 0, .slice none 0 0, .slice none 0 0, .slice none 0 0, .slice none 0 0, .slice none 0 0, .slice none 0 0] 28) = w1 at *
  obtain ⟨N, hN⟩ : ∃ N, N = W.heap.size := ⟨_, rfl⟩
  rw [← hN] at HW1 ⊢
  refine (unhide HWH).mono ?_
  rintro e w2 ⟨g, vs, he, hwh, hb2⟩
  obtain ⟨cs, hcs⟩ : ∃ cs : List Value, cs = [.slice (some ⟨g 0, 0, none⟩) T.sc.length (T.sc.length + 8), .slice (some ⟨g 1, 0, none⟩) T.co.length (T.co.length + 8), .slice (some ⟨g 2, 0, none⟩) T.ma.length (T.ma.length + 8), .slice (some ⟨g 3, 0, none⟩) T.pr.length (T.pr.length + 8), .slice (some ⟨g 4, 0, none⟩) T.fo.length (T.fo.length + 8), .slice (some ⟨g 5, 0, none⟩) T.lk.length (T.lk.length + 8), .slice (some ⟨g 6, 0, none⟩) T.dr.length (T.dr.length + 8), .slice (some ⟨g 7, 0, none⟩) T.al.length (T.al.length + 8)] := ⟨_, rfl⟩
  have hcl : cs.length = 8 := by rw [hcs]; rfl
  have hc1 : ∀ v ∈ cs, v.oneCell' = true := by intro v hv; rw [hcs] at hv; simp only [List.mem_cons, List.not_mem_nil, or_false] at hv; rcases hv with rfl | rfl | rfl | rfl | rfl | rfl | rfl | rfl <;> rfl
  obtain rfl : e = .returned (.agg cs.toArray) := by rw [hcs]; exact he
  clear he
  have HC1 := hide hc1
  have HVS := hide hwh.lu
  have HCL := hide hcl
  have hw13 : N + 3 ≤ w1.heap.size := (unhide HW1).2.2.2.lt
  have hWN := hN.symm
  have HWN := hide hN.symm
  have hb2N : Below N W w2 := (unhide HW1).1.trans (hb2.mono (by omega))
  have bk0 := (unhide HW1).2.1.below hb2 (unhide HW1).2.1.lt
  have bk1 := (unhide HW1).2.2.1.below hb2 (unhide HW1).2.2.1.lt
  have bk2 := (unhide HW1).2.2.2.below hb2 (unhide HW1).2.2.2.lt
  have HB0 := hide bk0
  have hq := setCells_grown N cs 0 w2
  have HS0 : Hz (JnS W (w2.setCells N 0 cs) N T U #[.slice (some ⟨g 0, 0, none⟩) T.sc.length (T.sc.length + 8), .slice (some ⟨g 1, 0, none⟩) T.co.length (T.co.length + 8), .slice (some ⟨g 2, 0, none⟩) T.ma.length (T.ma.length + 8), .slice (some ⟨g 3, 0, none⟩) T.pr.length (T.pr.length + 8), .slice (some ⟨g 4, 0, none⟩) T.fo.length (T.fo.length + 8), .slice (some ⟨g 5, 0, none⟩) T.lk.length (T.lk.length + 8), .slice (some ⟨g 6, 0, none⟩) T.dr.length (T.dr.length + 8), .slice (some ⟨g 7, 0, none⟩) T.al.length (T.al.length + 8)] ([.slice (some ⟨g 0, 0, none⟩) T.sc.length (T.sc.length + 8), .slice (some ⟨g 1, 0, none⟩) T.co.length (T.co.length + 8), .slice (some ⟨g 2, 0, none⟩) T.ma.length (T.ma.length + 8), .slice (some ⟨g 3, 0, none⟩) T.pr.length (T.pr.length + 8), .slice (some ⟨g 4, 0, none⟩) T.fo.length (T.fo.length + 8), .slice (some ⟨g 5, 0, none⟩) T.lk.length (T.lk.length + 8), .slice (some ⟨g 6, 0, none⟩) T.dr.length (T.dr.length + 8), .slice (some ⟨g 7, 0, none⟩) T.al.length (T.al.length + 8)] ++ vs) ([Ln.mk 64 2 T.sc.length (encSc T.sc vs), Ln.mk 68 2 T.co.length (encS2 T.co), Ln.mk 71 2 T.ma.length (encM2 T.ma), Ln.mk 74 3 T.pr.length (encP3 T.pr), Ln.mk 77 2 T.fo.length (encF2 T.fo), Ln.mk 77 2 T.lk.length (encF2 T.lk), Ln.mk 68 2 T.dr.length (encS2 T.dr), Ln.mk 68 2 T.al.length (encS2 T.al)] ++ T.sc.map (fun s => Ln.mk 68 2 s.2.length (encS2 s.2))) b0 b1 b2 b3 b4 b5 b6 b7 ut) := hide (by
    have hl := (hwh.lst.lower (lo' := N + 3) (by omega)).kept hq (fun b e => by have := Option.some.inj e; omega)
    have hbl := hb2N.grown hq (by have := hb2.size; omega) (fun k hk => by have := Option.some.inj hk; omega)
    exact ⟨by rw [show #[.slice (some ⟨g 0, 0, none⟩) T.sc.length (T.sc.length + 8), .slice (some ⟨g 1, 0, none⟩) T.co.length (T.co.length + 8), .slice (some ⟨g 2, 0, none⟩) T.ma.length (T.ma.length + 8), .slice (some ⟨g 3, 0, none⟩) T.pr.length (T.pr.length + 8), .slice (some ⟨g 4, 0, none⟩) T.fo.length (T.fo.length + 8), .slice (some ⟨g 5, 0, none⟩) T.lk.length (T.lk.length + 8), .slice (some ⟨g 6, 0, none⟩) T.dr.length (T.dr.length + 8), .slice (some ⟨g 7, 0, none⟩) T.al.length (T.al.length + 8)] = cs.toArray by rw [hcs]]; exact setCells_all bk0 cs (by rw [hcl]; rfl), bk2.kept hq (fun e => by have := Option.some.inj e; omega), hl, (unhide HUI).lower (by rw [hWN]; exact hbl), hbl, by have := hq.size; have := bk2.lt; omega⟩)
  have HBU0 := hide (bk1.kept hq (fun e => by have := Option.some.inj e; omega))
  clear hN hWN hcs hcl hc1 hq bk0 bk1 bk2 hwh hb2 hb2N hw13 z0 z1 z2 z3 z4 z5 z6 z7 HWH HW1
  have how := (unhide HS0).li.own 0 _ _ rfl rfl
  dsimp only at how
  have xx := (unhide HS0).bt.cell 0
  have yy := (unhide HBU0).cell 0
  have hlen : T.sc.length + U.sc.length ≤ 2000000 := by have h1 := (unhide HLS).1.n0; have h2 := (unhide HLS).2.n0; omega
  have HO := hide how
  clear how
  go_wp2_with (first | (refine st_tab rfl _ _ rfl N cs rfl rfl (unhide HB0) rfl (unhide HCL) (unhide HC1) ?_) | (at_builtin; refine append_any rfl _ _ 22 rfl (N + 3) 64 iScript (.agg #[.string ⟨#[]⟩, .slice none 0 0]) 2 40 Tryz.underlying22 (unhide HIScript) rfl (by decide) (by decide) (g 0) T.sc.length (T.sc.length + 8) (encSc T.sc vs) rfl (unhide HO) b0 U.sc.length d0 _ (encSc U.sc ut) rfl (encSc_length U.sc ut (unhide HUL)) (unhide HS0).ui.r0 (encSc_one U.sc ut (unhide HUT)) hlen (unhide HS0).lw ?_))
  intro hh0 ee0 uu0 ho hg hf
  obtain ⟨hs, hbN⟩ := (unhide HS0).hit (unhide HWN) (unhide HUI) (i := 0) rfl rfl rfl (show (64 : Nat) ≠ 28 by decide) hg (l' := Ln.mk 64 2 (T.sc.length + U.sc.length) (encSc T.sc vs ++ encSc U.sc ut)) ho (by first | exact hf | simpa using hf)
  have HS1 : Hz (JnS W (uu0.setCell ⟨N, 0, none⟩ (.slice (some ⟨hh0, 0, none⟩) (T.sc.length + U.sc.length) ee0)) N T U #[.slice (some ⟨hh0, 0, none⟩) (T.sc.length + U.sc.length) ee0, .slice (some ⟨g 1, 0, none⟩) T.co.length (T.co.length + 8), .slice (some ⟨g 2, 0, none⟩) T.ma.length (T.ma.length + 8), .slice (some ⟨g 3, 0, none⟩) T.pr.length (T.pr.length + 8), .slice (some ⟨g 4, 0, none⟩) T.fo.length (T.fo.length + 8), .slice (some ⟨g 5, 0, none⟩) T.lk.length (T.lk.length + 8), .slice (some ⟨g 6, 0, none⟩) T.dr.length (T.dr.length + 8), .slice (some ⟨g 7, 0, none⟩) T.al.length (T.al.length + 8)] ([.slice (some ⟨hh0, 0, none⟩) (T.sc.length + U.sc.length) ee0, .slice (some ⟨g 1, 0, none⟩) T.co.length (T.co.length + 8), .slice (some ⟨g 2, 0, none⟩) T.ma.length (T.ma.length + 8), .slice (some ⟨g 3, 0, none⟩) T.pr.length (T.pr.length + 8), .slice (some ⟨g 4, 0, none⟩) T.fo.length (T.fo.length + 8), .slice (some ⟨g 5, 0, none⟩) T.lk.length (T.lk.length + 8), .slice (some ⟨g 6, 0, none⟩) T.dr.length (T.dr.length + 8), .slice (some ⟨g 7, 0, none⟩) T.al.length (T.al.length + 8)] ++ vs) ([Ln.mk 64 2 (T.sc.length + U.sc.length) (encSc T.sc vs ++ encSc U.sc ut), Ln.mk 68 2 T.co.length (encS2 T.co), Ln.mk 71 2 T.ma.length (encM2 T.ma), Ln.mk 74 3 T.pr.length (encP3 T.pr), Ln.mk 77 2 T.fo.length (encF2 T.fo), Ln.mk 77 2 T.lk.length (encF2 T.lk), Ln.mk 68 2 T.dr.length (encS2 T.dr), Ln.mk 68 2 T.al.length (encS2 T.al)] ++ T.sc.map (fun s => Ln.mk 68 2 s.2.length (encS2 s.2))) b0 b1 b2 b3 b4 b5 b6 b7 ut) := hide hs
  have HBU1 := hide (((unhide HBU0).kept hg (blk_row (unhide HBU0) (unhide HO) (by decide))).kept (grown_set' uu0 N 0 (.slice (some ⟨hh0, 0, none⟩) (T.sc.length + U.sc.length) ee0)) (fun e => by have := Option.some.inj e; omega))
  have sx := hbN.cell 0
  have sf := hbN.frozen 0
  clear ho hg hf hs hbN xx yy hlen HO HS0 HBU0 HB0
  have how := (unhide HS1).li.own 1 _ _ rfl rfl
  dsimp only at how
  have xx := (unhide HS1).bt.cell 1
  have yy := (unhide HBU1).cell 1
  have hlen : T.co.length + U.co.length ≤ 2000000 := by have h1 := (unhide HLS).1.n1; have h2 := (unhide HLS).2.n1; omega
  have HO := hide how
  clear how
  go_wp2_with (at_builtin; refine append_any rfl _ _ 23 rfl (N + 3) 68 iSpan (.agg #[.int .i32 0, .int .i32 0]) 2 8 Tryz.underlying23 (unhide HISpan) rfl (by decide) (by decide) (g 1) T.co.length (T.co.length + 8) (encS2 T.co) rfl (unhide HO) b1 U.co.length d1 _ (encS2 U.co) rfl (encS2_length U.co) (unhide HS1).ui.r1 (encS2_one U.co) hlen (unhide HS1).lw ?_)
  intro hh1 ee1 uu1 ho hg hf
  obtain ⟨hs, hbN⟩ := (unhide HS1).hit (unhide HWN) (unhide HUI) (i := 1) rfl rfl rfl (show (68 : Nat) ≠ 28 by decide) hg (l' := Ln.mk 68 2 (T.co.length + U.co.length) (encS2 T.co ++ encS2 U.co)) ho (by first | exact hf | simpa using hf)
  have HS2 : Hz (JnS W (uu1.setCell ⟨N, 1, none⟩ (.slice (some ⟨hh1, 0, none⟩) (T.co.length + U.co.length) ee1)) N T U #[.slice (some ⟨hh0, 0, none⟩) (T.sc.length + U.sc.length) ee0, .slice (some ⟨hh1, 0, none⟩) (T.co.length + U.co.length) ee1, .slice (some ⟨g 2, 0, none⟩) T.ma.length (T.ma.length + 8), .slice (some ⟨g 3, 0, none⟩) T.pr.length (T.pr.length + 8), .slice (some ⟨g 4, 0, none⟩) T.fo.length (T.fo.length + 8), .slice (some ⟨g 5, 0, none⟩) T.lk.length (T.lk.length + 8), .slice (some ⟨g 6, 0, none⟩) T.dr.length (T.dr.length + 8), .slice (some ⟨g 7, 0, none⟩) T.al.length (T.al.length + 8)] ([.slice (some ⟨hh0, 0, none⟩) (T.sc.length + U.sc.length) ee0, .slice (some ⟨hh1, 0, none⟩) (T.co.length + U.co.length) ee1, .slice (some ⟨g 2, 0, none⟩) T.ma.length (T.ma.length + 8), .slice (some ⟨g 3, 0, none⟩) T.pr.length (T.pr.length + 8), .slice (some ⟨g 4, 0, none⟩) T.fo.length (T.fo.length + 8), .slice (some ⟨g 5, 0, none⟩) T.lk.length (T.lk.length + 8), .slice (some ⟨g 6, 0, none⟩) T.dr.length (T.dr.length + 8), .slice (some ⟨g 7, 0, none⟩) T.al.length (T.al.length + 8)] ++ vs) ([Ln.mk 64 2 (T.sc.length + U.sc.length) (encSc T.sc vs ++ encSc U.sc ut), Ln.mk 68 2 (T.co.length + U.co.length) (encS2 T.co ++ encS2 U.co), Ln.mk 71 2 T.ma.length (encM2 T.ma), Ln.mk 74 3 T.pr.length (encP3 T.pr), Ln.mk 77 2 T.fo.length (encF2 T.fo), Ln.mk 77 2 T.lk.length (encF2 T.lk), Ln.mk 68 2 T.dr.length (encS2 T.dr), Ln.mk 68 2 T.al.length (encS2 T.al)] ++ T.sc.map (fun s => Ln.mk 68 2 s.2.length (encS2 s.2))) b0 b1 b2 b3 b4 b5 b6 b7 ut) := hide hs
  have HBU2 := hide (((unhide HBU1).kept hg (blk_row (unhide HBU1) (unhide HO) (by decide))).kept (grown_set' uu1 N 1 (.slice (some ⟨hh1, 0, none⟩) (T.co.length + U.co.length) ee1)) (fun e => by have := Option.some.inj e; omega))
  have sx := hbN.cell 1
  have sf := hbN.frozen 1
  clear ho hg hf hs hbN xx yy hlen HO HS1 HBU1
  have how := (unhide HS2).li.own 2 _ _ rfl rfl
  dsimp only at how
  have xx := (unhide HS2).bt.cell 2
  have yy := (unhide HBU2).cell 2
  have hlen : T.ma.length + U.ma.length ≤ 2000000 := by have h1 := (unhide HLS).1.n2; have h2 := (unhide HLS).2.n2; omega
  have HO := hide how
  clear how
  go_wp2_with (at_builtin; refine append_any rfl _ _ 24 rfl (N + 3) 71 iMark (.agg #[.int .i32 0, .int .i64 0]) 2 16 Tryz.underlying24 (unhide HIMark) rfl (by decide) (by decide) (g 2) T.ma.length (T.ma.length + 8) (encM2 T.ma) rfl (unhide HO) b2 U.ma.length d2 _ (encM2 U.ma) rfl (encM2_length U.ma) (unhide HS2).ui.r2 (encM2_one U.ma) hlen (unhide HS2).lw ?_)
  intro hh2 ee2 uu2 ho hg hf
  obtain ⟨hs, hbN⟩ := (unhide HS2).hit (unhide HWN) (unhide HUI) (i := 2) rfl rfl rfl (show (71 : Nat) ≠ 28 by decide) hg (l' := Ln.mk 71 2 (T.ma.length + U.ma.length) (encM2 T.ma ++ encM2 U.ma)) ho (by first | exact hf | simpa using hf)
  have HS3 : Hz (JnS W (uu2.setCell ⟨N, 2, none⟩ (.slice (some ⟨hh2, 0, none⟩) (T.ma.length + U.ma.length) ee2)) N T U #[.slice (some ⟨hh0, 0, none⟩) (T.sc.length + U.sc.length) ee0, .slice (some ⟨hh1, 0, none⟩) (T.co.length + U.co.length) ee1, .slice (some ⟨hh2, 0, none⟩) (T.ma.length + U.ma.length) ee2, .slice (some ⟨g 3, 0, none⟩) T.pr.length (T.pr.length + 8), .slice (some ⟨g 4, 0, none⟩) T.fo.length (T.fo.length + 8), .slice (some ⟨g 5, 0, none⟩) T.lk.length (T.lk.length + 8), .slice (some ⟨g 6, 0, none⟩) T.dr.length (T.dr.length + 8), .slice (some ⟨g 7, 0, none⟩) T.al.length (T.al.length + 8)] ([.slice (some ⟨hh0, 0, none⟩) (T.sc.length + U.sc.length) ee0, .slice (some ⟨hh1, 0, none⟩) (T.co.length + U.co.length) ee1, .slice (some ⟨hh2, 0, none⟩) (T.ma.length + U.ma.length) ee2, .slice (some ⟨g 3, 0, none⟩) T.pr.length (T.pr.length + 8), .slice (some ⟨g 4, 0, none⟩) T.fo.length (T.fo.length + 8), .slice (some ⟨g 5, 0, none⟩) T.lk.length (T.lk.length + 8), .slice (some ⟨g 6, 0, none⟩) T.dr.length (T.dr.length + 8), .slice (some ⟨g 7, 0, none⟩) T.al.length (T.al.length + 8)] ++ vs) ([Ln.mk 64 2 (T.sc.length + U.sc.length) (encSc T.sc vs ++ encSc U.sc ut), Ln.mk 68 2 (T.co.length + U.co.length) (encS2 T.co ++ encS2 U.co), Ln.mk 71 2 (T.ma.length + U.ma.length) (encM2 T.ma ++ encM2 U.ma), Ln.mk 74 3 T.pr.length (encP3 T.pr), Ln.mk 77 2 T.fo.length (encF2 T.fo), Ln.mk 77 2 T.lk.length (encF2 T.lk), Ln.mk 68 2 T.dr.length (encS2 T.dr), Ln.mk 68 2 T.al.length (encS2 T.al)] ++ T.sc.map (fun s => Ln.mk 68 2 s.2.length (encS2 s.2))) b0 b1 b2 b3 b4 b5 b6 b7 ut) := hide hs
  have HBU3 := hide (((unhide HBU2).kept hg (blk_row (unhide HBU2) (unhide HO) (by decide))).kept (grown_set' uu2 N 2 (.slice (some ⟨hh2, 0, none⟩) (T.ma.length + U.ma.length) ee2)) (fun e => by have := Option.some.inj e; omega))
  have sx := hbN.cell 2
  have sf := hbN.frozen 2
  clear ho hg hf hs hbN xx yy hlen HO HS2 HBU2
  have how := (unhide HS3).li.own 3 _ _ rfl rfl
  dsimp only at how
  have xx := (unhide HS3).bt.cell 3
  have yy := (unhide HBU3).cell 3
  have hlen : T.pr.length + U.pr.length ≤ 2000000 := by have h1 := (unhide HLS).1.n3; have h2 := (unhide HLS).2.n3; omega
  have HO := hide how
  clear how
  go_wp2_with (at_builtin; refine append_any rfl _ _ 25 rfl (N + 3) 74 iPair (.agg #[.int .i32 0, .int .i32 0, .int .i32 0]) 3 12 Tryz.underlying25 (unhide HIPair) rfl (by decide) (by decide) (g 3) T.pr.length (T.pr.length + 8) (encP3 T.pr) rfl (unhide HO) b3 U.pr.length d3 _ (encP3 U.pr) rfl (encP3_length U.pr) (unhide HS3).ui.r3 (encP3_one U.pr) hlen (unhide HS3).lw ?_)
  intro hh3 ee3 uu3 ho hg hf
  obtain ⟨hs, hbN⟩ := (unhide HS3).hit (unhide HWN) (unhide HUI) (i := 3) rfl rfl rfl (show (74 : Nat) ≠ 28 by decide) hg (l' := Ln.mk 74 3 (T.pr.length + U.pr.length) (encP3 T.pr ++ encP3 U.pr)) ho (by first | exact hf | simpa using hf)
  have HS4 : Hz (JnS W (uu3.setCell ⟨N, 3, none⟩ (.slice (some ⟨hh3, 0, none⟩) (T.pr.length + U.pr.length) ee3)) N T U #[.slice (some ⟨hh0, 0, none⟩) (T.sc.length + U.sc.length) ee0, .slice (some ⟨hh1, 0, none⟩) (T.co.length + U.co.length) ee1, .slice (some ⟨hh2, 0, none⟩) (T.ma.length + U.ma.length) ee2, .slice (some ⟨hh3, 0, none⟩) (T.pr.length + U.pr.length) ee3, .slice (some ⟨g 4, 0, none⟩) T.fo.length (T.fo.length + 8), .slice (some ⟨g 5, 0, none⟩) T.lk.length (T.lk.length + 8), .slice (some ⟨g 6, 0, none⟩) T.dr.length (T.dr.length + 8), .slice (some ⟨g 7, 0, none⟩) T.al.length (T.al.length + 8)] ([.slice (some ⟨hh0, 0, none⟩) (T.sc.length + U.sc.length) ee0, .slice (some ⟨hh1, 0, none⟩) (T.co.length + U.co.length) ee1, .slice (some ⟨hh2, 0, none⟩) (T.ma.length + U.ma.length) ee2, .slice (some ⟨hh3, 0, none⟩) (T.pr.length + U.pr.length) ee3, .slice (some ⟨g 4, 0, none⟩) T.fo.length (T.fo.length + 8), .slice (some ⟨g 5, 0, none⟩) T.lk.length (T.lk.length + 8), .slice (some ⟨g 6, 0, none⟩) T.dr.length (T.dr.length + 8), .slice (some ⟨g 7, 0, none⟩) T.al.length (T.al.length + 8)] ++ vs) ([Ln.mk 64 2 (T.sc.length + U.sc.length) (encSc T.sc vs ++ encSc U.sc ut), Ln.mk 68 2 (T.co.length + U.co.length) (encS2 T.co ++ encS2 U.co), Ln.mk 71 2 (T.ma.length + U.ma.length) (encM2 T.ma ++ encM2 U.ma), Ln.mk 74 3 (T.pr.length + U.pr.length) (encP3 T.pr ++ encP3 U.pr), Ln.mk 77 2 T.fo.length (encF2 T.fo), Ln.mk 77 2 T.lk.length (encF2 T.lk), Ln.mk 68 2 T.dr.length (encS2 T.dr), Ln.mk 68 2 T.al.length (encS2 T.al)] ++ T.sc.map (fun s => Ln.mk 68 2 s.2.length (encS2 s.2))) b0 b1 b2 b3 b4 b5 b6 b7 ut) := hide hs
  have HBU4 := hide (((unhide HBU3).kept hg (blk_row (unhide HBU3) (unhide HO) (by decide))).kept (grown_set' uu3 N 3 (.slice (some ⟨hh3, 0, none⟩) (T.pr.length + U.pr.length) ee3)) (fun e => by have := Option.some.inj e; omega))
  have sx := hbN.cell 3
  have sf := hbN.frozen 3
  clear ho hg hf hs hbN xx yy hlen HO HS3 HBU3
  have how := (unhide HS4).li.own 4 _ _ rfl rfl
  dsimp only at how
  have xx := (unhide HS4).bt.cell 4
  have yy := (unhide HBU4).cell 4
  have hlen : T.fo.length + U.fo.length ≤ 2000000 := by have h1 := (unhide HLS).1.n4; have h2 := (unhide HLS).2.n4; omega
  have HO := hide how
  clear how
  go_wp2_with (at_builtin; refine append_any rfl _ _ 26 rfl (N + 3) 77 iMap (.agg #[.int .i32 0, .string ⟨#[]⟩]) 2 24 Tryz.underlying26 (unhide HIMap) rfl (by decide) (by decide) (g 4) T.fo.length (T.fo.length + 8) (encF2 T.fo) rfl (unhide HO) b4 U.fo.length d4 _ (encF2 U.fo) rfl (encF2_length U.fo) (unhide HS4).ui.r4 (encF2_one U.fo) hlen (unhide HS4).lw ?_)
  intro hh4 ee4 uu4 ho hg hf
  obtain ⟨hs, hbN⟩ := (unhide HS4).hit (unhide HWN) (unhide HUI) (i := 4) rfl rfl rfl (show (77 : Nat) ≠ 28 by decide) hg (l' := Ln.mk 77 2 (T.fo.length + U.fo.length) (encF2 T.fo ++ encF2 U.fo)) ho (by first | exact hf | simpa using hf)
  have HS5 : Hz (JnS W (uu4.setCell ⟨N, 4, none⟩ (.slice (some ⟨hh4, 0, none⟩) (T.fo.length + U.fo.length) ee4)) N T U #[.slice (some ⟨hh0, 0, none⟩) (T.sc.length + U.sc.length) ee0, .slice (some ⟨hh1, 0, none⟩) (T.co.length + U.co.length) ee1, .slice (some ⟨hh2, 0, none⟩) (T.ma.length + U.ma.length) ee2, .slice (some ⟨hh3, 0, none⟩) (T.pr.length + U.pr.length) ee3, .slice (some ⟨hh4, 0, none⟩) (T.fo.length + U.fo.length) ee4, .slice (some ⟨g 5, 0, none⟩) T.lk.length (T.lk.length + 8), .slice (some ⟨g 6, 0, none⟩) T.dr.length (T.dr.length + 8), .slice (some ⟨g 7, 0, none⟩) T.al.length (T.al.length + 8)] ([.slice (some ⟨hh0, 0, none⟩) (T.sc.length + U.sc.length) ee0, .slice (some ⟨hh1, 0, none⟩) (T.co.length + U.co.length) ee1, .slice (some ⟨hh2, 0, none⟩) (T.ma.length + U.ma.length) ee2, .slice (some ⟨hh3, 0, none⟩) (T.pr.length + U.pr.length) ee3, .slice (some ⟨hh4, 0, none⟩) (T.fo.length + U.fo.length) ee4, .slice (some ⟨g 5, 0, none⟩) T.lk.length (T.lk.length + 8), .slice (some ⟨g 6, 0, none⟩) T.dr.length (T.dr.length + 8), .slice (some ⟨g 7, 0, none⟩) T.al.length (T.al.length + 8)] ++ vs) ([Ln.mk 64 2 (T.sc.length + U.sc.length) (encSc T.sc vs ++ encSc U.sc ut), Ln.mk 68 2 (T.co.length + U.co.length) (encS2 T.co ++ encS2 U.co), Ln.mk 71 2 (T.ma.length + U.ma.length) (encM2 T.ma ++ encM2 U.ma), Ln.mk 74 3 (T.pr.length + U.pr.length) (encP3 T.pr ++ encP3 U.pr), Ln.mk 77 2 (T.fo.length + U.fo.length) (encF2 T.fo ++ encF2 U.fo), Ln.mk 77 2 T.lk.length (encF2 T.lk), Ln.mk 68 2 T.dr.length (encS2 T.dr), Ln.mk 68 2 T.al.length (encS2 T.al)] ++ T.sc.map (fun s => Ln.mk 68 2 s.2.length (encS2 s.2))) b0 b1 b2 b3 b4 b5 b6 b7 ut) := hide hs
  have HBU5 := hide (((unhide HBU4).kept hg (blk_row (unhide HBU4) (unhide HO) (by decide))).kept (grown_set' uu4 N 4 (.slice (some ⟨hh4, 0, none⟩) (T.fo.length + U.fo.length) ee4)) (fun e => by have := Option.some.inj e; omega))
  have sx := hbN.cell 4
  have sf := hbN.frozen 4
  clear ho hg hf hs hbN xx yy hlen HO HS4 HBU4
  have how := (unhide HS5).li.own 5 _ _ rfl rfl
  dsimp only at how
  have xx := (unhide HS5).bt.cell 5
  have yy := (unhide HBU5).cell 5
  have hlen : T.lk.length + U.lk.length ≤ 2000000 := by have h1 := (unhide HLS).1.n5; have h2 := (unhide HLS).2.n5; omega
  have HO := hide how
  clear how
  go_wp2_with (at_builtin; refine append_any rfl _ _ 26 rfl (N + 3) 77 iMap (.agg #[.int .i32 0, .string ⟨#[]⟩]) 2 24 Tryz.underlying26 (unhide HIMap) rfl (by decide) (by decide) (g 5) T.lk.length (T.lk.length + 8) (encF2 T.lk) rfl (unhide HO) b5 U.lk.length d5 _ (encF2 U.lk) rfl (encF2_length U.lk) (unhide HS5).ui.r5 (encF2_one U.lk) hlen (unhide HS5).lw ?_)
  intro hh5 ee5 uu5 ho hg hf
  obtain ⟨hs, hbN⟩ := (unhide HS5).hit (unhide HWN) (unhide HUI) (i := 5) rfl rfl rfl (show (77 : Nat) ≠ 28 by decide) hg (l' := Ln.mk 77 2 (T.lk.length + U.lk.length) (encF2 T.lk ++ encF2 U.lk)) ho (by first | exact hf | simpa using hf)
  have HS6 : Hz (JnS W (uu5.setCell ⟨N, 5, none⟩ (.slice (some ⟨hh5, 0, none⟩) (T.lk.length + U.lk.length) ee5)) N T U #[.slice (some ⟨hh0, 0, none⟩) (T.sc.length + U.sc.length) ee0, .slice (some ⟨hh1, 0, none⟩) (T.co.length + U.co.length) ee1, .slice (some ⟨hh2, 0, none⟩) (T.ma.length + U.ma.length) ee2, .slice (some ⟨hh3, 0, none⟩) (T.pr.length + U.pr.length) ee3, .slice (some ⟨hh4, 0, none⟩) (T.fo.length + U.fo.length) ee4, .slice (some ⟨hh5, 0, none⟩) (T.lk.length + U.lk.length) ee5, .slice (some ⟨g 6, 0, none⟩) T.dr.length (T.dr.length + 8), .slice (some ⟨g 7, 0, none⟩) T.al.length (T.al.length + 8)] ([.slice (some ⟨hh0, 0, none⟩) (T.sc.length + U.sc.length) ee0, .slice (some ⟨hh1, 0, none⟩) (T.co.length + U.co.length) ee1, .slice (some ⟨hh2, 0, none⟩) (T.ma.length + U.ma.length) ee2, .slice (some ⟨hh3, 0, none⟩) (T.pr.length + U.pr.length) ee3, .slice (some ⟨hh4, 0, none⟩) (T.fo.length + U.fo.length) ee4, .slice (some ⟨hh5, 0, none⟩) (T.lk.length + U.lk.length) ee5, .slice (some ⟨g 6, 0, none⟩) T.dr.length (T.dr.length + 8), .slice (some ⟨g 7, 0, none⟩) T.al.length (T.al.length + 8)] ++ vs) ([Ln.mk 64 2 (T.sc.length + U.sc.length) (encSc T.sc vs ++ encSc U.sc ut), Ln.mk 68 2 (T.co.length + U.co.length) (encS2 T.co ++ encS2 U.co), Ln.mk 71 2 (T.ma.length + U.ma.length) (encM2 T.ma ++ encM2 U.ma), Ln.mk 74 3 (T.pr.length + U.pr.length) (encP3 T.pr ++ encP3 U.pr), Ln.mk 77 2 (T.fo.length + U.fo.length) (encF2 T.fo ++ encF2 U.fo), Ln.mk 77 2 (T.lk.length + U.lk.length) (encF2 T.lk ++ encF2 U.lk), Ln.mk 68 2 T.dr.length (encS2 T.dr), Ln.mk 68 2 T.al.length (encS2 T.al)] ++ T.sc.map (fun s => Ln.mk 68 2 s.2.length (encS2 s.2))) b0 b1 b2 b3 b4 b5 b6 b7 ut) := hide hs
  have HBU6 := hide (((unhide HBU5).kept hg (blk_row (unhide HBU5) (unhide HO) (by decide))).kept (grown_set' uu5 N 5 (.slice (some ⟨hh5, 0, none⟩) (T.lk.length + U.lk.length) ee5)) (fun e => by have := Option.some.inj e; omega))
  have sx := hbN.cell 5
  have sf := hbN.frozen 5
  clear ho hg hf hs hbN xx yy hlen HO HS5 HBU5
  have how := (unhide HS6).li.own 6 _ _ rfl rfl
  dsimp only at how
  have xx := (unhide HS6).bt.cell 6
  have yy := (unhide HBU6).cell 6
  have hlen : T.dr.length + U.dr.length ≤ 2000000 := by have h1 := (unhide HLS).1.n6; have h2 := (unhide HLS).2.n6; omega
  have HO := hide how
  clear how
  go_wp2_with (at_builtin; refine append_any rfl _ _ 23 rfl (N + 3) 68 iSpan (.agg #[.int .i32 0, .int .i32 0]) 2 8 Tryz.underlying23 (unhide HISpan) rfl (by decide) (by decide) (g 6) T.dr.length (T.dr.length + 8) (encS2 T.dr) rfl (unhide HO) b6 U.dr.length d6 _ (encS2 U.dr) rfl (encS2_length U.dr) (unhide HS6).ui.r6 (encS2_one U.dr) hlen (unhide HS6).lw ?_)
  intro hh6 ee6 uu6 ho hg hf
  obtain ⟨hs, hbN⟩ := (unhide HS6).hit (unhide HWN) (unhide HUI) (i := 6) rfl rfl rfl (show (68 : Nat) ≠ 28 by decide) hg (l' := Ln.mk 68 2 (T.dr.length + U.dr.length) (encS2 T.dr ++ encS2 U.dr)) ho (by first | exact hf | simpa using hf)
  have HS7 : Hz (JnS W (uu6.setCell ⟨N, 6, none⟩ (.slice (some ⟨hh6, 0, none⟩) (T.dr.length + U.dr.length) ee6)) N T U #[.slice (some ⟨hh0, 0, none⟩) (T.sc.length + U.sc.length) ee0, .slice (some ⟨hh1, 0, none⟩) (T.co.length + U.co.length) ee1, .slice (some ⟨hh2, 0, none⟩) (T.ma.length + U.ma.length) ee2, .slice (some ⟨hh3, 0, none⟩) (T.pr.length + U.pr.length) ee3, .slice (some ⟨hh4, 0, none⟩) (T.fo.length + U.fo.length) ee4, .slice (some ⟨hh5, 0, none⟩) (T.lk.length + U.lk.length) ee5, .slice (some ⟨hh6, 0, none⟩) (T.dr.length + U.dr.length) ee6, .slice (some ⟨g 7, 0, none⟩) T.al.length (T.al.length + 8)] ([.slice (some ⟨hh0, 0, none⟩) (T.sc.length + U.sc.length) ee0, .slice (some ⟨hh1, 0, none⟩) (T.co.length + U.co.length) ee1, .slice (some ⟨hh2, 0, none⟩) (T.ma.length + U.ma.length) ee2, .slice (some ⟨hh3, 0, none⟩) (T.pr.length + U.pr.length) ee3, .slice (some ⟨hh4, 0, none⟩) (T.fo.length + U.fo.length) ee4, .slice (some ⟨hh5, 0, none⟩) (T.lk.length + U.lk.length) ee5, .slice (some ⟨hh6, 0, none⟩) (T.dr.length + U.dr.length) ee6, .slice (some ⟨g 7, 0, none⟩) T.al.length (T.al.length + 8)] ++ vs) ([Ln.mk 64 2 (T.sc.length + U.sc.length) (encSc T.sc vs ++ encSc U.sc ut), Ln.mk 68 2 (T.co.length + U.co.length) (encS2 T.co ++ encS2 U.co), Ln.mk 71 2 (T.ma.length + U.ma.length) (encM2 T.ma ++ encM2 U.ma), Ln.mk 74 3 (T.pr.length + U.pr.length) (encP3 T.pr ++ encP3 U.pr), Ln.mk 77 2 (T.fo.length + U.fo.length) (encF2 T.fo ++ encF2 U.fo), Ln.mk 77 2 (T.lk.length + U.lk.length) (encF2 T.lk ++ encF2 U.lk), Ln.mk 68 2 (T.dr.length + U.dr.length) (encS2 T.dr ++ encS2 U.dr), Ln.mk 68 2 T.al.length (encS2 T.al)] ++ T.sc.map (fun s => Ln.mk 68 2 s.2.length (encS2 s.2))) b0 b1 b2 b3 b4 b5 b6 b7 ut) := hide hs
  have HBU7 := hide (((unhide HBU6).kept hg (blk_row (unhide HBU6) (unhide HO) (by decide))).kept (grown_set' uu6 N 6 (.slice (some ⟨hh6, 0, none⟩) (T.dr.length + U.dr.length) ee6)) (fun e => by have := Option.some.inj e; omega))
  have sx := hbN.cell 6
  have sf := hbN.frozen 6
  clear ho hg hf hs hbN xx yy hlen HO HS6 HBU6
  have how := (unhide HS7).li.own 7 _ _ rfl rfl
  dsimp only at how
  have xx := (unhide HS7).bt.cell 7
  have yy := (unhide HBU7).cell 7
  have hlen : T.al.length + U.al.length ≤ 2000000 := by have h1 := (unhide HLS).1.n7; have h2 := (unhide HLS).2.n7; omega
  have HO := hide how
  clear how
  go_wp2_with (at_builtin; refine append_any rfl _ _ 23 rfl (N + 3) 68 iSpan (.agg #[.int .i32 0, .int .i32 0]) 2 8 Tryz.underlying23 (unhide HISpan) rfl (by decide) (by decide) (g 7) T.al.length (T.al.length + 8) (encS2 T.al) rfl (unhide HO) b7 U.al.length d7 _ (encS2 U.al) rfl (encS2_length U.al) (unhide HS7).ui.r7 (encS2_one U.al) hlen (unhide HS7).lw ?_)
  intro hh7 ee7 uu7 ho hg hf
  obtain ⟨hs, hbN⟩ := (unhide HS7).hit (unhide HWN) (unhide HUI) (i := 7) rfl rfl rfl (show (68 : Nat) ≠ 28 by decide) hg (l' := Ln.mk 68 2 (T.al.length + U.al.length) (encS2 T.al ++ encS2 U.al)) ho (by first | exact hf | simpa using hf)
  have HS8 : Hz (JnS W (uu7.setCell ⟨N, 7, none⟩ (.slice (some ⟨hh7, 0, none⟩) (T.al.length + U.al.length) ee7)) N T U #[.slice (some ⟨hh0, 0, none⟩) (T.sc.length + U.sc.length) ee0, .slice (some ⟨hh1, 0, none⟩) (T.co.length + U.co.length) ee1, .slice (some ⟨hh2, 0, none⟩) (T.ma.length + U.ma.length) ee2, .slice (some ⟨hh3, 0, none⟩) (T.pr.length + U.pr.length) ee3, .slice (some ⟨hh4, 0, none⟩) (T.fo.length + U.fo.length) ee4, .slice (some ⟨hh5, 0, none⟩) (T.lk.length + U.lk.length) ee5, .slice (some ⟨hh6, 0, none⟩) (T.dr.length + U.dr.length) ee6, .slice (some ⟨hh7, 0, none⟩) (T.al.length + U.al.length) ee7] ([.slice (some ⟨hh0, 0, none⟩) (T.sc.length + U.sc.length) ee0, .slice (some ⟨hh1, 0, none⟩) (T.co.length + U.co.length) ee1, .slice (some ⟨hh2, 0, none⟩) (T.ma.length + U.ma.length) ee2, .slice (some ⟨hh3, 0, none⟩) (T.pr.length + U.pr.length) ee3, .slice (some ⟨hh4, 0, none⟩) (T.fo.length + U.fo.length) ee4, .slice (some ⟨hh5, 0, none⟩) (T.lk.length + U.lk.length) ee5, .slice (some ⟨hh6, 0, none⟩) (T.dr.length + U.dr.length) ee6, .slice (some ⟨hh7, 0, none⟩) (T.al.length + U.al.length) ee7] ++ vs) ([Ln.mk 64 2 (T.sc.length + U.sc.length) (encSc T.sc vs ++ encSc U.sc ut), Ln.mk 68 2 (T.co.length + U.co.length) (encS2 T.co ++ encS2 U.co), Ln.mk 71 2 (T.ma.length + U.ma.length) (encM2 T.ma ++ encM2 U.ma), Ln.mk 74 3 (T.pr.length + U.pr.length) (encP3 T.pr ++ encP3 U.pr), Ln.mk 77 2 (T.fo.length + U.fo.length) (encF2 T.fo ++ encF2 U.fo), Ln.mk 77 2 (T.lk.length + U.lk.length) (encF2 T.lk ++ encF2 U.lk), Ln.mk 68 2 (T.dr.length + U.dr.length) (encS2 T.dr ++ encS2 U.dr), Ln.mk 68 2 (T.al.length + U.al.length) (encS2 T.al ++ encS2 U.al)] ++ T.sc.map (fun s => Ln.mk 68 2 s.2.length (encS2 s.2))) b0 b1 b2 b3 b4 b5 b6 b7 ut) := hide hs
  have HBU8 := hide (((unhide HBU7).kept hg (blk_row (unhide HBU7) (unhide HO) (by decide))).kept (grown_set' uu7 N 7 (.slice (some ⟨hh7, 0, none⟩) (T.al.length + U.al.length) ee7)) (fun e => by have := Option.some.inj e; omega))
  have sx := hbN.cell 7
  have sf := hbN.frozen 7
  clear ho hg hf hs hbN xx yy hlen HO HS7 HBU7
  obtain ⟨c8, hc8⟩ : ∃ c8 : List Value, c8 = [.slice (some ⟨hh0, 0, none⟩) (T.sc.length + U.sc.length) ee0, .slice (some ⟨hh1, 0, none⟩) (T.co.length + U.co.length) ee1, .slice (some ⟨hh2, 0, none⟩) (T.ma.length + U.ma.length) ee2, .slice (some ⟨hh3, 0, none⟩) (T.pr.length + U.pr.length) ee3, .slice (some ⟨hh4, 0, none⟩) (T.fo.length + U.fo.length) ee4, .slice (some ⟨hh5, 0, none⟩) (T.lk.length + U.lk.length) ee5, .slice (some ⟨hh6, 0, none⟩) (T.dr.length + U.dr.length) ee6, .slice (some ⟨hh7, 0, none⟩) (T.al.length + U.al.length) ee7] := ⟨_, rfl⟩
  have hl8 : c8.length = 8 := by rw [hc8]; rfl
  have hb8 : Blk (uu7.setCell ⟨N, 7, none⟩ (.slice (some ⟨hh7, 0, none⟩) (T.al.length + U.al.length) ee7)) N c8.toArray 28 := by rw [hc8]; exact (unhide HS8).bt
  have H8 : Hz ((uu7.setCell ⟨N, 7, none⟩ (.slice (some ⟨hh7, 0, none⟩) (T.al.length + U.al.length) ee7)).rangeAt N 0 c8 ∧ c8.length = 8 ∧ (∀ v ∈ c8, v.oneCell' = true)) := hide ⟨fun j v hv => by rw [Nat.zero_add, hb8.cell j, List.getElem?_toArray]; exact hv, hl8, by intro v hv; rw [hc8] at hv; simp only [List.mem_cons, List.not_mem_nil, or_false] at hv; rcases hv with rfl | rfl | rfl | rfl | rfl | rfl | rfl | rfl <;> rfl⟩
  have hq8 := setCells_grown (N + 2) c8 0 (uu7.setCell ⟨N, 7, none⟩ (.slice (some ⟨hh7, 0, none⟩) (T.al.length + U.al.length) ee7))
  have HR8 : Hz (Blk ((uu7.setCell ⟨N, 7, none⟩ (.slice (some ⟨hh7, 0, none⟩) (T.al.length + U.al.length) ee7)).setCells (N + 2) 0 c8) (N + 2) c8.toArray 28) := hide (setCells_all (unhide HS8).br c8 (by rw [hl8]; rfl))
  have HX8 : Hz (TabX ((uu7.setCell ⟨N, 7, none⟩ (.slice (some ⟨hh7, 0, none⟩) (T.al.length + U.al.length) ee7)).setCells (N + 2) 0 c8) (addT T U) c8.toArray) := hide (by
    have h1 := (unhide HS8).li.kept hq8 (fun b e => by have := Option.some.inj e; omega)
    have h2 := (unhide HS8).bl.grown hq8 (by have := (unhide HS8).lw; omega) (fun k hk => by have := Option.some.inj hk; omega)
    rw [hc8] at h1 h2 ⊢
    exact both_tab (unhide HVS) h1 ((unhide HUI).lower (by rw [unhide HWN]; exact h2)))
  have HB8 : Hz (Below N W ((uu7.setCell ⟨N, 7, none⟩ (.slice (some ⟨hh7, 0, none⟩) (T.al.length + U.al.length) ee7)).setCells (N + 2) 0 c8)) := hide ((unhide HS8).bl.grown hq8 (by have := (unhide HS8).lw; omega) (fun k hk => by have := Option.some.inj hk; omega))
  have HBR := hide (unhide HS8).br
  clear hc8 hl8 hb8 hq8
  go_wp2_with (first | (refine ld_tab rfl _ rfl N rfl c8 (unhide H8).1 (unhide H8).2.1 ?_) | (refine st_tab rfl _ _ rfl (N + 2) c8 rfl rfl (unhide HBR) rfl (unhide H8).2.1 (unhide H8).2.2 ?_))
  exact bodyPost_ret (v := .agg c8.toArray) (results_cell_row Tryz.results8 _ _ (N + 2) _ c8.toArray _ _ rfl (unhide HR8) Tryz.underlying28 rfl (by rw [List.size_toArray, (unhide H8).2.1]; kernel_rfl)) rfl ⟨_, rfl, unhide HX8, by rw [unhide HWN]; exact unhide HB8⟩
end Go.Proofs.YtjgfmobmilgapaaGreatDoor
