/- The reader of rules: pair. -/
import Derived.Test.YtbbnppcpjpdpaaaGreatDoorM13
namespace Go.Proofs.YtbbnppcpjpdpaaaGreatDoor
open Go.RowKit Go.Shelf
set_option linter.unusedVariables false
/-- What pair reads. -/
structure Pr where
  wh : Int
  ba : Int
  ma : Int
  k : Nat
  bad : Option Rf
def pairV (ws : List W8) (k : Nat) (bad : Option Rf) (eb el ec : Int) : Pr :=
  let a := takeV ws k bad eb el ec 3
  let b := takeV ws a.k a.bad eb el ec 7
  let c := takeV ws b.k b.bad eb el ec 3
  let d := takeV ws c.k c.bad eb el ec 8
  let e := takeV ws d.k d.bad eb el ec 3
  let f := takeV ws e.k e.bad eb el ec 6
  ⟨a.x.r, c.x.r, e.x.r, f.k, f.bad⟩
theorem infoPair : (Tryz.prog.info? 76).map (fun i => (i.zero, i.size, i.bytes)) = some (some (.agg #[.int .i32 0, .int .i32 0, .int .i32 0]), 3, 12) := by kernel_rfl
set_option maxRecDepth 100000 in
set_option maxHeartbeats 4000000 in
theorem pair_any (R Tx g lo : Nat) (ws : List W8) (k : Nat) (bad : Option Rf) (eb el ec fb fl fc : Int) (vs : List Value) (ls : List Ln) (n1 n2 : Nat) (xs1 xs2 : List Value) (hl1 : ls[3]? = some ⟨76, 3, n1, xs1⟩) (hl2 : ls[12]? = some ⟨61, 3, n2, xs2⟩) (hn1 : n1 ≤ 1000000) (hn2 : n2 ≤ 1000000) (W0 W : World) (h : RuSt W0 W R Tx g lo ws k bad eb el ec vs ls) :
    Calls Tryz.prog 86 #[.pointer (some ⟨R, 0, none⟩), .agg #[.int .i64 fb, .int .i64 fl, .int .i64 fc]] W fun e w' => (∃ r, e = .returned r) ∧ ∃ va vb, RuSt W0 w' R Tx g lo ws (pairV ws k bad eb el ec).k (pairV ws k bad eb el ec).bad eb el ec ((vs.set 3 va).set 12 vb) ((ls.set 3 ⟨76, 3, n1 + 1, xs1 ++ [.int .i32 (pairV ws k bad eb el ec).wh, .int .i32 (pairV ws k bad eb el ec).ba, .int .i32 (pairV ws k bad eb el ec).ma]⟩).set 12 ⟨61, 3, n2 + 1, xs2 ++ [.int .i64 fb, .int .i64 fl, .int .i64 fc]⟩) := by
  have hNR : R < W.heap.size := Nat.lt_of_lt_of_le h.hR h.low
  have HLo := hide h.low
  have HV : Hz (pairV ws k bad eb el ec = ⟨(takeV ws k bad eb el ec 3).x.r, (takeV ws (takeV ws (takeV ws k bad eb el ec 3).k (takeV ws k bad eb el ec 3).bad eb el ec 7).k (takeV ws (takeV ws k bad eb el ec 3).k (takeV ws k bad eb el ec 3).bad eb el ec 7).bad eb el ec 3).x.r, (takeV ws (takeV ws (takeV ws (takeV ws (takeV ws k bad eb el ec 3).k (takeV ws k bad eb el ec 3).bad eb el ec 7).k (takeV ws (takeV ws k bad eb el ec 3).k (takeV ws k bad eb el ec 3).bad eb el ec 7).bad eb el ec 3).k (takeV ws (takeV ws (takeV ws k bad eb el ec 3).k (takeV ws k bad eb el ec 3).bad eb el ec 7).k (takeV ws (takeV ws k bad eb el ec 3).k (takeV ws k bad eb el ec 3).bad eb el ec 7).bad eb el ec 3).bad eb el ec 8).k (takeV ws (takeV ws (takeV ws (takeV ws k bad eb el ec 3).k (takeV ws k bad eb el ec 3).bad eb el ec 7).k (takeV ws (takeV ws k bad eb el ec 3).k (takeV ws k bad eb el ec 3).bad eb el ec 7).bad eb el ec 3).k (takeV ws (takeV ws (takeV ws k bad eb el ec 3).k (takeV ws k bad eb el ec 3).bad eb el ec 7).k (takeV ws (takeV ws k bad eb el ec 3).k (takeV ws k bad eb el ec 3).bad eb el ec 7).bad eb el ec 3).bad eb el ec 8).bad eb el ec 3).x.r, (takeV ws (takeV ws (takeV ws (takeV ws (takeV ws (takeV ws k bad eb el ec 3).k (takeV ws k bad eb el ec 3).bad eb el ec 7).k (takeV ws (takeV ws k bad eb el ec 3).k (takeV ws k bad eb el ec 3).bad eb el ec 7).bad eb el ec 3).k (takeV ws (takeV ws (takeV ws k bad eb el ec 3).k (takeV ws k bad eb el ec 3).bad eb el ec 7).k (takeV ws (takeV ws k bad eb el ec 3).k (takeV ws k bad eb el ec 3).bad eb el ec 7).bad eb el ec 3).bad eb el ec 8).k (takeV ws (takeV ws (takeV ws (takeV ws k bad eb el ec 3).k (takeV ws k bad eb el ec 3).bad eb el ec 7).k (takeV ws (takeV ws k bad eb el ec 3).k (takeV ws k bad eb el ec 3).bad eb el ec 7).bad eb el ec 3).k (takeV ws (takeV ws (takeV ws k bad eb el ec 3).k (takeV ws k bad eb el ec 3).bad eb el ec 7).k (takeV ws (takeV ws k bad eb el ec 3).k (takeV ws k bad eb el ec 3).bad eb el ec 7).bad eb el ec 3).bad eb el ec 8).bad eb el ec 3).k (takeV ws (takeV ws (takeV ws (takeV ws (takeV ws k bad eb el ec 3).k (takeV ws k bad eb el ec 3).bad eb el ec 7).k (takeV ws (takeV ws k bad eb el ec 3).k (takeV ws k bad eb el ec 3).bad eb el ec 7).bad eb el ec 3).k (takeV ws (takeV ws (takeV ws k bad eb el ec 3).k (takeV ws k bad eb el ec 3).bad eb el ec 7).k (takeV ws (takeV ws k bad eb el ec 3).k (takeV ws k bad eb el ec 3).bad eb el ec 7).bad eb el ec 3).bad eb el ec 8).k (takeV ws (takeV ws (takeV ws (takeV ws k bad eb el ec 3).k (takeV ws k bad eb el ec 3).bad eb el ec 7).k (takeV ws (takeV ws k bad eb el ec 3).k (takeV ws k bad eb el ec 3).bad eb el ec 7).bad eb el ec 3).k (takeV ws (takeV ws (takeV ws k bad eb el ec 3).k (takeV ws k bad eb el ec 3).bad eb el ec 7).k (takeV ws (takeV ws k bad eb el ec 3).k (takeV ws k bad eb el ec 3).bad eb el ec 7).bad eb el ec 3).bad eb el ec 8).bad eb el ec 3).bad eb el ec 6).k, (takeV ws (takeV ws (takeV ws (takeV ws (takeV ws (takeV ws k bad eb el ec 3).k (takeV ws k bad eb el ec 3).bad eb el ec 7).k (takeV ws (takeV ws k bad eb el ec 3).k (takeV ws k bad eb el ec 3).bad eb el ec 7).bad eb el ec 3).k (takeV ws (takeV ws (takeV ws k bad eb el ec 3).k (takeV ws k bad eb el ec 3).bad eb el ec 7).k (takeV ws (takeV ws k bad eb el ec 3).k (takeV ws k bad eb el ec 3).bad eb el ec 7).bad eb el ec 3).bad eb el ec 8).k (takeV ws (takeV ws (takeV ws (takeV ws k bad eb el ec 3).k (takeV ws k bad eb el ec 3).bad eb el ec 7).k (takeV ws (takeV ws k bad eb el ec 3).k (takeV ws k bad eb el ec 3).bad eb el ec 7).bad eb el ec 3).k (takeV ws (takeV ws (takeV ws k bad eb el ec 3).k (takeV ws k bad eb el ec 3).bad eb el ec 7).k (takeV ws (takeV ws k bad eb el ec 3).k (takeV ws k bad eb el ec 3).bad eb el ec 7).bad eb el ec 3).bad eb el ec 8).bad eb el ec 3).k (takeV ws (takeV ws (takeV ws (takeV ws (takeV ws k bad eb el ec 3).k (takeV ws k bad eb el ec 3).bad eb el ec 7).k (takeV ws (takeV ws k bad eb el ec 3).k (takeV ws k bad eb el ec 3).bad eb el ec 7).bad eb el ec 3).k (takeV ws (takeV ws (takeV ws k bad eb el ec 3).k (takeV ws k bad eb el ec 3).bad eb el ec 7).k (takeV ws (takeV ws k bad eb el ec 3).k (takeV ws k bad eb el ec 3).bad eb el ec 7).bad eb el ec 3).bad eb el ec 8).k (takeV ws (takeV ws (takeV ws (takeV ws k bad eb el ec 3).k (takeV ws k bad eb el ec 3).bad eb el ec 7).k (takeV ws (takeV ws k bad eb el ec 3).k (takeV ws k bad eb el ec 3).bad eb el ec 7).bad eb el ec 3).k (takeV ws (takeV ws (takeV ws k bad eb el ec 3).k (takeV ws k bad eb el ec 3).bad eb el ec 7).k (takeV ws (takeV ws k bad eb el ec 3).k (takeV ws k bad eb el ec 3).bad eb el ec 7).bad eb el ec 3).bad eb el ec 8).bad eb el ec 3).bad eb el ec 6).bad⟩) := hide rfl
  generalize pairV ws k bad eb el ec = V at *
  obtain ⟨im, him, hm0, hm1, hm2⟩ := info_parts infoPair
  have HIM := hide (And.intro him (And.intro hm0 (And.intro hm1 hm2)))
  clear him hm0 hm1 hm2
  have hmx : Tryz.prog.follows .mixedOrders = true := by kernel_rfl
  have H := hide (h.alloc (.cells #[.int .i64 fb, .int .i64 fl, .int .i64 fc] 61))
  have HX := hide (Blk.new W #[.int .i64 fb, .int .i64 fl, .int .i64 fc] 61)
  clear h
  go_enter Tryz.func86, Tryz.ntmps86
  go_wp2_with fail
  generalize W.alloc (.cells #[.int .i64 fb, .int .i64 fl, .int .i64 fc] 61) = WA at *
  generalize W.heap.size = N at *
  refine (take_e R Tx g ws k bad eb el ec 3 WA (unhide H).rd).mono ?_
  rintro e w1 ⟨rfl, hR1, hg1⟩
  have H1 := hide ((unhide H).call hR1 hg1)
  have HX1 := hide ((unhide HX).kept hg1 (fun e => by have := Option.some.inj e; omega))
  clear hR1 hg1 H HX
  generalize takeV ws k bad eb el ec 3 = A at *
  obtain ⟨⟨a0, a1, a2, a3, a4, a5, a6, a7⟩, k1, bad1⟩ := A
  dsimp only at H1 HV
  unfold wV
  dsimp only
  have hf := field_r a0 a1 a2 a3 a4 a5 a6 a7
  go_wp2_with fail
  refine (take_e R Tx g ws k1 bad1 eb el ec 7 w1 (unhide H1).rd).mono ?_
  rintro e w2 ⟨rfl, hR2, hg2⟩
  have H2 := hide ((unhide H1).call hR2 hg2)
  have HX2 := hide ((unhide HX1).kept hg2 (fun e => by have := Option.some.inj e; omega))
  clear hR2 hg2 H1 HX1 hf
  generalize takeV ws k1 bad1 eb el ec 7 = B at *
  obtain ⟨bx, k2, bad2⟩ := B
  dsimp only at H2 HV
  dsimp only
  generalize wV bx = vbx
  go_wp2_with fail
  refine (take_e R Tx g ws k2 bad2 eb el ec 3 w2 (unhide H2).rd).mono ?_
  rintro e w3 ⟨rfl, hR3, hg3⟩
  have H3 := hide ((unhide H2).call hR3 hg3)
  have HX3 := hide ((unhide HX2).kept hg3 (fun e => by have := Option.some.inj e; omega))
  clear hR3 hg3 H2 HX2
  generalize takeV ws k2 bad2 eb el ec 3 = C at *
  obtain ⟨⟨c0, c1, c2, c3, c4, c5, c6, c7⟩, k3, bad3⟩ := C
  dsimp only at H3 HV
  unfold wV
  dsimp only
  have hf := field_r c0 c1 c2 c3 c4 c5 c6 c7
  go_wp2_with fail
  refine (take_e R Tx g ws k3 bad3 eb el ec 8 w3 (unhide H3).rd).mono ?_
  rintro e w4 ⟨rfl, hR4, hg4⟩
  have H4 := hide ((unhide H3).call hR4 hg4)
  have HX4 := hide ((unhide HX3).kept hg4 (fun e => by have := Option.some.inj e; omega))
  clear hR4 hg4 H3 HX3 hf
  generalize takeV ws k3 bad3 eb el ec 8 = D at *
  obtain ⟨dx, k4, bad4⟩ := D
  dsimp only at H4 HV
  dsimp only
  generalize wV dx = vdx
  go_wp2_with fail
  refine (take_e R Tx g ws k4 bad4 eb el ec 3 w4 (unhide H4).rd).mono ?_
  rintro e w5 ⟨rfl, hR5, hg5⟩
  have H5 := hide ((unhide H4).call hR5 hg5)
  have HX5 := hide ((unhide HX4).kept hg5 (fun e => by have := Option.some.inj e; omega))
  clear hR5 hg5 H4 HX4
  generalize takeV ws k4 bad4 eb el ec 3 = E at *
  obtain ⟨⟨e0, e1, e2, e3, e4, e5, e6, e7⟩, k5, bad5⟩ := E
  dsimp only at H5 HV
  unfold wV
  dsimp only
  have hf := field_r e0 e1 e2 e3 e4 e5 e6 e7
  go_wp2_with fail
  refine (take_e R Tx g ws k5 bad5 eb el ec 6 w5 (unhide H5).rd).mono ?_
  rintro e w6 ⟨rfl, hR6, hg6⟩
  have H6 := hide ((unhide H5).call hR6 hg6)
  have HX6 := hide ((unhide HX5).kept hg6 (fun e => by have := Option.some.inj e; omega))
  clear hR6 hg6 H5 HX5 hf
  generalize takeV ws k5 bad5 eb el ec 6 = F at *
  obtain ⟨fx, k6, bad6⟩ := F
  dsimp only at H6 HV
  dsimp only
  generalize wV fx = vfx
  go_wp2_with fail
  obtain ⟨v, hv⟩ : ∃ v, vs[3]? = some v := ⟨_, List.getElem?_eq_getElem (by have := (unhide H6).tb.lv; omega)⟩
  have how := (unhide H6).tb.own _ _ _ hv hl1
  obtain ⟨va, vc, rfl⟩ := own_slice how
  have hg0 : ∀ b, Value.ownBlock (.slice va n1 vc) = some b → lo ≤ b := rd_from how
  obtain ⟨ra, rc, rv, hrb, _, _, _⟩ := (unhide H6).rd.rd.blk
  have c1 : w6.cell? ⟨R, 1, none⟩ = some (.pointer (some ⟨Tx, 0, none⟩)) := hrb.cell 1
  have t0 := (unhide H6).tb.cell (by omega) hv
  have hTl := (unhide H6).tb.lt
  have hRl := (unhide H6).hR
  have hl3 := (unhide H6).low
  have hltR : R < w6.heap.size := by omega
  have hltT : Tx < w6.heap.size := by omega
  have ca1 := (hrb.alloc (.cells #[.int .i32 a2, .int .i32 c2, .int .i32 e2] 76)).cell 1
  have ta := ((unhide H6).tb.kept (R := R) hRl (unhide H6).rd.ne (World.grownBy_alloc w6 (.cells #[.int .i32 a2, .int .i32 c2, .int .i32 e2] 76) _))
  have t1 := ta.cell (by omega) hv
  have hNx : some N ≠ Value.ownBlock (.slice va n1 vc) := blk_row (unhide HX6) how (show (76 : Nat) ≠ 61 by decide)
  clear hrb
  go_region_law (refine step_append_lies _ (by rfl) _ _ _ (by rfl) lo 76 im (.agg #[.int .i32 0, .int .i32 0, .int .i32 0]) 3 12 Tryz.underlying28 (unhide HIM).1 (unhide HIM).2.1 (unhide HIM).2.2.1 (unhide HIM).2.2.2 rfl (by omega) _ n1 xs1 (by rfl) (how.alloc _).drew ⟨w6.heap.size, 0, none⟩ 1 1 [.int .i32 a2, .int .i32 c2, .int .i32 e2] (by rfl) (by rfl) (World.news_of_block (cs := #[.int .i32 a2, .int .i32 c2, .int .i32 e2]) (t := 76) (fr := (0, 0)) (heap_alloc_new w6 _)) (by simp [Value.oneCell']) (by omega) (by unfold maxLen; omega) (by omega) (by simp; omega) (w6.heap.size + 1) (by simp) ?_; intro gg cap w7 hown1 hgrow hatt hlt; have q1 : w7.cell? ⟨Tx, 3, none⟩ = some (.slice va n1 vc) := hgrow.cell (a := ⟨Tx, 3, none⟩) t1 (by show some Tx ≠ Value.ownBlock (.slice va n1 vc); intro e; have := hg0 Tx e.symm; omega); have q2 : w7.frozen? ⟨Tx, 3, none⟩ = false := (Blk.kept (W := (w6.alloc _).drew) ta.blk hgrow (fun e => by have := hg0 Tx e.symm; omega)).frozen 3; have q3 : w7.cell? ⟨R, 1, none⟩ = some (.pointer (some ⟨Tx, 0, none⟩)) := hgrow.cell (a := ⟨R, 1, none⟩) ca1 (by show some R ≠ Value.ownBlock (.slice va n1 vc); intro e; have := hg0 R e.symm; omega))
  all_goals
    have H7 := hide (((unhide H6).alloc (.cells #[.int .i32 a2, .int .i32 c2, .int .i32 e2] 76)).put (W1 := w7) (by omega) hv hl1 (show (76 : Nat) ≠ 83 by decide) hown1 ⟨hgrow.os, hgrow.tape, hgrow.output, hgrow.size, hgrow.block⟩ (by rcases hatt with e | e; exact .inl e.symm; exact .inr (by rw [e]; simp [Value.ownBlock])))
    have hx5 := (Blk.kept (W := (w6.alloc (.cells #[.int .i32 a2, .int .i32 c2, .int .i32 e2] 76)).drew) ((unhide HX6).alloc _) hgrow hNx).kept (grown_set' w7 Tx 3 (.slice (some ⟨gg, 0, none⟩) (n1 + 1) cap)) (fun e => by have := Option.some.inj e; have := unhide HLo; omega)
    clear hgrow hown1 hatt hlt q1 q2 q3 H6 HX6 how c1 t0 ca1 ta t1
    generalize w7.setCell ⟨Tx, 3, none⟩ (.slice (some ⟨gg, 0, none⟩) (n1 + 1) cap) = w8 at *
    have x0 := hx5.cell 0
    have x1 := hx5.cell 1
    have x2 := hx5.cell 2
    clear hx5
    have HP := hide (Blk.new w8 #[.int .i64 fb, .int .i64 fl, .int .i64 fc] 61)
    go_wp2_with fail
    refine (rows_ru W0 R Tx g lo ws k6 bad6 eb el ec _ _ 4 (by omega) n2 xs2 (by rw [List.getElem?_set_ne (by decide)]; exact hl2) _ 1 1 [.int .i64 fb, .int .i64 fl, .int .i64 fc] (by omega) _ ((unhide H7).alloc _) (.inr ⟨_, rfl, by decide, rfl, World.news_of_block (cs := #[.int .i64 fb, .int .i64 fl, .int .i64 fc]) (t := 61) (fr := (0, 0)) (heap_alloc_new w8 _), by simp [Value.oneCell']⟩)).mono ?_
    rintro e w9 ⟨⟨r, rfl⟩, vb, hfin⟩
    go_wp2_with fail
    go_end0
    exact ⟨⟨_, rfl⟩, _, vb, by rw [unhide HV]; exact hfin⟩
end Go.Proofs.YtbbnppcpjpdpaaaGreatDoor
