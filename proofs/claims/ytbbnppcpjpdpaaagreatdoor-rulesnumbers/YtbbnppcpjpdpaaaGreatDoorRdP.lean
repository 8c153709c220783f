/- The reader of rules: script. -/
import Derived.Test.YtbbnppcpjpdpaaaGreatDoorRdK
import Derived.Test.YtbbnppcpjpdpaaaGreatDoorM16
import Derived.Test.YtbbnppcpjpdpaaaGreatDoorShC
namespace Go.Proofs.YtbbnppcpjpdpaaaGreatDoor
open Go.RowKit Go.Shelf
set_option linter.unusedVariables false
theorem clone_any (s : ByteArray) (w : World) (hs : s.size ≤ 262144) : Calls Tryz.prog 111 #[.string s] w fun e w' => e = .returned (.string s) ∧ Below w.heap.size w w' := by
  have hc := Any.stringslite_Clone layM316 s w (by omega)
  go_enter Tryz.func111, Tryz.ntmps111
  go_wp2_with fail
  refine (show Calls Tryz.prog 137 #[.string s] w _ from hc).mono ?_
  rintro e w' ⟨rfl, hb⟩
  go_wp2_with fail
  go_ret
  exact ⟨rfl, hb⟩
theorem below_grown {W W' : World} {row : Option Nat} (h : Below W.heap.size W W') : W.grownBy W' row := ⟨h.os, h.tape, h.output, h.size, fun i hi _ => h.block i hi⟩
theorem RdE.none {W W' : World} {R Tx g : Nat} {ws : List W8} {k : Nat} {bad : Option Rf} {eb el ec : Int} (h : RdE W R Tx g ws k bad eb el ec) (hg : W.grownBy W' none) : RdE W' R Tx g ws k bad eb el ec := by
  obtain ⟨a, c, v, hb, ha, hc, hv⟩ := h.rd.blk
  exact ⟨h.rd.upd (grown_none hg) h.rd.kn a c v (hb.kept hg (by simp)) ha hc (hv.kept hg (fun F x _ => by simp)), h.en.kept hg (by simp), h.ne⟩
/-- A list that was just made lies in a row to come. -/
theorem RuSt.more {W0 W W' : World} {R Tx g lo : Nat} {ws : List W8} {k k2 : Nat} {bad bad2 : Option Rf} {eb el ec : Int} {vs : List Value} {ls : List Ln} {sv sp : Value} {ss : List (Int × Int)} {ps : List (Int × Int × Int)} (h : RuSt W0 W R Tx g lo ws k bad eb el ec vs ls) (hs : SpSt W W' R Tx g ws k2 bad2 eb el ec sv sp ss ps) :
    RuSt W0 W' R Tx g lo ws k2 bad2 eb el ec (vs ++ [sv]) (ls ++ [Ln.mk 54 2 ss.length (encS2 ss)]) := by
  have h2 := h.call hs.rd hs.gr
  refine ⟨h2.rd, h2.tb.more (own_lower hs.os h.low) (fun j x hx => ?_), h2.fr, h2.low, h2.hR, h2.hgT, h2.hgl⟩
  obtain ⟨m, hm⟩ : ∃ m, ls[j]? = some m := ⟨_, List.getElem?_eq_getElem (by have := (List.getElem?_eq_some_iff.1 hx).1; have := h.tb.ll; omega)⟩
  cases hb : sv.ownBlock with
  | none => exact .inl rfl
  | some b =>
    refine .inr fun e => ?_
    have h3 := rd_from hs.os b hb
    have h4 := own_ltW (h.tb.own j x m hx hm) b e.symm
    omega
theorem infoScript : (Tryz.prog.info? 52).map (fun i => (i.zero, i.size, i.bytes)) = some (some (.agg #[.string ⟨#[]⟩, .slice none 0 0]), 2, 40) := by kernel_rfl
theorem field_s (a : Int) (b : ByteArray) (c d e f g h : Int) (w : World) : (Instr.field 124 (.agg #[.int .i64 a, .string b, .int .i32 c, .int .i64 d, .int .i64 e, .int .i64 f, .int .i64 g, .int .i64 h]) 1).run Tryz.prog w = .ok (.string b) w := by kernel_rfl
/-- What script reads. -/
structure Sr where
  nm : ByteArray
  sp : Sps
def scriptV (ws : List W8) (k : Nat) (bad : Option Rf) (eb el ec : Int) : Sr :=
  let a := takeV ws k bad eb el ec 1
  ⟨a.x.S, spansV ws a.k a.bad eb el ec⟩
set_option maxRecDepth 100000 in
set_option maxHeartbeats 4000000 in
theorem script_any (R Tx g lo : Nat) (ws : List W8) (k : Nat) (bad : Option Rf) (eb el ec fb fl fc : Int) (vs : List Value) (ls : List Ln) (n1 n2 : Nat) (xs1 xs2 : List Value) (hl1 : ls[0]? = some ⟨52, 2, n1, xs1⟩) (hl2 : ls[9]? = some ⟨61, 3, n2, xs2⟩) (hn1 : n1 ≤ 1000000) (hn2 : n2 ≤ 1000000) (hS : (scriptV ws k bad eb el ec).nm.size ≤ 262144) (W0 W : World) (h : RuSt W0 W R Tx g lo ws k bad eb el ec vs ls) :
    Calls Tryz.prog 83 #[.pointer (some ⟨R, 0, none⟩), .agg #[.int .i64 fb, .int .i64 fl, .int .i64 fc]] W fun e w' => (∃ r, e = .returned r) ∧ ∃ sv va vb, RuSt W0 w' R Tx g lo ws (scriptV ws k bad eb el ec).sp.k (scriptV ws k bad eb el ec).sp.bad eb el ec (((vs ++ [sv]).set 0 va).set 9 vb) (((ls ++ [Ln.mk 54 2 (scriptV ws k bad eb el ec).sp.ss.length (encS2 (scriptV ws k bad eb el ec).sp.ss)]).set 0 (Ln.mk 52 2 (n1 + 1) (xs1 ++ [.string (scriptV ws k bad eb el ec).nm, sv]))).set 9 (Ln.mk 61 3 (n2 + 1) (xs2 ++ [.int .i64 fb, .int .i64 fl, .int .i64 fc]))) := by
  have hNR : R < W.heap.size := Nat.lt_of_lt_of_le h.hR h.low
  have HLo := hide h.low
  have HV : Hz (scriptV ws k bad eb el ec = ⟨(takeV ws k bad eb el ec 1).x.S, spansV ws (takeV ws k bad eb el ec 1).k (takeV ws k bad eb el ec 1).bad eb el ec⟩) := hide rfl
  have HS := hide hS
  clear hS
  generalize scriptV ws k bad eb el ec = V at *
  obtain ⟨nm, V⟩ := V
  obtain ⟨im, him, hm0, hm1, hm2⟩ := info_parts infoScript
  have HIM := hide (And.intro him (And.intro hm0 (And.intro hm1 hm2)))
  clear him hm0 hm1 hm2
  have hmx : Tryz.prog.follows .mixedOrders = true := by kernel_rfl
  have H := hide (h.alloc (.cells #[.int .i64 fb, .int .i64 fl, .int .i64 fc] 61))
  have HX := hide (Blk.new W #[.int .i64 fb, .int .i64 fl, .int .i64 fc] 61)
  clear h
  go_enter Tryz.func83, Tryz.ntmps83
  go_wp2_with fail
  generalize W.alloc (.cells #[.int .i64 fb, .int .i64 fl, .int .i64 fc] 61) = WA at *
  generalize W.heap.size = N at *
  refine (take_e R Tx g ws k bad eb el ec 1 WA (unhide H).rd).mono ?_
  rintro e w1 ⟨rfl, hR1, hg1⟩
  have H1 := hide ((unhide H).call hR1 hg1)
  have HX1 := hide ((unhide HX).kept hg1 (fun e => by have := Option.some.inj e; omega))
  clear hR1 hg1 H HX
  generalize takeV ws k bad eb el ec 1 = A at *
  obtain ⟨⟨ak, aS, ar, an, ab, al, ac, ae⟩, k1, bad1⟩ := A
  dsimp only at H1 HV
  obtain ⟨rfl, hV2⟩ : nm = aS ∧ V = spansV ws k1 bad1 eb el ec := by have := unhide HV; injection this with a b; exact ⟨a, b⟩
  have HSP := hide (fun (w : World) => spans_e R Tx g ws k1 bad1 eb el ec V hV2.symm w)
  have HSZ : Hz (nm.size ≤ 262144) := HS
  clear hV2 HV HS
  unfold wV
  dsimp only
  have hf := field_s ak nm ar an ab al ac ae
  have HC := hide (clone_any nm w1 (unhide HSZ))
  go_wp2_with fail
  refine (unhide HC).mono ?_
  rintro e w2 ⟨rfl, hb2⟩
  have hg2 : w1.grownBy w2 none := below_grown hb2
  have H2 := hide ((unhide H1).call ((unhide H1).rd.none hg2) (grown_none hg2))
  have HX2 := hide ((unhide HX1).kept hg2 (by simp))
  clear hb2 hg2 H1 HX1 hf HC
  go_wp2_with fail
  refine (unhide HSP w2 (unhide H2).rd).mono ?_
  rintro e w3 ⟨sv, sp, rfl, hst⟩
  obtain ⟨ss, ps, k3, bad3⟩ := V
  dsimp only at hst
  dsimp only
  have H3 := hide ((unhide H2).more hst)
  have HX3 := hide ((unhide HX2).kept hst.gr (fun e => by have := Option.some.inj e; omega))
  obtain ⟨sa, sc, rfl⟩ := own_slice hst.os
  clear hst H2 HX2 HSP
  have hl1' : (ls ++ [Ln.mk 54 2 ss.length (encS2 ss)])[0]? = some ⟨52, 2, n1, xs1⟩ := by rw [List.getElem?_append_left (List.getElem?_eq_some_iff.1 hl1).1]; exact hl1
  have hl2' : (ls ++ [Ln.mk 54 2 ss.length (encS2 ss)])[9]? = some ⟨61, 3, n2, xs2⟩ := by rw [List.getElem?_append_left (List.getElem?_eq_some_iff.1 hl2).1]; exact hl2
  obtain ⟨lt, hlt0⟩ : ∃ lt, lt = ls ++ [Ln.mk 54 2 ss.length (encS2 ss)] := ⟨_, rfl⟩
  rw [← hlt0] at H3 hl1' hl2'
  have HLT := hide hlt0
  clear hlt0
  obtain ⟨vt, hvt⟩ : ∃ vt, vt = vs ++ [Value.slice sa ss.length sc] := ⟨_, rfl⟩
  rw [← hvt] at H3
  have HVT := hide hvt
  clear hvt
  go_wp2_with fail
  obtain ⟨v, hv⟩ : ∃ v, vt[0]? = some v := ⟨_, List.getElem?_eq_getElem (by have := (unhide H3).tb.lv; omega)⟩
  have how := (unhide H3).tb.own _ _ _ hv hl1'
  obtain ⟨va, vc, rfl⟩ := own_slice how
  have hg0 : ∀ b, Value.ownBlock (.slice va n1 vc) = some b → lo ≤ b := rd_from how
  obtain ⟨ra, rc, rv, hrb, _, _, _⟩ := (unhide H3).rd.rd.blk
  have c1 : w3.cell? ⟨R, 1, none⟩ = some (.pointer (some ⟨Tx, 0, none⟩)) := hrb.cell 1
  have t0 := (unhide H3).tb.cell (by omega) hv
  have hTl := (unhide H3).tb.lt
  have hRl := (unhide H3).hR
  have hl3 := (unhide H3).low
  have hltR : R < w3.heap.size := by omega
  have hltT : Tx < w3.heap.size := by omega
  have ca1 := (hrb.alloc (.cells #[.string nm, .slice sa ss.length sc] 52)).cell 1
  have ta := ((unhide H3).tb.kept (R := R) hRl (unhide H3).rd.ne (World.grownBy_alloc w3 (.cells #[.string nm, .slice sa ss.length sc] 52) _))
  have t1 := ta.cell (by omega) hv
  have hNx : some N ≠ Value.ownBlock (.slice va n1 vc) := blk_row (unhide HX3) how (show (52 : Nat) ≠ 61 by decide)
  clear hrb
  go_region_law (refine step_append_lies _ (by rfl) _ _ _ (by rfl) lo 52 im (.agg #[.string ⟨#[]⟩, .slice none 0 0]) 2 40 Tryz.underlying25 (unhide HIM).1 (unhide HIM).2.1 (unhide HIM).2.2.1 (unhide HIM).2.2.2 rfl (by omega) _ n1 xs1 (by rfl) (how.alloc _).drew ⟨w3.heap.size, 0, none⟩ 1 1 [.string nm, .slice sa ss.length sc] (by rfl) (by rfl) (World.news_of_block (cs := #[.string nm, .slice sa ss.length sc]) (t := 52) (fr := (0, 0)) (heap_alloc_new w3 _)) (by simp [Value.oneCell']) (by omega) (by unfold maxLen; omega) (by omega) (by simp; omega) (w3.heap.size + 1) (by simp) ?_; intro gg cap w4 hown1 hgrow hatt hlt; have q1 : w4.cell? ⟨Tx, 0, none⟩ = some (.slice va n1 vc) := hgrow.cell (a := ⟨Tx, 0, none⟩) t1 (by show some Tx ≠ Value.ownBlock (.slice va n1 vc); intro e; have := hg0 Tx e.symm; omega); have q2 : w4.frozen? ⟨Tx, 0, none⟩ = false := (Blk.kept (W := (w3.alloc _).drew) ta.blk hgrow (fun e => by have := hg0 Tx e.symm; omega)).frozen 0; have q3 : w4.cell? ⟨R, 1, none⟩ = some (.pointer (some ⟨Tx, 0, none⟩)) := hgrow.cell (a := ⟨R, 1, none⟩) ca1 (by show some R ≠ Value.ownBlock (.slice va n1 vc); intro e; have := hg0 R e.symm; omega))
  all_goals
    have H4 := hide (((unhide H3).alloc (.cells #[.string nm, .slice sa ss.length sc] 52)).put (W1 := w4) (by omega) hv hl1' (show (52 : Nat) ≠ 83 by decide) hown1 ⟨hgrow.os, hgrow.tape, hgrow.output, hgrow.size, hgrow.block⟩ (by rcases hatt with e | e; exact .inl e.symm; exact .inr (by rw [e]; simp [Value.ownBlock])))
    have hx5 := (Blk.kept (W := (w3.alloc (.cells #[.string nm, .slice sa ss.length sc] 52)).drew) ((unhide HX3).alloc _) hgrow hNx).kept (grown_set' w4 Tx 0 (.slice (some ⟨gg, 0, none⟩) (n1 + 1) cap)) (fun e => by have := Option.some.inj e; have := unhide HLo; omega)
    clear hgrow hown1 hatt hlt q1 q2 q3 H3 HX3 how c1 t0 ca1 ta t1
    generalize w4.setCell ⟨Tx, 0, none⟩ (.slice (some ⟨gg, 0, none⟩) (n1 + 1) cap) = w5 at *
    have x0 := hx5.cell 0
    have x1 := hx5.cell 1
    have x2 := hx5.cell 2
    clear hx5
    have HP := hide (Blk.new w5 #[.int .i64 fb, .int .i64 fl, .int .i64 fc] 61)
    go_wp2_with fail
    refine (rows_ru W0 R Tx g lo ws k3 bad3 eb el ec _ _ 1 (by omega) n2 xs2 (by rw [List.getElem?_set_ne (by decide)]; exact hl2') _ 1 1 [.int .i64 fb, .int .i64 fl, .int .i64 fc] (by omega) _ ((unhide H4).alloc _) (.inr ⟨_, rfl, by decide, rfl, World.news_of_block (cs := #[.int .i64 fb, .int .i64 fl, .int .i64 fc]) (t := 61) (fr := (0, 0)) (heap_alloc_new w5 _), by simp [Value.oneCell']⟩)).mono ?_
    rintro e w6 ⟨⟨r, rfl⟩, vb, hfin⟩
    go_wp2_with fail
    go_end0
    exact ⟨⟨_, rfl⟩, .slice sa ss.length sc, _, vb, by rw [← unhide HVT, ← unhide HLT]; exact hfin⟩
end Go.Proofs.YtbbnppcpjpdpaaaGreatDoor
