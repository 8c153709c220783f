/- Texts of this claim, one behind the other. -/
import Derived.Test.YtjgfmobmilgapaaGreatDoorM7
import Derived.Test.YtjgfmobmilgapaaGreatDoorM1
import Derived.ScopeJumps
import Derived.WalkMore
import Derived.Test.YtjgfmobmilgapaaGreatDoorM5
import Derived.Deep.RegionWith
import Derived.Deep.RegionLaw
import Derived.Deep.AppendLies
import Derived.OwnWalk
/- The reader of rules: common, drop, allow. -/
namespace Go.Proofs.YtjgfmobmilgapaaGreatDoor
open Go.RowKit Go.Shelf
set_option linter.unusedVariables false
theorem encS2_length (t : List (Int × Int)) : (encS2 t).length = t.length * 2 := by
  induction t with
  | nil => rfl
  | cons x t ih => show (encS2 t).length + 1 + 1 = (t.length + 1) * 2; omega
theorem encA3_length (t : List (Int × Int × Int)) : (encA3 t).length = t.length * 3 := by
  induction t with
  | nil => rfl
  | cons x t ih => show (encA3 t).length + 1 + 1 + 1 = (t.length + 1) * 3; omega
theorem encS2_one (t : List (Int × Int)) : ∀ u ∈ encS2 t, u.oneCell' = true := by
  induction t with
  | nil => intro u hu; cases hu
  | cons x t ih =>
    intro u hu
    rcases List.mem_cons.1 hu with rfl | hu
    · rfl
    · rcases List.mem_cons.1 hu with rfl | hu
      · rfl
      · exact ih u hu
theorem encA3_one (t : List (Int × Int × Int)) : ∀ u ∈ encA3 t, u.oneCell' = true := by
  induction t with
  | nil => intro u hu; cases hu
  | cons x t ih =>
    intro u hu
    rcases List.mem_cons.1 hu with rfl | hu
    · rfl
    · rcases List.mem_cons.1 hu with rfl | hu
      · rfl
      · rcases List.mem_cons.1 hu with rfl | hu
        · rfl
        · exact ih u hu
theorem own_some {W : World} {lo E sz n : Nat} {v : Value} {xs : List Value} (h : W.ownsRow lo E sz v n xs) (h0 : n = 0 → v = .slice none 0 0) : (v = .slice none 0 0 ∧ n = 0 ∧ xs = []) ∨ ∃ g c, v = .slice (some ⟨g, 0, none⟩) n c ∧ 0 < n ∧ lo ≤ g ∧ n ≤ c ∧ ∀ j u, xs[j]? = some u → W.cell? ((⟨g, 0, none⟩ : Addr).add j) = some u := by
  by_cases hn : n = 0
  · subst hn
    exact .inl ⟨h0 rfl, rfl, by have := h.1; rw [Nat.zero_mul] at this; exact List.length_eq_zero_iff.1 this⟩
  · rcases h.2 with ⟨_, h2⟩ | ⟨g, cap, cur, rfl, hl, hg, hc, _, hcs, hx⟩
    · exact absurd h2 hn
    · refine .inr ⟨g, cap, rfl, by omega, hl, hc, fun j u hu => ?_⟩
      have hj := (List.getElem?_eq_some_iff.1 hu).1
      rw [h.1] at hj
      rw [← hx, List.getElem?_take_of_lt hj] at hu
      have ea : (⟨g, 0, none⟩ : Addr).add j = ⟨g, j, none⟩ := by cases j <;> simp [Addr.add]
      rw [ea]
      have b : Blk W g cur E := hg
      rw [b.cell j, ← hu, Array.getElem?_toList]
theorem own_pl {W : World} {lo : Nat} {v : Value} {ps : List (Int × Int × Int)} (h : W.ownsRow lo 49 3 v ps.length (encA3 ps)) (h0 : ps = [] → v = .slice none 0 0) : ∃ a c, v = .slice a ps.length c ∧ Pl W a ps.length c (encA3 ps) := by
  rcases own_some h (fun e => h0 (List.length_eq_zero_iff.1 e)) with ⟨rfl, h1, h2⟩ | ⟨g, c, rfl, h1, _, _, h2⟩
  · exact ⟨none, 0, by rw [h1], .inl ⟨rfl, h1, rfl, h2⟩⟩
  · exact ⟨_, c, rfl, .inr ⟨_, rfl, h1, encA3_length ps, h2, encA3_one ps⟩⟩
theorem spansGo_len (ws : List W8) (eb el ec : Int) (f k : Nat) (bad : Option Rf) (hk : k ≤ ws.length) : (spansGo ws eb el ec f k bad).ss.length + k ≤ (spansGo ws eb el ec f k bad).k ∧ (spansGo ws eb el ec f k bad).ps.length = (spansGo ws eb el ec f k bad).ss.length ∧ (spansGo ws eb el ec f k bad).k ≤ ws.length := by
  induction f generalizing k bad with
  | zero => exact ⟨by show 0 + k ≤ k; omega, rfl, hk⟩
  | succ f ih =>
    unfold spansGo
    by_cases hs : seesB ws k bad 3 = true
    · rw [if_pos hs]
      have h1 := spanV_lt eb el ec hs
      have h2 := ih (spanV ws k bad eb el ec).k (spanV ws k bad eb el ec).bad h1.2
      dsimp only
      refine ⟨?_, by rw [List.length_cons, List.length_cons, h2.2.1], h2.2.2⟩
      rw [List.length_cons]; omega
    · rw [if_neg hs]
      exact ⟨by show 0 + k ≤ k; omega, rfl, hk⟩
theorem spansV_len (ws : List W8) (eb el ec : Int) (k : Nat) (bad : Option Rf) (hk : k ≤ ws.length) : (spansV ws k bad eb el ec).ss.length + k ≤ (spansV ws k bad eb el ec).k ∧ (spansV ws k bad eb el ec).ps.length = (spansV ws k bad eb el ec).ss.length ∧ (spansV ws k bad eb el ec).k ≤ ws.length := by
  unfold spansV
  dsimp only
  have h1 := takeV_le ws k bad eb el ec 4 hk
  have h2 := spansGo_len ws eb el ec (ws.length + 1) (takeV ws k bad eb el ec 4).k (takeV ws k bad eb el ec 4).bad h1.2
  have h3 := takeV_le ws (spansGo ws eb el ec (ws.length + 1) (takeV ws k bad eb el ec 4).k (takeV ws k bad eb el ec 4).bad).k (spansGo ws eb el ec (ws.length + 1) (takeV ws k bad eb el ec 4).k (takeV ws k bad eb el ec 4).bad).bad eb el ec 5 h2.2.2
  exact ⟨by omega, h2.2.1, h3.2⟩
theorem spans_e (R Tx g : Nat) (ws : List W8) (k : Nat) (bad : Option Rf) (eb el ec : Int) (V : Sps) (he : spansV ws k bad eb el ec = V) (W : World) (h : RdE W R Tx g ws k bad eb el ec) :
    Calls Tryz.prog 113 #[.pointer (some ⟨R, 0, none⟩)] W fun e w' => ∃ vs vp, e = .returned (.tuple #[vs, vp]) ∧ SpSt W w' R Tx g ws V.k V.bad eb el ec vs vp V.ss V.ps := by
  subst he
  exact spans_any R Tx g ws k bad eb el ec W h
set_option maxRecDepth 100000 in
set_option maxHeartbeats 4000000 in
theorem common_any (R Tx g lo : Nat) (ws : List W8) (k : Nat) (bad : Option Rf) (eb el ec : Int) (ga : Value) (vs : List Value) (ls : List Ln) (n1 n2 : Nat) (xs1 xs2 : List Value) (hl1 : ls[1]? = some ⟨68, 2, n1, xs1⟩) (hl2 : ls[8 + 2]? = some ⟨49, 3, n2, xs2⟩) (hn1 : n1 ≤ 1000000) (hn2 : n2 ≤ 1000000) (fb fl fc : Int) (W0 W : World) (h : RuSt W0 W R Tx g lo ws k bad eb el ec vs ls) :
    Calls Tryz.prog 81 #[.pointer (some ⟨R, 0, none⟩), .agg #[.int .i64 fb, .int .i64 fl, .int .i64 fc]] W fun e w' => (∃ r, e = .returned r) ∧ ∃ va vb, RuSt W0 w' R Tx g lo ws (spansV ws k bad eb el ec).k (spansV ws k bad eb el ec).bad eb el ec ((vs.set 1 va).set (8 + 2) vb) ((ls.set 1 ⟨68, 2, n1 + (spansV ws k bad eb el ec).ss.length, xs1 ++ encS2 (spansV ws k bad eb el ec).ss⟩).set (8 + 2) ⟨49, 3, n2 + (spansV ws k bad eb el ec).ps.length, xs2 ++ encA3 (spansV ws k bad eb el ec).ps⟩) := by
  have hlen := spansV_len ws eb el ec k bad h.rd.rd.kn
  have hwm := h.rd.rd.nmax
  have hbs : (spansV ws k bad eb el ec).ss.length ≤ 1000000 := by omega
  have hbp : (spansV ws k bad eb el ec).ps.length ≤ 1000000 := by omega
  obtain ⟨is, his, hs0, hs1, hs2⟩ := info_parts infoSpan
  have HIS := hide (And.intro his (And.intro hs0 (And.intro hs1 hs2)))
  clear his hs0 hs1 hs2 hlen hwm
  have hmx : Tryz.prog.follows .mixedOrders = true := by kernel_rfl
  have H := hide (h.alloc (.cells #[.int .i64 fb, .int .i64 fl, .int .i64 fc] 49))
  have HLo := hide (And.intro h.low (Nat.lt_of_lt_of_le h.hR h.low))
  clear h
  have HSP := hide (fun (w : World) => spans_e R Tx g ws k bad eb el ec _ rfl w)
  generalize spansV ws k bad eb el ec = V at *
  go_enter Tryz.func81, Tryz.ntmps81
  go_wp2_with fail
  generalize W.alloc (.cells #[.int .i64 fb, .int .i64 fl, .int .i64 fc] 49) = WA at *
  refine (unhide HSP WA (unhide H).rd).mono ?_
  rintro e w1 ⟨sv, sp, rfl, hst⟩
  clear HSP
  obtain ⟨ss, ps, k1, bad1⟩ := V
  dsimp only at hst hbs hbp
  dsimp only
  have H1 := hide ((unhide H).call hst.rd hst.gr)
  have hloA : lo ≤ WA.heap.size := (unhide H).low
  have HOS := hide (And.intro hst.os hst.ns)
  have HOP := hide (And.intro hst.op hst.np)
  clear hst
  go_wp2_with fail
  obtain ⟨v, hv⟩ : ∃ v, vs[1]? = some v := ⟨_, List.getElem?_eq_getElem (by have := (unhide H1).tb.lv; omega)⟩
  have how := (unhide H1).tb.own _ _ _ hv hl1
  obtain ⟨va, vc, rfl⟩ := own_slice how
  have hg0 : ∀ b, Value.ownBlock (.slice va n1 vc) = some b → lo ≤ b := rd_from how
  obtain ⟨ra, rc, rv, hrb, _, _, _⟩ := (unhide H1).rd.rd.blk
  have c1 : w1.cell? ⟨R, 1, none⟩ = some (.pointer (some ⟨Tx, 0, none⟩)) := hrb.cell 1
  have t0 := (unhide H1).tb.cell (by omega) hv
  have hTl := (unhide H1).tb.lt
  have hRl := (unhide H1).hR
  have hl3 := (unhide H1).low
  have hltR : R < w1.heap.size := by omega
  have hltT : Tx < w1.heap.size := by omega
  have tf := (unhide H1).tb.blk.frozen 1
  have hPs := rd_apart (unhide HOP).1 how (show (49 : Nat) ≠ 68 by decide)
  clear hrb
  have HFIN : Hz (∀ (w4 : World) (v' : Value), w4.ownsRow lo 68 2 v' (n1 + ss.length) (xs1 ++ encS2 ss) → w1.grownBy w4 (Value.ownBlock (.slice va n1 vc)) → (v'.ownBlock = Value.ownBlock (.slice va n1 vc) ∨ v'.ownBlock = some w1.heap.size) →
      RuSt W0 (w4.setCell ⟨Tx, 1, none⟩ v') R Tx g lo ws k1 bad1 eb el ec (vs.set 1 v') (ls.set 1 ⟨68, 2, n1 + ss.length, xs1 ++ encS2 ss⟩) ∧ ∃ a c, sp = .slice a ps.length c ∧ Pl (w4.setCell ⟨Tx, 1, none⟩ v') a ps.length c (encA3 ps)) := hide (by
    intro w4 v' ho hg hat
    refine ⟨(unhide H1).put (by omega) hv hl1 (show (68 : Nat) ≠ 54 by decide) ho hg hat, ?_⟩
    have o1 := rd_other (unhide HOP).1 hg hPs
    have o2 := rd_other o1 (grown_set' w4 Tx 1 v') (.inr fun e => by have := rd_from (unhide HOP).1 Tx e; omega)
    exact own_pl o2 (unhide HOP).2)
  have HRO := hide (fun (vs' : List Value) (ls' : List Ln) (hq : ls'[8 + 2]? = some ⟨49, 3, n2, xs2⟩) (a : Option Addr) (c : Nat) (w : World) => rows_ru W0 R Tx g lo ws k1 bad1 eb el ec vs' ls' 2 (by omega) n2 xs2 hq a ps.length c (encA3 ps) (by omega) w)
  rcases own_some (unhide HOS).1 (fun e => (unhide HOS).2 (List.length_eq_zero_iff.1 e)) with ⟨rfl, he0, hex⟩ | ⟨gs, cs, rfl, hm0, _, _, hnews⟩
  · have HX := hide (And.intro he0 hex)
    clear he0 hex
    have tf2 : w1.drew.frozen? ⟨Tx, 1, none⟩ = false := tf
    go_region_law (refine step_append_none (by rfl) _ _ _ (by rfl) lo 68 is 2 Tryz.underlying23 (unhide HIS).1 _ n1 xs1 (by rfl) how.drew (by rfl) ?_)
    all_goals
      obtain ⟨hru, pa, pc, rfl, hpl⟩ := unhide HFIN w1.drew (.slice va n1 vc) (by rw [(unhide HX).1, (unhide HX).2, List.append_nil]; exact how.drew) ⟨rfl, rfl, rfl, Nat.le_refl _, fun _ _ _ => rfl⟩ (.inl rfl)
      have HRU : Hz (RuSt W0 (w1.setCell ⟨Tx, 1, none⟩ (.slice va n1 vc)).drew R Tx g lo ws k1 bad1 eb el ec (vs.set 1 (.slice va n1 vc)) (ls.set 1 ⟨68, 2, n1 + ss.length, xs1 ++ encS2 ss⟩) ∧ Pl (w1.setCell ⟨Tx, 1, none⟩ (.slice va n1 vc)).drew pa ps.length pc (encA3 ps)) := hide (And.intro hru hpl)
      clear hru hpl t0 c1 how tf tf2 hPs HFIN HOS HOP H1
      generalize (w1.setCell ⟨Tx, 1, none⟩ (.slice va n1 vc)).drew = w5 at *
      go_wp2_with fail
      refine (unhide HRO _ _ (by rw [List.getElem?_set_ne (by decide)]; exact hl2) pa pc w5 (unhide HRU).1 (unhide HRU).2).mono ?_
      rintro e w6 ⟨⟨r, rfl⟩, vb, hfin⟩
      go_wp2_with fail
      go_end0
      exact ⟨⟨_, rfl⟩, _, vb, hfin⟩
  · have tf2 : w1.drew.frozen? ⟨Tx, 1, none⟩ = false := tf
    go_region_law (refine step_append_lies _ (by rfl) _ _ _ (by rfl) lo 68 is (.agg #[.int .i32 0, .int .i32 0]) 2 8 Tryz.underlying23 (unhide HIS).1 (unhide HIS).2.1 (unhide HIS).2.2.1 (unhide HIS).2.2.2 rfl (by omega) _ n1 xs1 (by rfl) how.drew ⟨gs, 0, none⟩ ss.length cs (encS2 ss) (by rfl) (encS2_length ss) hnews (encS2_one ss) hm0 (by unfold maxLen; omega) (by omega) hl3 w1.heap.size (by simp) ?_; intro gg cap w4 hown1 hgrow hatt hlt; have q1 : w4.cell? ⟨Tx, 1, none⟩ = some (.slice va n1 vc) := hgrow.cell (a := ⟨Tx, 1, none⟩) t0 (by show some Tx ≠ Value.ownBlock (.slice va n1 vc); intro e; have := hg0 Tx e.symm; omega); have q2 : w4.frozen? ⟨Tx, 1, none⟩ = false := (Blk.kept (W := w1.drew) (unhide H1).tb.blk hgrow (fun e => by have := hg0 Tx e.symm; omega)).frozen 1; have q3 : w4.cell? ⟨R, 1, none⟩ = some (.pointer (some ⟨Tx, 0, none⟩)) := hgrow.cell (a := ⟨R, 1, none⟩) c1 (by show some R ≠ Value.ownBlock (.slice va n1 vc); intro e; have := hg0 R e.symm; omega))
    all_goals
      obtain ⟨hru, pa, pc, rfl, hpl⟩ := unhide HFIN w4 _ hown1 ⟨hgrow.os, hgrow.tape, hgrow.output, hgrow.size, hgrow.block⟩ (by rcases hatt with e | e; exact .inl e.symm; exact .inr (by rw [e]; rfl))
      have HRU := hide (And.intro hru hpl)
      clear hru hpl t0 c1 how tf tf2 hPs HFIN HOS HOP H1 hgrow hown1 hatt hlt q1 q2 q3 hnews
      generalize w4.setCell ⟨Tx, 1, none⟩ (.slice (some ⟨gg, 0, none⟩) (n1 + ss.length) cap) = w5 at *
      go_wp2_with fail
      refine (unhide HRO _ _ (by rw [List.getElem?_set_ne (by decide)]; exact hl2) pa pc w5 (unhide HRU).1 (unhide HRU).2).mono ?_
      rintro e w6 ⟨⟨r, rfl⟩, vb, hfin⟩
      go_wp2_with fail
      go_end0
      exact ⟨⟨_, rfl⟩, _, vb, hfin⟩
set_option maxRecDepth 100000 in
set_option maxHeartbeats 4000000 in
theorem drop_any (R Tx g lo : Nat) (ws : List W8) (k : Nat) (bad : Option Rf) (eb el ec : Int) (ga : Value) (vs : List Value) (ls : List Ln) (n1 n2 : Nat) (xs1 xs2 : List Value) (hl1 : ls[6]? = some ⟨68, 2, n1, xs1⟩) (hl2 : ls[8 + 7]? = some ⟨49, 3, n2, xs2⟩) (hn1 : n1 ≤ 1000000) (hn2 : n2 ≤ 1000000) (fb fl fc : Int) (W0 W : World) (h : RuSt W0 W R Tx g lo ws k bad eb el ec vs ls) :
    Calls Tryz.prog 86 #[.pointer (some ⟨R, 0, none⟩), .agg #[.int .i64 fb, .int .i64 fl, .int .i64 fc]] W fun e w' => (∃ r, e = .returned r) ∧ ∃ va vb, RuSt W0 w' R Tx g lo ws (spansV ws k bad eb el ec).k (spansV ws k bad eb el ec).bad eb el ec ((vs.set 6 va).set (8 + 7) vb) ((ls.set 6 ⟨68, 2, n1 + (spansV ws k bad eb el ec).ss.length, xs1 ++ encS2 (spansV ws k bad eb el ec).ss⟩).set (8 + 7) ⟨49, 3, n2 + (spansV ws k bad eb el ec).ps.length, xs2 ++ encA3 (spansV ws k bad eb el ec).ps⟩) := by
  have hlen := spansV_len ws eb el ec k bad h.rd.rd.kn
  have hwm := h.rd.rd.nmax
  have hbs : (spansV ws k bad eb el ec).ss.length ≤ 1000000 := by omega
  have hbp : (spansV ws k bad eb el ec).ps.length ≤ 1000000 := by omega
  obtain ⟨is, his, hs0, hs1, hs2⟩ := info_parts infoSpan
  have HIS := hide (And.intro his (And.intro hs0 (And.intro hs1 hs2)))
  clear his hs0 hs1 hs2 hlen hwm
  have hmx : Tryz.prog.follows .mixedOrders = true := by kernel_rfl
  have H := hide (h.alloc (.cells #[.int .i64 fb, .int .i64 fl, .int .i64 fc] 49))
  have HLo := hide (And.intro h.low (Nat.lt_of_lt_of_le h.hR h.low))
  clear h
  have HSP := hide (fun (w : World) => spans_e R Tx g ws k bad eb el ec _ rfl w)
  generalize spansV ws k bad eb el ec = V at *
  go_enter Tryz.func86, Tryz.ntmps86
  go_wp2_with fail
  generalize W.alloc (.cells #[.int .i64 fb, .int .i64 fl, .int .i64 fc] 49) = WA at *
  refine (unhide HSP WA (unhide H).rd).mono ?_
  rintro e w1 ⟨sv, sp, rfl, hst⟩
  clear HSP
  obtain ⟨ss, ps, k1, bad1⟩ := V
  dsimp only at hst hbs hbp
  dsimp only
  have H1 := hide ((unhide H).call hst.rd hst.gr)
  have hloA : lo ≤ WA.heap.size := (unhide H).low
  have HOS := hide (And.intro hst.os hst.ns)
  have HOP := hide (And.intro hst.op hst.np)
  clear hst
  go_wp2_with fail
  obtain ⟨v, hv⟩ : ∃ v, vs[6]? = some v := ⟨_, List.getElem?_eq_getElem (by have := (unhide H1).tb.lv; omega)⟩
  have how := (unhide H1).tb.own _ _ _ hv hl1
  obtain ⟨va, vc, rfl⟩ := own_slice how
  have hg0 : ∀ b, Value.ownBlock (.slice va n1 vc) = some b → lo ≤ b := rd_from how
  obtain ⟨ra, rc, rv, hrb, _, _, _⟩ := (unhide H1).rd.rd.blk
  have c1 : w1.cell? ⟨R, 1, none⟩ = some (.pointer (some ⟨Tx, 0, none⟩)) := hrb.cell 1
  have t0 := (unhide H1).tb.cell (by omega) hv
  have hTl := (unhide H1).tb.lt
  have hRl := (unhide H1).hR
  have hl3 := (unhide H1).low
  have hltR : R < w1.heap.size := by omega
  have hltT : Tx < w1.heap.size := by omega
  have tf := (unhide H1).tb.blk.frozen 6
  have hPs := rd_apart (unhide HOP).1 how (show (49 : Nat) ≠ 68 by decide)
  clear hrb
  have HFIN : Hz (∀ (w4 : World) (v' : Value), w4.ownsRow lo 68 2 v' (n1 + ss.length) (xs1 ++ encS2 ss) → w1.grownBy w4 (Value.ownBlock (.slice va n1 vc)) → (v'.ownBlock = Value.ownBlock (.slice va n1 vc) ∨ v'.ownBlock = some w1.heap.size) →
      RuSt W0 (w4.setCell ⟨Tx, 6, none⟩ v') R Tx g lo ws k1 bad1 eb el ec (vs.set 6 v') (ls.set 6 ⟨68, 2, n1 + ss.length, xs1 ++ encS2 ss⟩) ∧ ∃ a c, sp = .slice a ps.length c ∧ Pl (w4.setCell ⟨Tx, 6, none⟩ v') a ps.length c (encA3 ps)) := hide (by
    intro w4 v' ho hg hat
    refine ⟨(unhide H1).put (by omega) hv hl1 (show (68 : Nat) ≠ 54 by decide) ho hg hat, ?_⟩
    have o1 := rd_other (unhide HOP).1 hg hPs
    have o2 := rd_other o1 (grown_set' w4 Tx 6 v') (.inr fun e => by have := rd_from (unhide HOP).1 Tx e; omega)
    exact own_pl o2 (unhide HOP).2)
  have HRO := hide (fun (vs' : List Value) (ls' : List Ln) (hq : ls'[8 + 7]? = some ⟨49, 3, n2, xs2⟩) (a : Option Addr) (c : Nat) (w : World) => rows_ru W0 R Tx g lo ws k1 bad1 eb el ec vs' ls' 7 (by omega) n2 xs2 hq a ps.length c (encA3 ps) (by omega) w)
  rcases own_some (unhide HOS).1 (fun e => (unhide HOS).2 (List.length_eq_zero_iff.1 e)) with ⟨rfl, he0, hex⟩ | ⟨gs, cs, rfl, hm0, _, _, hnews⟩
  · have HX := hide (And.intro he0 hex)
    clear he0 hex
    have tf2 : w1.drew.frozen? ⟨Tx, 6, none⟩ = false := tf
    go_region_law (refine step_append_none (by rfl) _ _ _ (by rfl) lo 68 is 2 Tryz.underlying23 (unhide HIS).1 _ n1 xs1 (by rfl) how.drew (by rfl) ?_)
    all_goals
      obtain ⟨hru, pa, pc, rfl, hpl⟩ := unhide HFIN w1.drew (.slice va n1 vc) (by rw [(unhide HX).1, (unhide HX).2, List.append_nil]; exact how.drew) ⟨rfl, rfl, rfl, Nat.le_refl _, fun _ _ _ => rfl⟩ (.inl rfl)
      have HRU : Hz (RuSt W0 (w1.setCell ⟨Tx, 6, none⟩ (.slice va n1 vc)).drew R Tx g lo ws k1 bad1 eb el ec (vs.set 6 (.slice va n1 vc)) (ls.set 6 ⟨68, 2, n1 + ss.length, xs1 ++ encS2 ss⟩) ∧ Pl (w1.setCell ⟨Tx, 6, none⟩ (.slice va n1 vc)).drew pa ps.length pc (encA3 ps)) := hide (And.intro hru hpl)
      clear hru hpl t0 c1 how tf tf2 hPs HFIN HOS HOP H1
      generalize (w1.setCell ⟨Tx, 6, none⟩ (.slice va n1 vc)).drew = w5 at *
      go_wp2_with fail
      refine (unhide HRO _ _ (by rw [List.getElem?_set_ne (by decide)]; exact hl2) pa pc w5 (unhide HRU).1 (unhide HRU).2).mono ?_
      rintro e w6 ⟨⟨r, rfl⟩, vb, hfin⟩
      go_wp2_with fail
      go_end0
      exact ⟨⟨_, rfl⟩, _, vb, hfin⟩
  · have tf2 : w1.drew.frozen? ⟨Tx, 6, none⟩ = false := tf
    go_region_law (refine step_append_lies _ (by rfl) _ _ _ (by rfl) lo 68 is (.agg #[.int .i32 0, .int .i32 0]) 2 8 Tryz.underlying23 (unhide HIS).1 (unhide HIS).2.1 (unhide HIS).2.2.1 (unhide HIS).2.2.2 rfl (by omega) _ n1 xs1 (by rfl) how.drew ⟨gs, 0, none⟩ ss.length cs (encS2 ss) (by rfl) (encS2_length ss) hnews (encS2_one ss) hm0 (by unfold maxLen; omega) (by omega) hl3 w1.heap.size (by simp) ?_; intro gg cap w4 hown1 hgrow hatt hlt; have q1 : w4.cell? ⟨Tx, 6, none⟩ = some (.slice va n1 vc) := hgrow.cell (a := ⟨Tx, 6, none⟩) t0 (by show some Tx ≠ Value.ownBlock (.slice va n1 vc); intro e; have := hg0 Tx e.symm; omega); have q2 : w4.frozen? ⟨Tx, 6, none⟩ = false := (Blk.kept (W := w1.drew) (unhide H1).tb.blk hgrow (fun e => by have := hg0 Tx e.symm; omega)).frozen 6; have q3 : w4.cell? ⟨R, 1, none⟩ = some (.pointer (some ⟨Tx, 0, none⟩)) := hgrow.cell (a := ⟨R, 1, none⟩) c1 (by show some R ≠ Value.ownBlock (.slice va n1 vc); intro e; have := hg0 R e.symm; omega))
    all_goals
      obtain ⟨hru, pa, pc, rfl, hpl⟩ := unhide HFIN w4 _ hown1 ⟨hgrow.os, hgrow.tape, hgrow.output, hgrow.size, hgrow.block⟩ (by rcases hatt with e | e; exact .inl e.symm; exact .inr (by rw [e]; rfl))
      have HRU := hide (And.intro hru hpl)
      clear hru hpl t0 c1 how tf tf2 hPs HFIN HOS HOP H1 hgrow hown1 hatt hlt q1 q2 q3 hnews
      generalize w4.setCell ⟨Tx, 6, none⟩ (.slice (some ⟨gg, 0, none⟩) (n1 + ss.length) cap) = w5 at *
      go_wp2_with fail
      refine (unhide HRO _ _ (by rw [List.getElem?_set_ne (by decide)]; exact hl2) pa pc w5 (unhide HRU).1 (unhide HRU).2).mono ?_
      rintro e w6 ⟨⟨r, rfl⟩, vb, hfin⟩
      go_wp2_with fail
      go_end0
      exact ⟨⟨_, rfl⟩, _, vb, hfin⟩
set_option maxRecDepth 100000 in
set_option maxHeartbeats 4000000 in
theorem allow_any (R Tx g lo : Nat) (ws : List W8) (k : Nat) (bad : Option Rf) (eb el ec : Int) (ga : Value) (vs : List Value) (ls : List Ln) (n1 n2 : Nat) (xs1 xs2 : List Value) (hl1 : ls[7]? = some ⟨68, 2, n1, xs1⟩) (hl2 : ls[8 + 8]? = some ⟨49, 3, n2, xs2⟩) (hn1 : n1 ≤ 1000000) (hn2 : n2 ≤ 1000000) (fb fl fc : Int) (W0 W : World) (h : RuSt W0 W R Tx g lo ws k bad eb el ec vs ls) :
    Calls Tryz.prog 87 #[.pointer (some ⟨R, 0, none⟩), .agg #[.int .i64 fb, .int .i64 fl, .int .i64 fc]] W fun e w' => (∃ r, e = .returned r) ∧ ∃ va vb, RuSt W0 w' R Tx g lo ws (spansV ws k bad eb el ec).k (spansV ws k bad eb el ec).bad eb el ec ((vs.set 7 va).set (8 + 8) vb) ((ls.set 7 ⟨68, 2, n1 + (spansV ws k bad eb el ec).ss.length, xs1 ++ encS2 (spansV ws k bad eb el ec).ss⟩).set (8 + 8) ⟨49, 3, n2 + (spansV ws k bad eb el ec).ps.length, xs2 ++ encA3 (spansV ws k bad eb el ec).ps⟩) := by
  have hlen := spansV_len ws eb el ec k bad h.rd.rd.kn
  have hwm := h.rd.rd.nmax
  have hbs : (spansV ws k bad eb el ec).ss.length ≤ 1000000 := by omega
  have hbp : (spansV ws k bad eb el ec).ps.length ≤ 1000000 := by omega
  obtain ⟨is, his, hs0, hs1, hs2⟩ := info_parts infoSpan
  have HIS := hide (And.intro his (And.intro hs0 (And.intro hs1 hs2)))
  clear his hs0 hs1 hs2 hlen hwm
  have hmx : Tryz.prog.follows .mixedOrders = true := by kernel_rfl
  have H := hide (h.alloc (.cells #[.int .i64 fb, .int .i64 fl, .int .i64 fc] 49))
  have HLo := hide (And.intro h.low (Nat.lt_of_lt_of_le h.hR h.low))
  clear h
  have HSP := hide (fun (w : World) => spans_e R Tx g ws k bad eb el ec _ rfl w)
  generalize spansV ws k bad eb el ec = V at *
  go_enter Tryz.func87, Tryz.ntmps87
  go_wp2_with fail
  generalize W.alloc (.cells #[.int .i64 fb, .int .i64 fl, .int .i64 fc] 49) = WA at *
  refine (unhide HSP WA (unhide H).rd).mono ?_
  rintro e w1 ⟨sv, sp, rfl, hst⟩
  clear HSP
  obtain ⟨ss, ps, k1, bad1⟩ := V
  dsimp only at hst hbs hbp
  dsimp only
  have H1 := hide ((unhide H).call hst.rd hst.gr)
  have hloA : lo ≤ WA.heap.size := (unhide H).low
  have HOS := hide (And.intro hst.os hst.ns)
  have HOP := hide (And.intro hst.op hst.np)
  clear hst
  go_wp2_with fail
  obtain ⟨v, hv⟩ : ∃ v, vs[7]? = some v := ⟨_, List.getElem?_eq_getElem (by have := (unhide H1).tb.lv; omega)⟩
  have how := (unhide H1).tb.own _ _ _ hv hl1
  obtain ⟨va, vc, rfl⟩ := own_slice how
  have hg0 : ∀ b, Value.ownBlock (.slice va n1 vc) = some b → lo ≤ b := rd_from how
  obtain ⟨ra, rc, rv, hrb, _, _, _⟩ := (unhide H1).rd.rd.blk
  have c1 : w1.cell? ⟨R, 1, none⟩ = some (.pointer (some ⟨Tx, 0, none⟩)) := hrb.cell 1
  have t0 := (unhide H1).tb.cell (by omega) hv
  have hTl := (unhide H1).tb.lt
  have hRl := (unhide H1).hR
  have hl3 := (unhide H1).low
  have hltR : R < w1.heap.size := by omega
  have hltT : Tx < w1.heap.size := by omega
  have tf := (unhide H1).tb.blk.frozen 7
  have hPs := rd_apart (unhide HOP).1 how (show (49 : Nat) ≠ 68 by decide)
  clear hrb
  have HFIN : Hz (∀ (w4 : World) (v' : Value), w4.ownsRow lo 68 2 v' (n1 + ss.length) (xs1 ++ encS2 ss) → w1.grownBy w4 (Value.ownBlock (.slice va n1 vc)) → (v'.ownBlock = Value.ownBlock (.slice va n1 vc) ∨ v'.ownBlock = some w1.heap.size) →
      RuSt W0 (w4.setCell ⟨Tx, 7, none⟩ v') R Tx g lo ws k1 bad1 eb el ec (vs.set 7 v') (ls.set 7 ⟨68, 2, n1 + ss.length, xs1 ++ encS2 ss⟩) ∧ ∃ a c, sp = .slice a ps.length c ∧ Pl (w4.setCell ⟨Tx, 7, none⟩ v') a ps.length c (encA3 ps)) := hide (by
    intro w4 v' ho hg hat
    refine ⟨(unhide H1).put (by omega) hv hl1 (show (68 : Nat) ≠ 54 by decide) ho hg hat, ?_⟩
    have o1 := rd_other (unhide HOP).1 hg hPs
    have o2 := rd_other o1 (grown_set' w4 Tx 7 v') (.inr fun e => by have := rd_from (unhide HOP).1 Tx e; omega)
    exact own_pl o2 (unhide HOP).2)
  have HRO := hide (fun (vs' : List Value) (ls' : List Ln) (hq : ls'[8 + 8]? = some ⟨49, 3, n2, xs2⟩) (a : Option Addr) (c : Nat) (w : World) => rows_ru W0 R Tx g lo ws k1 bad1 eb el ec vs' ls' 8 (by omega) n2 xs2 hq a ps.length c (encA3 ps) (by omega) w)
  rcases own_some (unhide HOS).1 (fun e => (unhide HOS).2 (List.length_eq_zero_iff.1 e)) with ⟨rfl, he0, hex⟩ | ⟨gs, cs, rfl, hm0, _, _, hnews⟩
  · have HX := hide (And.intro he0 hex)
    clear he0 hex
    have tf2 : w1.drew.frozen? ⟨Tx, 7, none⟩ = false := tf
    go_region_law (refine step_append_none (by rfl) _ _ _ (by rfl) lo 68 is 2 Tryz.underlying23 (unhide HIS).1 _ n1 xs1 (by rfl) how.drew (by rfl) ?_)
    all_goals
      obtain ⟨hru, pa, pc, rfl, hpl⟩ := unhide HFIN w1.drew (.slice va n1 vc) (by rw [(unhide HX).1, (unhide HX).2, List.append_nil]; exact how.drew) ⟨rfl, rfl, rfl, Nat.le_refl _, fun _ _ _ => rfl⟩ (.inl rfl)
      have HRU : Hz (RuSt W0 (w1.setCell ⟨Tx, 7, none⟩ (.slice va n1 vc)).drew R Tx g lo ws k1 bad1 eb el ec (vs.set 7 (.slice va n1 vc)) (ls.set 7 ⟨68, 2, n1 + ss.length, xs1 ++ encS2 ss⟩) ∧ Pl (w1.setCell ⟨Tx, 7, none⟩ (.slice va n1 vc)).drew pa ps.length pc (encA3 ps)) := hide (And.intro hru hpl)
      clear hru hpl t0 c1 how tf tf2 hPs HFIN HOS HOP H1
      generalize (w1.setCell ⟨Tx, 7, none⟩ (.slice va n1 vc)).drew = w5 at *
      go_wp2_with fail
      refine (unhide HRO _ _ (by rw [List.getElem?_set_ne (by decide)]; exact hl2) pa pc w5 (unhide HRU).1 (unhide HRU).2).mono ?_
      rintro e w6 ⟨⟨r, rfl⟩, vb, hfin⟩
      go_wp2_with fail
      go_end0
      exact ⟨⟨_, rfl⟩, _, vb, hfin⟩
  · have tf2 : w1.drew.frozen? ⟨Tx, 7, none⟩ = false := tf
    go_region_law (refine step_append_lies _ (by rfl) _ _ _ (by rfl) lo 68 is (.agg #[.int .i32 0, .int .i32 0]) 2 8 Tryz.underlying23 (unhide HIS).1 (unhide HIS).2.1 (unhide HIS).2.2.1 (unhide HIS).2.2.2 rfl (by omega) _ n1 xs1 (by rfl) how.drew ⟨gs, 0, none⟩ ss.length cs (encS2 ss) (by rfl) (encS2_length ss) hnews (encS2_one ss) hm0 (by unfold maxLen; omega) (by omega) hl3 w1.heap.size (by simp) ?_; intro gg cap w4 hown1 hgrow hatt hlt; have q1 : w4.cell? ⟨Tx, 7, none⟩ = some (.slice va n1 vc) := hgrow.cell (a := ⟨Tx, 7, none⟩) t0 (by show some Tx ≠ Value.ownBlock (.slice va n1 vc); intro e; have := hg0 Tx e.symm; omega); have q2 : w4.frozen? ⟨Tx, 7, none⟩ = false := (Blk.kept (W := w1.drew) (unhide H1).tb.blk hgrow (fun e => by have := hg0 Tx e.symm; omega)).frozen 7; have q3 : w4.cell? ⟨R, 1, none⟩ = some (.pointer (some ⟨Tx, 0, none⟩)) := hgrow.cell (a := ⟨R, 1, none⟩) c1 (by show some R ≠ Value.ownBlock (.slice va n1 vc); intro e; have := hg0 R e.symm; omega))
    all_goals
      obtain ⟨hru, pa, pc, rfl, hpl⟩ := unhide HFIN w4 _ hown1 ⟨hgrow.os, hgrow.tape, hgrow.output, hgrow.size, hgrow.block⟩ (by rcases hatt with e | e; exact .inl e.symm; exact .inr (by rw [e]; rfl))
      have HRU := hide (And.intro hru hpl)
      clear hru hpl t0 c1 how tf tf2 hPs HFIN HOS HOP H1 hgrow hown1 hatt hlt q1 q2 q3 hnews
      generalize w4.setCell ⟨Tx, 7, none⟩ (.slice (some ⟨gg, 0, none⟩) (n1 + ss.length) cap) = w5 at *
      go_wp2_with fail
      refine (unhide HRO _ _ (by rw [List.getElem?_set_ne (by decide)]; exact hl2) pa pc w5 (unhide HRU).1 (unhide HRU).2).mono ?_
      rintro e w6 ⟨⟨r, rfl⟩, vb, hfin⟩
      go_wp2_with fail
      go_end0
      exact ⟨⟨_, rfl⟩, _, vb, hfin⟩
def jumps (J : Nat → Act → World → Prop) (Q : Exit → Act → World → Prop) : Exit → Act → World → Prop
  | .goto l, a, w => J l a w
  | e, a, w => Q e a w
theorem wp_scope_many {P : Program} {a : Act} {w : World} {Q : Exit → Act → World → Prop} {c : Code} (J : Nat → Nat → Act → World → Prop)
    (first : c.wp P (jumps (fun l a w => ∃ k, J l k a w) Q) a w)
    (pass : ∀ l k a w, J l k a w → ∃ rest, findLabel c l = some rest ∧ rest.wp P (jumps (fun l' a' w' => ∃ k', k' < k ∧ J l' k' a' w') Q) a w) : (Code.scope c).wp P Q a w := by
  intro b k cs
  have key : ∀ n l a w, J l n a w → ∃ rest, gotoIn l (.inScope c :: k) = some (.code rest :: .inScope c :: k) ∧ ∃ e a' w', Q e a' w' ∧ Arrives P (lone (b.at a (.code rest :: .inScope c :: k)) cs w) b k cs e a' w' := by
    intro n
    induction n using Nat.strongRecOn with
    | _ n ih =>
      intro l a w hJ
      obtain ⟨rest, hf, hp⟩ := pass l n a w hJ
      refine ⟨rest, by simp [gotoIn, hf], ?_⟩
      obtain ⟨e, a₁, w₁, hq, harr⟩ := hp b (.inScope c :: k) cs
      cases e with
      | normal => exact ⟨.normal, a₁, w₁, hq, Steps.trans harr (.one step_inScope)⟩
      | exit id => exact ⟨.exit id, a₁, w₁, hq, fun k' hk => harr k' (by simp [exitTo, hk])⟩
      | goto l' =>
        obtain ⟨k', hlt, hJ'⟩ := hq
        obtain ⟨rest', hg, e₂, a₂, w₂, hq₂, harr₂⟩ := ih k' hlt l' a₁ w₁ hJ'
        exact ⟨e₂, a₂, w₂, hq₂, .of_steps (harr _ hg) harr₂⟩
      | ret => exact ⟨_, a₁, w₁, hq, harr⟩
      | panic ch => exact ⟨_, a₁, w₁, hq, harr⟩
      | outgrown => exact ⟨_, a₁, w₁, hq, harr⟩
  obtain ⟨e, a₁, w₁, hq, harr⟩ := first b (.inScope c :: k) cs
  cases e with
  | normal => exact ⟨.normal, a₁, w₁, hq, .head step_scope (Steps.trans harr (.one step_inScope))⟩
  | exit id => exact ⟨.exit id, a₁, w₁, hq, fun k' hk => .head step_scope (harr k' (by simp [exitTo, hk]))⟩
  | goto l' =>
    obtain ⟨k', hq⟩ := hq
    obtain ⟨rest', hg, e₂, a₂, w₂, hq₂, harr₂⟩ := key k' l' a₁ w₁ hq
    exact ⟨e₂, a₂, w₂, hq₂, .of_steps (.head step_scope (harr _ hg)) harr₂⟩
  | ret => exact ⟨_, a₁, w₁, hq, .of_steps (.one step_scope) harr⟩
  | panic ch => exact ⟨_, a₁, w₁, hq, .of_steps (.one step_scope) harr⟩
  | outgrown => exact ⟨_, a₁, w₁, hq, .of_steps (.one step_scope) harr⟩
theorem jumps_mono {P : Program} {c : Code} {J J' : Nat → Act → World → Prop} {Q : Exit → Act → World → Prop} {a : Act} {w : World} (h : c.wp P (jumps J Q) a w) (hJ : ∀ l a w, J l a w → J' l a w) : c.wp P (jumps J' Q) a w := by
  refine wp_mono h ?_
  intro e a' w' he
  cases e <;> first | exact hJ _ _ _ he | exact he
theorem wp_scope_cut {P : Program} {a : Act} {w : World} {Q : Exit → Act → World → Prop} {c : Code} (J : Nat → Nat → Act → World → Prop)
    (zero : ∃ X, findLabel c 0 = some (Code.skip.seq X) ∧ (∀ k a w, J 0 k a w → X.wp P (jumps (fun l' a' w' => ∃ k', k' < k ∧ J l' k' a' w') Q) a w) ∧ ((∀ k a w, J 0 k a w → X.wp P (jumps (fun l a w => ∃ k, J l k a w) Q) a w) → c.wp P (jumps (fun l a w => ∃ k, J l k a w) Q) a w))
    (five : ∃ X, findLabel c 5 = some (Code.skip.seq X) ∧ (∀ k a w, J 5 k a w → X.wp P (jumps (fun l' a' w' => ∃ k', k' < k ∧ J l' k' a' w') Q) a w) ∧ ((∀ k a w, J 5 k a w → X.wp P (jumps (fun l' a' w' => ∃ k', k' < k ∧ J l' k' a' w') Q) a w) → ∀ k a w, J 6 k a w → ∃ rest, findLabel c 6 = some rest ∧ rest.wp P (jumps (fun l' a' w' => ∃ k', k' < k ∧ J l' k' a' w') Q) a w))
    (pass : ∀ l k a w, l ≠ 4 → l ≠ 5 → J (l + 1) k a w → ∃ rest, findLabel c (l + 1) = some rest ∧ rest.wp P (jumps (fun l' a' w' => ∃ k', k' < k ∧ J l' k' a' w') Q) a w) : (Code.scope c).wp P Q a w := by
  obtain ⟨X, hf, hz, hfirst⟩ := zero
  obtain ⟨X5, hf5, hz5, h6⟩ := five
  refine wp_scope_many J (hfirst fun k a w h => jumps_mono (hz k a w h) (fun l a w ⟨k', _, hk⟩ => ⟨k', hk⟩)) ?_
  intro l k a w h
  cases l with
  | zero => exact ⟨_, hf, wp_seq (wp_skip (hz k a w h))⟩
  | succ l =>
    by_cases h4 : l = 4
    · subst h4; exact ⟨_, hf5, wp_seq (wp_skip (hz5 k a w h))⟩
    · by_cases h5 : l = 5
      · subst h5; exact h6 hz5 k a w h
      · exact pass l k a w h4 h5 h
theorem own_keep {W W' : World} {lo k E sz n : Nat} {v : Value} {xs : List Value} (h : W.ownsRow lo E sz v n xs) (hg : W.grownBy W' (some k)) (hk : k < lo) : W'.ownsRow lo E sz v n xs := by
  refine h.kept hg ?_
  cases hv : v.ownBlock with
  | none => exact .inl rfl
  | some j => exact .inr (fun e => by have := (h.lt j hv).1; simp at e; omega)
theorem prod3 (z : Nat × Nat × Bool) : ∃ y n o, z = (y, n, o) := ⟨z.1, z.2.1, z.2.2, rfl⟩
structure CutSt (w W : World) (C : Nat) (s : ByteArray) (b : Nat) (x : Nat × Nat) (v : Value) (ws : List Wd) (cs : Array Value) : Prop where
  blk : Blk W C (ctrC s b x.1 x.2 v) 103
  box : Blk W w.heap.size cs 115
  own : W.ownsRow (w.heap.size + 1) 115 8 v ws.length (encWs ws)
  gr : w.grownBy W (some C)
  lt : C < w.heap.size
theorem CutSt.below {w W W' : World} {C : Nat} {s : ByteArray} {b : Nat} {x : Nat × Nat} {v : Value} {ws : List Wd} {cs : Array Value} (h : CutSt w W C s b x v ws cs) (hb : Below W.heap.size W W') : CutSt w W' C s b x v ws cs :=
  ⟨h.blk.below hb h.blk.lt, h.box.below hb h.box.lt, own_keep h.own ⟨hb.os, hb.tape, hb.output, hb.size, fun k hk _ => hb.block k hk⟩ (k := 0) (by omega), h.gr.trans ⟨hb.os, hb.tape, hb.output, hb.size, fun k hk _ => hb.block k hk⟩, h.lt⟩
theorem CutSt.drew {w W : World} {C : Nat} {s : ByteArray} {b : Nat} {x : Nat × Nat} {v : Value} {ws : List Wd} {cs : Array Value} (h : CutSt w W C s b x v ws cs) (q : Nat) : CutSt w (W.drewN q) C s b x v ws cs :=
  h.below ⟨rfl, rfl, rfl, Nat.le_refl _, fun _ _ => rfl⟩
theorem CutSt.drew1 {w W : World} {C : Nat} {s : ByteArray} {b : Nat} {x : Nat × Nat} {v : Value} {ws : List Wd} {cs : Array Value} (h : CutSt w W C s b x v ws cs) : CutSt w W.drew C s b x v ws cs :=
  h.below ⟨rfl, rfl, rfl, Nat.le_refl _, fun _ _ => rfl⟩
theorem CutSt.pass {w W W' : World} {C : Nat} {s : ByteArray} {b : Nat} {x : Nat × Nat} {v : Value} {ws : List Wd} {cs : Array Value} (h : CutSt w W C s b x v ws cs) {b' : Nat} {x' : Nat × Nat} (hb : Blk W' C (ctrC s b' x'.1 x'.2 v) 103) (hg : W.grownBy W' (some C)) : CutSt w W' C s b' x' v ws cs := by
  have hl := h.lt
  exact ⟨hb, h.box.kept hg (fun e => by simp at e; omega), own_keep h.own hg (by omega), h.gr.trans hg, h.lt⟩
theorem CutSt.set {w W : World} {C : Nat} {s : ByteArray} {b : Nat} {x : Nat × Nat} {v : Value} {ws : List Wd} {cs : Array Value} (h : CutSt w W C s b x v ws cs) (i : Nat) (u : Value) : CutSt w (W.setCell ⟨w.heap.size, i, none⟩ u) C s b x v ws (cs.setIfInBounds i u) := by
  have hl := h.lt
  exact ⟨h.blk.other (by omega) _, h.box.set i u, own_keep h.own (grown_setCell' W ⟨w.heap.size, i, none⟩ u) (by show w.heap.size < _; omega), h.gr.andThen (grown_setCell' W ⟨w.heap.size, i, none⟩ u) (fun j hj => by cases hj; exact .inl (Nat.le_refl _)), h.lt⟩
theorem CutSt.as {w W : World} {C : Nat} {s : ByteArray} {b : Nat} {x : Nat × Nat} {v : Value} {ws : List Wd} {cs cs' : Array Value} (h : CutSt w W C s b x v ws cs) (e : cs = cs') : CutSt w W C s b x v ws cs' := e ▸ h
theorem CutSt.app {w W W2 : World} {C : Nat} {s : ByteArray} {b : Nat} {x : Nat × Nat} {v : Value} {ws : List Wd} {cs : Array Value} {tmp : Obj} (h : CutSt w W C s b x v ws cs) (hg : (W.alloc tmp).drew.grownBy W2 v.ownBlock) : Blk W2 C (ctrC s b x.1 x.2 v) 103 ∧ Blk W2 w.heap.size cs 115 := by
  have hl := h.lt
  have hne : ∀ k, k ≤ w.heap.size → some k ≠ v.ownBlock := fun k hk e => by have := (h.own.lt k e.symm).1; omega
  have hg' : (W.alloc tmp).grownBy W2 v.ownBlock := ⟨hg.os, hg.tape, hg.output, hg.size, hg.block⟩
  exact ⟨(h.blk.alloc tmp).kept hg' (hne C (by omega)), (h.box.alloc tmp).kept hg' (hne _ (Nat.le_refl _))⟩
theorem CutSt.push {w W W2 : World} {C : Nat} {s : ByteArray} {b : Nat} {x : Nat × Nat} {v v' : Value} {ws : List Wd} {cs : Array Value} {tmp : Obj} {X : Wd} (h : CutSt w W C s b x v ws cs) (hg : (W.alloc tmp).drew.grownBy W2 v.ownBlock) (ho : W2.ownsRow (w.heap.size + 1) 115 8 v' (ws.length + 1) (encWs ws ++ wdCells X)) :
    CutSt w (W2.setCell ⟨C, 4, none⟩ v') C s b x v' (ws ++ [X]) cs := by
  have hl := h.lt
  obtain ⟨h1, h2⟩ := h.app hg
  have hg' : (W.alloc tmp).grownBy W2 v.ownBlock := ⟨hg.os, hg.tape, hg.output, hg.size, hg.block⟩
  have gr1 : w.grownBy W2 (some C) := (h.gr.trans (World.grownBy_alloc _ _ _)).andThen hg' (fun j hj => .inl (by have := (h.own.lt j hj).1; omega))
  refine ⟨h1.set 4 v', h2.other (by omega) _, ?_, gr1.trans (grown_setCell' W2 ⟨C, 4, none⟩ v'), hl⟩
  rw [List.length_append, encWs_snoc]
  exact own_keep ho (grown_setCell' W2 ⟨C, 4, none⟩ v') (by show C < _; omega)
theorem infoWord : (Tryz.prog.info? 115).map (fun i => (i.zero, i.size, i.bytes)) = some (some (.agg #[.int .i64 0, .string ⟨#[]⟩, .int .i32 0, .int .i64 0, .int .i64 0, .int .i64 0, .int .i64 0, .int .i64 0]), 8, 72) := by kernel_rfl
end Go.Proofs.YtjgfmobmilgapaaGreatDoor
