/- Texts of this claim, one behind the other. -/
import Derived.Test.YtjgfmobmilgapaaGreatDoorM9
import Derived.Laws.Cover4
import Derived.Test.YtjgfmobmilgapaaGreatDoorM7
/- The reader of rules: what stands behind fold and look. -/
namespace Go.Proofs.YtjgfmobmilgapaaGreatDoor
open Go.RowKit Go.Shelf
set_option linter.unusedVariables false
structure Mp where
  fr : Int
  tw : List Int
  k : Nat
  bad : Option Rf
structure Mg where
  l : List Int
  k : Nat
  bad : Option Rf
def mapGo (ws : List W8) (eb el ec : Int) : Nat → Nat → Option Rf → Mg
  | 0, k, bad => ⟨[], k, bad⟩
  | f + 1, k, bad => if seesB ws k bad 3 then
      let s := takeV ws k bad eb el ec 3
      let r := mapGo ws eb el ec f s.k s.bad
      ⟨s.x.r :: r.l, r.k, r.bad⟩
    else ⟨[], k, bad⟩
def mapV (ws : List W8) (k : Nat) (bad : Option Rf) (eb el ec : Int) : Mp :=
  let a := takeV ws k bad eb el ec 3
  let b := takeV ws a.k a.bad eb el ec 7
  let c := takeV ws b.k b.bad eb el ec 3
  let r := mapGo ws eb el ec (ws.length + 1) c.k c.bad
  let z := takeV ws r.k r.bad eb el ec 6
  ⟨a.x.r, c.x.r :: r.l, z.k, z.bad⟩
structure MgSt (ws : List W8) (eb el ec : Int) (T : Mg) (f k : Nat) (bad : Option Rf) (l : List Int) : Prop where
  eq : T = ⟨l ++ (mapGo ws eb el ec f k bad).l, (mapGo ws eb el ec f k bad).k, (mapGo ws eb el ec f k bad).bad⟩
  fu : ws.length - k < f
  le : k ≤ ws.length
  len : l.length ≤ k + 1
theorem MgSt.stop {ws : List W8} {eb el ec : Int} {T : Mg} {f k : Nat} {bad : Option Rf} {l : List Int} (h : MgSt ws eb el ec T f k bad l) (hs : seesB ws k bad 3 = false) : T = ⟨l, k, bad⟩ := by
  obtain ⟨g, rfl⟩ : ∃ g, f = g + 1 := ⟨f - 1, by have := h.fu; omega⟩
  have e := h.eq
  unfold mapGo at e
  rw [if_neg (by rw [hs]; decide)] at e
  rw [e]
  simp
theorem MgSt.next {ws : List W8} {eb el ec : Int} {T : Mg} {f k : Nat} {bad : Option Rf} {l : List Int} (h : MgSt ws eb el ec T f k bad l) (hs : seesB ws k bad 3 = true) : ∃ f', MgSt ws eb el ec T f' (takeV ws k bad eb el ec 3).k (takeV ws k bad eb el ec 3).bad (l ++ [(takeV ws k bad eb el ec 3).x.r]) := by
  obtain ⟨g, rfl⟩ : ∃ g, f = g + 1 := ⟨f - 1, by have := h.fu; omega⟩
  have hl := takeV_yes eb el ec hs
  obtain ⟨x, hx, hk, _⟩ := seesB_some hs
  have e := h.eq
  unfold mapGo at e
  rw [if_pos hs] at e
  have h1 := h.fu
  have h2 := h.len
  refine ⟨g, by rw [e]; simp, by omega, by omega, by rw [List.length_append, List.length_singleton]; omega⟩
def encI (l : List Int) : List Value := l.map (Value.int .i32)
structure MpSt (W W' : World) (R Tx g : Nat) (ws : List W8) (k : Nat) (bad : Option Rf) (eb el ec : Int) (v : Value) (l : List Int) : Prop where
  rd : RdE W' R Tx g ws k bad eb el ec
  own : W'.ownsRow (W.heap.size + 1) 21 1 v l.length (encI l)
  gr : W.grownBy W' (some R)
  box : Blk W' W.heap.size #[.int .i32 0, .string ⟨#[]⟩] 77
  hR : R < W.heap.size
  hT : Tx < W.heap.size
  hg : ∀ (j : Nat) (y : W8), ws[j]? = some y → g < W.heap.size
  sz : W.heap.size + 1 ≤ W'.heap.size
theorem MpSt.call {W W1 W2 : World} {R Tx g : Nat} {ws : List W8} {k k2 : Nat} {bad bad2 : Option Rf} {eb el ec : Int} {v : Value} {l : List Int} (h : MpSt W W1 R Tx g ws k bad eb el ec v l) (h2 : RdE W2 R Tx g ws k2 bad2 eb el ec) (hg : W1.grownBy W2 (some R)) : MpSt W W2 R Tx g ws k2 bad2 eb el ec v l :=
  ⟨h2, rd_other h.own hg (.inr fun e => by have := rd_from h.own R e; have := h.hR; omega), grown_trans' h.gr hg, h.box.kept hg (fun e => by have := Option.some.inj e; have := h.hR; omega), h.hR, h.hT, h.hg, Nat.le_trans h.sz hg.size⟩
theorem MpSt.alloc {W W1 : World} {R Tx g : Nat} {ws : List W8} {k : Nat} {bad : Option Rf} {eb el ec : Int} {v : Value} {l : List Int} (h : MpSt W W1 R Tx g ws k bad eb el ec v l) (o : Obj) : MpSt W (W1.alloc o) R Tx g ws k bad eb el ec v l := h.call (h.rd.alloc o) (World.grownBy_alloc W1 o _)
theorem MpSt.more {W W1 W2 : World} {R Tx g : Nat} {ws : List W8} {k : Nat} {bad : Option Rf} {eb el ec : Int} {v v' : Value} {l : List Int} {a : Int} (h : MpSt W W1 R Tx g ws k bad eb el ec v l) (ho : W2.ownsRow (W.heap.size + 1) 21 1 v' (l.length + 1) (encI l ++ [.int .i32 a])) (hg : W1.grownBy W2 v.ownBlock) : MpSt W W2 R Tx g ws k bad eb el ec v' (l ++ [a]) :=
  ⟨h.rd.own h.own (by decide) (by have := h.hR; omega) (by have := h.hT; omega) (fun j y hy => by have := h.hg j y hy; omega) hg, by unfold encI at ho ⊢; rw [List.map_append, List.length_append]; exact ho, grown_own h.gr (fun k e => by have := rd_from h.own k e; omega) hg, h.box.kept hg (blk_row h.box h.own (by decide)), h.hR, h.hT, h.hg, Nat.le_trans h.sz hg.size⟩
theorem infoI32 : (Tryz.prog.info? 21).map (fun i => (i.zero, i.size, i.bytes)) = some (some (.int .i32 0), 1, 4) := by kernel_rfl
theorem MpSt.conv {W W1 : World} {R Tx g : Nat} {ws : List W8} {k : Nat} {bad : Option Rf} {eb el ec : Int} {v : Value} {l : List Int} (h : MpSt W W1 R Tx g ws k bad eb el ec v l) (hl : 0 < l.length) : ∃ G c, v = .slice (some ⟨G, 0, none⟩) l.length c ∧ ∀ j, j < l.length → W1.cell? ((⟨G, 0, none⟩ : Addr).add j) = some (.int .i32 (l.getD j 0)) := by
  rcases own_some h.own (fun e => by omega) with ⟨_, h1, _⟩ | ⟨G, c, rfl, _, _, _, hx⟩
  · omega
  · refine ⟨G, c, rfl, fun j hj => hx j _ ?_⟩
    unfold encI
    rw [List.getElem?_map, List.getD_eq_getElem?_getD, List.getElem?_eq_getElem hj]
    rfl
theorem MpSt.fin {W W1 : World} {R Tx g : Nat} {ws : List W8} {k : Nat} {bad : Option Rf} {eb el ec : Int} {v : Value} {l : List Int} (h : MpSt W W1 R Tx g ws k bad eb el ec v l) (u x : Value) :
    RdE ((W1.setCell ⟨W.heap.size, 0, none⟩ u).setCell ⟨W.heap.size, 1, none⟩ x) R Tx g ws k bad eb el ec ∧ W.grownBy ((W1.setCell ⟨W.heap.size, 0, none⟩ u).setCell ⟨W.heap.size, 1, none⟩ x) (some R) ∧ Blk ((W1.setCell ⟨W.heap.size, 0, none⟩ u).setCell ⟨W.heap.size, 1, none⟩ x) W.heap.size #[u, x] 77 := by
  have hR := h.hR
  have hT := h.hT
  have hg := h.gr
  have q : W1.grownBy ((W1.setCell ⟨W.heap.size, 0, none⟩ u).setCell ⟨W.heap.size, 1, none⟩ x) (some W.heap.size) := grown_trans' (grown_set' W1 W.heap.size 0 u) (grown_set' _ W.heap.size 1 x)
  refine ⟨⟨h.rd.rd.far q (by omega) (fun j y hy => by have := h.hg j y hy; omega) (fun F y hy e => by subst e; have := blk_types hy h.box; revert this; decide), h.rd.en.kept q (fun e => by have := Option.some.inj e; omega), h.rd.ne⟩, ⟨q.os.trans hg.os, q.tape.trans hg.tape, q.output.trans hg.output, Nat.le_trans hg.size q.size, fun i hi hn => (q.block i (by have := hg.size; omega) (fun e => by injection e; omega)).trans (hg.block i hi hn)⟩, (h.box.set 0 u).set 1 x⟩
set_option maxRecDepth 100000 in
set_option maxHeartbeats 4000000 in
theorem mapping_any (R Tx g : Nat) (ws : List W8) (k : Nat) (bad : Option Rf) (eb el ec : Int) (W : World) (h : RdE W R Tx g ws k bad eb el ec) :
    Calls Tryz.prog 115 #[.pointer (some ⟨R, 0, none⟩)] W fun e w' => e = .returned (.agg #[.int .i32 (mapV ws k bad eb el ec).fr, .string (runesBytes (mapV ws k bad eb el ec).tw)]) ∧ RdE w' R Tx g ws (mapV ws k bad eb el ec).k (mapV ws k bad eb el ec).bad eb el ec ∧ W.grownBy w' (some R) := by
  have hRW : R < W.heap.size := by obtain ⟨a, c, v, hb, _⟩ := h.rd.blk; exact hb.lt
  have hTW : Tx < W.heap.size := cell_lt h.en.c0
  have hgl := h.rd.glt
  have hkn := h.rd.kn
  have hnm := h.rd.nmax
  have h0 : MpSt W (W.alloc (.cells #[.int .i32 0, .string ⟨#[]⟩] 77)) R Tx g ws k bad eb el ec (.slice none 0 0) [] := ⟨h.alloc _, World.ownsRow_nil _ _ _ _, World.grownBy_alloc W _ _, Blk.new W _ _, hRW, hTW, hgl, by simp⟩
  have H := hide h0
  obtain ⟨ii, hii, hi0, hi1, hi2⟩ := info_parts infoI32
  have HII := hide (And.intro hii (And.intro hi0 (And.intro hi1 hi2)))
  clear hii hi0 hi1 hi2 h0 h hgl
  have HT1 := hide (takeV_le ws k bad eb el ec 3 hkn)
  obtain ⟨T1, hT1⟩ : ∃ T, T = takeV ws k bad eb el ec 3 := ⟨_, rfl⟩
  have HT2 := hide (takeV_le ws T1.k T1.bad eb el ec 7 (by rw [hT1]; exact (unhide HT1).2))
  obtain ⟨T2, hT2⟩ : ∃ T, T = takeV ws T1.k T1.bad eb el ec 7 := ⟨_, rfl⟩
  have HT3 := hide (takeV_le ws T2.k T2.bad eb el ec 3 (by rw [hT2]; exact (unhide HT2).2))
  obtain ⟨T3, hT3⟩ : ∃ T, T = takeV ws T2.k T2.bad eb el ec 3 := ⟨_, rfl⟩
  obtain ⟨G0, hG0⟩ : ∃ G, G = mapGo ws eb el ec (ws.length + 1) T3.k T3.bad := ⟨_, rfl⟩
  have HV : Hz (mapV ws k bad eb el ec = ⟨T1.x.r, T3.x.r :: G0.l, (takeV ws G0.k G0.bad eb el ec 6).k, (takeV ws G0.k G0.bad eb el ec 6).bad⟩) := hide (by rw [hG0, hT3, hT2, hT1]; rfl)
  have HG0 := hide hG0
  have HK3 : Hz (T3.k ≤ ws.length) := hide (by rw [hT3]; exact (unhide HT3).2)
  clear HT1 HT2 HT3 hG0
  have E1 := hide hT1
  have E2 := hide hT2
  have E3 := hide hT3
  clear hT1 hT2 hT3
  generalize mapV ws k bad eb el ec = V at *
  obtain ⟨⟨ak, aS, ar, an, ab, al, ac, ae⟩, k1, bad1⟩ := T1
  obtain ⟨bx, k2, bad2⟩ := T2
  obtain ⟨⟨ck, cS, cr, cn, cb, cl, cc, ce⟩, k3, bad3⟩ := T3
  dsimp only at E2 E3 HG0 HV HK3
  go_enter Tryz.func115, Tryz.ntmps115
  go_wp2_with fail
  have HA := hide (take_e R Tx g ws k bad eb el ec 3 _ (unhide H).rd)
  rw [← unhide E1] at HA
  dsimp only at HA
  unfold wV at HA
  dsimp only at HA
  generalize W.alloc (.cells #[.int .i32 0, .string ⟨#[]⟩] 77) = WA at *
  refine (unhide HA).mono ?_
  rintro e w1 ⟨rfl, hR1, hg1⟩
  have H1 := hide ((unhide H).call hR1 hg1)
  clear hR1 hg1 H HA
  have hf := field_r ak aS ar an ab al ac ae
  have HA := hide (take_e R Tx g ws k1 bad1 eb el ec 7 w1 (unhide H1).rd)
  rw [← unhide E2] at HA
  dsimp only at HA
  go_wp2_with fail
  refine (unhide HA).mono ?_
  rintro e w2 ⟨rfl, hR2, hg2⟩
  have H2 := hide ((unhide H1).call hR2 hg2)
  clear hR2 hg2 H1 HA hf
  generalize wV bx = vbx
  have HA := hide (take_e R Tx g ws k2 bad2 eb el ec 3 w2 (unhide H2).rd)
  rw [← unhide E3] at HA
  dsimp only at HA
  unfold wV at HA
  dsimp only at HA
  go_wp2_with fail
  refine (unhide HA).mono ?_
  rintro e w3 ⟨rfl, hR3, hg3⟩
  have H3 := hide ((unhide H2).call hR3 hg3)
  clear hR3 hg3 H2 HA
  have hf := field_r ck cS cr cn cb cl cc ce
  go_wp2_with fail
  have hsz3 := (unhide H3).sz
  have H4 : Hz (MpSt W (w3.alloc (.cells #[.int .i32 cr] 21)) R Tx g ws k3 bad3 eb el ec (.slice (some ⟨w3.heap.size, 0, none⟩) 1 1) [cr]) := hide (by
    have h4 := (unhide H3).alloc (.cells #[.int .i32 cr] 21)
    refine ⟨h4.rd, ⟨rfl, .inr ⟨w3.heap.size, 1, #[.int .i32 cr], rfl, hsz3, heap_alloc_new w3 _, by simp, by decide, rfl, rfl⟩⟩, h4.gr, h4.box, h4.hR, h4.hT, h4.hg, h4.sz⟩)
  obtain ⟨GT, hGT⟩ : ∃ GT : Mg, GT = ⟨cr :: G0.l, G0.k, G0.bad⟩ := ⟨_, rfl⟩
  have HG4 : Hz (MgSt ws eb el ec GT (ws.length + 1) k3 bad3 [cr]) := hide (by
    exact ⟨by rw [hGT, unhide HG0]; rfl, by omega, unhide HK3, by simp⟩)
  go_loopw [4] (fun v wr => ∃ (f k5 : Nat) (bad5 : Option Rf) (l : List Int), Hz (MgSt ws eb el ec GT f k5 bad5 l) ∧ Hz (MpSt W wr R Tx g ws k5 bad5 eb el ec v l) ∧ Hz (0 < l.length))
    (fun v _ => ws.length + 1 - slLen v)
  case atStart => exact ⟨_, k3, bad3, [cr], HG4, H4, hide (by simp)⟩
  case round =>
    obtain ⟨f, k5, bad5, l, HG, HS, HL0⟩ := hrel
    clear HG4 H4 H3 hf
    have HSE := hide (sees_any R Tx g ws k5 bad5 3 wr (unhide HS).rd.rd)
    cases hs : seesB ws k5 bad5 3 with
    | false =>
      rw [hs] at HSE
      have HTE := hide ((unhide HG).stop hs)
      clear hs HG
      go_wp2_with fail
      refine (unhide HSE).mono ?_
      rintro e w5 ⟨rfl, hw5⟩
      rw [hw5]
      clear hw5 HSE
      go_wp2_with fail
      refine (take_e R Tx g ws k5 bad5 eb el ec 6 wr (unhide HS).rd).mono ?_
      rintro e w6 ⟨rfl, hR6, hg6⟩
      have HF := hide ((unhide HS).call hR6 hg6)
      clear hR6 hg6
      generalize wV (takeV ws k5 bad5 eb el ec 6).x = vz
      obtain ⟨Gt, ct, rfl, hcells⟩ := (unhide HF).conv (unhide HL0)
      have hconv := run_convert_runes (P := Tryz.prog) w6 214 9 21 ⟨Gt, 0, none⟩ l.length ct l (Nat.le_refl _) Tryz.underlying214 Tryz.underlying21 Tryz.underlying9 hcells
      rw [List.take_length] at hconv
      have hfin := (unhide HF).fin (.int .i32 ar) (.string (runesBytes l))
      have b0 := (unhide HF).box.cell 0
      have b1 := (unhide HF).box.cell 1
      have f0 := (unhide HF).box.frozen 0
      have f1 := (unhide HF).box.frozen 1
      have r0 := hfin.2.2.cell 0
      have r1 := hfin.2.2.cell 1
      have HFIN := hide (And.intro hfin.1 hfin.2.1)
      clear hfin hcells HS
      go_wp2_with fail
      have hV : V = ⟨ar, l, (takeV ws k5 bad5 eb el ec 6).k, (takeV ws k5 bad5 eb el ec 6).bad⟩ := by
        have e1 := unhide HV
        have e2 := (unhide HTE).symm.trans hGT
        injection e2 with a1 a2 a3
        rw [e1, a1, a2, a3]
      rw [hV]
      exact bodyPost_ret (v := .agg #[.int .i32 ar, .string (runesBytes l)]) (by simp [results, Tryz.results115, go_sem, r0, r1]) rfl ⟨rfl, (unhide HFIN).1, (unhide HFIN).2⟩
    | true =>
      rw [hs] at HSE
      obtain ⟨x, hx, hlt, hbad⟩ := seesB_some hs
      obtain ⟨f', hnext⟩ := (unhide HG).next hs
      have hls : l.length ≤ 1000000 := by have := (unhide HG).len; omega
      have hme : l.length < ws.length + 1 := by have := (unhide HG).len; omega
      have HNX := hide hnext
      have HME := hide hme
      have HTK := hide (take_e R Tx g ws k5 bad5 eb el ec 3 wr (unhide HS).rd)
      clear hx hlt hbad hs hnext HG hme
      generalize takeV ws k5 bad5 eb el ec 3 = SV at *
      obtain ⟨⟨dk, dS, dr, dn, db, dl, dc, de⟩, k6, bad6⟩ := SV
      dsimp only at HTK HNX
      unfold wV at HTK
      dsimp only at HTK
      have hfd := field_r dk dS dr dn db dl dc de
      go_wp2_with fail
      refine (unhide HSE).mono ?_
      rintro e w5 ⟨rfl, hw5⟩
      rw [hw5]
      clear hw5 HSE
      go_wp2_with fail
      refine (unhide HTK).mono ?_
      rintro e w6 ⟨rfl, hR6, hg6⟩
      have HS6 := hide ((unhide HS).call hR6 hg6)
      have hsz6 := (unhide HS6).sz
      clear hR6 hg6 HS HTK
      go_wp2_with (at_builtin; refine append_k rfl _ _ 214 21 rfl ii (.int .i32 0) 1 4 Tryz.underlying214 (unhide HII) rfl (by decide) (by decide) (W.heap.size + 1) _ l.length (encI l) [.int .i32 dr] rfl rfl (by omega) w6 rfl (by intro u hu; simp at hu; rw [hu]; rfl) (unhide HS6).own hsz6 _ rfl rfl ?_)
      intro v' w7 hown hgrow
      have HS7 := hide (((unhide HS6).alloc _).more hown hgrow)
      have HL1 := hide (own_len (unhide HS6).own)
      have HL2 := hide (own_len hown)
      clear hown hgrow HS6
      go_wp2_with fail
      go_roundw
      case rel => exact ⟨f', k6, bad6, _, HNX, HS7, hide (by simp)⟩
      case measure => have := unhide HL1; have := unhide HL2; have := unhide HME; omega
structure Pr where
  wh : Int
  ba : Int
  ma : Int
  k : Nat
  bad : Option Rf
def pairV (ws : List W8) (k : Nat) (bad : Option Rf) (eb el ec : Int) : Pr :=
  let a := takeV ws k bad eb el ec 3
  let b := takeV ws a.k a.bad eb el ec 7
  let c := takeV ws b.k b.bad eb el ec 3
  let d := takeV ws c.k c.bad eb el ec 8
  let e := takeV ws d.k d.bad eb el ec 3
  let f := takeV ws e.k e.bad eb el ec 6
  ⟨a.x.r, c.x.r, e.x.r, f.k, f.bad⟩
theorem infoPair : (Tryz.prog.info? 74).map (fun i => (i.zero, i.size, i.bytes)) = some (some (.agg #[.int .i32 0, .int .i32 0, .int .i32 0]), 3, 12) := by kernel_rfl
set_option maxRecDepth 100000 in
set_option maxHeartbeats 4000000 in
theorem pair_any (R Tx g lo : Nat) (ws : List W8) (k : Nat) (bad : Option Rf) (eb el ec fb fl fc : Int) (vs : List Value) (ls : List Ln) (n1 n2 : Nat) (xs1 xs2 : List Value) (hl1 : ls[3]? = some ⟨74, 3, n1, xs1⟩) (hl2 : ls[12]? = some ⟨49, 3, n2, xs2⟩) (hn1 : n1 ≤ 1000000) (hn2 : n2 ≤ 1000000) (W0 W : World) (h : RuSt W0 W R Tx g lo ws k bad eb el ec vs ls) :
    Calls Tryz.prog 83 #[.pointer (some ⟨R, 0, none⟩), .agg #[.int .i64 fb, .int .i64 fl, .int .i64 fc]] W fun e w' => (∃ r, e = .returned r) ∧ ∃ va vb, RuSt W0 w' R Tx g lo ws (pairV ws k bad eb el ec).k (pairV ws k bad eb el ec).bad eb el ec ((vs.set 3 va).set 12 vb) ((ls.set 3 ⟨74, 3, n1 + 1, xs1 ++ [.int .i32 (pairV ws k bad eb el ec).wh, .int .i32 (pairV ws k bad eb el ec).ba, .int .i32 (pairV ws k bad eb el ec).ma]⟩).set 12 ⟨49, 3, n2 + 1, xs2 ++ [.int .i64 fb, .int .i64 fl, .int .i64 fc]⟩) := by
  have hNR : R < W.heap.size := Nat.lt_of_lt_of_le h.hR h.low
  have HLo := hide h.low
  have HV : Hz (pairV ws k bad eb el ec = ⟨(takeV ws k bad eb el ec 3).x.r, (takeV ws (takeV ws (takeV ws k bad eb el ec 3).k (takeV ws k bad eb el ec 3).bad eb el ec 7).k (takeV ws (takeV ws k bad eb el ec 3).k (takeV ws k bad eb el ec 3).bad eb el ec 7).bad eb el ec 3).x.r, (takeV ws (takeV ws (takeV ws (takeV ws (takeV ws k bad eb el ec 3).k (takeV ws k bad eb el ec 3).bad eb el ec 7).k (takeV ws (takeV ws k bad eb el ec 3).k (takeV ws k bad eb el ec 3).bad eb el ec 7).bad eb el ec 3).k (takeV ws (takeV ws (takeV ws k bad eb el ec 3).k (takeV ws k bad eb el ec 3).bad eb el ec 7).k (takeV ws (takeV ws k bad eb el ec 3).k (takeV ws k bad eb el ec 3).bad eb el ec 7).bad eb el ec 3).bad eb el ec 8).k (takeV ws (takeV ws (takeV ws (takeV ws k bad eb el ec 3).k (takeV ws k bad eb el ec 3).bad eb el ec 7).k (takeV ws (takeV ws k bad eb el ec 3).k (takeV ws k bad eb el ec 3).bad eb el ec 7).bad eb el ec 3).k (takeV ws (takeV ws (takeV ws k bad eb el ec 3).k (takeV ws k bad eb el ec 3).bad eb el ec 7).k (takeV ws (takeV ws k bad eb el ec 3).k (takeV ws k bad eb el ec 3).bad eb el ec 7).bad eb el ec 3).bad eb el ec 8).bad eb el ec 3).x.r, (takeV ws (takeV ws (takeV ws (takeV ws (takeV ws (takeV ws k bad eb el ec 3).k (takeV ws k bad eb el ec 3).bad eb el ec 7).k (takeV ws (takeV ws k bad eb el ec 3).k (takeV ws k bad eb el ec 3).bad eb el ec 7).bad eb el ec 3).k (takeV ws (takeV ws (takeV ws k bad eb el ec 3).k (takeV ws k bad eb el ec 3).bad eb el ec 7).k (takeV ws (takeV ws k bad eb el ec 3).k (takeV ws k bad eb el ec 3).bad eb el ec 7).bad eb el ec 3).bad eb el ec 8).k (takeV ws (takeV ws (takeV ws (takeV ws k bad eb el ec 3).k (takeV ws k bad eb el ec 3).bad eb el ec 7).k (takeV ws (takeV ws k bad eb el ec 3).k (takeV ws k bad eb el ec 3).bad eb el ec 7).bad eb el ec 3).k (takeV ws (takeV ws (takeV ws k bad eb el ec 3).k (takeV ws k bad eb el ec 3).bad eb el ec 7).k (takeV ws (takeV ws k bad eb el ec 3).k (takeV ws k bad eb el ec 3).bad eb el ec 7).bad eb el ec 3).bad eb el ec 8).bad eb el ec 3).k (takeV ws (takeV ws (takeV ws (takeV ws (takeV ws k bad eb el ec 3).k (takeV ws k bad eb el ec 3).bad eb el ec 7).k (takeV ws (takeV ws k bad eb el ec 3).k (takeV ws k bad eb el ec 3).bad eb el ec 7).bad eb el ec 3).k (takeV ws (takeV ws (takeV ws k bad eb el ec 3).k (takeV ws k bad eb el ec 3).bad eb el ec 7).k (takeV ws (takeV ws k bad eb el ec 3).k (takeV ws k bad eb el ec 3).bad eb el ec 7).bad eb el ec 3).bad eb el ec 8).k (takeV ws (takeV ws (takeV ws (takeV ws k bad eb el ec 3).k (takeV ws k bad eb el ec 3).bad eb el ec 7).k (takeV ws (takeV ws k bad eb el ec 3).k (takeV ws k bad eb el ec 3).bad eb el ec 7).bad eb el ec 3).k (takeV ws (takeV ws (takeV ws k bad eb el ec 3).k (takeV ws k bad eb el ec 3).bad eb el ec 7).k (takeV ws (takeV ws k bad eb el ec 3).k (takeV ws k bad eb el ec 3).bad eb el ec 7).bad eb el ec 3).bad eb el ec 8).bad eb el ec 3).bad eb el ec 6).k, (takeV ws (takeV ws (takeV ws (takeV ws (takeV ws (takeV ws k bad eb el ec 3).k (takeV ws k bad eb el ec 3).bad eb el ec 7).k (takeV ws (takeV ws k bad eb el ec 3).k (takeV ws k bad eb el ec 3).bad eb el ec 7).bad eb el ec 3).k (takeV ws (takeV ws (takeV ws k bad eb el ec 3).k (takeV ws k bad eb el ec 3).bad eb el ec 7).k (takeV ws (takeV ws k bad eb el ec 3).k (takeV ws k bad eb el ec 3).bad eb el ec 7).bad eb el ec 3).bad eb el ec 8).k (takeV ws (takeV ws (takeV ws (takeV ws k bad eb el ec 3).k (takeV ws k bad eb el ec 3).bad eb el ec 7).k (takeV ws (takeV ws k bad eb el ec 3).k (takeV ws k bad eb el ec 3).bad eb el ec 7).bad eb el ec 3).k (takeV ws (takeV ws (takeV ws k bad eb el ec 3).k (takeV ws k bad eb el ec 3).bad eb el ec 7).k (takeV ws (takeV ws k bad eb el ec 3).k (takeV ws k bad eb el ec 3).bad eb el ec 7).bad eb el ec 3).bad eb el ec 8).bad eb el ec 3).k (takeV ws (takeV ws (takeV ws (takeV ws (takeV ws k bad eb el ec 3).k (takeV ws k bad eb el ec 3).bad eb el ec 7).k (takeV ws (takeV ws k bad eb el ec 3).k (takeV ws k bad eb el ec 3).bad eb el ec 7).bad eb el ec 3).k (takeV ws (takeV ws (takeV ws k bad eb el ec 3).k (takeV ws k bad eb el ec 3).bad eb el ec 7).k (takeV ws (takeV ws k bad eb el ec 3).k (takeV ws k bad eb el ec 3).bad eb el ec 7).bad eb el ec 3).bad eb el ec 8).k (takeV ws (takeV ws (takeV ws (takeV ws k bad eb el ec 3).k (takeV ws k bad eb el ec 3).bad eb el ec 7).k (takeV ws (takeV ws k bad eb el ec 3).k (takeV ws k bad eb el ec 3).bad eb el ec 7).bad eb el ec 3).k (takeV ws (takeV ws (takeV ws k bad eb el ec 3).k (takeV ws k bad eb el ec 3).bad eb el ec 7).k (takeV ws (takeV ws k bad eb el ec 3).k (takeV ws k bad eb el ec 3).bad eb el ec 7).bad eb el ec 3).bad eb el ec 8).bad eb el ec 3).bad eb el ec 6).bad⟩) := hide rfl
  generalize pairV ws k bad eb el ec = V at *
  obtain ⟨im, him, hm0, hm1, hm2⟩ := info_parts infoPair
  have HIM := hide (And.intro him (And.intro hm0 (And.intro hm1 hm2)))
  clear him hm0 hm1 hm2
  have hmx : Tryz.prog.follows .mixedOrders = true := by kernel_rfl
  have H := hide (h.alloc (.cells #[.int .i64 fb, .int .i64 fl, .int .i64 fc] 49))
  have HX := hide (Blk.new W #[.int .i64 fb, .int .i64 fl, .int .i64 fc] 49)
  clear h
  go_enter Tryz.func83, Tryz.ntmps83
  go_wp2_with fail
  generalize W.alloc (.cells #[.int .i64 fb, .int .i64 fl, .int .i64 fc] 49) = WA at *
  generalize W.heap.size = N at *
  refine (take_e R Tx g ws k bad eb el ec 3 WA (unhide H).rd).mono ?_
  rintro e w1 ⟨rfl, hR1, hg1⟩
  have H1 := hide ((unhide H).call hR1 hg1)
  have HX1 := hide ((unhide HX).kept hg1 (fun e => by have := Option.some.inj e; omega))
  clear hR1 hg1 H HX
  generalize takeV ws k bad eb el ec 3 = A at *
  obtain ⟨⟨a0, a1, a2, a3, a4, a5, a6, a7⟩, k1, bad1⟩ := A
  dsimp only at H1 HV
  unfold wV
  dsimp only
  have hf := field_r a0 a1 a2 a3 a4 a5 a6 a7
  go_wp2_with fail
  refine (take_e R Tx g ws k1 bad1 eb el ec 7 w1 (unhide H1).rd).mono ?_
  rintro e w2 ⟨rfl, hR2, hg2⟩
  have H2 := hide ((unhide H1).call hR2 hg2)
  have HX2 := hide ((unhide HX1).kept hg2 (fun e => by have := Option.some.inj e; omega))
  clear hR2 hg2 H1 HX1 hf
  generalize takeV ws k1 bad1 eb el ec 7 = B at *
  obtain ⟨bx, k2, bad2⟩ := B
  dsimp only at H2 HV
  dsimp only
  generalize wV bx = vbx
  go_wp2_with fail
  refine (take_e R Tx g ws k2 bad2 eb el ec 3 w2 (unhide H2).rd).mono ?_
  rintro e w3 ⟨rfl, hR3, hg3⟩
  have H3 := hide ((unhide H2).call hR3 hg3)
  have HX3 := hide ((unhide HX2).kept hg3 (fun e => by have := Option.some.inj e; omega))
  clear hR3 hg3 H2 HX2
  generalize takeV ws k2 bad2 eb el ec 3 = C at *
  obtain ⟨⟨c0, c1, c2, c3, c4, c5, c6, c7⟩, k3, bad3⟩ := C
  dsimp only at H3 HV
  unfold wV
  dsimp only
  have hf := field_r c0 c1 c2 c3 c4 c5 c6 c7
  go_wp2_with fail
  refine (take_e R Tx g ws k3 bad3 eb el ec 8 w3 (unhide H3).rd).mono ?_
  rintro e w4 ⟨rfl, hR4, hg4⟩
  have H4 := hide ((unhide H3).call hR4 hg4)
  have HX4 := hide ((unhide HX3).kept hg4 (fun e => by have := Option.some.inj e; omega))
  clear hR4 hg4 H3 HX3 hf
  generalize takeV ws k3 bad3 eb el ec 8 = D at *
  obtain ⟨dx, k4, bad4⟩ := D
  dsimp only at H4 HV
  dsimp only
  generalize wV dx = vdx
  go_wp2_with fail
  refine (take_e R Tx g ws k4 bad4 eb el ec 3 w4 (unhide H4).rd).mono ?_
  rintro e w5 ⟨rfl, hR5, hg5⟩
  have H5 := hide ((unhide H4).call hR5 hg5)
  have HX5 := hide ((unhide HX4).kept hg5 (fun e => by have := Option.some.inj e; omega))
  clear hR5 hg5 H4 HX4
  generalize takeV ws k4 bad4 eb el ec 3 = E at *
  obtain ⟨⟨e0, e1, e2, e3, e4, e5, e6, e7⟩, k5, bad5⟩ := E
  dsimp only at H5 HV
  unfold wV
  dsimp only
  have hf := field_r e0 e1 e2 e3 e4 e5 e6 e7
  go_wp2_with fail
  refine (take_e R Tx g ws k5 bad5 eb el ec 6 w5 (unhide H5).rd).mono ?_
  rintro e w6 ⟨rfl, hR6, hg6⟩
  have H6 := hide ((unhide H5).call hR6 hg6)
  have HX6 := hide ((unhide HX5).kept hg6 (fun e => by have := Option.some.inj e; omega))
  clear hR6 hg6 H5 HX5 hf
  generalize takeV ws k5 bad5 eb el ec 6 = F at *
  obtain ⟨fx, k6, bad6⟩ := F
  dsimp only at H6 HV
  dsimp only
  generalize wV fx = vfx
  go_wp2_with fail
  obtain ⟨v, hv⟩ : ∃ v, vs[3]? = some v := ⟨_, List.getElem?_eq_getElem (by have := (unhide H6).tb.lv; omega)⟩
  have how := (unhide H6).tb.own _ _ _ hv hl1
  obtain ⟨va, vc, rfl⟩ := own_slice how
  have hg0 : ∀ b, Value.ownBlock (.slice va n1 vc) = some b → lo ≤ b := rd_from how
  obtain ⟨ra, rc, rv, hrb, _, _, _⟩ := (unhide H6).rd.rd.blk
  have c1 : w6.cell? ⟨R, 1, none⟩ = some (.pointer (some ⟨Tx, 0, none⟩)) := hrb.cell 1
  have t0 := (unhide H6).tb.cell (by omega) hv
  have hTl := (unhide H6).tb.lt
  have hRl := (unhide H6).hR
  have hl3 := (unhide H6).low
  have hltR : R < w6.heap.size := by omega
  have hltT : Tx < w6.heap.size := by omega
  have ca1 := (hrb.alloc (.cells #[.int .i32 a2, .int .i32 c2, .int .i32 e2] 74)).cell 1
  have ta := ((unhide H6).tb.kept (R := R) hRl (unhide H6).rd.ne (World.grownBy_alloc w6 (.cells #[.int .i32 a2, .int .i32 c2, .int .i32 e2] 74) _))
  have t1 := ta.cell (by omega) hv
  have hNx : some N ≠ Value.ownBlock (.slice va n1 vc) := blk_row (unhide HX6) how (show (74 : Nat) ≠ 49 by decide)
  clear hrb
  go_region_law (refine step_append_lies _ (by rfl) _ _ _ (by rfl) lo 74 im (.agg #[.int .i32 0, .int .i32 0, .int .i32 0]) 3 12 Tryz.underlying25 (unhide HIM).1 (unhide HIM).2.1 (unhide HIM).2.2.1 (unhide HIM).2.2.2 rfl (by omega) _ n1 xs1 (by rfl) (how.alloc _).drew ⟨w6.heap.size, 0, none⟩ 1 1 [.int .i32 a2, .int .i32 c2, .int .i32 e2] (by rfl) (by rfl) (World.news_of_block (cs := #[.int .i32 a2, .int .i32 c2, .int .i32 e2]) (t := 74) (fr := (0, 0)) (heap_alloc_new w6 _)) (by simp [Value.oneCell']) (by omega) (by unfold maxLen; omega) (by omega) (by simp; omega) (w6.heap.size + 1) (by simp) ?_; intro gg cap w7 hown1 hgrow hatt hlt; have q1 : w7.cell? ⟨Tx, 3, none⟩ = some (.slice va n1 vc) := hgrow.cell (a := ⟨Tx, 3, none⟩) t1 (by show some Tx ≠ Value.ownBlock (.slice va n1 vc); intro e; have := hg0 Tx e.symm; omega); have q2 : w7.frozen? ⟨Tx, 3, none⟩ = false := (Blk.kept (W := (w6.alloc _).drew) ta.blk hgrow (fun e => by have := hg0 Tx e.symm; omega)).frozen 3; have q3 : w7.cell? ⟨R, 1, none⟩ = some (.pointer (some ⟨Tx, 0, none⟩)) := hgrow.cell (a := ⟨R, 1, none⟩) ca1 (by show some R ≠ Value.ownBlock (.slice va n1 vc); intro e; have := hg0 R e.symm; omega))
  all_goals
    have H7 := hide (((unhide H6).alloc (.cells #[.int .i32 a2, .int .i32 c2, .int .i32 e2] 74)).put (W1 := w7) (by omega) hv hl1 (show (74 : Nat) ≠ 54 by decide) hown1 ⟨hgrow.os, hgrow.tape, hgrow.output, hgrow.size, hgrow.block⟩ (by rcases hatt with e | e; exact .inl e.symm; exact .inr (by rw [e]; simp [Value.ownBlock])))
    have hx5 := (Blk.kept (W := (w6.alloc (.cells #[.int .i32 a2, .int .i32 c2, .int .i32 e2] 74)).drew) ((unhide HX6).alloc _) hgrow hNx).kept (grown_set' w7 Tx 3 (.slice (some ⟨gg, 0, none⟩) (n1 + 1) cap)) (fun e => by have := Option.some.inj e; have := unhide HLo; omega)
    clear hgrow hown1 hatt hlt q1 q2 q3 H6 HX6 how c1 t0 ca1 ta t1
    generalize w7.setCell ⟨Tx, 3, none⟩ (.slice (some ⟨gg, 0, none⟩) (n1 + 1) cap) = w8 at *
    have x0 := hx5.cell 0
    have x1 := hx5.cell 1
    have x2 := hx5.cell 2
    clear hx5
    have HP := hide (Blk.new w8 #[.int .i64 fb, .int .i64 fl, .int .i64 fc] 49)
    go_wp2_with fail
    refine (rows_ru W0 R Tx g lo ws k6 bad6 eb el ec _ _ 4 (by omega) n2 xs2 (by rw [List.getElem?_set_ne (by decide)]; exact hl2) _ 1 1 [.int .i64 fb, .int .i64 fl, .int .i64 fc] (by omega) _ ((unhide H7).alloc _) (.inr ⟨_, rfl, by decide, rfl, World.news_of_block (cs := #[.int .i64 fb, .int .i64 fl, .int .i64 fc]) (t := 49) (fr := (0, 0)) (heap_alloc_new w8 _), by simp [Value.oneCell']⟩)).mono ?_
    rintro e w9 ⟨⟨r, rfl⟩, vb, hfin⟩
    go_wp2_with fail
    go_end0
    exact ⟨⟨_, rfl⟩, _, vb, by rw [unhide HV]; exact hfin⟩
end Go.Proofs.YtjgfmobmilgapaaGreatDoor
