/- The book's Keep at lists of spans: what is handed in is kept beside a copy; older ones may be looked at and let go. -/
import Derived.Test.YthbaheneikifiaaBookMP
import Derived.Test.YthbaheneikifiaaBookSP
import Derived.Deep.AppendLies
import Derived.Deep.RegionHeld3
import Derived.Deep.RegionLaw
import Derived.Deep.RegionWith
namespace Go.Proofs.Ythbaheneikifiaa
open Go.RowKit Go.Shelf
set_option linter.unusedVariables false

theorem infoLP : (Try.prog.info? 65).map (fun i => (i.zero, i.size, i.bytes)) = some (some (.slice none 0 0), 1, 24) := by kernel_rfl
theorem infoEP : (Try.prog.info? 63).map (fun i => (i.zero, i.size, i.bytes)) = some (some (.agg #[.int .i32 0, .int .i32 0]), 2, 8) := by kernel_rfl

/-- The list is laid behind the others. -/
theorem app1P {W W2 : World} {B lo : Nat} {vs cs : List Value} {lv wv u : Value} {h : Int} {g o cap : Nat} {tmp : Obj} (b : BkP W B lo vs cs lv wv h) (hs : SlAt W2 lo 65 (.slice (some ⟨g, o, none⟩) (vs.length + 1) cap) (vs ++ [u])) (hg : (W.alloc tmp).grownBy W2 lv.ownBlock) (hat : lv.ownBlock = some g ∨ W.heap.size + 1 ≤ g) (hlo : lo ≤ W.heap.size) :
    Blk W2 B #[lv, wv, .int .i64 h, .bool false] 86 ∧ BkP (W2.setCell ⟨B, 0, none⟩ (.slice (some ⟨g, o, none⟩) (vs.length + 1) cap)) B lo (vs ++ [u]) cs (.slice (some ⟨g, o, none⟩) (vs.length + 1) cap) wv h ∧ KeepsP B lo W (W2.setCell ⟨B, 0, none⟩ (.slice (some ⟨g, o, none⟩) (vs.length + 1) cap)) := by
  obtain ⟨h1, h2⟩ := (b.alloc tmp).app1 hs hg (by simpa using hat)
  exact ⟨h1, h2, (((KeepsP.refl B lo W).alloc hlo tmp).sl (b.alloc tmp).ls (by simp; omega) hg).set b.lo_le 0 _⟩

theorem midP {W w1 : World} {B lo : Nat} {vs cs : List Value} {lv wv : Value} {h : Int} (b : BkP W B lo vs cs lv wv h) (hg : W.drew.grownBy w1 none) : BkP w1 B lo vs cs lv wv h := by
  have hg' : W.grownBy w1 none := ⟨hg.os, hg.tape, hg.output, hg.size, hg.block⟩
  exact ⟨b.blk.kept hg' (by simp), b.ls.kept hg' (by cases lv.ownBlock <;> simp), b.ws.kept hg' (by cases wv.ownBlock <;> simp), b.ap, b.lo_le⟩
theorem midkeepsP {W w1 : World} {B lo : Nat} (hlo : lo ≤ W.heap.size) (hg : W.drew.grownBy w1 none) : KeepsP B lo W w1 := by
  have hg' : W.grownBy w1 none := ⟨hg.os, hg.tape, hg.output, hg.size, hg.block⟩
  exact ⟨fun b cur t hb _ _ => hb.kept hg' (by simp), (Below.refl lo W).grown hg' hlo (fun k e => by cases e)⟩
theorem midownP {W w1 : World} {lo base n : Nat} {v : Value} {xs : List Value} (hg : W.drew.grownBy w1 none) (h : W.ownsRow base 63 2 v n xs) : w1.ownsRow base 63 2 v n xs :=
  h.kept (row := none) ⟨hg.os, hg.tape, hg.output, hg.size, hg.block⟩ (by cases v.ownBlock <;> simp)
/-- The copy is laid behind the others. -/
theorem app2P {W W2 : World} {B lo : Nat} {vs cs : List Value} {lv wv u : Value} {h : Int} {g o cap : Nat} {tmp : Obj} (b : BkP W B lo vs cs lv wv h) (hs : SlAt W2 lo 65 (.slice (some ⟨g, o, none⟩) (cs.length + 1) cap) (cs ++ [u])) (hg : (W.alloc tmp).grownBy W2 wv.ownBlock) (hat : wv.ownBlock = some g ∨ W.heap.size + 1 ≤ g) (hlo : lo ≤ W.heap.size) :
    Blk W2 B #[lv, wv, .int .i64 h, .bool false] 86 ∧ BkP (W2.setCell ⟨B, 1, none⟩ (.slice (some ⟨g, o, none⟩) (cs.length + 1) cap)) B lo vs (cs ++ [u]) lv (.slice (some ⟨g, o, none⟩) (cs.length + 1) cap) h ∧ KeepsP B lo W (W2.setCell ⟨B, 1, none⟩ (.slice (some ⟨g, o, none⟩) (cs.length + 1) cap)) := by
  obtain ⟨h1, h2⟩ := (b.alloc tmp).app2 hs hg (by simpa using hat)
  exact ⟨h1, h2, (((KeepsP.refl B lo W).alloc hlo tmp).sl (b.alloc tmp).ws (by simp; omega) hg).set b.lo_le 1 _⟩

/-- How long the list is that a cell holds. -/
def lenAt (W : World) (p : Addr) : Nat := match W.cell? p with
  | some (.slice _ n _) => n
  | _ => 0
theorem book_startP {W W' : World} {B lo : Nat} {its : List ItP} {lv wv lv' wv' : Value} {h h' : Int} {vs cs : List Value} {v c : Value} {zs : List (Int × Int)} (b : BookP W B lo its lv wv h) (hvs : vs = its.map ItP.v) (hcs : cs = its.map ItP.c)
    (hdis : ∀ it ∈ its, it.v.ownBlock = none ∨ it.v.ownBlock ≠ v.ownBlock) (hrow : W.ownsRow lo 63 2 v zs.length (encP zs)) (hc : W'.ownsRow lo 63 2 c zs.length (encP zs))
    (hb : BkP W' B lo (vs ++ [v]) (cs ++ [c]) lv' wv' h') (hk : KeepsP B lo W W') : BookP W' B lo (its ++ [⟨v, c, zs⟩]) lv' wv' h' := by
  subst hvs
  subst hcs
  refine ⟨by simpa using hb, fun it hi => ?_, ?_⟩
  · rcases List.mem_append.1 hi with hi | hi
    · exact (b.own it hi).kept hk b.bk.blk
    · simp at hi
      subst hi
      exact ⟨hk.own b.bk.blk hrow, hc⟩
  · rw [List.pairwise_append]
    refine ⟨b.dis, by simp, fun x hx y hy => ?_⟩
    simp at hy
    subst hy
    exact hdis x hx

theorem keep_cellsP {wr w' : World} {B lo : Nat} {vs cs : List Value} {lv wv u x : Value} {h : Int} {p q : Addr} (b : BkP wr B lo vs cs lv wv h) (hb : Below wr.drew.heap.size wr.drew w') (hp : wr.cell? p = some u) (hq : wr.cell? q = some x) :
    w'.cell? ⟨B, 0, none⟩ = some lv ∧ w'.cell? ⟨B, 1, none⟩ = some wv ∧ w'.cell? ⟨B, 3, none⟩ = some (.bool false) ∧ w'.frozen? ⟨B, 3, none⟩ = false ∧ w'.cell? p = some u ∧ w'.cell? q = some x := by
  have hb' : Below wr.heap.size wr w' := ⟨hb.os, hb.tape, hb.output, hb.size, hb.block⟩
  have k := b.below hb'
  exact ⟨k.blk.cell 0, k.blk.cell 1, k.blk.cell 3, k.blk.frozen 3, (hb'.cell (cell_lt hp)).trans hp, (hb'.cell (cell_lt hq)).trans hq⟩

theorem SlAt.at {W : World} {lo : Nat} {E : TypeId} {g o n cap : Nat} {us : List Value} (h : SlAt W lo E (.slice (some ⟨g, o, none⟩) n cap) us) (j : Nat) {u : Value} (hj : us[j]? = some u) : W.cell? ⟨g, o + j, none⟩ = some u := by
  obtain ⟨g', o', cap', e, _, _, hc⟩ := h.form (by have := (List.getElem?_eq_some_iff.1 hj).1; omega)
  cases e
  exact hc j u hj
theorem keep_goodP {wr w' : World} {B lo : Nat} {vs cs : List Value} {lv wv : Value} {h : Int} (b : BkP wr B lo vs cs lv wv h) (hlo : lo ≤ wr.heap.size) (hb : Below wr.drew.heap.size wr.drew w') : BkP (w'.setCell ⟨B, 3, none⟩ (.bool false)) B lo vs cs lv wv h ∧ KeepsP B lo wr (w'.setCell ⟨B, 3, none⟩ (.bool false)) := by
  have hb' : Below wr.heap.size wr w' := ⟨hb.os, hb.tape, hb.output, hb.size, hb.block⟩
  exact ⟨(b.below hb').good, ((KeepsP.refl B lo wr).below hlo hb').set b.lo_le 3 _⟩

theorem keep_endP {W wr Wh : World} {B lo : Nat} {it : ItP} {t : List ItP} {lv wv : Value} {h h'' : Int} {gl ol cl gw ow cw n m : Nat} (b : BookP wr B lo (it :: t) lv wv h) (hk : KeepsP B lo W wr)
    (b5 : BkP Wh B lo ((it :: t).map ItP.v) ((it :: t).map ItP.c) (.slice (some ⟨gl, ol, none⟩) n cl) (.slice (some ⟨gw, ow, none⟩) m cw) h'') (k6 : KeepsP B lo wr Wh) :
    BookP ((Wh.setCell ⟨B, 0, none⟩ (.slice (some ⟨gl, ol + 1, none⟩) t.length (cl - 1))).setCell ⟨B, 1, none⟩ (.slice (some ⟨gw, ow + 1, none⟩) t.length (cw - 1))) B lo t (.slice (some ⟨gl, ol + 1, none⟩) t.length (cl - 1)) (.slice (some ⟨gw, ow + 1, none⟩) t.length (cw - 1)) h'' ∧
    KeepsP B lo W ((Wh.setCell ⟨B, 0, none⟩ (.slice (some ⟨gl, ol + 1, none⟩) t.length (cl - 1))).setCell ⟨B, 1, none⟩ (.slice (some ⟨gw, ow + 1, none⟩) t.length (cw - 1))) ∧
    lenAt ((Wh.setCell ⟨B, 0, none⟩ (.slice (some ⟨gl, ol + 1, none⟩) t.length (cl - 1))).setCell ⟨B, 1, none⟩ (.slice (some ⟨gw, ow + 1, none⟩) t.length (cw - 1))) ⟨B, 0, none⟩ = t.length := by
  have b6 := b5.tail1
  have b7 := b6.tail2
  simp only [List.length_map] at b6 b7
  have kk := (k6.set b5.lo_le 0 (.slice (some ⟨gl, ol + 1, none⟩) t.length (cl - 1))).set b5.lo_le 1 (.slice (some ⟨gw, ow + 1, none⟩) t.length (cw - 1))
  refine ⟨⟨b7, fun x hx => (b.own x (by simp [hx])).kept kk b.bk.blk, (List.pairwise_cons.1 b.dis).2⟩, hk.trans kk, ?_⟩
  unfold lenAt
  rw [b7.blk.cell 0]
  rfl

set_option maxRecDepth 100000 in
set_option maxHeartbeats 4000000 in
theorem keep_someP (W : World) (B lo : Nat) (its : List ItP) (lv wv : Value) (h : Int) (gv cap : Nat) (zs : List (Int × Int)) (hn : 0 < zs.length) (hdis : ∀ it ∈ its, it.v.ownBlock = none ∨ it.v.ownBlock ≠ Value.ownBlock (.slice (some ⟨gv, 0, none⟩) zs.length cap)) (hrow : W.ownsRow lo 63 2 (.slice (some ⟨gv, 0, none⟩) zs.length cap) zs.length (encP zs)) (hby : zs.length * 8 ≤ 140737488355328) (hmx : zs.length ≤ maxLen) (b : BookP W B lo its lv wv h) (hlo : lo ≤ W.heap.size) (hl : its.length ≤ 1000) : Calls Try.prog 44 #[.pointer (some ⟨B, 0, none⟩), .slice (some ⟨gv, 0, none⟩) zs.length cap] W fun e W' => (∃ r, e = .returned r) ∧ (∃ t lv' wv' h', t ≠ [] ∧ (∀ it ∈ t, it ∈ its ∨ it.v = .slice (some ⟨gv, 0, none⟩) zs.length cap) ∧ t.length ≤ its.length + 1 ∧ BookP W' B lo t lv' wv' h') ∧ KeepsP B lo W W' := by
  obtain ⟨vs, hvs⟩ : ∃ vs, vs = its.map ItP.v := ⟨_, rfl⟩
  obtain ⟨cs, hcs⟩ : ∃ cs, cs = its.map ItP.c := ⟨_, rfl⟩
  have hlv : vs.length ≤ 1000 := by rw [hvs, List.length_map]; exact hl
  have hl2 : cs.length ≤ 1000 := by rw [hcs, List.length_map]; exact hl
  have HBOOK := hide b
  have b := b.bk
  rw [← hvs, ← hcs] at b
  have HVS := hide hvs
  have HCS := hide hcs
  clear hvs hcs
  have c0 := b.blk.cell 0
  have c1 := b.blk.cell 1
  have f0 := b.blk.frozen 0
  have HBK := hide b
  clear b
  obtain ⟨i0, hi, hz0, hz1, hz2⟩ := info_parts infoLP
  have HI := hide (And.intro hi (And.intro hz0 (And.intro hz1 hz2)))
  clear hi hz0 hz1 hz2
  go_enter Try.func44, Try.ntmps44
  go_wp2_with (at_builtin; refine wpList_append_sl _ rfl _ _ 84 rfl lo 65 i0 (.slice none 0 0) 24 Try.underlying84 (unhide HI).1 (unhide HI).2.1 (unhide HI).2.2.1 (unhide HI).2.2.2 rfl lv vs rfl ((unhide HBK).ls.alloc _) ⟨W.heap.size, 0, none⟩ 1 (.slice (some ⟨gv, 0, none⟩) zs.length cap) rfl ((Blk.new W _ 65).cell 0) rfl (by unfold maxLen; omega) (by omega) (by simp; omega) ?_)
  intro g o cap' W2 hs hg hat
  obtain ⟨hB1, hbk1, hk1⟩ := app1P (unhide HBK) hs hg hat hlo
  have d0 := hB1.cell 0
  have d1 := hB1.frozen 0
  have HK1 := hide hk1
  have HB1 := hide hbk1
  clear hs hg hat hB1 hk1 hbk1 c0 c1 f0
  obtain ⟨iE, hi, hz0, hz1, hz2⟩ := info_parts infoEP
  have HIE := hide (And.intro hi (And.intro hz0 (And.intro hz1 hz2)))
  have hrow1 := (unhide HK1).own (unhide HBK).blk hrow
  have HROW0 := hide hrow
  have hlo1 : lo ≤ (W2.setCell ⟨B, 0, none⟩ (.slice (some ⟨g, o, none⟩) (vs.length + 1) cap')).heap.size := (by have := (unhide HK1).2.size; omega)
  clear hi hz0 hz1 hz2 hrow
  go_wp2
  generalize W2.setCell ⟨B, 0, none⟩ (.slice (some ⟨g, o, none⟩) (vs.length + 1) cap') = Wb at *
  have e1 := (unhide HB1).blk.cell 1
  have e2 := (unhide HB1).blk.frozen 1
  have HROW := hide hrow1
  have hmx2 : Try.prog.follows .mixedOrders = true := by kernel_rfl
  clear d0 d1 hrow1
  rename_i K1 hK1
  have key : ∀ (Wc : World) (a2 : Act) (c : Value) (lv2 wv2 : Value), (∃ U : Nat → Value, a2 = { tmps := #[.pointer (some ⟨B, 0, none⟩), .slice (some ⟨gv, 0, none⟩) zs.length cap, U 2, U 3, U 4, U 5, U 6, U 7, U 8, U 9, U 10, U 11, U 12, U 13, U 14, U 15, U 16, U 17, U 18, U 19, U 20, U 21, U 22, U 23, U 24, U 25, U 26, U 27, U 28, U 29, U 30, U 31, U 32, U 33, U 34, U 35, U 36, U 37, U 38, U 39, U 40, U 41, U 42, U 43, U 44, U 45, U 46, U 47, U 48, U 49, U 50, U 51, U 52, U 53, U 54, U 55, U 56, U 57, U 58, U 59, U 60, U 61, U 62, U 63, U 64, U 65, U 66, U 67, U 68, U 69, U 70, U 71, U 72, U 73, U 74, U 75, U 76, U 77, U 78, U 79, U 80, U 81, U 82, U 83, U 84, U 85, U 86, U 87, U 88, U 89, U 90, U 91, U 92, U 93, U 94, U 95, U 96, U 97, U 98, U 99, U 100, U 101, U 102, U 103, U 104, U 105, U 106, U 107, U 108, U 109, U 110, U 111], defers := [] }) → BkP Wc B lo (vs ++ [.slice (some ⟨gv, 0, none⟩) zs.length cap]) (cs ++ [c]) lv2 wv2 h → Wc.ownsRow lo 63 2 c zs.length (encP zs) → KeepsP B lo W Wc → K1 a2 Wc := by
    rintro Wc a2 c lv2 wv2 ⟨U, rfl⟩ hb2 hown2 hk2
    have HBK3 := hide hb2
    have HOW2 := hide hown2
    have HK3 := hide hk2
    apply hK1
    clear hK1 HROW e1 e2 HK1 HB1 hlo1
    have r1' := (unhide HBK3).blk.cell 2
    have r2' := (unhide HBK3).blk.frozen 2
    go_wp2
    have HL4 := hide ((unhide HBK3).held (wrap64 (wrap64 (h + (cap : Int)) + 1)))
    have HK4 := hide ((unhide HK3).set (unhide HBK3).lo_le 2 (.int .i64 (wrap64 (wrap64 (h + (cap : Int)) + 1))))
    have hstart := book_startP (unhide HBOOK) (unhide HVS) (unhide HCS) hdis (unhide HROW0) ((KeepsP.refl B lo _).set (unhide HBK3).lo_le 2 (.int .i64 (wrap64 (wrap64 (h + (cap : Int)) + 1))) |>.own (unhide HBK3).blk (unhide HOW2)) (unhide HL4) (unhide HK4)
    have HST := hide hstart
    have hlo4 : lo ≤ (Wc.setCell ⟨B, 2, none⟩ (.int .i64 (wrap64 (wrap64 (h + (cap : Int)) + 1)))).heap.size := by have := (unhide HK4).2.size; omega
    generalize Wc.setCell ⟨B, 2, none⟩ (.int .i64 (wrap64 (wrap64 (h + (cap : Int)) + 1))) = Wd at *
    generalize wrap64 (wrap64 (h + (cap : Int)) + 1) = hd at *
    clear hstart r1' r2' HBK3 HOW2 HK3 HL4 HBK HVS HCS HI HIE b hb2 hown2 hk2
    go_loopw [36] (fun _ wr => ∃ (t : List ItP) (lv' wv' : Value) (h' : Int), Hid (t ≠ []) ∧ t.length ≤ its.length + 1 ∧ Hid (∀ it ∈ t, it ∈ its ∨ it.v = .slice (some ⟨gv, 0, none⟩) zs.length cap) ∧ Hid (BookP wr B lo t lv' wv' h') ∧ Hid (KeepsP B lo W wr)) (fun _ wr => lenAt wr ⟨B, 0, none⟩)
    case atStart => exact ⟨_, _, _, _, hide (by simp), by simp, hide (fun it h => by rcases List.mem_append.1 h with h | h; exact .inl h; simp at h; exact .inr (by rw [h])), HST, HK4⟩
    case round =>
      obtain ⟨t, lv', wv', h', HNE, htl, HIT, HBK, HKK⟩ := hrel
      cases t with
      | nil => exact absurd rfl (unhide HNE)
      | cons it t =>
        obtain ⟨v, c, ws⟩ := it
        have hok := (unhide HBK).own ⟨v, c, ws⟩ (by simp)
        obtain ⟨av, cv, hv, _⟩ := own_lstP hok.1
        obtain ⟨ac, cc, hc, _⟩ := own_lstP hok.2
        simp only at hv hc
        subst hv
        subst hc
        obtain ⟨gl, ol, cl, rfl, hl1, hl2, hlc⟩ := (unhide HBK).bk.ls.form (by simp)
        obtain ⟨gw, ow, cw, rfl, hw1, hw2, hwc⟩ := (unhide HBK).bk.ws.form (by simp)
        simp only [List.length_map, List.length_cons] at HBK hl1 hw1
        have l0 : wr.cell? ⟨gl, ol, none⟩ = some (.slice av ws.length cv) := by simpa using hlc 0 (.slice av ws.length cv) rfl
        have w0 : wr.cell? ⟨gw, ow, none⟩ = some (.slice ac ws.length cc) := by simpa using hwc 0 (.slice ac ws.length cc) rfl
        have c0 := (unhide HBK).bk.blk.cell 0
        have c1 := (unhide HBK).bk.blk.cell 1
        have c2 := (unhide HBK).bk.blk.cell 2
        have c3 := (unhide HBK).bk.blk.cell 3
        have f3 := (unhide HBK).bk.blk.frozen 3
        have HV := hide hok.1
        have HC := hide hok.2
        have hlen4 : ¬ (4000 : Int) < ((t.length + 1 : Nat) : Int) := by simp only [List.length_cons] at htl; omega
        have hmz : lenAt wr ⟨B, 0, none⟩ = t.length + 1 := by unfold lenAt; rw [c0]; rfl
        have HMZ := hide hmz
        have hlor : lo ≤ wr.heap.size := by have := (unhide HKK).2.size; omega
        have htl' : t.length ≤ its.length := by simp only [List.length_cons] at htl; omega
        clear hok hlc hwc hmz
        by_cases h1 : (1 : Int) < ((t.length + 1 : Nat) : Int)
        · by_cases hh : (1000000 : Int) < h'
          · go_wp2
            go_region_held3 (fun w' => w'.cell? ⟨B, 0, none⟩ = some (.slice (some ⟨gl, ol, none⟩) (t.length + 1) cl) ∧ w'.cell? ⟨B, 1, none⟩ = some (.slice (some ⟨gw, ow, none⟩) (t.length + 1) cw) ∧ w'.cell? ⟨B, 3, none⟩ = some (.bool false) ∧ w'.cell? ⟨gl, ol, none⟩ = some (.slice av ws.length cv) ∧ w'.cell? ⟨gw, ow, none⟩ = some (.slice ac ws.length cc)) (first | exact ⟨k0, k1, s1, k3, k4⟩ | exact ⟨(unhide GB).1.blk.cell 0, (unhide GB).1.blk.cell 1, (unhide GB).1.blk.cell 3, by simpa using (unhide GB).1.ls.at 0 (u := .slice av ws.length cv) rfl, by simpa using (unhide GB).1.ws.at 0 (u := .slice ac ws.length cc) rfl⟩ | go_keep)
              ((go_at_call 25; refine (same_ownP lo _ _ ws _ ?_ ?_).mono ?_; (exact unhide HV); (exact unhide HC); rintro e w' ⟨rfl, hb⟩; obtain ⟨k0, k1, s1, s2, k3, k4⟩ := keep_cellsP (unhide HBK).bk hb l0 w0; have GB := hide (keep_goodP (unhide HBK).bk hlor hb)))
            have HG := hide (unhide GB)
            clear GB k0 k1 s1 s2 k3 k4 hb l0 w0 c0 c1 c2 c3 f3 HV HC
            generalize w'.setCell ⟨B, 3, none⟩ (.bool false) = Wg at *
            have l0 : Wg.cell? ⟨gl, ol, none⟩ = some (.slice av ws.length cv) := by simpa using (unhide HG).1.ls.at 0 (u := .slice av ws.length cv) rfl
            have c0 := (unhide HG).1.blk.cell 0
            have c2 := (unhide HG).1.blk.cell 2
            have f2 := (unhide HG).1.blk.frozen 2
            go_wp2
            go_region_with (fail)
            all_goals
              have HG5 := hide ((unhide HG).1.held (IntKind.i64.wrap (IntKind.i64.wrap (h' - (cv : Int)) - 1))).drew
              have HG6 := hide ((unhide HG).2.set (unhide HG).1.lo_le 2 (.int .i64 (IntKind.i64.wrap (IntKind.i64.wrap (h' - (cv : Int)) - 1)))).drew
              generalize (Wg.setCell ⟨B, 2, none⟩ (.int .i64 (IntKind.i64.wrap (IntKind.i64.wrap (h' - (cv : Int)) - 1)))).drew = Wh at *
              generalize IntKind.i64.wrap (IntKind.i64.wrap (h' - (cv : Int)) - 1) = h'' at *
              clear c0 c2 f2 l0
              have c0 := (unhide HG5).blk.cell 0
              have c1 := (unhide HG5).blk.cell 1
              have f0 := (unhide HG5).blk.frozen 0
              have f1 := (unhide HG5).blk.frozen 1
              have HE := hide (keep_endP (unhide HBK) (unhide HKK) (unhide HG5) (unhide HG6))
              go_wp2
              go_roundw
              case rel => exact ⟨t, .slice (some ⟨gl, ol + 1, none⟩) t.length (cl - 1), .slice (some ⟨gw, ow + 1, none⟩) t.length (cw - 1), h'', hide (fun e => by subst e; simp at h1), by omega, hide (fun it hi => unhide HIT it (by simp [hi])), hide (unhide HE).1, hide (unhide HE).2.1⟩
              case measure =>
                rw [(unhide HE).2.2, unhide HMZ]
                omega
          · go_wp2
            go_end0
            exact ⟨⟨_, rfl⟩, ⟨_, unhide HNE, unhide HIT, htl, _, _, _, unhide HBK⟩, unhide HKK⟩
        · go_wp2
          go_end0
          exact ⟨⟨_, rfl⟩, ⟨_, unhide HNE, unhide HIT, htl, _, _, _, unhide HBK⟩, unhide HKK⟩
  have KEY := hide key
  clear key hK1
  go_region_law (first
    | (refine step_append_lies _ (by rfl) _ _ _ (by rfl) lo 63 iE (.agg #[.int .i32 0, .int .i32 0]) 2 8 Try.underlying65 (unhide HIE).1 (unhide HIE).2.1 (unhide HIE).2.2.1 (unhide HIE).2.2.2 rfl (by omega) (.slice none 0 0) 0 [] (by rfl) (World.ownsRow_nil _ _ _ _) ⟨gv, 0, none⟩ zs.length cap (encP zs) (by rfl) (encP_length zs) ((unhide HROW).cells (g := gv) rfl) (encP_one zs) hn (by omega) (by omega) (by simp; omega) Wb.heap.size (by simp) ?_; intro g1 cap1 w1 hown1 hgrow1 hat1 hlt1; have q1 := (midP (unhide HB1) hgrow1).blk.cell 1; have q2 := (midP (unhide HB1) hgrow1).blk.frozen 1; have q3 := fun o => ((midP (unhide HB1) hgrow1).blk.alloc o).cell 1)
    | (refine step_append_sl _ (by rfl) _ _ _ (by rfl) lo 65 i0 (.slice none 0 0) 24 Try.underlying84 (unhide HI).1 (unhide HI).2.1 (unhide HI).2.2.1 (unhide HI).2.2.2 rfl wv cs (by rfl) ((midP (unhide HB1) hgrow1).ws.alloc _) ⟨w1.heap.size, 0, none⟩ 1 (.slice (some ⟨g1, 0, none⟩) zs.length cap1) (by rfl) ((Blk.new w1 _ 65).cell 0) rfl (by unfold maxLen; omega) (by omega) (by have := (midkeepsP (B := B) hlo1 hgrow1).2.size; simp; omega) ?_; intro g2 o2 cap2 w2 hs2 hgrow2 hat2; obtain ⟨hB3, hbk3, hk3⟩ := app2P (midP (unhide HB1) hgrow1) hs2 hgrow2 (by simpa using hat2) (by have := (midkeepsP (B := B) hlo1 hgrow1).2.size; omega); have r1 := hB3.cell 1; have r2 := hB3.frozen 1))
  all_goals
    have hown2 := (hk3.own (midP (unhide HB1) hgrow1).blk (show w1.ownsRow lo 63 2 (.slice (some ⟨g1, 0, none⟩) zs.length cap1) zs.length (encP zs) by simpa using hown1))
    exact unhide KEY _ _ _ _ _ (mk_act rfl) hbk3 hown2 (((unhide HK1).trans (midkeepsP hlo1 hgrow1)).trans hk3)

set_option maxRecDepth 100000 in
set_option maxHeartbeats 4000000 in
theorem keep_zeroP (W : World) (B lo : Nat) (its : List ItP) (lv wv : Value) (h : Int) (a : Option Addr) (cap : Nat) (zs : List (Int × Int)) (hn : zs.length = 0) (hdis : ∀ it ∈ its, it.v.ownBlock = none ∨ it.v.ownBlock ≠ Value.ownBlock (.slice (a) zs.length cap)) (hrow : W.ownsRow lo 63 2 (.slice (a) zs.length cap) zs.length (encP zs)) (hby : zs.length * 8 ≤ 140737488355328) (hmx : zs.length ≤ maxLen) (b : BookP W B lo its lv wv h) (hlo : lo ≤ W.heap.size) (hl : its.length ≤ 1000) : Calls Try.prog 44 #[.pointer (some ⟨B, 0, none⟩), .slice (a) zs.length cap] W fun e W' => (∃ r, e = .returned r) ∧ (∃ t lv' wv' h', t ≠ [] ∧ (∀ it ∈ t, it ∈ its ∨ it.v = .slice (a) zs.length cap) ∧ t.length ≤ its.length + 1 ∧ BookP W' B lo t lv' wv' h') ∧ KeepsP B lo W W' := by
  have HNN := hide hn
  clear hn
  obtain ⟨vs, hvs⟩ : ∃ vs, vs = its.map ItP.v := ⟨_, rfl⟩
  obtain ⟨cs, hcs⟩ : ∃ cs, cs = its.map ItP.c := ⟨_, rfl⟩
  have hlv : vs.length ≤ 1000 := by rw [hvs, List.length_map]; exact hl
  have hl2 : cs.length ≤ 1000 := by rw [hcs, List.length_map]; exact hl
  have HBOOK := hide b
  have b := b.bk
  rw [← hvs, ← hcs] at b
  have HVS := hide hvs
  have HCS := hide hcs
  clear hvs hcs
  have c0 := b.blk.cell 0
  have c1 := b.blk.cell 1
  have f0 := b.blk.frozen 0
  have HBK := hide b
  clear b
  obtain ⟨i0, hi, hz0, hz1, hz2⟩ := info_parts infoLP
  have HI := hide (And.intro hi (And.intro hz0 (And.intro hz1 hz2)))
  clear hi hz0 hz1 hz2
  go_enter Try.func44, Try.ntmps44
  go_wp2_with (at_builtin; refine wpList_append_sl _ rfl _ _ 84 rfl lo 65 i0 (.slice none 0 0) 24 Try.underlying84 (unhide HI).1 (unhide HI).2.1 (unhide HI).2.2.1 (unhide HI).2.2.2 rfl lv vs rfl ((unhide HBK).ls.alloc _) ⟨W.heap.size, 0, none⟩ 1 (.slice (a) zs.length cap) rfl ((Blk.new W _ 65).cell 0) rfl (by unfold maxLen; omega) (by omega) (by simp; omega) ?_)
  intro g o cap' W2 hs hg hat
  obtain ⟨hB1, hbk1, hk1⟩ := app1P (unhide HBK) hs hg hat hlo
  have d0 := hB1.cell 0
  have d1 := hB1.frozen 0
  have HK1 := hide hk1
  have HB1 := hide hbk1
  clear hs hg hat hB1 hk1 hbk1 c0 c1 f0
  obtain ⟨iE, hi, hz0, hz1, hz2⟩ := info_parts infoEP
  have HIE := hide (And.intro hi (And.intro hz0 (And.intro hz1 hz2)))
  have hrow1 := (unhide HK1).own (unhide HBK).blk hrow
  have HROW0 := hide hrow
  have hlo1 : lo ≤ (W2.setCell ⟨B, 0, none⟩ (.slice (some ⟨g, o, none⟩) (vs.length + 1) cap')).heap.size := (by have := (unhide HK1).2.size; omega)
  clear hi hz0 hz1 hz2 hrow
  go_wp2
  generalize W2.setCell ⟨B, 0, none⟩ (.slice (some ⟨g, o, none⟩) (vs.length + 1) cap') = Wb at *
  have e1 := (unhide HB1).blk.cell 1
  have e2 := (unhide HB1).blk.frozen 1
  have e3 := fun o => ((unhide HB1).blk.alloc o).cell 1
  have HROW := hide hrow1
  have hmx2 : Try.prog.follows .mixedOrders = true := by kernel_rfl
  clear d0 d1 hrow1
  rename_i K1 hK1
  have key : ∀ (Wc : World) (a2 : Act) (c : Value) (lv2 wv2 : Value), (∃ U : Nat → Value, a2 = { tmps := #[.pointer (some ⟨B, 0, none⟩), .slice (a) zs.length cap, U 2, U 3, U 4, U 5, U 6, U 7, U 8, U 9, U 10, U 11, U 12, U 13, U 14, U 15, U 16, U 17, U 18, U 19, U 20, U 21, U 22, U 23, U 24, U 25, U 26, U 27, U 28, U 29, U 30, U 31, U 32, U 33, U 34, U 35, U 36, U 37, U 38, U 39, U 40, U 41, U 42, U 43, U 44, U 45, U 46, U 47, U 48, U 49, U 50, U 51, U 52, U 53, U 54, U 55, U 56, U 57, U 58, U 59, U 60, U 61, U 62, U 63, U 64, U 65, U 66, U 67, U 68, U 69, U 70, U 71, U 72, U 73, U 74, U 75, U 76, U 77, U 78, U 79, U 80, U 81, U 82, U 83, U 84, U 85, U 86, U 87, U 88, U 89, U 90, U 91, U 92, U 93, U 94, U 95, U 96, U 97, U 98, U 99, U 100, U 101, U 102, U 103, U 104, U 105, U 106, U 107, U 108, U 109, U 110, U 111], defers := [] }) → BkP Wc B lo (vs ++ [.slice (a) zs.length cap]) (cs ++ [c]) lv2 wv2 h → Wc.ownsRow lo 63 2 c zs.length (encP zs) → KeepsP B lo W Wc → K1 a2 Wc := by
    rintro Wc a2 c lv2 wv2 ⟨U, rfl⟩ hb2 hown2 hk2
    have HBK3 := hide hb2
    have HOW2 := hide hown2
    have HK3 := hide hk2
    apply hK1
    clear hK1 HROW e1 e2 e3 HK1 HB1 hlo1
    have r1' := (unhide HBK3).blk.cell 2
    have r2' := (unhide HBK3).blk.frozen 2
    go_wp2
    have HL4 := hide ((unhide HBK3).held (wrap64 (wrap64 (h + (cap : Int)) + 1)))
    have HK4 := hide ((unhide HK3).set (unhide HBK3).lo_le 2 (.int .i64 (wrap64 (wrap64 (h + (cap : Int)) + 1))))
    have hstart := book_startP (unhide HBOOK) (unhide HVS) (unhide HCS) hdis (unhide HROW0) ((KeepsP.refl B lo _).set (unhide HBK3).lo_le 2 (.int .i64 (wrap64 (wrap64 (h + (cap : Int)) + 1))) |>.own (unhide HBK3).blk (unhide HOW2)) (unhide HL4) (unhide HK4)
    have HST := hide hstart
    have hlo4 : lo ≤ (Wc.setCell ⟨B, 2, none⟩ (.int .i64 (wrap64 (wrap64 (h + (cap : Int)) + 1)))).heap.size := by have := (unhide HK4).2.size; omega
    generalize Wc.setCell ⟨B, 2, none⟩ (.int .i64 (wrap64 (wrap64 (h + (cap : Int)) + 1))) = Wd at *
    generalize wrap64 (wrap64 (h + (cap : Int)) + 1) = hd at *
    clear hstart r1' r2' HBK3 HOW2 HK3 HL4 HBK HVS HCS HI HIE b hb2 hown2 hk2
    go_loopw [36] (fun _ wr => ∃ (t : List ItP) (lv' wv' : Value) (h' : Int), Hid (t ≠ []) ∧ t.length ≤ its.length + 1 ∧ Hid (∀ it ∈ t, it ∈ its ∨ it.v = .slice (a) zs.length cap) ∧ Hid (BookP wr B lo t lv' wv' h') ∧ Hid (KeepsP B lo W wr)) (fun _ wr => lenAt wr ⟨B, 0, none⟩)
    case atStart => exact ⟨_, _, _, _, hide (by simp), by simp, hide (fun it h => by rcases List.mem_append.1 h with h | h; exact .inl h; simp at h; exact .inr (by rw [h])), HST, HK4⟩
    case round =>
      obtain ⟨t, lv', wv', h', HNE, htl, HIT, HBK, HKK⟩ := hrel
      cases t with
      | nil => exact absurd rfl (unhide HNE)
      | cons it t =>
        obtain ⟨v, c, ws⟩ := it
        have hok := (unhide HBK).own ⟨v, c, ws⟩ (by simp)
        obtain ⟨av, cv, hv, _⟩ := own_lstP hok.1
        obtain ⟨ac, cc, hc, _⟩ := own_lstP hok.2
        simp only at hv hc
        subst hv
        subst hc
        obtain ⟨gl, ol, cl, rfl, hl1, hl2, hlc⟩ := (unhide HBK).bk.ls.form (by simp)
        obtain ⟨gw, ow, cw, rfl, hw1, hw2, hwc⟩ := (unhide HBK).bk.ws.form (by simp)
        simp only [List.length_map, List.length_cons] at HBK hl1 hw1
        have l0 : wr.cell? ⟨gl, ol, none⟩ = some (.slice av ws.length cv) := by simpa using hlc 0 (.slice av ws.length cv) rfl
        have w0 : wr.cell? ⟨gw, ow, none⟩ = some (.slice ac ws.length cc) := by simpa using hwc 0 (.slice ac ws.length cc) rfl
        have c0 := (unhide HBK).bk.blk.cell 0
        have c1 := (unhide HBK).bk.blk.cell 1
        have c2 := (unhide HBK).bk.blk.cell 2
        have c3 := (unhide HBK).bk.blk.cell 3
        have f3 := (unhide HBK).bk.blk.frozen 3
        have HV := hide hok.1
        have HC := hide hok.2
        have hlen4 : ¬ (4000 : Int) < ((t.length + 1 : Nat) : Int) := by simp only [List.length_cons] at htl; omega
        have hmz : lenAt wr ⟨B, 0, none⟩ = t.length + 1 := by unfold lenAt; rw [c0]; rfl
        have HMZ := hide hmz
        have hlor : lo ≤ wr.heap.size := by have := (unhide HKK).2.size; omega
        have htl' : t.length ≤ its.length := by simp only [List.length_cons] at htl; omega
        clear hok hlc hwc hmz
        by_cases h1 : (1 : Int) < ((t.length + 1 : Nat) : Int)
        · by_cases hh : (1000000 : Int) < h'
          · go_wp2
            go_region_held3 (fun w' => w'.cell? ⟨B, 0, none⟩ = some (.slice (some ⟨gl, ol, none⟩) (t.length + 1) cl) ∧ w'.cell? ⟨B, 1, none⟩ = some (.slice (some ⟨gw, ow, none⟩) (t.length + 1) cw) ∧ w'.cell? ⟨B, 3, none⟩ = some (.bool false) ∧ w'.cell? ⟨gl, ol, none⟩ = some (.slice av ws.length cv) ∧ w'.cell? ⟨gw, ow, none⟩ = some (.slice ac ws.length cc)) (first | exact ⟨k0, k1, s1, k3, k4⟩ | exact ⟨(unhide GB).1.blk.cell 0, (unhide GB).1.blk.cell 1, (unhide GB).1.blk.cell 3, by simpa using (unhide GB).1.ls.at 0 (u := .slice av ws.length cv) rfl, by simpa using (unhide GB).1.ws.at 0 (u := .slice ac ws.length cc) rfl⟩ | go_keep)
              ((go_at_call 25; refine (same_ownP lo _ _ ws _ ?_ ?_).mono ?_; (exact unhide HV); (exact unhide HC); rintro e w' ⟨rfl, hb⟩; obtain ⟨k0, k1, s1, s2, k3, k4⟩ := keep_cellsP (unhide HBK).bk hb l0 w0; have GB := hide (keep_goodP (unhide HBK).bk hlor hb)))
            have HG := hide (unhide GB)
            clear GB k0 k1 s1 s2 k3 k4 hb l0 w0 c0 c1 c2 c3 f3 HV HC
            generalize w'.setCell ⟨B, 3, none⟩ (.bool false) = Wg at *
            have l0 : Wg.cell? ⟨gl, ol, none⟩ = some (.slice av ws.length cv) := by simpa using (unhide HG).1.ls.at 0 (u := .slice av ws.length cv) rfl
            have c0 := (unhide HG).1.blk.cell 0
            have c2 := (unhide HG).1.blk.cell 2
            have f2 := (unhide HG).1.blk.frozen 2
            go_wp2
            go_region_with (fail)
            all_goals
              have HG5 := hide ((unhide HG).1.held (IntKind.i64.wrap (IntKind.i64.wrap (h' - (cv : Int)) - 1))).drew
              have HG6 := hide ((unhide HG).2.set (unhide HG).1.lo_le 2 (.int .i64 (IntKind.i64.wrap (IntKind.i64.wrap (h' - (cv : Int)) - 1)))).drew
              generalize (Wg.setCell ⟨B, 2, none⟩ (.int .i64 (IntKind.i64.wrap (IntKind.i64.wrap (h' - (cv : Int)) - 1)))).drew = Wh at *
              generalize IntKind.i64.wrap (IntKind.i64.wrap (h' - (cv : Int)) - 1) = h'' at *
              clear c0 c2 f2 l0
              have c0 := (unhide HG5).blk.cell 0
              have c1 := (unhide HG5).blk.cell 1
              have f0 := (unhide HG5).blk.frozen 0
              have f1 := (unhide HG5).blk.frozen 1
              have HE := hide (keep_endP (unhide HBK) (unhide HKK) (unhide HG5) (unhide HG6))
              go_wp2
              go_roundw
              case rel => exact ⟨t, .slice (some ⟨gl, ol + 1, none⟩) t.length (cl - 1), .slice (some ⟨gw, ow + 1, none⟩) t.length (cw - 1), h'', hide (fun e => by subst e; simp at h1), by omega, hide (fun it hi => unhide HIT it (by simp [hi])), hide (unhide HE).1, hide (unhide HE).2.1⟩
              case measure =>
                rw [(unhide HE).2.2, unhide HMZ]
                omega
          · go_wp2
            go_end0
            exact ⟨⟨_, rfl⟩, ⟨_, unhide HNE, unhide HIT, htl, _, _, _, unhide HBK⟩, unhide HKK⟩
        · go_wp2
          go_end0
          exact ⟨⟨_, rfl⟩, ⟨_, unhide HNE, unhide HIT, htl, _, _, _, unhide HBK⟩, unhide HKK⟩
  have KEY := hide key
  clear key hK1
  go_region_law (first
    | (refine step_append_zero _ (by rfl) _ _ _ (by rfl) 63 iE Try.underlying65 (unhide HIE).1 (by rfl) a zs.length cap (unhide HNN) (by rfl) ?_)
    | (refine step_append_sl _ (by rfl) _ _ _ (by rfl) lo 65 i0 (.slice none 0 0) 24 Try.underlying84 (unhide HI).1 (unhide HI).2.1 (unhide HI).2.2.1 (unhide HI).2.2.2 rfl wv cs (by rfl) ((unhide HB1).drew.ws.alloc _) ⟨Wb.heap.size, 0, none⟩ 1 (.slice none 0 0) (by rfl) ((Blk.new Wb.drew _ 65).cell 0) rfl (by unfold maxLen; omega) (by omega) (by simp; omega) ?_; intro g2 o2 cap2 w2 hs2 hgrow2 hat2; obtain ⟨hB3, hbk3, hk3⟩ := app2P (unhide HB1).drew hs2 hgrow2 (by simpa using hat2) hlo1; have r1 := hB3.cell 1; have r2 := hB3.frozen 1))
  all_goals
    have hz : zs = [] := List.eq_nil_of_length_eq_zero (unhide HNN)
    exact unhide KEY _ _ _ _ _ (mk_act rfl) hbk3 (by rw [hz]; exact World.ownsRow_nil _ _ _ _) (((unhide HK1).trans (KeepsP.refl B lo Wb).drew).trans hk3)

theorem keep_anyP (W : World) (B lo : Nat) (its : List ItP) (lv wv : Value) (h : Int) (v : Value) (zs : List (Int × Int)) (hdis : ∀ it ∈ its, it.v.ownBlock = none ∨ it.v.ownBlock ≠ v.ownBlock) (hrow : W.ownsRow lo 63 2 v zs.length (encP zs)) (hby : zs.length * 8 ≤ 140737488355328) (hmx : zs.length ≤ maxLen) (b : BookP W B lo its lv wv h) (hlo : lo ≤ W.heap.size) (hl : its.length ≤ 1000) :
    Calls Try.prog 44 #[.pointer (some ⟨B, 0, none⟩), v] W fun e W' => (∃ r, e = .returned r) ∧ (∃ t lv' wv' h', t ≠ [] ∧ (∀ it ∈ t, it ∈ its ∨ it.v = v) ∧ t.length ≤ its.length + 1 ∧ BookP W' B lo t lv' wv' h') ∧ KeepsP B lo W W' := by
  rcases hrow.2 with ⟨rfl, h0⟩ | ⟨g, cap, cur, rfl, _⟩
  · have := keep_zeroP W B lo its lv wv h none 0 zs h0 (by simpa [h0] using hdis) (by simpa [h0] using hrow) hby hmx b hlo hl
    simpa [h0] using this
  · by_cases h0 : zs.length = 0
    · exact keep_zeroP W B lo its lv wv h _ cap zs h0 hdis hrow hby hmx b hlo hl
    · exact keep_someP W B lo its lv wv h g cap zs (by omega) hdis hrow hby hmx b hlo hl
end Go.Proofs.Ythbaheneikifiaa
