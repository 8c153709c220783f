/- Texts of this claim, one behind the other. -/
import Derived.Test.YtbbnppcpjpdpaaaGreatDoorPnC
import Derived.Test.YtbbnppcpjpdpaaaGreatDoorRdU
/- The printer of tables: words are put behind one another. -/
namespace Go.Proofs.YtbbnppcpjpdpaaaGreatDoor
open Go.RowKit Go.Shelf
set_option linter.unusedVariables false
def PnOk (p : Pn) : Prop := p.t.length ≤ 264000
theorem put1_ok {p : Pn} (h : PnOk p) (w : ByteArray) (hw : w.size ≤ 1000) : PnOk (put1 p w) := by
  unfold put1
  cases hE : endedB p with
  | true => rw [if_pos rfl]; exact h
  | false =>
    rw [if_neg (by decide)]
    have h1 : p.t.length ≤ 262144 := by
      unfold endedB at hE
      rw [Bool.or_eq_false_iff] at hE
      have := of_decide_eq_false hE.2
      omega
    show ((if p.bg then p.t ++ [32] else p.t) ++ w.data.toList).length ≤ 264000
    rw [List.length_append, show w.data.toList.length = w.size from rfl]
    split <;> (try rw [List.length_append]) <;> (try simp only [List.length_singleton]) <;> omega
theorem putV_ok {p : Pn} (h : PnOk p) (ws : List ByteArray) (hw : ∀ w ∈ ws, w.size ≤ 1000) : PnOk (putV p ws) := by
  induction ws generalizing p with
  | nil => exact h
  | cons w ws ih => exact ih (put1_ok h w (hw w List.mem_cons_self)) (fun x hx => hw x (List.mem_cons_of_mem _ hx))
theorem line_ok {p : Pn} (h : PnOk p) : PnOk (lineV p) := by
  show (if endedB p then p.t else p.t ++ [10]).length ≤ 264000
  cases hE : endedB p with
  | true => rw [if_pos rfl]; exact h
  | false =>
    rw [if_neg (by decide)]
    have h1 : p.t.length ≤ 262144 := by
      unfold endedB at hE
      rw [Bool.or_eq_false_iff] at hE
      have := of_decide_eq_false hE.2
      omega
    rw [List.length_append, List.length_singleton]
    omega
theorem put1_wr (p : Pn) (w : ByteArray) : (put1 p w).wr = p.wr := by
  unfold put1
  split <;> rfl
theorem putV_wr (p : Pn) (ws : List ByteArray) : (putV p ws).wr = p.wr := by
  induction ws generalizing p with
  | nil => rfl
  | cons w ws ih => exact (ih (put1 p w)).trans (put1_wr p w)
theorem putV_take (p : Pn) (ws : List ByteArray) (j : Nat) (x : ByteArray) (hx : ws[j]? = some x) : putV p (ws.take (j + 1)) = put1 (putV p (ws.take j)) x := by
  have hj := (List.getElem?_eq_some_iff.1 hx).1
  have he : ws.take (j + 1) = ws.take j ++ [x] := by
    rw [List.take_add_one, hx]
    rfl
  rw [he]
  unfold putV
  rw [List.foldl_append]
  rfl
theorem putV_stop (p : Pn) (ws : List ByteArray) (j : Nat) (h : endedB (putV p (ws.take j)) = true) : putV p ws = putV p (ws.take j) := by
  have : putV p ws = putV (putV p (ws.take j)) (ws.drop j) := by
    unfold putV
    rw [← List.foldl_append, List.take_append_drop]
  rw [this, putV_ended h]
theorem not_ended {p : Pn} (h : endedB p = false) : p.wr = false ∧ p.t.length ≤ 262144 := by
  unfold endedB at h
  rw [Bool.or_eq_false_iff] at h
  have := of_decide_eq_false h.2
  exact ⟨h.1, by omega⟩
set_option maxRecDepth 100000 in
set_option maxHeartbeats 4000000 in
theorem pn_put (lo N g : Nat) (p : Pn) (ws : List ByteArray) (hp : PnOk p) (hw : ∀ w ∈ ws, p.wr = true ∨ w.size ≤ 1000) (hn : ws.length ≤ 100) (hgN : g ≠ N) (W : World) (h : PnAt W lo N p) (hb : Blk W g (ws.map Value.string).toArray 9) :
    Calls Tryz.prog 20 #[.pointer (some ⟨N, 0, none⟩), .slice (some ⟨g, 0, none⟩) ws.length ws.length] W fun e w' => (∃ r, e = .returned r) ∧ PnAt w' lo N (putV p ws) ∧ PF lo N W w' := by
  obtain ⟨n, hN⟩ : ∃ n, n = ws.length := ⟨_, rfl⟩
  rw [← hN]
  have hn1 : n ≤ 100 := by omega
  have H : Hz (PnAt W lo N (putV p (ws.take 0)) ∧ PnOk (putV p (ws.take 0)) ∧ PF lo N W W) := hide ⟨h, hp, PF.refl _ _ _⟩
  have HB := hide hb
  have HN := hide hN
  have HW := hide hw
  clear h hb hN hw hp hn
  go_enter Tryz.func20, Tryz.ntmps20
  go_wp2_with fail
  go_loopw [5, 8] (fun _ u8 wr => ∃ (j : Nat), u8 = .int .i64 (j : Int) ∧ j ≤ n ∧ Hz (PnAt wr lo N (putV p (ws.take j)) ∧ PnOk (putV p (ws.take j)) ∧ PF lo N W wr)) (fun _ u8 _ => n - cntI u8)
  case atStart => exact ⟨0, rfl, Nat.zero_le _, H⟩
  case round =>
    obtain ⟨j, rfl, hj, HQ⟩ := hrel
    clear H
    by_cases hlt : j < n
    · have hlt2 : (j : Int) < (n : Int) := by omega
      have hj0 : (0 : Int) ≤ (j : Int) := by omega
      obtain ⟨x, hx⟩ : ∃ x, ws[j]? = some x := ⟨_, List.getElem?_eq_getElem (by have := unhide HN; omega)⟩
      have hcell : wr.cell? ⟨g, j, none⟩ = some (.string x) := by
        have b := (unhide HQ).2.2.kp g _ _ hgN (by decide) (unhide HB)
        rw [b.cell j, List.getElem?_toArray, List.getElem?_map, hx]
        rfl
      have HX := hide (putV_take p ws j x hx)
      have HXW := hide (unhide HW x (List.mem_of_getElem? hx))
      have HST := hide (putV_stop p ws j)
      have HWR := hide (putV_wr p (ws.take j))
      clear hx
      obtain ⟨q, hq⟩ : ∃ q, q = putV p (ws.take j) := ⟨_, rfl⟩
      rw [← hq] at HQ HX HST HWR
      clear hq
      have hok : q.t.length ≤ 264000 := (unhide HQ).2.1
      have HEn := hide (pn_ended lo N q (by omega) wr (unhide HQ).1)
      cases hE : endedB q with
      | true =>
        rw [hE] at HEn
        go_wp2_with fail
        refine (unhide HEn).mono ?_
        rintro e w1 ⟨rfl, hw1⟩
        rw [hw1]
        clear hw1
        go_wp2_with fail
        exact bodyPost_ret (results_none rfl _ _ _) rfl ⟨⟨_, rfl⟩, by rw [unhide HST hE]; exact (unhide HQ).1, (unhide HQ).2.2⟩
      | false =>
        rw [hE] at HEn
        have hne := not_ended hE
        have hxs : x.size ≤ 1000 := by
          rcases unhide HXW with h1 | h1
          · rw [← unhide HWR] at h1
            rw [h1] at hne
            exact absurd hne.1 (by decide)
          · exact h1
        have hqt : q.t.length ≤ 262144 := hne.2
        have HOK := hide (put1_ok (unhide HQ).2.1 x hxs)
        have hp1 : put1 q x = ⟨(if q.bg then q.t ++ [32] else q.t) ++ x.data.toList, true, q.wr⟩ := if_neg (by rw [hE]; decide)
        obtain ⟨qt, qb, qw⟩ := q
        dsimp only at hqt hp1
        obtain ⟨qa, va, hba, hpa, hoa⟩ := (unhide HQ).1.blk
        have cb := hba.cell 2
        clear hba hpa hoa hne
        have HP1 := hide hp1
        clear hp1 hE
        cases qb with
        | true =>
          have HWB := hide (pn_byte lo N qt true qw 32 (by omega) wr (unhide HQ).1)
          go_wp2_with fail
          refine (unhide HEn).mono ?_
          rintro e w1 ⟨rfl, hw1⟩
          rw [hw1]
          clear hw1
          go_wp2_with fail
          refine (show Calls Tryz.prog 40 #[.pointer (some ⟨N, 0, none⟩), .int .u8 32] wr _ from unhide HWB).mono ?_
          rintro e w2 ⟨⟨r, rfl⟩, hp2, hf2⟩
          have HS2 := hide (pn_string lo N (qt ++ [32]) true qw x (by rw [List.length_append, List.length_singleton]; omega) w2 hp2)
          have HF2 := hide hf2
          clear hp2 hf2
          go_wp2_with fail
          refine (unhide HS2).mono ?_
          rintro e w3 ⟨⟨r, rfl⟩, hp3, hf3⟩
          obtain ⟨q3, v3, hb3, _, _⟩ := hp3.blk
          have c2 := hb3.cell 2
          have f2 := hb3.frozen 2
          have hbe := hp3.begun true
          have HQ4 : Hz (PnAt (w3.setCell ⟨N, 2, none⟩ (.bool true)) lo N (putV p (ws.take (j + 1))) ∧ PnOk (putV p (ws.take (j + 1))) ∧ PF lo N W (w3.setCell ⟨N, 2, none⟩ (.bool true))) := hide (by
            rw [unhide HX]
            refine ⟨?_, unhide HOK, (((unhide HQ).2.2.trans (unhide HF2)).trans hf3).trans hbe.2⟩
            rw [unhide HP1]
            exact hbe.1)
          clear hb3 hbe hp3 hf3
          go_wp2_with fail
          go_roundw
          case rel => exact ⟨j + 1, rfl, hlt, HQ4⟩
          case measure => show n - ((j : Int) + 1).toNat < n - (j : Int).toNat; omega
        | false =>
          have HS2 := hide (pn_string lo N qt false qw x (by omega) wr (unhide HQ).1)
          go_wp2_with fail
          refine (unhide HEn).mono ?_
          rintro e w1 ⟨rfl, hw1⟩
          rw [hw1]
          clear hw1
          go_wp2_with fail
          refine (unhide HS2).mono ?_
          rintro e w3 ⟨⟨r, rfl⟩, hp3, hf3⟩
          obtain ⟨q3, v3, hb3, _, _⟩ := hp3.blk
          have c2 := hb3.cell 2
          have f2 := hb3.frozen 2
          have hbe := hp3.begun true
          have HQ4 : Hz (PnAt (w3.setCell ⟨N, 2, none⟩ (.bool true)) lo N (putV p (ws.take (j + 1))) ∧ PnOk (putV p (ws.take (j + 1))) ∧ PF lo N W (w3.setCell ⟨N, 2, none⟩ (.bool true))) := hide (by
            rw [unhide HX]
            refine ⟨?_, unhide HOK, ((unhide HQ).2.2.trans hf3).trans hbe.2⟩
            rw [unhide HP1]
            exact hbe.1)
          clear hb3 hbe hp3 hf3
          go_wp2_with fail
          go_roundw
          case rel => exact ⟨j + 1, rfl, hlt, HQ4⟩
          case measure => show n - ((j : Int) + 1).toNat < n - (j : Int).toNat; omega
    · have hle : ¬ ((j : Int) < (n : Int)) := by omega
      have hjn : j = ws.length := by have := unhide HN; omega
      have HJ := hide hjn
      clear hjn
      go_wp2_with fail
      go_end0
      exact ⟨⟨_, rfl⟩, by have := (unhide HQ).1; rw [unhide HJ, List.take_length] at this; exact this, (unhide HQ).2.2⟩
end Go.Proofs.YtbbnppcpjpdpaaaGreatDoor
/- The printer of tables: runes, spans. -/
namespace Go.Proofs.YtbbnppcpjpdpaaaGreatDoor
open Go.RowKit Go.Shelf
set_option linter.unusedVariables false
theorem putV_ok2 {p : Pn} (h : PnOk p) (ws : List ByteArray) (hw : ∀ w ∈ ws, p.wr = true ∨ w.size ≤ 1000) : PnOk (putV p ws) := by
  cases hwr : p.wr with
  | true => rw [putV_ended (by unfold endedB; rw [hwr]; rfl)]; exact h
  | false => exact putV_ok h ws (fun w hm => by rcases hw w hm with e | e; rw [hwr] at e; cases e; exact e)
/-- The printer at work. -/
structure PS (W0 W : World) (lo N : Nat) (p : Pn) : Prop where
  here : PnAt W lo N p
  ok : PnOk p
  pf : PF lo N W0 W
  tab : W.cell? ⟨7, 15, none⟩ = some (.int .u8 4)
  low : 7 < lo
  off : 7 ≠ N
theorem Fr.cell {lo R Tx : Nat} {W W' : World} (h : Fr lo R Tx W W') {b i : Nat} {v : Value} (hb : b < lo) (h1 : b ≠ R) (h2 : b ≠ Tx) (hc : W.cell? ⟨b, i, none⟩ = some v) : W'.cell? ⟨b, i, none⟩ = some v := by
  have e := h.block b hb h1 h2
  have : W'.cell? ⟨b, i, none⟩ = W.cell? ⟨b, i, none⟩ := by
    unfold World.cell?
    rw [e]
  rw [this]
  exact hc
theorem PS.step {W0 W W' : World} {lo N : Nat} {p p' : Pn} (h : PS W0 W lo N p) (h1 : PnAt W' lo N p') (h2 : PnOk p') (h3 : PF lo N W W') : PS W0 W' lo N p' := ⟨h1, h2, h.pf.trans h3, h3.fr.cell h.low h.off h.off h.tab, h.low, h.off⟩
theorem PrAt.fresh {W W' : World} {lo N : Nat} {t : List UInt8} {bg wr : Bool} (h : PrAt W lo N t bg wr) (hg : W.grownBy W' Option.none) : PrAt W' lo N t bg wr := by
  obtain ⟨p, v, hb, hp, ho⟩ := h.blk
  exact ⟨⟨p, v, hb.kept hg (by simp), hp, rd_other ho hg (by cases v.ownBlock with | none => exact .inl rfl | some b => exact .inr (by simp))⟩, h.lt, Nat.le_trans h.lw hg.size⟩
theorem PS.fresh {W0 W W' : World} {lo N : Nat} {p : Pn} (h : PS W0 W lo N p) (hb : Below W.heap.size W W') : PS W0 W' lo N p := h.step (PrAt.fresh h.here (below_grown2 hb)) h.ok (PF.below h.here.lw hb)
theorem PS.alloc {W0 W : World} {lo N : Nat} {p : Pn} (h : PS W0 W lo N p) (o : Obj) : PS W0 (W.alloc o) lo N p := h.fresh ((Below.refl _ W).alloc (Nat.le_refl _) o)
/-- Words are put, in a list made for it. -/
theorem ps_put (lo N : Nat) (p : Pn) (ws : List ByteArray) (hw : ∀ w ∈ ws, p.wr = true ∨ w.size ≤ 1000) (hn : ws.length ≤ 100) (W0 W : World) (h : PS W0 W lo N p) :
    Calls Tryz.prog 20 #[.pointer (some ⟨N, 0, none⟩), .slice (some ⟨W.heap.size, 0, none⟩) ws.length ws.length] (W.alloc (.cells (ws.map Value.string).toArray 9)) fun e w' => (∃ r, e = .returned r) ∧ PS W0 w' lo N (putV p ws) ∧ PF lo N W w' := by
  have hlt := h.here.lt
  have hlw := h.here.lw
  refine (pn_put lo N W.heap.size p ws h.ok hw hn (by omega) _ (h.alloc _).here (Blk.new W _ _)).mono ?_
  rintro e w' ⟨h1, h2, h3⟩
  have hpa : PF lo N W (W.alloc (.cells (ws.map Value.string).toArray 9)) := PF.below hlw ((Below.refl _ W).alloc (Nat.le_refl _) _)
  exact ⟨h1, h.step h2 (putV_ok2 h.ok ws hw) (hpa.trans h3), hpa.trans h3⟩
theorem ps_line (lo N : Nat) (p : Pn) (W0 W : World) (h : PS W0 W lo N p) :
    Calls Tryz.prog 24 #[.pointer (some ⟨N, 0, none⟩)] W fun e w' => (∃ r, e = .returned r) ∧ PS W0 w' lo N (lineV p) ∧ PF lo N W w' := by
  refine (pn_line lo N p (by have := h.ok; unfold PnOk at this; omega) W h.here).mono ?_
  rintro e w' ⟨h1, h2, h3⟩
  exact ⟨h1, h.step h2 (line_ok h.ok) h3, h3⟩
theorem ps_need (lo N : Nat) (p : Pn) (ok : Bool) (W0 W : World) (h : PS W0 W lo N p) :
    Calls Tryz.prog 18 #[.pointer (some ⟨N, 0, none⟩), .bool ok] W fun e w' => (∃ r, e = .returned r) ∧ PS W0 w' lo N (needV p ok) ∧ PF lo N W w' := by
  refine (pn_need lo N p ok W h.here).mono ?_
  rintro e w' ⟨h1, h2, h3⟩
  exact ⟨h1, h.step h2 h.ok h3, h3⟩
def runeV (p : Pn) (r : Int) : Pn := putV (needV p ((textV r).2 == 0)) [(textV r).1]
theorem textV_size (r : Int) : (textV r).1.size ≤ 1000 := by
  unfold textV
  split
  · show (⟨#[]⟩ : ByteArray).size ≤ 1000; decide
  · rename_i hw
    split
    · have := encode_size_le r
      show ((⟨#[39]⟩ : ByteArray) ++ Utf8.encode r ++ ⟨#[39]⟩).size ≤ 1000
      rw [ByteArray.size_append, ByteArray.size_append]
      show 1 + _ + 1 ≤ 1000
      omega
    · have hb := width_bound r hw
      have h1 := upS_size r.toNat (by omega)
      have h2 := rep_size (4 - (upS r.toNat).size) (by omega)
      show ((⟨#[85, 43]⟩ : ByteArray) ++ ⟨(Lib.repeatL [48] (4 - (upS r.toNat).size)).toArray⟩ ++ upS r.toNat).size ≤ 1000
      rw [ByteArray.size_append, ByteArray.size_append, h2]
      show 2 + _ + _ ≤ 1000
      omega
set_option maxRecDepth 100000 in
set_option maxHeartbeats 4000000 in
theorem ps_rune (lo N : Nat) (p : Pn) (r : Int) (W0 W : World) (h : PS W0 W lo N p) :
    Calls Tryz.prog 22 #[.pointer (some ⟨N, 0, none⟩), .int .i32 r] W fun e w' => (∃ r, e = .returned r) ∧ PS W0 w' lo N (runeV p r) ∧ PF lo N W w' := by
  have H := hide h
  have hts := textV_size r
  have HT := hide (text_scan r W h.tab)
  have HV : Hz (runeV p r = putV (needV p ((textV r).2 == 0)) [(textV r).1]) := hide rfl
  generalize runeV p r = V at *
  generalize textV r = tv at *
  obtain ⟨tt, te⟩ := tv
  dsimp only at hts HT HV
  clear h
  go_enter Tryz.func22, Tryz.ntmps22
  go_wp2_with fail
  refine (unhide HT).mono ?_
  rintro e w1 ⟨rfl, hb1⟩
  have H1 := hide ((unhide H).fresh hb1)
  have HF1 := hide (PF.below (N := N) (unhide H).here.lw hb1)
  clear hb1 HT H
  have HNd := hide (ps_need lo N p (te == 0) W0 w1 (unhide H1))
  go_wp2_with fail
  refine (unhide HNd).mono ?_
  rintro e w2 ⟨⟨r2, rfl⟩, h2, hf2⟩
  have HPt := hide (ps_put lo N (needV p (te == 0)) [tt] (fun w hw => .inr (by rw [List.mem_singleton.1 hw]; exact hts)) (by simp) W0 w2 h2)
  have HF2 := hide hf2
  clear h2 hf2 HNd
  go_wp2_with fail
  refine (show Calls Tryz.prog 20 #[.pointer (some ⟨N, 0, none⟩), .slice (some ⟨w2.heap.size, 0, none⟩) 1 1] (w2.alloc (.cells #[.string tt] 9)) _ from unhide HPt).mono ?_
  rintro e w3 ⟨⟨r3, rfl⟩, h3, hf3⟩
  have HF3 := hide (And.intro h3 hf3)
  clear h3 hf3
  go_wp2_with fail
  go_end0
  exact ⟨⟨_, rfl⟩, by rw [unhide HV]; exact (unhide HF3).1, ((unhide HF1).trans (unhide HF2)).trans (unhide HF3).2⟩
end Go.Proofs.YtbbnppcpjpdpaaaGreatDoor
