/- The printer of tables: words, lines. -/
import Derived.Test.YtbbnppcpjpdpaaaGreatDoorM13
import Derived.Test.YtbbnppcpjpdpaaaGreatDoorM14
namespace Go.Proofs.YtbbnppcpjpdpaaaGreatDoor
open Go.RowKit Go.Shelf
set_option linter.unusedVariables false
/-- What the printer has. -/
structure Pn where
  t : List UInt8
  bg : Bool
  wr : Bool
def PnAt (W : World) (lo N : Nat) (p : Pn) : Prop := PrAt W lo N p.t p.bg p.wr
def endedB (p : Pn) : Bool := p.wr || decide (262144 < p.t.length)
/-- A word is written, with a space ahead unless it is its line's first. -/
def put1 (p : Pn) (w : ByteArray) : Pn := if endedB p then p else ⟨(if p.bg then p.t ++ [32] else p.t) ++ w.data.toList, true, p.wr⟩
def putV (p : Pn) (ws : List ByteArray) : Pn := ws.foldl put1 p
def lineV (p : Pn) : Pn := ⟨if endedB p then p.t else p.t ++ [10], false, p.wr⟩
def needV (p : Pn) (ok : Bool) : Pn := ⟨p.t, p.bg, p.wr || !ok⟩
theorem put1_ended {p : Pn} (h : endedB p = true) (w : ByteArray) : put1 p w = p := if_pos h
theorem putV_ended {p : Pn} (h : endedB p = true) (ws : List ByteArray) : putV p ws = p := by
  induction ws with
  | nil => rfl
  | cons w ws ih => show putV (put1 p w) ws = p; rw [put1_ended h]; exact ih
theorem pn_tooLong (lo N : Nat) (p : Pn) (hl : p.t.length ≤ 1000000) (W : World) (h : PnAt W lo N p) :
    Calls Tryz.prog 11 #[.pointer (some ⟨N, 0, none⟩)] W fun e w' => e = .returned (.bool (decide (262144 < p.t.length))) ∧ w' = W := by
  have H := hide (pn_len lo N p.t p.bg p.wr W h)
  clear h
  go_enter Tryz.func11, Tryz.ntmps11
  go_wp2_with fail
  refine (unhide H).mono ?_
  rintro e w' ⟨rfl, rfl⟩
  go_wp2_with fail
  go_ret
  exact ⟨by congr 2; simp; omega, rfl⟩
theorem pn_ended (lo N : Nat) (p : Pn) (hl : p.t.length ≤ 1000000) (W : World) (h : PnAt W lo N p) :
    Calls Tryz.prog 39 #[.pointer (some ⟨N, 0, none⟩)] W fun e w' => e = .returned (.bool (endedB p)) ∧ w' = W := by
  have H := hide (pn_tooLong lo N p hl W h)
  obtain ⟨q, v, hb, hp, ho⟩ := h.blk
  have c3 := hb.cell 3
  have HE : Hz (endedB p = (p.wr || decide (262144 < p.t.length))) := hide rfl
  clear h hb hp ho
  generalize endedB p = E at *
  generalize decide (262144 < p.t.length) = D at *
  obtain ⟨t, bg, wr⟩ := p
  dsimp only at c3 HE
  go_enter Tryz.func39, Tryz.ntmps39
  cases wr with
  | true =>
    go_wp2_with fail
    go_ret
    exact ⟨by rw [unhide HE]; rfl, rfl⟩
  | false =>
    go_wp2_with fail
    refine (unhide H).mono ?_
    rintro e w' ⟨rfl, rfl⟩
    go_wp2_with fail
    go_ret
    exact ⟨by rw [unhide HE]; rfl, rfl⟩
theorem PrAt.begun {W : World} {lo N : Nat} {t : List UInt8} {bg wr : Bool} (h : PrAt W lo N t bg wr) (b : Bool) : PrAt (W.setCell ⟨N, 2, none⟩ (.bool b)) lo N t b wr ∧ PF lo N W (W.setCell ⟨N, 2, none⟩ (.bool b)) := by
  obtain ⟨p, v, hb, hp, ho⟩ := h.blk
  have q := grown_set' W N 2 (.bool b)
  exact ⟨⟨⟨p, v, hb.set 2 _, hp, rd_other ho q (.inr fun e => by have := rd_from ho N e; have := h.lt; omega)⟩, h.lt, by have := q.size; have := h.lw; omega⟩, PF.own h.lw q⟩
theorem PrAt.wrong {W : World} {lo N : Nat} {t : List UInt8} {bg wr : Bool} (h : PrAt W lo N t bg wr) (b : Bool) : PrAt (W.setCell ⟨N, 3, none⟩ (.bool b)) lo N t bg b ∧ PF lo N W (W.setCell ⟨N, 3, none⟩ (.bool b)) := by
  obtain ⟨p, v, hb, hp, ho⟩ := h.blk
  have q := grown_set' W N 3 (.bool b)
  exact ⟨⟨⟨p, v, hb.set 3 _, hp, rd_other ho q (.inr fun e => by have := rd_from ho N e; have := h.lt; omega)⟩, h.lt, by have := q.size; have := h.lw; omega⟩, PF.own h.lw q⟩
theorem pn_need (lo N : Nat) (p : Pn) (ok : Bool) (W : World) (h : PnAt W lo N p) :
    Calls Tryz.prog 18 #[.pointer (some ⟨N, 0, none⟩), .bool ok] W fun e w' => (∃ r, e = .returned r) ∧ PnAt w' lo N (needV p ok) ∧ PF lo N W w' := by
  obtain ⟨q, v, hb, hp, ho⟩ := h.blk
  have c3 := hb.cell 3
  have f3 := hb.frozen 3
  have hw := h.wrong true
  clear hb hp ho
  obtain ⟨t, bg, wr⟩ := p
  have H := hide h
  have HW := hide hw
  clear h hw
  go_enter Tryz.func18, Tryz.ntmps18
  cases ok with
  | true =>
    go_wp2_with fail
    go_end0
    exact ⟨⟨_, rfl⟩, by show PrAt W lo N t bg (wr || !true); rw [show (wr || !true) = wr by cases wr <;> rfl]; exact unhide H, PF.refl _ _ _⟩
  | false =>
    go_wp2_with fail
    go_end0
    exact ⟨⟨_, rfl⟩, by show PrAt _ lo N t bg (wr || !false); rw [show (wr || !false) = true by cases wr <;> rfl]; exact (unhide HW).1, (unhide HW).2⟩
theorem pn_line (lo N : Nat) (p : Pn) (hl : p.t.length ≤ 1000000) (W : World) (h : PnAt W lo N p) :
    Calls Tryz.prog 24 #[.pointer (some ⟨N, 0, none⟩)] W fun e w' => (∃ r, e = .returned r) ∧ PnAt w' lo N (lineV p) ∧ PF lo N W w' := by
  have HEn := hide (pn_ended lo N p hl W h)
  have HWB := hide (pn_byte lo N p.t p.bg p.wr 10 hl W h)
  have H := hide h
  go_enter Tryz.func24, Tryz.ntmps24
  cases hE : endedB p with
  | true =>
    rw [hE] at HEn
    obtain ⟨q, v, hb, hp, ho⟩ := h.blk
    have c2 := hb.cell 2
    have f2 := hb.frozen 2
    clear hb hp ho h
    go_wp2_with fail
    refine (unhide HEn).mono ?_
    rintro e w1 ⟨rfl, hw1⟩
    rw [hw1]
    clear hw1
    go_wp2_with fail
    go_end0
    have hf := (show PrAt W lo N p.t p.bg p.wr from unhide H).begun false
    exact ⟨⟨_, rfl⟩, by show PrAt _ lo N (if endedB p then p.t else p.t ++ [10]) false p.wr; rw [if_pos hE]; exact hf.1, hf.2⟩
  | false =>
    rw [hE] at HEn
    clear h
    go_wp2_with fail
    refine (unhide HEn).mono ?_
    rintro e w1 ⟨rfl, hw1⟩
    rw [hw1]
    clear hw1
    go_wp2_with fail
    refine (show Calls Tryz.prog 40 #[.pointer (some ⟨N, 0, none⟩), .int .u8 10] W _ from unhide HWB).mono ?_
    rintro e w2 ⟨⟨r, rfl⟩, hp2, hf2⟩
    obtain ⟨q, v, hb, hp, ho⟩ := hp2.blk
    have c2 := hb.cell 2
    have f2 := hb.frozen 2
    have HF := hide (And.intro (hp2.begun false) hf2)
    clear hb hp ho hp2 hf2
    go_wp2_with fail
    go_end0
    exact ⟨⟨_, rfl⟩, by show PrAt _ lo N (if endedB p then p.t else p.t ++ [10]) false p.wr; rw [if_neg (by rw [hE]; decide)]; exact (unhide HF).1.1, (unhide HF).2.trans (unhide HF).1.2⟩
end Go.Proofs.YtbbnppcpjpdpaaaGreatDoor
