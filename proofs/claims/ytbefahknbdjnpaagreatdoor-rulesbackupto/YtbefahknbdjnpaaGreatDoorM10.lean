/- Texts of this claim, one behind the other. -/
import Derived.Test.YtbefahknbdjnpaaGreatDoorM9
import Derived.Test.YtbefahknbdjnpaaGreatDoorShB
/- Text: how a rune is written. -/
namespace Go.Proofs.YtbefahknbdjnpaaGreatDoor
open Go.RowKit Go.Shelf
set_option linter.unusedVariables false
theorem ex158 : Builder.Extra Tryz.prog lay158_ren := ⟨⟨by kernel_rfl, by kernel_rfl⟩, Tryz.underlying5, Tryz.isAgg5, Tryz.sizeOf5, Tryz.zeroValue5, by kernel_rfl, by kernel_rfl, by kernel_rfl, by decide⟩
theorem ex105 : Builder.Extra Tryz.prog lay105_ren := ⟨⟨by kernel_rfl, by kernel_rfl⟩, Tryz.underlying5, Tryz.isAgg5, Tryz.sizeOf5, Tryz.zeroValue5, by kernel_rfl, by kernel_rfl, by kernel_rfl, by decide⟩
theorem upper_sh (s : ByteArray) (w : World) (h : s.size ≤ 140737488355328) (ha : ∀ (j : Nat) (b : UInt8), s.data.toList[j]? = some b → b.toNat < 128) : Calls Tryz.prog 150 #[.string s] w fun e w' => e = .returned (.string ⟨(Lib.toUpperA s.data.toList).toArray⟩) ∧ Below w.heap.size w w' := Any.strings_ToUpper_ascii lay158 ex158 s w h ha
theorem repeat_sh (s : ByteArray) (c : Nat) (w : World) (hc : c ≤ 9223372036854775807) (h : s.size * c ≤ 140737488355328) : Calls Tryz.prog 152 #[.string s, .int .i64 c] w fun e w' => e = .returned (.string ⟨(Lib.repeatL s.data.toList c).toArray⟩) ∧ Below w.heap.size w w' := Any.strings_Repeat lay105 ex105 s c w hc h
theorem hexL_ascii : ∀ (n : Nat) (b : UInt8), b ∈ hexL n → b.toNat < 128 := by
  intro n
  induction n using Nat.strongRecOn with
  | _ n ih =>
    intro b hb
    have hd : ∀ d, d < 16 → (digC d).toNat < 128 := by decide
    by_cases h : n < 16
    · rw [hexL_small h] at hb
      rw [List.mem_singleton.1 hb]
      exact hd n h
    · rw [hexL_step (by omega)] at hb
      rcases List.mem_append.1 hb with hb | hb
      · exact ih (n / 16) (by omega) b hb
      · rw [List.mem_singleton.1 hb]
        exact hd _ (Nat.mod_lt _ (by decide))
theorem hexL_length : ∀ (k n : Nat), n < 16 ^ (k + 1) → 1 ≤ (hexL n).length ∧ (hexL n).length ≤ k + 1
  | 0, n, h => by rw [hexL_small (by simpa using h)]; simp
  | k + 1, n, h => by
    by_cases hs : n < 16
    · rw [hexL_small hs]; simp
    · rw [hexL_step (by omega), List.length_append]
      have := hexL_length k (n / 16) (by rw [Nat.div_lt_iff_lt_mul (by decide)]; rw [Nat.pow_succ] at h; exact h)
      simp
      omega
/-- The digits, upper case. -/
def upS (n : Nat) : ByteArray := ⟨(Lib.toUpperA (hexL n)).toArray⟩
theorem upS_size (n : Nat) (h : n < 4294967296) : 1 ≤ (upS n).size ∧ (upS n).size ≤ 8 := by
  have h1 := hexL_length 7 n (by omega)
  have e : (upS n).size = (hexL n).length := by
    show (Lib.toUpperA (hexL n)).toArray.size = _
    simp [Lib.toUpperA]
  omega
theorem enc_ascii : ∀ k : Nat, k < 128 → (Utf8.encode (k : Int)).size = 1 := by decide +kernel
theorem rep_size : ∀ c : Nat, c ≤ 4 → (⟨(Lib.repeatL [48] c).toArray⟩ : ByteArray).size = c := by decide +kernel
/-- How a rune is written. -/
def textV (r : Int) : ByteArray × Int :=
  if widthOf r = 0 then (⟨#[]⟩, 12) else if 33 ≤ r ∧ r ≤ 126 ∧ r ≠ 39 then (⟨#[39]⟩ ++ Utf8.encode r ++ ⟨#[39]⟩, 0)
  else (⟨#[85, 43]⟩ ++ ⟨(Lib.repeatL [48] (4 - (upS r.toNat).size)).toArray⟩ ++ upS r.toNat, 0)
theorem width_bound (r : Int) (h : widthOf r ≠ 0) : 0 ≤ r ∧ r ≤ 1114111 := by
  unfold widthOf at h
  repeat' split at h
  all_goals first | omega | (exfalso; exact h rfl)
set_option maxRecDepth 100000 in
set_option maxHeartbeats 4000000 in
theorem text_scan (r : Int) (w : World) (hT : w.cell? ⟨11, 15, none⟩ = some (.int .u8 4)) : Calls Tryz.prog 109 #[.int .i32 r] w fun e w' => e = .returned (.tuple #[.string (textV r).1, .int .i64 (textV r).2]) ∧ Below w.heap.size w w' := by
  by_cases h0 : widthOf r = 0
  · have hv : textV r = (⟨#[]⟩, 12) := by unfold textV; rw [if_pos h0]
    rw [hv]
    have h0' : (widthOf r == 0) = true := by simpa using h0
    clear hv h0
    go_enter Tryz.func109, Tryz.ntmps109
    go_wp2_with fail
    refine (width_any r _).mono ?_
    rintro e w1 ⟨rfl, rfl⟩
    go_wp2_with fail
    go_ret2
    exact ⟨rfl, Below.refl _ _⟩
  · have hb := width_bound r h0
    have h0' : (widthOf r == 0) = false := by simpa using h0
    by_cases hq : 33 ≤ r ∧ r ≤ 126 ∧ r ≠ 39
    · have hv : textV r = (⟨#[39]⟩ ++ Utf8.encode r ++ ⟨#[39]⟩, 0) := by unfold textV; rw [if_neg h0, if_pos hq]
      obtain ⟨q1, q2, q3⟩ := hq
      have q3' : (r != 39) = true := by simpa using q3
      have HV := hide hv
      clear hv h0 q3
      go_enter Tryz.func109, Tryz.ntmps109
      go_wp2_with fail
      refine (width_any r _).mono ?_
      rintro e w1 ⟨rfl, rfl⟩
      have hes : (Utf8.encode r).size = 1 := by
        have := enc_ascii r.toNat (by omega)
        rwa [Int.toNat_of_nonneg hb.1] at this
      have hs1 : ((⟨#[39]⟩ : ByteArray) ++ Utf8.encode r).size = 2 := by rw [ByteArray.size_append, hes]; rfl
      go_wp2_with fail
      go_ret2
      exact ⟨by rw [unhide HV]; rfl, Below.refl _ _⟩
    · obtain ⟨n, rfl⟩ : ∃ n : Nat, r = n := ⟨r.toNat, by omega⟩
      have hn : n < 2147483648 := by omega
      have hv : textV (n : Int) = (⟨#[85, 43]⟩ ++ ⟨(Lib.repeatL [48] (4 - (upS n).size)).toArray⟩ ++ upS n, 0) := by unfold textV; rw [if_neg h0, if_neg hq, Int.toNat_natCast]
      have hz := upS_size n (by omega)
      have hHs : (⟨(hexL n).toArray⟩ : ByteArray).size ≤ 140737488355328 := by
        have h1 := hexL_length 7 n (by omega)
        show (hexL n).toArray.size ≤ _
        simp
        omega
      have hfm := fmt16 n hn w hT
      have hup := fun w' => upper_sh ⟨(hexL n).toArray⟩ w' hHs (fun j b hj => hexL_ascii n b (List.mem_of_getElem? (by simpa using hj)))
      obtain ⟨u, hu⟩ : ∃ u, u = upS n := ⟨_, rfl⟩
      have hup2 : ∀ w', Calls Tryz.prog 150 #[.string ⟨(hexL n).toArray⟩] w' fun e w2 => e = .returned (.string u) ∧ Below w'.heap.size w' w2 := fun w' => by rw [hu]; exact hup w'
      rw [← hu] at hv hz
      have hrp := fun w' => repeat_sh ⟨#[48]⟩ (4 - u.size) w' (by omega) (by show 1 * _ ≤ _; omega)
      have HV := hide hv
      have HF := hide hfm
      have HU := hide hup2
      have HP := hide hrp
      have hmx : max ((4 : Int) - (u.size : Int)) 0 = ((4 - u.size : Nat) : Int) := by omega
      have hub : (u.size : Int) ≤ 8 := by omega
      have hnb : (n : Int) ≤ 1114111 := by omega
      have hcase : (¬ (33 : Int) ≤ n) ∨ ((33 : Int) ≤ n ∧ ¬ (n : Int) ≤ 126) ∨ ((33 : Int) ≤ n ∧ (n : Int) ≤ 126 ∧ ((n : Int) != 39) = false) := by
        by_cases c1 : (33 : Int) ≤ n
        · by_cases c2 : (n : Int) ≤ 126
          · exact .inr (.inr ⟨c1, c2, by simpa using fun c3 => hq ⟨c1, c2, c3⟩⟩)
          · exact .inr (.inl ⟨c1, c2⟩)
        · exact .inl c1
      clear hv hfm hup hup2 hrp hu h0 hq hHs hb hT
      rcases hcase with c1 | ⟨c1, c2⟩ | ⟨c1, c2, c3⟩
      all_goals
        go_enter Tryz.func109, Tryz.ntmps109
        go_wp2_with fail
        refine (width_any n _).mono ?_
        rintro e w1 ⟨rfl, rfl⟩
        go_wp2_with fail
        refine (unhide HF).mono ?_
        rintro e w2 ⟨rfl, hb2⟩
        go_wp2_with fail
        refine (unhide HU _).mono ?_
        rintro e w3 ⟨rfl, hb3⟩
        have HB3 := hide (hb2.trans (hb3.mono hb2.size))
        clear hb2 hb3
        go_wp2_with fail
        try rw [hmx]
        refine (unhide HP _).mono ?_
        rintro e w4 ⟨rfl, hb4⟩
        have hrs := rep_size (4 - u.size) (by omega)
        have hs2 : ((⟨#[85, 43]⟩ : ByteArray) ++ ⟨(Lib.repeatL [48] (4 - u.size)).toArray⟩).size ≤ 6 := by rw [ByteArray.size_append, hrs]; show 2 + _ ≤ _; omega
        have hrs2 : (⟨(Lib.repeatL [48] (4 - u.size)).toArray⟩ : ByteArray).size ≤ 4 := by omega
        clear hrs
        generalize (⟨(Lib.repeatL [48] (4 - u.size)).toArray⟩ : ByteArray) = rp at *
        have HB4 := hide ((unhide HB3).trans (hb4.mono (unhide HB3).size))
        clear hb4
        go_wp2_with fail
        go_ret2
        exact ⟨by rw [unhide HV]; rfl, unhide HB4⟩
end Go.Proofs.YtbefahknbdjnpaaGreatDoor
/- The printer of tables: words, lines. -/
namespace Go.Proofs.YtbefahknbdjnpaaGreatDoor
open Go.RowKit Go.Shelf
set_option linter.unusedVariables false
/-- What the printer has. -/
structure Pn where
  t : List UInt8
  bg : Bool
  wr : Bool
def PnAt (W : World) (lo N : Nat) (p : Pn) : Prop := PrAt W lo N p.t p.bg p.wr
def endedB (p : Pn) : Bool := p.wr || decide (262144 < p.t.length)
/-- A word is written, with a space ahead unless it is its line's first. -/
def put1 (p : Pn) (w : ByteArray) : Pn := if endedB p then p else ⟨(if p.bg then p.t ++ [32] else p.t) ++ w.data.toList, true, p.wr⟩
def putV (p : Pn) (ws : List ByteArray) : Pn := ws.foldl put1 p
def lineV (p : Pn) : Pn := ⟨if endedB p then p.t else p.t ++ [10], false, p.wr⟩
def needV (p : Pn) (ok : Bool) : Pn := ⟨p.t, p.bg, p.wr || !ok⟩
theorem put1_ended {p : Pn} (h : endedB p = true) (w : ByteArray) : put1 p w = p := if_pos h
theorem putV_ended {p : Pn} (h : endedB p = true) (ws : List ByteArray) : putV p ws = p := by
  induction ws with
  | nil => rfl
  | cons w ws ih => show putV (put1 p w) ws = p; rw [put1_ended h]; exact ih
theorem pn_tooLong (lo N : Nat) (p : Pn) (hl : p.t.length ≤ 1000000) (W : World) (h : PnAt W lo N p) :
    Calls Tryz.prog 43 #[.pointer (some ⟨N, 0, none⟩)] W fun e w' => e = .returned (.bool (decide (262144 < p.t.length))) ∧ w' = W := by
  have H := hide (pn_len lo N p.t p.bg p.wr W h)
  clear h
  go_enter Tryz.func43, Tryz.ntmps43
  go_wp2_with fail
  refine (unhide H).mono ?_
  rintro e w' ⟨rfl, rfl⟩
  go_wp2_with fail
  go_ret
  exact ⟨by congr 2; simp; omega, rfl⟩
theorem pn_ended (lo N : Nat) (p : Pn) (hl : p.t.length ≤ 1000000) (W : World) (h : PnAt W lo N p) :
    Calls Tryz.prog 106 #[.pointer (some ⟨N, 0, none⟩)] W fun e w' => e = .returned (.bool (endedB p)) ∧ w' = W := by
  have H := hide (pn_tooLong lo N p hl W h)
  obtain ⟨q, v, hb, hp, ho⟩ := h.blk
  have c3 := hb.cell 3
  have HE : Hz (endedB p = (p.wr || decide (262144 < p.t.length))) := hide rfl
  clear h hb hp ho
  generalize endedB p = E at *
  generalize decide (262144 < p.t.length) = D at *
  obtain ⟨t, bg, wr⟩ := p
  dsimp only at c3 HE
  go_enter Tryz.func106, Tryz.ntmps106
  cases wr with
  | true =>
    go_wp2_with fail
    go_ret
    exact ⟨by rw [unhide HE]; rfl, rfl⟩
  | false =>
    go_wp2_with fail
    refine (unhide H).mono ?_
    rintro e w' ⟨rfl, rfl⟩
    go_wp2_with fail
    go_ret
    exact ⟨by rw [unhide HE]; rfl, rfl⟩
theorem PrAt.begun {W : World} {lo N : Nat} {t : List UInt8} {bg wr : Bool} (h : PrAt W lo N t bg wr) (b : Bool) : PrAt (W.setCell ⟨N, 2, none⟩ (.bool b)) lo N t b wr ∧ PF lo N W (W.setCell ⟨N, 2, none⟩ (.bool b)) := by
  obtain ⟨p, v, hb, hp, ho⟩ := h.blk
  have q := grown_set' W N 2 (.bool b)
  exact ⟨⟨⟨p, v, hb.set 2 _, hp, rd_other ho q (.inr fun e => by have := rd_from ho N e; have := h.lt; omega)⟩, h.lt, by have := q.size; have := h.lw; omega⟩, PF.own h.lw q⟩
theorem PrAt.wrong {W : World} {lo N : Nat} {t : List UInt8} {bg wr : Bool} (h : PrAt W lo N t bg wr) (b : Bool) : PrAt (W.setCell ⟨N, 3, none⟩ (.bool b)) lo N t bg b ∧ PF lo N W (W.setCell ⟨N, 3, none⟩ (.bool b)) := by
  obtain ⟨p, v, hb, hp, ho⟩ := h.blk
  have q := grown_set' W N 3 (.bool b)
  exact ⟨⟨⟨p, v, hb.set 3 _, hp, rd_other ho q (.inr fun e => by have := rd_from ho N e; have := h.lt; omega)⟩, h.lt, by have := q.size; have := h.lw; omega⟩, PF.own h.lw q⟩
theorem pn_need (lo N : Nat) (p : Pn) (ok : Bool) (W : World) (h : PnAt W lo N p) :
    Calls Tryz.prog 71 #[.pointer (some ⟨N, 0, none⟩), .bool ok] W fun e w' => (∃ r, e = .returned r) ∧ PnAt w' lo N (needV p ok) ∧ PF lo N W w' := by
  obtain ⟨q, v, hb, hp, ho⟩ := h.blk
  have c3 := hb.cell 3
  have f3 := hb.frozen 3
  have hw := h.wrong true
  clear hb hp ho
  obtain ⟨t, bg, wr⟩ := p
  have H := hide h
  have HW := hide hw
  clear h hw
  go_enter Tryz.func71, Tryz.ntmps71
  cases ok with
  | true =>
    go_wp2_with fail
    go_end0
    exact ⟨⟨_, rfl⟩, by show PrAt W lo N t bg (wr || !true); rw [show (wr || !true) = wr by cases wr <;> rfl]; exact unhide H, PF.refl _ _ _⟩
  | false =>
    go_wp2_with fail
    go_end0
    exact ⟨⟨_, rfl⟩, by show PrAt _ lo N t bg (wr || !false); rw [show (wr || !false) = true by cases wr <;> rfl]; exact (unhide HW).1, (unhide HW).2⟩
theorem pn_line (lo N : Nat) (p : Pn) (hl : p.t.length ≤ 1000000) (W : World) (h : PnAt W lo N p) :
    Calls Tryz.prog 77 #[.pointer (some ⟨N, 0, none⟩)] W fun e w' => (∃ r, e = .returned r) ∧ PnAt w' lo N (lineV p) ∧ PF lo N W w' := by
  have HEn := hide (pn_ended lo N p hl W h)
  have HWB := hide (pn_byte lo N p.t p.bg p.wr 10 hl W h)
  have H := hide h
  go_enter Tryz.func77, Tryz.ntmps77
  cases hE : endedB p with
  | true =>
    rw [hE] at HEn
    obtain ⟨q, v, hb, hp, ho⟩ := h.blk
    have c2 := hb.cell 2
    have f2 := hb.frozen 2
    clear hb hp ho h
    go_wp2_with fail
    refine (unhide HEn).mono ?_
    rintro e w1 ⟨rfl, hw1⟩
    rw [hw1]
    clear hw1
    go_wp2_with fail
    go_end0
    have hf := (show PrAt W lo N p.t p.bg p.wr from unhide H).begun false
    exact ⟨⟨_, rfl⟩, by show PrAt _ lo N (if endedB p then p.t else p.t ++ [10]) false p.wr; rw [if_pos hE]; exact hf.1, hf.2⟩
  | false =>
    rw [hE] at HEn
    clear h
    go_wp2_with fail
    refine (unhide HEn).mono ?_
    rintro e w1 ⟨rfl, hw1⟩
    rw [hw1]
    clear hw1
    go_wp2_with fail
    refine (show Calls Tryz.prog 107 #[.pointer (some ⟨N, 0, none⟩), .int .u8 10] W _ from unhide HWB).mono ?_
    rintro e w2 ⟨⟨r, rfl⟩, hp2, hf2⟩
    obtain ⟨q, v, hb, hp, ho⟩ := hp2.blk
    have c2 := hb.cell 2
    have f2 := hb.frozen 2
    have HF := hide (And.intro (hp2.begun false) hf2)
    clear hb hp ho hp2 hf2
    go_wp2_with fail
    go_end0
    exact ⟨⟨_, rfl⟩, by show PrAt _ lo N (if endedB p then p.t else p.t ++ [10]) false p.wr; rw [if_neg (by rw [hE]; decide)]; exact (unhide HF).1.1, (unhide HF).2.trans (unhide HF).1.2⟩
end Go.Proofs.YtbefahknbdjnpaaGreatDoor
