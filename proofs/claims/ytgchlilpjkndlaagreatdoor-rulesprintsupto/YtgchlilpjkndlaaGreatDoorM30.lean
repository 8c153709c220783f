/- Texts of this claim, one behind the other. -/
import Derived.Test.YtgchlilpjkndlaaGreatDoorM26
import Derived.Test.YtgchlilpjkndlaaGreatDoorM29
import Derived.Test.YtgchlilpjkndlaaGreatDoorM20
import Derived.Laws.BytesArg
import Derived.Test.YtgchlilpjkndlaaGreatDoorM19
/- The reference's Text and Legal. -/
namespace Go.Proofs.YtgchlilpjkndlaaGreatDoor
open Go.RowKit Go.Shelf
set_option linter.unusedVariables false
theorem quo_bytes : ∀ k : Nat, k < 128 → (⟨#[39]⟩ : ByteArray) ++ Utf8.encode (k : Int) ++ ⟨#[39]⟩ = ⟨#[39, k.toUInt8, 39]⟩ := by decide +kernel
def strLen : Value → Nat
  | .string s => s.size
  | _ => 0
theorem slice_hex (d : Nat) (h : d < 16) (w : World) : (Instr.slice 9 (.string ⟨#[48, 49, 50, 51, 52, 53, 54, 55, 56, 57, 65, 66, 67, 68, 69, 70]⟩) (some (.int .i64 (d : Int))) (some (.int .i64 ((d : Int) + 1))) none).run Tryz.prog w = .ok (.string ⟨#[upD d]⟩) w :=
  match d, h with
  | 0, _ => (by kernel_rfl)
  | 1, _ => (by kernel_rfl)
  | 2, _ => (by kernel_rfl)
  | 3, _ => (by kernel_rfl)
  | 4, _ => (by kernel_rfl)
  | 5, _ => (by kernel_rfl)
  | 6, _ => (by kernel_rfl)
  | 7, _ => (by kernel_rfl)
  | 8, _ => (by kernel_rfl)
  | 9, _ => (by kernel_rfl)
  | 10, _ => (by kernel_rfl)
  | 11, _ => (by kernel_rfl)
  | 12, _ => (by kernel_rfl)
  | 13, _ => (by kernel_rfl)
  | 14, _ => (by kernel_rfl)
  | 15, _ => (by kernel_rfl)
  | n + 16, q => absurd q (by omega)
theorem conv3 (W : World) (k : Nat) (hk : k < 128) : (convert 97 9 (.slice (some ⟨W.heap.size, 0, none⟩) 3 3)).run Tryz.prog (W.alloc (.cells #[.int .u8 39, .int .u8 (k : Int), .int .u8 39] 5)) = .ok (.string ⟨#[39, k.toUInt8, 39]⟩) (W.alloc (.cells #[.int .u8 39, .int .u8 (k : Int), .int .u8 39] 5)) := by
  have hb := Blk.new W #[.int .u8 39, .int .u8 (k : Int), .int .u8 39] 5
  have hk8 : (k.toUInt8.toNat : Int) = k := by simp; omega
  have := run_convert_bytes_back (W.alloc (.cells #[.int .u8 39, .int .u8 (k : Int), .int .u8 39] 5)) 97 9 5 ⟨W.heap.size, 0, none⟩ 3 [39, k.toUInt8, 39] Tryz.underlying97 Tryz.underlying5 Tryz.underlying9 (fun j h1 => by
    rw [show (⟨W.heap.size, 0, none⟩ : Addr).add j = ⟨W.heap.size, j, none⟩ by unfold Addr.add; split <;> simp_all, hb.cell j]
    match j, h1 with
    | 0, _ => rfl
    | 1, _ => show some (Value.int .u8 (k : Int)) = some (Value.int .u8 (k.toUInt8.toNat : Int)); rw [hk8]
    | 2, _ => rfl)
  exact this
set_option maxRecDepth 100000 in
set_option maxHeartbeats 4000000 in
theorem refText_any (r : Int) (hr1 : -2147483648 ≤ r) (hr2 : r ≤ 2147483647) (w : World) : Calls Tryz.prog 74 #[.int .i32 r] w fun e w' => e = .returned (.tuple #[.string (textV r).1, .int .i64 (textV r).2]) ∧ Below w.heap.size w w' := by
  by_cases h0 : widthOf r = 0
  · have hv : textV r = (⟨#[]⟩, 12) := by unfold textV; rw [if_pos h0]
    have hsc := fun w => scalar_ref r w
    simp only [h0, ne_eq, not_true, decide_false] at hsc
    rw [hv]
    have HSC := hide hsc
    clear hv h0 hsc
    go_enter Tryz.func74, Tryz.ntmps74
    go_wp2_with fail
    refine (unhide HSC _).mono ?_
    rintro e w1 ⟨rfl, rfl⟩
    go_wp2_with fail
    go_ret2
    exact ⟨rfl, Below.refl _ _⟩
  · have hb := width_bound r h0
    have hsc := fun w => scalar_ref r w
    rw [decide_eq_true h0] at hsc
    have HSC := hide hsc
    by_cases hq : 33 ≤ r ∧ r ≤ 126 ∧ r ≠ 39
    · have hv : textV r = (⟨#[39]⟩ ++ Utf8.encode r ++ ⟨#[39]⟩, 0) := by unfold textV; rw [if_neg h0, if_pos hq]
      obtain ⟨q1, q2, q3⟩ := hq
      obtain ⟨k, rfl⟩ : ∃ k : Nat, r = k := ⟨r.toNat, by omega⟩
      rw [quo_bytes k (by omega)] at hv
      rw [hv]
      have q3' : ((k : Int) != 39) = true := by simpa using q3
      have q1' : (32 : Int) < k := by omega
      have q2' : (k : Int) < 127 := by omega
      clear hv h0 q3 hsc
      go_enter Tryz.func74, Tryz.ntmps74
      go_wp2_with fail
      refine (unhide HSC _).mono ?_
      rintro e w1 ⟨rfl, rfl⟩
      have hcv := conv3 w1 k (by omega)
      go_wp2_with fail
      go_ret2
      exact ⟨rfl, (Below.refl _ _).alloc (Nat.le_refl _) _⟩
    · have hv : textV r = (⟨#[85, 43]⟩ ++ ⟨(Lib.repeatL [48] (4 - (upS r.toNat).size)).toArray⟩ ++ upS r.toNat, 0) := by unfold textV; rw [if_neg h0, if_neg hq]
      obtain ⟨k, rfl⟩ : ∃ k : Nat, r = k := ⟨r.toNat, by omega⟩
      have hk : k ≤ 1114111 := by omega
      rw [hv]
      have ht := fun j h1 h2 h3 => text_digs k j hk h1 h2 h3
      rw [Int.toNat_natCast]
      generalize (⟨#[85, 43]⟩ : ByteArray) ++ ⟨(Lib.repeatL [48] (4 - (upS k).size)).toArray⟩ ++ upS k = T at *
      have HT := hide ht
      have hq3 : (32 : Int) < k → (k : Int) < 127 → ((k : Int) != 39) = false := fun h1 h2 => by
        have : (k : Int) = 39 := by omega
        simp [this]
      clear hv h0 hsc ht hb
      have hcase : ((32 : Int) < k ∧ (k : Int) < 127) ∨ (¬ (32 : Int) < k) ∨ ((32 : Int) < k ∧ ¬ (k : Int) < 127) := by omega
      rcases hcase with ⟨a1, a2⟩ | a1 | ⟨a1, a2⟩
      all_goals
        first | have a3 := hq3 a1 a2 | skip
        clear hq3 hq
        go_enter Tryz.func74, Tryz.ntmps74
        go_wp2_with fail
        refine (unhide HSC _).mono ?_
        rintro e w1 ⟨rfl, rfl⟩
        go_wp2_with fail
        go_loop [4, 5] (fun s n => ∃ j m : Nat, s = .string (digB8 k j) ∧ n = .int .i64 m ∧ m ≤ 1114111 ∧ j ≤ 6 ∧ Hz (m = k / 16 ^ j) ∧ Hz (j ≤ 4 ∨ k / 16 ^ (j - 1) ≠ 0)) (fun s _ => 7 - strLen s)
        case atStart => exact ⟨0, k, rfl, rfl, hk, by omega, hide (by simp), hide (.inl (by omega))⟩
        case round =>
          obtain ⟨j, m, rfl, rfl, hm, hj6, HMJ, HLJ⟩ := hrel
          have hz := digB8_size k j
          by_cases hgo : 0 < m ∨ j < 4
          · have hd16 : m % 16 < 16 := Nat.mod_lt _ (by decide)
            have hx := hexS_one (m % 16) hd16
            unfold hexS at hx
            have hst : (⟨#[upD (m % 16)]⟩ : ByteArray) ++ digB8 k j = digB8 k (j + 1) := by rw [unhide HMJ]; exact digB8_step k j
            have hj5 : j ≤ 5 := by
              rcases Nat.lt_or_ge j 6 with q | q
              · omega
              · have e : j = 6 := by omega
                rcases hgo with h | h
                · have := unhide HMJ; rw [e, Nat.div_eq_of_lt (by omega)] at this; omega
                · omega
            have hrem : Int.tmod (m : Int) 16 = ((m % 16 : Nat) : Int) := rfl
            have hdiv : Int.tdiv (m : Int) 16 = ((m / 16 : Nat) : Int) := rfl
            have HM2 : Hz (m / 16 = k / 16 ^ (j + 1)) := hide (by rw [unhide HMJ, Nat.div_div_eq_div_mul, ← Nat.pow_succ])
            have HL2 : Hz (j + 1 ≤ 4 ∨ k / 16 ^ (j + 1 - 1) ≠ 0) := hide (by
              rcases hgo with h | h
              · right; rw [Nat.add_sub_cancel, ← unhide HMJ]; omega
              · left; omega)
            generalize digB8 k j = D at *
            generalize m % 16 = d at *
            have hm2 : m / 16 < m ∨ (m = 0 ∧ m / 16 = 0) := by omega
            have hm3 : m / 16 ≤ 1114111 := by omega
            generalize m / 16 = m2 at *
            have HST := hide hst
            clear hst
            have hsl := slice_hex d hd16 w1
            clear hx
            by_cases h0 : 0 < m
            · have h0' : (0 : Int) < (m : Int) := by omega
              clear hgo
              go_wp2_with fail
              go_round
              case rel => exact ⟨j + 1, m2, by rw [← unhide HST], rfl, hm3, by omega, HM2, HL2⟩
              case measure => simp only [strLen]; simp [hz, ByteArray.size_append]; have : (⟨#[upD d]⟩ : ByteArray).size = 1 := rfl; omega
            · have h0' : ¬ (0 : Int) < (m : Int) := by omega
              have h4' : (j : Int) < 4 := by omega
              clear hgo
              go_wp2_with fail
              go_round
              case rel => exact ⟨j + 1, m2, by rw [← unhide HST], rfl, hm3, by omega, HM2, HL2⟩
              case measure => simp only [strLen]; simp [hz, ByteArray.size_append]; have : (⟨#[upD d]⟩ : ByteArray).size = 1 := rfl; omega
          · have hm0 : m = 0 := by omega
            have h4 : 4 ≤ j := by omega
            have hT : (⟨#[85, 43]⟩ : ByteArray) ++ digB8 k j = T := unhide HT j h4 (by rw [← unhide HMJ]; exact hm0) (by have := unhide HLJ; omega)
            have h0' : ¬ (0 : Int) < (m : Int) := by omega
            have h4' : ¬ (j : Int) < 4 := by omega
            generalize digB8 k j = D at *
            have HTT := hide hT
            clear hT hgo
            go_wp2_with fail
            go_ret2
            exact ⟨by rw [← unhide HTT]; rfl, Below.refl _ _⟩
set_option maxRecDepth 100000 in
set_option maxHeartbeats 4000000 in
theorem refLegal_any (s : ByteArray) (hs : s.size ≤ 262144) (w : World) : Calls Tryz.prog 32 #[.string s] w fun e w' => e = .returned (.bool (legalB s)) ∧ Below w.heap.size w w' := by
  have hR := refWords_any s hs w
  cases ho : (wordsV s).ok
  · have hl : legalB s = false := by
      cases q : legalB s
      · rfl
      · have := ((legal_words s).1 q).1; rw [ho] at this; cases this
    rw [hl]
    simp only [rwsPost, ho] at hR
    obtain ⟨c, hc, hc0⟩ : ∃ c : Int, (if (wordsV s).b < s.size then (20 : Int) else 21) = c ∧ (c = 20 ∨ c = 21) := ⟨_, rfl, by split <;> simp⟩
    rw [hc] at hR
    generalize (wordsV s).b = b at hR
    have HR := hide hR
    clear hR hl hc
    rcases hc0 with rfl | rfl
    all_goals
      go_enter Tryz.func32, Tryz.ntmps32
      go_wp2_with fail
      refine (unhide HR).mono ?_
      rintro e w2 ⟨_, he, hb2⟩
      obtain rfl := he trivial
      have HB2 := hide hb2
      clear he hb2
      go_wp2_with fail
      go_ret
      exact ⟨rfl, unhide HB2⟩
  · simp only [rwsPost, ho] at hR
    have hlw := legal_words s
    unfold legR at hlw
    rw [ho] at hlw
    have hpl := (words_places s).1
    generalize (wordsV s).ws = ws at *
    have HR := hide hR
    have HPL := hide hpl
    clear hR hpl ho
    by_cases h1 : ws.length = 1
    · obtain ⟨x, rfl⟩ : ∃ x, ws = [x] := List.length_eq_one_iff.1 h1
      have hv : legalB s = (((x.v.kind : Int) == 1) && ((x.b : Int) == 0) && ((x.e : Int) == (s.size : Int))) := by
        rw [Bool.eq_iff_iff, hlw]
        simp only [Bool.and_eq_true, beq_iff_eq]
        constructor
        · rintro ⟨_, y, hy, h1, h2, h3⟩
          obtain rfl : x = y := by simpa using hy
          omega
        · rintro ⟨⟨h1, h2⟩, h3⟩
          exact ⟨trivial, x, rfl, by omega, by omega, by omega⟩
      rw [hv]
      have hcs : encR [x] = rdCells x := by simp [encR]
      have HCS := hide hcs
      clear hlw hv hcs HPL h1
      obtain ⟨⟨K, S, R, N, n, o⟩, b, l, c, e9⟩ := x
      have h1' : (((1 : Nat) : Int) == 1) = true := by decide
      simp only
      cases q1 : ((K : Int) == 1)
      · go_enter Tryz.func32, Tryz.ntmps32
        go_wp2_with fail
        refine (unhide HR).mono ?_
        rintro e w2 ⟨he, _, hb2⟩
        obtain ⟨v, rfl, hown⟩ := he trivial
        rw [unhide HCS] at hown
        obtain ⟨g, cap, rfl, hg, hc⟩ := own_words hown (Nat.zero_lt_one)
        have c0 := hc 0 (.int .i64 K) rfl
        have c4 := hc 4 (.int .i64 b) rfl
        have c5 := hc 5 (.int .i64 e9) rfl
        have HB2 := hide hb2
        clear he hb2 hown hc hg
        go_wp2_with fail
        go_ret
        exact ⟨rfl, unhide HB2⟩
      · cases q2 : ((b : Int) == 0)
        · go_enter Tryz.func32, Tryz.ntmps32
          go_wp2_with fail
          refine (unhide HR).mono ?_
          rintro e w2 ⟨he, _, hb2⟩
          obtain ⟨v, rfl, hown⟩ := he trivial
          rw [unhide HCS] at hown
          obtain ⟨g, cap, rfl, hg, hc⟩ := own_words hown (Nat.zero_lt_one)
          have c0 := hc 0 (.int .i64 K) rfl
          have c4 := hc 4 (.int .i64 b) rfl
          have c5 := hc 5 (.int .i64 e9) rfl
          have HB2 := hide hb2
          clear he hb2 hown hc hg
          go_wp2_with fail
          go_ret
          exact ⟨rfl, unhide HB2⟩
        · cases q3 : ((e9 : Int) == (s.size : Int))
          all_goals
            go_enter Tryz.func32, Tryz.ntmps32
            go_wp2_with fail
            refine (unhide HR).mono ?_
            rintro e w2 ⟨he, _, hb2⟩
            obtain ⟨v, rfl, hown⟩ := he trivial
            rw [unhide HCS] at hown
            obtain ⟨g, cap, rfl, hg, hc⟩ := own_words hown (Nat.zero_lt_one)
            have c0 := hc 0 (.int .i64 K) rfl
            have c4 := hc 4 (.int .i64 b) rfl
            have c5 := hc 5 (.int .i64 e9) rfl
            have HB2 := hide hb2
            clear he hb2 hown hc hg
            go_wp2_with fail
            go_ret
            exact ⟨rfl, unhide HB2⟩
    · have hl : legalB s = false := by
        cases q : legalB s
        · rfl
        · obtain ⟨_, x, hx, _⟩ := hlw.1 q; rw [hx] at h1; exact absurd rfl h1
      rw [hl]
      have h1' : ((ws.length : Int) == 1) = false := by simp; omega
      clear hlw hl h1
      go_enter Tryz.func32, Tryz.ntmps32
      go_wp2_with fail
      refine (unhide HR).mono ?_
      rintro e w2 ⟨he, _, hb2⟩
      obtain ⟨v, rfl, hown⟩ := he trivial
      have HB2 := hide hb2
      obtain ⟨a, c, rfl⟩ : ∃ a c, v = .slice a ws.length c := by
        rcases hown.2 with ⟨rfl, h0⟩ | ⟨g, cap, cur, rfl, _⟩
        · exact ⟨none, 0, by rw [h0]⟩
        · exact ⟨_, cap, rfl⟩
      clear he hb2 hown
      go_wp2_with fail
      go_ret
      exact ⟨rfl, unhide HB2⟩
def PnI (p : Pn) (L : List UInt8) (ok bg : Bool) : Prop := p.wr = !ok ∧ (ok = true → (L.length ≤ 262144 → p.t = L ∧ p.bg = bg) ∧ (262144 < L.length → 262144 < p.t.length))
def spB (bg : Bool) : List UInt8 := if bg then [32] else []
theorem pni_put {p : Pn} {L : List UInt8} {ok bg : Bool} (w : ByteArray) (h : PnI p L ok bg) : PnI (put1 p w) (L ++ (spB bg ++ w.data.toList)) ok true := by
  obtain ⟨h1, h2⟩ := h
  cases ok with
  | false =>
    have he : endedB p = true := by unfold endedB; rw [h1]; rfl
    rw [put1_ended he]
    exact ⟨h1, fun h => by cases h⟩
  | true =>
    have h3 := h2 rfl
    have hw : p.wr = false := h1
    have hl : (L ++ (spB bg ++ w.data.toList)).length = L.length + (spB bg ++ w.data.toList).length := List.length_append
    rcases Nat.lt_or_ge 262144 L.length with hL | hL
    · have he : endedB p = true := by unfold endedB; rw [hw, decide_eq_true (h3.2 hL)]; rfl
      rw [put1_ended he]
      exact ⟨h1, fun _ => ⟨fun q => by omega, fun _ => h3.2 hL⟩⟩
    · obtain ⟨e1, e2⟩ := h3.1 hL
      have he : ¬ endedB p = true := by unfold endedB; rw [hw, e1, decide_eq_false (by omega)]; decide
      have e : put1 p w = ⟨L ++ (spB bg ++ w.data.toList), true, false⟩ := by
        unfold put1
        rw [if_neg he, hw, e1, e2]
        unfold spB
        cases bg <;> simp
      rw [e]
      exact ⟨rfl, fun _ => ⟨fun _ => ⟨rfl, rfl⟩, fun q => q⟩⟩
theorem pni_line {p : Pn} {L : List UInt8} {ok bg : Bool} (h : PnI p L ok bg) : PnI (lineV p) (L ++ [10]) ok false := by
  obtain ⟨h1, h2⟩ := h
  cases ok with
  | false => exact ⟨h1, fun h => by cases h⟩
  | true =>
    have h3 := h2 rfl
    have hw : p.wr = false := h1
    have hl : (L ++ [(10 : UInt8)]).length = L.length + 1 := List.length_append
    refine ⟨h1, fun _ => ?_⟩
    unfold lineV
    dsimp only
    rcases Nat.lt_or_ge 262144 L.length with hL | hL
    · have he : endedB p = true := by unfold endedB; rw [hw, decide_eq_true (h3.2 hL)]; rfl
      rw [if_pos he]
      exact ⟨fun q => by omega, fun _ => h3.2 hL⟩
    · obtain ⟨e1, e2⟩ := h3.1 hL
      have he : ¬ endedB p = true := by unfold endedB; rw [hw, e1, decide_eq_false (by omega)]; decide
      rw [if_neg he, e1]
      exact ⟨fun _ => ⟨rfl, rfl⟩, fun q => q⟩
theorem pni_need {p : Pn} {L : List UInt8} {ok bg : Bool} (b : Bool) (h : PnI p L ok bg) : PnI (needV p b) L (ok && b) bg := by
  obtain ⟨h1, h2⟩ := h
  unfold needV
  refine ⟨?_, fun q => ?_⟩
  · show (p.wr || !b) = _
    rw [h1]
    cases ok <;> cases b <;> rfl
  · have hk : ok = true := by cases ok <;> first | rfl | cases q
    exact h2 hk
def wdL : Bool → List ByteArray → List UInt8
  | _, [] => []
  | bg, w :: ws => spB bg ++ w.data.toList ++ wdL true ws
theorem wdL_app : ∀ (a b : List ByteArray) (bg : Bool), wdL bg (a ++ b) = wdL bg a ++ wdL (bg || !a.isEmpty) b
  | [], b, bg => by show wdL bg b = [] ++ wdL (bg || false) b; rw [Bool.or_false]; rfl
  | w :: a, b, bg => by
    show spB bg ++ w.data.toList ++ wdL true (a ++ b) = spB bg ++ w.data.toList ++ wdL true a ++ wdL (bg || true) b
    rw [wdL_app a b true, Bool.or_true, List.append_assoc, List.append_assoc, List.append_assoc]
    rfl
theorem pni_puts : ∀ (ws : List ByteArray) {p : Pn} {L : List UInt8} {ok bg : Bool}, PnI p L ok bg → PnI (putV p ws) (L ++ wdL bg ws) ok (bg || !ws.isEmpty)
  | [], p, L, ok, bg, h => by
    show PnI p (L ++ []) ok (bg || false)
    rw [List.append_nil, Bool.or_false]
    exact h
  | w :: ws, p, L, ok, bg, h => by
    have := pni_puts ws (pni_put w h)
    show PnI (putV (put1 p w) ws) (L ++ (spB bg ++ w.data.toList ++ wdL true ws)) ok (bg || true)
    rw [Bool.or_true]
    rw [List.append_assoc L, Bool.true_or] at this
    exact this
def okR (r : Int) : Bool := (textV r).2 == 0
def rtB (r : Int) : ByteArray := (textV r).1
theorem pni_rune (r : Int) {p : Pn} {L : List UInt8} {ok bg : Bool} (h : PnI p L ok bg) : PnI (runeV p r) (L ++ wdL bg [rtB r]) (ok && okR r) true := by
  have := pni_puts [rtB r] (pni_need (okR r) h)
  rw [show (bg || !([rtB r] : List ByteArray).isEmpty) = true by cases bg <;> rfl] at this
  exact this
def spanW (s : Int × Int) : List ByteArray := if s.2 = s.1 then [rtB s.1] else [rtB s.1, ⟨#[46, 46]⟩, rtB s.2]
def spanK (s : Int × Int) : Bool := okR s.1 && okR s.2
theorem pni_span (s : Int × Int) {p : Pn} {L : List UInt8} {ok : Bool} (h : PnI p L ok true) : PnI (spanP p s) (L ++ wdL true (spanW s)) (ok && spanK s) true := by
  unfold spanP spanW spanK
  by_cases e : s.2 = s.1
  · rw [if_pos e, if_pos e, e, Bool.and_self]
    exact pni_rune s.1 h
  · rw [if_neg e, if_neg e]
    have h1 := pni_rune s.2 (pni_puts [⟨#[46, 46]⟩] (pni_rune s.1 h))
    rw [List.append_assoc, List.append_assoc, Bool.and_assoc, Bool.true_or] at h1
    have e2 : wdL true [rtB s.1, ⟨#[46, 46]⟩, rtB s.2] = wdL true [rtB s.1] ++ (wdL true [⟨#[46, 46]⟩] ++ wdL true [rtB s.2]) := by
      show wdL true ([rtB s.1] ++ ([⟨#[46, 46]⟩] ++ [rtB s.2])) = _
      rw [wdL_app, wdL_app, Bool.true_or, Bool.true_or]
    rw [e2]
    exact h1
theorem pni_spans : ∀ (l : List (Int × Int)) {p : Pn} {L : List UInt8} {ok : Bool}, PnI p L ok true → PnI (l.foldl spanP p) (L ++ wdL true (l.flatMap spanW)) (ok && l.all spanK) true
  | [], p, L, ok, h => by
    show PnI p (L ++ []) (ok && true) true
    rw [List.append_nil, Bool.and_true]
    exact h
  | s :: l, p, L, ok, h => by
    have := pni_spans l (pni_span s h)
    rw [List.append_assoc, Bool.and_assoc] at this
    rw [List.flatMap_cons, wdL_app, List.all_cons, Bool.true_or]
    exact this
def lineB (ws : List ByteArray) : List UInt8 := wdL false ws ++ [10]
def spansW (l : List (Int × Int)) : List ByteArray := ⟨#[123]⟩ :: (l.flatMap spanW ++ [⟨#[125]⟩])
theorem pni_braces (l : List (Int × Int)) {p : Pn} {L : List UInt8} {ok : Bool} (h : PnI p L ok true) : PnI (spansP p l) (L ++ (wdL true (spansW l) ++ [10])) (ok && l.all spanK) false := by
  unfold spansP
  have h1 := pni_puts [⟨#[123]⟩] h
  rw [Bool.true_or] at h1
  have h2 := pni_line (pni_puts [⟨#[125]⟩] (pni_spans l h1))
  have e : wdL true (spansW l) = wdL true [⟨#[123]⟩] ++ (wdL true (l.flatMap spanW) ++ wdL true [⟨#[125]⟩]) := by
    show wdL true ([⟨#[123]⟩] ++ (l.flatMap spanW ++ [⟨#[125]⟩])) = _
    rw [wdL_app, wdL_app, Bool.true_or, Bool.true_or]
  rw [e]
  simp only [List.append_assoc] at h2 ⊢
  exact h2
def scW (x : ByteArray × List (Int × Int)) : List ByteArray := ⟨#[115, 99, 114, 105, 112, 116]⟩ :: x.1 :: spansW x.2
def scK (x : ByteArray × List (Int × Int)) : Bool := legalB x.1 && x.2.all spanK
theorem pni_sc (x : ByteArray × List (Int × Int)) {p : Pn} {L : List UInt8} {ok : Bool} (h : PnI p L ok false) : PnI (scriptP p x) (L ++ lineB (scW x)) (ok && scK x) false := by
  unfold scriptP scK
  have h1 := pni_puts [⟨#[115, 99, 114, 105, 112, 116]⟩, x.1] (pni_need (legalB x.1) h)
  have h2 := pni_braces x.2 h1
  have e : lineB (scW x) = wdL false [⟨#[115, 99, 114, 105, 112, 116]⟩, x.1] ++ (wdL true (spansW x.2) ++ [10]) := by
    show wdL false ([⟨#[115, 99, 114, 105, 112, 116]⟩, x.1] ++ spansW x.2) ++ [10] = _
    rw [wdL_app, List.append_assoc]
    rfl
  rw [e]
  rw [List.append_assoc, Bool.and_assoc] at h2
  exact h2
def liW (word : ByteArray) (l : List (Int × Int)) : List ByteArray := word :: spansW l
theorem pni_li (word : ByteArray) (l : List (Int × Int)) {p : Pn} {L : List UInt8} {ok : Bool} (h : PnI p L ok false) : PnI (listP p word l) (L ++ (if l.length = 0 then [] else lineB (liW word l))) (ok && l.all spanK) false := by
  unfold listP
  by_cases e : l.length = 0
  · rw [if_pos e, if_pos e, List.append_nil]
    obtain rfl := List.length_eq_zero_iff.1 e
    show PnI p L (ok && true) false
    rw [Bool.and_true]
    exact h
  · rw [if_neg e, if_neg e]
    have h2 := pni_braces l (pni_puts [word] h)
    have e : lineB (liW word l) = wdL false [word] ++ (wdL true (spansW l) ++ [10]) := by
      show wdL false ([word] ++ spansW l) ++ [10] = _
      rw [wdL_app, List.append_assoc]
      rfl
    rw [e]
    rw [List.append_assoc] at h2
    exact h2
def maW (x : Int × Int) : List ByteArray := [⟨#[109, 97, 114, 107]⟩, rtB x.1, itoaB x.2, ⟨#[59]⟩]
def maK (x : Int × Int) : Bool := clsB x.2 && okR x.1
theorem pni_ma (x : Int × Int) {p : Pn} {L : List UInt8} {ok : Bool} (h : PnI p L ok false) : PnI (markP p x) (L ++ lineB (maW x)) (ok && maK x) false := by
  unfold markP maK
  have h1 := pni_line (pni_puts [itoaB x.2, ⟨#[59]⟩] (pni_rune x.1 (pni_puts [⟨#[109, 97, 114, 107]⟩] (pni_need (clsB x.2) h))))
  have e : lineB (maW x) = wdL false [⟨#[109, 97, 114, 107]⟩] ++ (wdL true [rtB x.1] ++ (wdL true [itoaB x.2, ⟨#[59]⟩] ++ [10])) := by
    show wdL false ([⟨#[109, 97, 114, 107]⟩] ++ ([rtB x.1] ++ [itoaB x.2, ⟨#[59]⟩])) ++ [10] = _
    rw [wdL_app, wdL_app]
    simp only [List.append_assoc]
    rfl
  rw [e]
  simp only [List.append_assoc, Bool.and_assoc] at h1
  exact h1
def prW (x : Int × Int × Int) : List ByteArray := [⟨#[112, 97, 105, 114]⟩, rtB x.1, ⟨#[61]⟩, rtB x.2.1, ⟨#[43]⟩, rtB x.2.2, ⟨#[59]⟩]
def prK (x : Int × Int × Int) : Bool := okR x.1 && (okR x.2.1 && okR x.2.2)
theorem pni_pr (x : Int × Int × Int) {p : Pn} {L : List UInt8} {ok : Bool} (h : PnI p L ok false) : PnI (pairP p x) (L ++ lineB (prW x)) (ok && prK x) false := by
  unfold pairP prK
  have h1 := pni_line (pni_puts [⟨#[59]⟩] (pni_rune x.2.2 (pni_puts [⟨#[43]⟩] (pni_rune x.2.1 (pni_puts [⟨#[61]⟩] (pni_rune x.1 (pni_puts [⟨#[112, 97, 105, 114]⟩] h)))))))
  have e : lineB (prW x) = wdL false [⟨#[112, 97, 105, 114]⟩] ++ (wdL true [rtB x.1] ++ (wdL true [⟨#[61]⟩] ++ (wdL true [rtB x.2.1] ++ (wdL true [⟨#[43]⟩] ++ (wdL true [rtB x.2.2] ++ (wdL true [⟨#[59]⟩] ++ [10])))))) := by
    show wdL false ([⟨#[112, 97, 105, 114]⟩] ++ ([rtB x.1] ++ ([⟨#[61]⟩] ++ ([rtB x.2.1] ++ ([⟨#[43]⟩] ++ ([rtB x.2.2] ++ [⟨#[59]⟩])))))) ++ [10] = _
    simp only [wdL_app, List.append_assoc]
    rfl
  rw [e]
  simp only [List.append_assoc, Bool.and_assoc] at h1
  exact h1
theorem pni_runes : ∀ (l : List Int) {p : Pn} {L : List UInt8} {ok : Bool}, PnI p L ok true → PnI (l.foldl runeV p) (L ++ wdL true (l.map rtB)) (ok && l.all okR) true
  | [], p, L, ok, h => by
    show PnI p (L ++ []) (ok && true) true
    rw [List.append_nil, Bool.and_true]
    exact h
  | r :: l, p, L, ok, h => by
    have := pni_runes l (pni_rune r h)
    rw [List.append_assoc, Bool.and_assoc] at this
    rw [List.all_cons, show (r :: l).map rtB = [rtB r] ++ l.map rtB from rfl, wdL_app, Bool.true_or]
    exact this
def mpW (word : ByteArray) (x : Int × ByteArray) : List ByteArray := word :: rtB x.1 :: ⟨#[61]⟩ :: ((runesL x.2).map rtB ++ [⟨#[59]⟩])
def mpK (x : Int × ByteArray) : Bool := okTo x.2 && (okR x.1 && (runesL x.2).all okR)
theorem pni_mp (word : ByteArray) (x : Int × ByteArray) {p : Pn} {L : List UInt8} {ok : Bool} (h : PnI p L ok false) : PnI (mapP word p x) (L ++ lineB (mpW word x)) (ok && mpK x) false := by
  unfold mapP mpK
  have h1 := pni_line (pni_puts [⟨#[59]⟩] (pni_runes (runesL x.2) (pni_puts [⟨#[61]⟩] (pni_rune x.1 (pni_puts [word] (pni_need (okTo x.2) h))))))
  have e : lineB (mpW word x) = wdL false [word] ++ (wdL true [rtB x.1] ++ (wdL true [⟨#[61]⟩] ++ (wdL true ((runesL x.2).map rtB) ++ (wdL true [⟨#[59]⟩] ++ [10])))) := by
    show wdL false ([word] ++ ([rtB x.1] ++ ([⟨#[61]⟩] ++ ((runesL x.2).map rtB ++ [⟨#[59]⟩])))) ++ [10] = _
    simp only [wdL_app, List.append_assoc]
    rfl
  rw [e]
  simp only [List.append_assoc, Bool.and_assoc] at h1
  exact h1
theorem pni_fold {α : Type} (P : Pn → α → Pn) (W : α → List ByteArray) (K : α → Bool) (hs : ∀ x {p : Pn} {L : List UInt8} {ok : Bool}, PnI p L ok false → PnI (P p x) (L ++ lineB (W x)) (ok && K x) false) : ∀ (l : List α) {p : Pn} {L : List UInt8} {ok : Bool}, PnI p L ok false → PnI (l.foldl P p) (L ++ (l.map W).flatMap lineB) (ok && l.all K) false
  | [], p, L, ok, h => by
    show PnI p (L ++ []) (ok && true) false
    rw [List.append_nil, Bool.and_true]
    exact h
  | x :: l, p, L, ok, h => by
    have := pni_fold P W K hs l (hs x h)
    rw [List.append_assoc, Bool.and_assoc] at this
    exact this
def liL (word : ByteArray) (l : List (Int × Int)) : List (List ByteArray) := if l.length = 0 then [] else [liW word l]
theorem liL_flat (word : ByteArray) (l : List (Int × Int)) : (liL word l).flatMap lineB = if l.length = 0 then [] else lineB (liW word l) := by
  unfold liL
  split
  · rfl
  · show lineB (liW word l) ++ [] = _
    rw [List.append_nil]
def linesT (T : TV) : List (List ByteArray) :=
  T.sc.map scW ++ (liL ⟨#[99, 111, 109, 109, 111, 110]⟩ T.co ++ (T.ma.map maW ++ (T.pr.map prW ++ (T.fo.map (mpW ⟨#[102, 111, 108, 100]⟩) ++ (T.lk.map (mpW ⟨#[108, 111, 111, 107]⟩) ++ (liL ⟨#[100, 114, 111, 112]⟩ T.dr ++ liL ⟨#[97, 108, 108, 111, 119]⟩ T.al))))))
def okT (T : TV) : Bool := T.sc.all scK && (T.co.all spanK && (T.ma.all maK && (T.pr.all prK && (T.fo.all mpK && (T.lk.all mpK && (T.dr.all spanK && T.al.all spanK))))))
theorem print_inv (T : TV) : PnI (printP T) ((linesT T).flatMap lineB) (okT T) false := by
  have h0 : PnI ⟨[], false, false⟩ [] true false := ⟨rfl, fun _ => ⟨fun _ => ⟨rfl, rfl⟩, fun q => q⟩⟩
  have h := pni_li ⟨#[97, 108, 108, 111, 119]⟩ T.al (pni_li ⟨#[100, 114, 111, 112]⟩ T.dr (pni_fold (mapP ⟨#[108, 111, 111, 107]⟩) (mpW ⟨#[108, 111, 111, 107]⟩) mpK (fun x => pni_mp _ x) T.lk (pni_fold (mapP ⟨#[102, 111, 108, 100]⟩) (mpW ⟨#[102, 111, 108, 100]⟩) mpK (fun x => pni_mp _ x) T.fo (pni_fold pairP prW prK (fun x => pni_pr x) T.pr (pni_fold markP maW maK (fun x => pni_ma x) T.ma (pni_li ⟨#[99, 111, 109, 109, 111, 110]⟩ T.co (pni_fold scriptP scW scK (fun x => pni_sc x) T.sc h0)))))))
  rw [← liL_flat, ← liL_flat, ← liL_flat] at h
  unfold printP linesT okT
  simp only [List.flatMap_append]
  simp only [List.append_assoc, Bool.and_assoc, List.nil_append, Bool.true_and] at h
  exact h
theorem print_ok {T : TV} (hk : okT T = true) (hl : ((linesT T).flatMap lineB).length ≤ 262144) : printV T = (⟨((linesT T).flatMap lineB).toArray⟩, 0) := by
  obtain ⟨h1, h2⟩ := print_inv T
  obtain ⟨h3, _⟩ := (h2 hk).1 hl
  unfold printV
  rw [h1, hk, if_neg (by decide), h3, if_neg (by omega)]
theorem print_long {T : TV} (hk : okT T = true) (hl : 262144 < ((linesT T).flatMap lineB).length) : printV T = (⟨#[]⟩, 3) := by
  obtain ⟨h1, h2⟩ := print_inv T
  have h3 := (h2 hk).2 hl
  unfold printV
  rw [h1, hk, if_neg (by decide), if_pos h3]
theorem print_bad {T : TV} (hk : okT T = false) : printV T = (⟨#[]⟩, 5) := by
  obtain ⟨h1, h2⟩ := print_inv T
  unfold printV
  rw [h1, hk, if_pos (by decide)]
structure Pe (W0 w : World) (P : Nat) (s : ByteArray) (b : Bool) : Prop where
  blk : Blk w P #[.string s, .bool b] 90
  f : W0.grownBy w (some P)
theorem Pe.call {W0 w w' : World} {P : Nat} {s : ByteArray} {b : Bool} (h : Pe W0 w P s b) (hb : Below w.heap.size w w') : Pe W0 w' P s b :=
  ⟨h.blk.below hb h.blk.lt, grown_trans' h.f (below_grown hb)⟩
theorem Pe.str {W0 w : World} {P : Nat} {s : ByteArray} {b : Bool} (h : Pe W0 w P s b) (t : ByteArray) : Pe W0 (w.setCell ⟨P, 0, none⟩ (.string t)) P t b :=
  ⟨h.blk.set 0 _, grown_trans' h.f (grown_set' _ P 0 _)⟩
theorem Pe.bad {W0 w : World} {P : Nat} {s : ByteArray} {b : Bool} (h : Pe W0 w P s b) (c : Bool) : Pe W0 (w.setCell ⟨P, 1, none⟩ (.bool c)) P s c :=
  ⟨h.blk.set 1 _, grown_trans' h.f (grown_set' _ P 1 _)⟩
def I32 (r : Int) : Prop := -2147483648 ≤ r ∧ r ≤ 2147483647
def pn1 (q : ByteArray × Bool) (r : Int) : ByteArray × Bool := (q.1 ++ (textV r).1, q.2 || !((textV r).2 == 0))
def pnS (q : ByteArray × Bool) (t : ByteArray) : ByteArray × Bool := (q.1 ++ t, q.2)
def pnSpan (q : ByteArray × Bool) (x : Int × Int) : ByteArray × Bool :=
  if x.2 = x.1 then pn1 (pnS q ⟨#[32]⟩) x.1 else pn1 (pnS (pn1 (pnS q ⟨#[32]⟩) x.1) ⟨#[32, 46, 46, 32]⟩) x.2
def pnSpans (q : ByteArray × Bool) (word : ByteArray) (l : List (Int × Int)) : ByteArray × Bool :=
  pnS (l.foldl pnSpan (pnS (pnS q word) ⟨#[32, 123]⟩)) ⟨#[32, 125, 10]⟩
theorem pn1_size (q : ByteArray × Bool) (r : Int) : (pn1 q r).1.size ≤ q.1.size + 1000 := by
  have := textV_size r
  show (q.1 ++ (textV r).1).size ≤ _
  rw [ByteArray.size_append]
  omega
theorem pnS_size (q : ByteArray × Bool) (t : ByteArray) : (pnS q t).1.size = q.1.size + t.size := ByteArray.size_append
theorem pnSpan_size (q : ByteArray × Bool) (x : Int × Int) : (pnSpan q x).1.size ≤ q.1.size + 2005 := by
  have e1 : (⟨#[32]⟩ : ByteArray).size = 1 := rfl
  have e2 : (⟨#[32, 46, 46, 32]⟩ : ByteArray).size = 4 := rfl
  have a := pn1_size (pnS q ⟨#[32]⟩) x.1
  have b := pn1_size (pnS (pn1 (pnS q ⟨#[32]⟩) x.1) ⟨#[32, 46, 46, 32]⟩) x.2
  rw [pnS_size] at a b
  unfold pnSpan
  split <;> omega
set_option maxRecDepth 100000 in
set_option maxHeartbeats 4000000 in
theorem pe_rune (P : Nat) (s : ByteArray) (b : Bool) (r : Int) (hr : I32 r) (hs : s.size ≤ 4611686018427387904) (W0 w : World) (h : Pe W0 w P s b) :
    Calls Tryz.prog 34 #[.pointer (some ⟨P, 0, none⟩), .int .i32 r] w fun e w' => (∃ v, e = .returned v) ∧ Pe W0 w' P (s ++ (textV r).1) (b || !((textV r).2 == 0)) := by
  have HT := hide (refText_any r hr.1 hr.2 w)
  have H := hide h
  have hts := textV_size r
  generalize textV r = tv at *
  obtain ⟨tt, te⟩ := tv
  dsimp only at HT hts ⊢
  have hq : ¬ 9223372036854775807 < s.size + tt.size := by omega
  clear h
  go_enter Tryz.func34, Tryz.ntmps34
  go_wp2_with fail
  refine (unhide HT).mono ?_
  rintro e w1 ⟨rfl, hb1⟩
  have H1 := hide ((unhide H).call hb1)
  have c0 := (unhide H1).blk.cell 0
  have c1 := (unhide H1).blk.cell 1
  have f0 := (unhide H1).blk.frozen 0
  have f1 := (unhide H1).blk.frozen 1
  clear hb1 HT H
  cases hte : te == 0 with
  | true =>
    obtain rfl : te = 0 := by simpa using hte
    have H2 := hide ((unhide H1).str (s ++ tt))
    go_wp2_with fail
    go_end0
    exact ⟨⟨_, rfl⟩, by simpa using unhide H2⟩
  | false =>
    have hne : (te != 0) = true := by simp at hte ⊢; exact hte
    have H2 := hide (((unhide H1).bad true).str (s ++ tt))
    have d0 := ((unhide H1).bad true).blk.cell 0
    have g0 := ((unhide H1).bad true).blk.frozen 0
    go_wp2_with fail
    go_end0
    exact ⟨⟨_, rfl⟩, by rw [hte]; simpa using unhide H2⟩
set_option maxRecDepth 100000 in
set_option maxHeartbeats 4000000 in
theorem pe_spans (P : Nat) (q : ByteArray × Bool) (word : ByteArray) (a : Option Addr) (c : Nat) (l : List (Int × Int)) (hn : l.length ≤ 1000000) (h32 : ∀ x ∈ l, I32 x.1 ∧ I32 x.2) (hw : word.size ≤ 9007199254740992) (hq : q.1.size ≤ 2305843009213693952) (W0 w : World) (h : Pe W0 w P q.1 q.2) (hr : RowC W0 P a (encS2 l)) :
    Calls Tryz.prog 33 #[.pointer (some ⟨P, 0, none⟩), .string word, .slice a l.length c] w fun e w' => (∃ v, e = .returned v) ∧ Pe W0 w' P (pnSpans q word l).1 (pnSpans q word l).2 := by
  have c0 := h.blk.cell 0
  have f0 := h.blk.frozen 0
  obtain ⟨q1, q2⟩ := q
  dsimp only at h hq c0 f0 ⊢
  have HQ : Hz (q1.size ≤ 2305843009213693952 ∧ word.size ≤ 9007199254740992) := hide ⟨hq, hw⟩
  have s1 : ¬ 9223372036854775807 < q1.size + word.size := by omega
  have s2 : ¬ 9223372036854775807 < q1.size + word.size + 2 := by omega
  have H1 := hide (h.str (q1 ++ word ++ ⟨#[32, 123]⟩))
  have HR := hide hr
  have H32 := hide h32
  clear h hr hq hw h32
  go_enter Tryz.func33, Tryz.ntmps33
  go_wp2_with fail
  have HST : Hz (∀ k, k ≤ l.length → ((l.take k).foldl pnSpan (pnS (pnS (q1, q2) word) ⟨#[32, 123]⟩)).1.size ≤ 2323857407723175936 + 2005 * k) := hide (by
    intro k
    induction k with
    | zero =>
      intro _
      have e : (⟨#[32, 123]⟩ : ByteArray).size = 2 := rfl
      show (pnS (pnS (q1, q2) word) ⟨#[32, 123]⟩).1.size ≤ _
      rw [pnS_size, pnS_size, e]
      have := (unhide HQ).1
      have := (unhide HQ).2
      show q1.size + _ + _ ≤ _
      omega
    | succ k ih =>
      intro hk
      obtain ⟨x, hx⟩ : ∃ x, l[k]? = some x := ⟨_, List.getElem?_eq_getElem (by omega)⟩
      rw [fold_take _ _ _ _ _ hx]
      have := pnSpan_size ((l.take k).foldl pnSpan (pnS (pnS (q1, q2) word) ⟨#[32, 123]⟩)) x
      have := ih (by omega)
      omega)
  clear s1 s2 c0 f0
  go_loopw [6] (fun iv wr => ∃ k : Nat, k ≤ l.length ∧ iv = .int .i64 k ∧ Hz (Pe W0 wr P ((l.take k).foldl pnSpan (pnS (pnS (q1, q2) word) ⟨#[32, 123]⟩)).1 ((l.take k).foldl pnSpan (pnS (pnS (q1, q2) word) ⟨#[32, 123]⟩)).2)) (fun iv _ => l.length - (intOf iv).toNat)
  case atStart => exact ⟨0, Nat.zero_le _, rfl, H1⟩
  case round =>
    obtain ⟨k, hk, rfl, HP⟩ := hrel
    clear H1
    have hz := unhide HST k hk
    by_cases hkn : k < l.length
    · obtain ⟨x, hx⟩ : ∃ x, l[k]? = some x := ⟨_, List.getElem?_eq_getElem hkn⟩
      have HF := hide (fold_take pnSpan (pnS (pnS (q1, q2) word) ⟨#[32, 123]⟩) l k x hx)
      generalize (l.take k).foldl pnSpan (pnS (pnS (q1, q2) word) ⟨#[32, 123]⟩) = st at *
      obtain ⟨s, b⟩ := st
      dsimp only at hz HP
      have hlen := encS2_length l
      obtain ⟨g, o, rfl, hgP, hc⟩ := unhide HR (by omega)
      have hxs := encS2_at l k x hx
      have H33 := hide (unhide H32 x (List.mem_of_getElem? hx))
      obtain ⟨lo, hi⟩ := x
      dsimp only at hxs
      have HCL : Hz (∀ w', W0.grownBy w' (some P) → w'.cell? ⟨g, o + k * 2, none⟩ = some (.int .i32 lo) ∧ w'.cell? ⟨g, o + k * 2 + 1, none⟩ = some (.int .i32 hi)) := hide (fun w' hw => ⟨hw.cell (a := ⟨g, o + k * 2, none⟩) (hc _ _ hxs.1) (by show some g ≠ some P; intro e; have := Option.some.inj e; omega), hw.cell (a := ⟨g, o + k * 2 + 1, none⟩) (by have := hc _ _ hxs.2; rw [← Nat.add_assoc] at this; exact this) (by show some g ≠ some P; intro e; have := Option.some.inj e; omega)⟩)
      have hgne : g ≠ P := by omega
      have k1 : ((k : Nat) : Int) < ((l.length : Nat) : Int) := by omega
      have k2 : ((k : Nat) : Int).toNat = k := by omega
      have s1 : ¬ 9223372036854775807 < s.size + 1 := by omega
      have c0 := (unhide HP).blk.cell 0
      have f0 := (unhide HP).blk.frozen 0
      have HP2 := hide ((unhide HP).str (s ++ ⟨#[32]⟩))
      obtain ⟨d0, d1⟩ := unhide HCL _ (unhide HP2).f
      have HRN := hide (pe_rune P (s ++ ⟨#[32]⟩) b lo (unhide H33).1 (by rw [ByteArray.size_append]; show s.size + 1 ≤ _; omega) W0 _ (unhide HP2))
      clear hc hxs hx HP
      go_wp2_with fail
      refine (unhide HRN).mono ?_
      rintro e w2 ⟨⟨v2, rfl⟩, hp3⟩
      obtain ⟨d2, d3⟩ := unhide HCL _ hp3.f
      have hz3 := pn1_size (pnS (s, b) ⟨#[32]⟩) lo
      rw [pnS_size] at hz3
      have hz3 : (pn1 (pnS (s, b) ⟨#[32]⟩) lo).1.size ≤ s.size + 1 + 1000 := hz3
      have HP3 : Hz (Pe W0 w2 P (pn1 (pnS (s, b) ⟨#[32]⟩) lo).1 (pn1 (pnS (s, b) ⟨#[32]⟩) lo).2) := hide hp3
      have HV : Hz (pnSpan (s, b) (lo, hi) = if hi = lo then pn1 (pnS (s, b) ⟨#[32]⟩) lo else pn1 (pnS (pn1 (pnS (s, b) ⟨#[32]⟩) lo) ⟨#[32, 46, 46, 32]⟩) hi) := hide rfl
      generalize pn1 (pnS (s, b) ⟨#[32]⟩) lo = st2 at *
      obtain ⟨s2, b2⟩ := st2
      dsimp only at hz3 HP3
      clear hp3 HRN HP2 c0 f0 d0 d1
      cases hhl : (hi == lo) with
      | true =>
        obtain rfl : hi = lo := by simpa using hhl
        have hne : (hi != hi) = false := by simp
        have HV2 : Hz (pnSpan (s, b) (hi, hi) = (s2, b2)) := hide (by rw [unhide HV, if_pos rfl])
        clear HV
        go_wp2_with fail
        go_quiet (fail)
        go_wp2_with fail
        exact ⟨⟨k + 1, by omega, rfl, hide (by rw [unhide HF, unhide HV2]; exact (unhide HP3).call (below_drewNW (Below.refl _ _) nq))⟩, by simp [intOf]; omega⟩
      | false =>
        have hne : (hi != lo) = true := by simp at hhl ⊢; exact hhl
        have hne2 : ¬ hi = lo := by simpa using hhl
        have HV2 : Hz (pnSpan (s, b) (lo, hi) = pn1 (pnS (s2, b2) ⟨#[32, 46, 46, 32]⟩) hi) := hide (by rw [unhide HV, if_neg hne2])
        clear HV
        go_wp2_with fail
        go_quiet (fail)
        have HP3 := hide ((unhide HP3).call (below_drewNW (Below.refl _ _) nq))
        generalize w2.drewN nq = wd at *
        have s3 : ¬ 9223372036854775807 < s2.size + 4 := by omega
        have c0 := (unhide HP3).blk.cell 0
        have f0 := (unhide HP3).blk.frozen 0
        have HP4 := hide ((unhide HP3).str (s2 ++ ⟨#[32, 46, 46, 32]⟩))
        obtain ⟨d4, d5⟩ := unhide HCL _ (unhide HP4).f
        have HRN := hide (pe_rune P (s2 ++ ⟨#[32, 46, 46, 32]⟩) b2 hi (unhide H33).2 (by rw [ByteArray.size_append]; show s2.size + 4 ≤ _; omega) W0 _ (unhide HP4))
        go_wp2_with fail
        refine (unhide HRN).mono ?_
        rintro e w3 ⟨⟨v3, rfl⟩, hp5⟩
        have HP5 := hide hp5
        clear hp5
        go_wp2_with fail
        exact ⟨⟨k + 1, by omega, rfl, hide (by rw [unhide HF, unhide HV2]; exact unhide HP5)⟩, by simp [intOf]; omega⟩
    · have k1 : ¬ ((k : Nat) : Int) < ((l.length : Nat) : Int) := by omega
      obtain rfl : k = l.length := by omega
      rw [List.take_length] at HP hz
      have HG : Hz (pnSpans (q1, q2) word l = pnS (l.foldl pnSpan (pnS (pnS (q1, q2) word) ⟨#[32, 123]⟩)) ⟨#[32, 125, 10]⟩) := hide rfl
      generalize l.foldl pnSpan (pnS (pnS (q1, q2) word) ⟨#[32, 123]⟩) = st at *
      obtain ⟨s, b⟩ := st
      dsimp only at hz HP
      have s1 : ¬ 9223372036854775807 < s.size + 3 := by omega
      have c0 := (unhide HP).blk.cell 0
      have f0 := (unhide HP).blk.frozen 0
      have HP2 := hide ((unhide HP).str (s ++ ⟨#[32, 125, 10]⟩))
      go_wp2_with fail
      go_end0
      exact ⟨⟨_, rfl⟩, by rw [unhide HG]; exact unhide HP2⟩
end Go.Proofs.YtgchlilpjkndlaaGreatDoor
