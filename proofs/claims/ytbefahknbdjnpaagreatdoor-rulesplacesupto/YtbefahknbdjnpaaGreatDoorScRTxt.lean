/- The reference's Text and Legal. -/
import Derived.Test.YtbefahknbdjnpaaGreatDoorM27
import Derived.Test.YtbefahknbdjnpaaGreatDoorM36
import Derived.Test.YtbefahknbdjnpaaGreatDoorM23
import Derived.Laws.BytesArg
namespace Go.Proofs.YtbefahknbdjnpaaGreatDoor
open Go.RowKit Go.Shelf
set_option linter.unusedVariables false
theorem quo_bytes : ∀ k : Nat, k < 128 → (⟨#[39]⟩ : ByteArray) ++ Utf8.encode (k : Int) ++ ⟨#[39]⟩ = ⟨#[39, k.toUInt8, 39]⟩ := by decide +kernel
def strLen : Value → Nat
  | .string s => s.size
  | _ => 0
theorem slice_hex (d : Nat) (h : d < 16) (w : World) : (Instr.slice 9 (.string ⟨#[48, 49, 50, 51, 52, 53, 54, 55, 56, 57, 65, 66, 67, 68, 69, 70]⟩) (some (.int .i64 (d : Int))) (some (.int .i64 ((d : Int) + 1))) none).run Tryz.prog w = .ok (.string ⟨#[upD d]⟩) w :=
  match d, h with
  | 0, _ => (by kernel_rfl)
  | 1, _ => (by kernel_rfl)
  | 2, _ => (by kernel_rfl)
  | 3, _ => (by kernel_rfl)
  | 4, _ => (by kernel_rfl)
  | 5, _ => (by kernel_rfl)
  | 6, _ => (by kernel_rfl)
  | 7, _ => (by kernel_rfl)
  | 8, _ => (by kernel_rfl)
  | 9, _ => (by kernel_rfl)
  | 10, _ => (by kernel_rfl)
  | 11, _ => (by kernel_rfl)
  | 12, _ => (by kernel_rfl)
  | 13, _ => (by kernel_rfl)
  | 14, _ => (by kernel_rfl)
  | 15, _ => (by kernel_rfl)
  | n + 16, q => absurd q (by omega)
theorem conv3 (W : World) (k : Nat) (hk : k < 128) : (convert 97 9 (.slice (some ⟨W.heap.size, 0, none⟩) 3 3)).run Tryz.prog (W.alloc (.cells #[.int .u8 39, .int .u8 (k : Int), .int .u8 39] 5)) = .ok (.string ⟨#[39, k.toUInt8, 39]⟩) (W.alloc (.cells #[.int .u8 39, .int .u8 (k : Int), .int .u8 39] 5)) := by
  have hb := Blk.new W #[.int .u8 39, .int .u8 (k : Int), .int .u8 39] 5
  have hk8 : (k.toUInt8.toNat : Int) = k := by simp; omega
  have := run_convert_bytes_back (W.alloc (.cells #[.int .u8 39, .int .u8 (k : Int), .int .u8 39] 5)) 97 9 5 ⟨W.heap.size, 0, none⟩ 3 [39, k.toUInt8, 39] Tryz.underlying97 Tryz.underlying5 Tryz.underlying9 (fun j h1 => by
    rw [show (⟨W.heap.size, 0, none⟩ : Addr).add j = ⟨W.heap.size, j, none⟩ by unfold Addr.add; split <;> simp_all, hb.cell j]
    match j, h1 with
    | 0, _ => rfl
    | 1, _ => show some (Value.int .u8 (k : Int)) = some (Value.int .u8 (k.toUInt8.toNat : Int)); rw [hk8]
    | 2, _ => rfl)
  exact this
set_option maxRecDepth 100000 in
set_option maxHeartbeats 4000000 in
theorem refText_any (r : Int) (hr1 : -2147483648 ≤ r) (hr2 : r ≤ 2147483647) (w : World) : Calls Tryz.prog 23 #[.int .i32 r] w fun e w' => e = .returned (.tuple #[.string (textV r).1, .int .i64 (textV r).2]) ∧ Below w.heap.size w w' := by
  by_cases h0 : widthOf r = 0
  · have hv : textV r = (⟨#[]⟩, 12) := by unfold textV; rw [if_pos h0]
    have hsc := fun w => scalar_ref r w
    simp only [h0, ne_eq, not_true, decide_false] at hsc
    rw [hv]
    have HSC := hide hsc
    clear hv h0 hsc
    go_enter Tryz.func23, Tryz.ntmps23
    go_wp2_with fail
    refine (unhide HSC _).mono ?_
    rintro e w1 ⟨rfl, rfl⟩
    go_wp2_with fail
    go_ret2
    exact ⟨rfl, Below.refl _ _⟩
  · have hb := width_bound r h0
    have hsc := fun w => scalar_ref r w
    rw [decide_eq_true h0] at hsc
    have HSC := hide hsc
    by_cases hq : 33 ≤ r ∧ r ≤ 126 ∧ r ≠ 39
    · have hv : textV r = (⟨#[39]⟩ ++ Utf8.encode r ++ ⟨#[39]⟩, 0) := by unfold textV; rw [if_neg h0, if_pos hq]
      obtain ⟨q1, q2, q3⟩ := hq
      obtain ⟨k, rfl⟩ : ∃ k : Nat, r = k := ⟨r.toNat, by omega⟩
      rw [quo_bytes k (by omega)] at hv
      rw [hv]
      have q3' : ((k : Int) != 39) = true := by simpa using q3
      have q1' : (32 : Int) < k := by omega
      have q2' : (k : Int) < 127 := by omega
      clear hv h0 q3 hsc
      go_enter Tryz.func23, Tryz.ntmps23
      go_wp2_with fail
      refine (unhide HSC _).mono ?_
      rintro e w1 ⟨rfl, rfl⟩
      have hcv := conv3 w1 k (by omega)
      go_wp2_with fail
      go_ret2
      exact ⟨rfl, (Below.refl _ _).alloc (Nat.le_refl _) _⟩
    · have hv : textV r = (⟨#[85, 43]⟩ ++ ⟨(Lib.repeatL [48] (4 - (upS r.toNat).size)).toArray⟩ ++ upS r.toNat, 0) := by unfold textV; rw [if_neg h0, if_neg hq]
      obtain ⟨k, rfl⟩ : ∃ k : Nat, r = k := ⟨r.toNat, by omega⟩
      have hk : k ≤ 1114111 := by omega
      rw [hv]
      have ht := fun j h1 h2 h3 => text_digs k j hk h1 h2 h3
      rw [Int.toNat_natCast]
      generalize (⟨#[85, 43]⟩ : ByteArray) ++ ⟨(Lib.repeatL [48] (4 - (upS k).size)).toArray⟩ ++ upS k = T at *
      have HT := hide ht
      have hq3 : (32 : Int) < k → (k : Int) < 127 → ((k : Int) != 39) = false := fun h1 h2 => by
        have : (k : Int) = 39 := by omega
        simp [this]
      clear hv h0 hsc ht hb
      have hcase : ((32 : Int) < k ∧ (k : Int) < 127) ∨ (¬ (32 : Int) < k) ∨ ((32 : Int) < k ∧ ¬ (k : Int) < 127) := by omega
      rcases hcase with ⟨a1, a2⟩ | a1 | ⟨a1, a2⟩
      all_goals
        first | have a3 := hq3 a1 a2 | skip
        clear hq3 hq
        go_enter Tryz.func23, Tryz.ntmps23
        go_wp2_with fail
        refine (unhide HSC _).mono ?_
        rintro e w1 ⟨rfl, rfl⟩
        go_wp2_with fail
        go_loop [4, 5] (fun s n => ∃ j m : Nat, s = .string (digB8 k j) ∧ n = .int .i64 m ∧ m ≤ 1114111 ∧ j ≤ 6 ∧ Hz (m = k / 16 ^ j) ∧ Hz (j ≤ 4 ∨ k / 16 ^ (j - 1) ≠ 0)) (fun s _ => 7 - strLen s)
        case atStart => exact ⟨0, k, rfl, rfl, hk, by omega, hide (by simp), hide (.inl (by omega))⟩
        case round =>
          obtain ⟨j, m, rfl, rfl, hm, hj6, HMJ, HLJ⟩ := hrel
          have hz := digB8_size k j
          by_cases hgo : 0 < m ∨ j < 4
          · have hd16 : m % 16 < 16 := Nat.mod_lt _ (by decide)
            have hx := hexS_one (m % 16) hd16
            unfold hexS at hx
            have hst : (⟨#[upD (m % 16)]⟩ : ByteArray) ++ digB8 k j = digB8 k (j + 1) := by rw [unhide HMJ]; exact digB8_step k j
            have hj5 : j ≤ 5 := by
              rcases Nat.lt_or_ge j 6 with q | q
              · omega
              · have e : j = 6 := by omega
                rcases hgo with h | h
                · have := unhide HMJ; rw [e, Nat.div_eq_of_lt (by omega)] at this; omega
                · omega
            have hrem : Int.tmod (m : Int) 16 = ((m % 16 : Nat) : Int) := rfl
            have hdiv : Int.tdiv (m : Int) 16 = ((m / 16 : Nat) : Int) := rfl
            have HM2 : Hz (m / 16 = k / 16 ^ (j + 1)) := hide (by rw [unhide HMJ, Nat.div_div_eq_div_mul, ← Nat.pow_succ])
            have HL2 : Hz (j + 1 ≤ 4 ∨ k / 16 ^ (j + 1 - 1) ≠ 0) := hide (by
              rcases hgo with h | h
              · right; rw [Nat.add_sub_cancel, ← unhide HMJ]; omega
              · left; omega)
            generalize digB8 k j = D at *
            generalize m % 16 = d at *
            have hm2 : m / 16 < m ∨ (m = 0 ∧ m / 16 = 0) := by omega
            have hm3 : m / 16 ≤ 1114111 := by omega
            generalize m / 16 = m2 at *
            have HST := hide hst
            clear hst
            have hsl := slice_hex d hd16 w1
            clear hx
            by_cases h0 : 0 < m
            · have h0' : (0 : Int) < (m : Int) := by omega
              clear hgo
              go_wp2_with fail
              go_round
              case rel => exact ⟨j + 1, m2, by rw [← unhide HST], rfl, hm3, by omega, HM2, HL2⟩
              case measure => simp only [strLen]; simp [hz, ByteArray.size_append]; have : (⟨#[upD d]⟩ : ByteArray).size = 1 := rfl; omega
            · have h0' : ¬ (0 : Int) < (m : Int) := by omega
              have h4' : (j : Int) < 4 := by omega
              clear hgo
              go_wp2_with fail
              go_round
              case rel => exact ⟨j + 1, m2, by rw [← unhide HST], rfl, hm3, by omega, HM2, HL2⟩
              case measure => simp only [strLen]; simp [hz, ByteArray.size_append]; have : (⟨#[upD d]⟩ : ByteArray).size = 1 := rfl; omega
          · have hm0 : m = 0 := by omega
            have h4 : 4 ≤ j := by omega
            have hT : (⟨#[85, 43]⟩ : ByteArray) ++ digB8 k j = T := unhide HT j h4 (by rw [← unhide HMJ]; exact hm0) (by have := unhide HLJ; omega)
            have h0' : ¬ (0 : Int) < (m : Int) := by omega
            have h4' : ¬ (j : Int) < 4 := by omega
            generalize digB8 k j = D at *
            have HTT := hide hT
            clear hT hgo
            go_wp2_with fail
            go_ret2
            exact ⟨by rw [← unhide HTT]; rfl, Below.refl _ _⟩
theorem legR_not {s : ByteArray} (h : legalB s = false) : ¬ legR s := fun q => by rw [(legal_words s).2 q] at h; cases h
set_option maxRecDepth 100000 in
set_option maxHeartbeats 4000000 in
theorem refLegal_any (s : ByteArray) (hs : s.size ≤ 262144) (w : World) : Calls Tryz.prog 33 #[.string s] w fun e w' => e = .returned (.bool (legalB s)) ∧ Below w.heap.size w w' := by
  have hR := refWords_any s hs w
  cases ho : (wordsV s).ok
  · have hl : legalB s = false := by
      cases q : legalB s
      · rfl
      · have := ((legal_words s).1 q).1; rw [ho] at this; cases this
    rw [hl]
    simp only [rwsPost, ho] at hR
    obtain ⟨c, hc, hc0⟩ : ∃ c : Int, (if (wordsV s).b < s.size then (20 : Int) else 21) = c ∧ (c = 20 ∨ c = 21) := ⟨_, rfl, by split <;> simp⟩
    rw [hc] at hR
    generalize (wordsV s).b = b at hR
    have HR := hide hR
    clear hR hl hc
    rcases hc0 with rfl | rfl
    all_goals
      go_enter Tryz.func33, Tryz.ntmps33
      go_wp2_with fail
      refine (unhide HR).mono ?_
      rintro e w2 ⟨_, he, hb2⟩
      obtain rfl := he trivial
      have HB2 := hide hb2
      clear he hb2
      go_wp2_with fail
      go_ret
      exact ⟨rfl, unhide HB2⟩
  · simp only [rwsPost, ho] at hR
    have hlw := legal_words s
    unfold legR at hlw
    rw [ho] at hlw
    have hpl := (words_places s).1
    generalize (wordsV s).ws = ws at *
    have HR := hide hR
    have HPL := hide hpl
    clear hR hpl ho
    by_cases h1 : ws.length = 1
    · obtain ⟨x, rfl⟩ : ∃ x, ws = [x] := List.length_eq_one_iff.1 h1
      have hv : legalB s = (((x.v.kind : Int) == 1) && ((x.b : Int) == 0) && ((x.e : Int) == (s.size : Int))) := by
        rw [Bool.eq_iff_iff, hlw]
        simp only [Bool.and_eq_true, beq_iff_eq]
        constructor
        · rintro ⟨_, y, hy, h1, h2, h3⟩
          obtain rfl : x = y := by simpa using hy
          omega
        · rintro ⟨⟨h1, h2⟩, h3⟩
          exact ⟨trivial, x, rfl, by omega, by omega, by omega⟩
      rw [hv]
      have hcs : encR [x] = rdCells x := by simp [encR]
      have HCS := hide hcs
      clear hlw hv hcs HPL h1
      obtain ⟨⟨K, S, R, N, n, o⟩, b, l, c, e9⟩ := x
      have h1' : (((1 : Nat) : Int) == 1) = true := by decide
      simp only
      cases q1 : ((K : Int) == 1)
      · go_enter Tryz.func33, Tryz.ntmps33
        go_wp2_with fail
        refine (unhide HR).mono ?_
        rintro e w2 ⟨he, _, hb2⟩
        obtain ⟨v, rfl, hown⟩ := he trivial
        rw [unhide HCS] at hown
        obtain ⟨g, cap, rfl, hg, hc⟩ := own_words hown (Nat.zero_lt_one)
        have c0 := hc 0 (.int .i64 K) rfl
        have c4 := hc 4 (.int .i64 b) rfl
        have c5 := hc 5 (.int .i64 e9) rfl
        have HB2 := hide hb2
        clear he hb2 hown hc hg
        go_wp2_with fail
        go_ret
        exact ⟨rfl, unhide HB2⟩
      · cases q2 : ((b : Int) == 0)
        · go_enter Tryz.func33, Tryz.ntmps33
          go_wp2_with fail
          refine (unhide HR).mono ?_
          rintro e w2 ⟨he, _, hb2⟩
          obtain ⟨v, rfl, hown⟩ := he trivial
          rw [unhide HCS] at hown
          obtain ⟨g, cap, rfl, hg, hc⟩ := own_words hown (Nat.zero_lt_one)
          have c0 := hc 0 (.int .i64 K) rfl
          have c4 := hc 4 (.int .i64 b) rfl
          have c5 := hc 5 (.int .i64 e9) rfl
          have HB2 := hide hb2
          clear he hb2 hown hc hg
          go_wp2_with fail
          go_ret
          exact ⟨rfl, unhide HB2⟩
        · cases q3 : ((e9 : Int) == (s.size : Int))
          all_goals
            go_enter Tryz.func33, Tryz.ntmps33
            go_wp2_with fail
            refine (unhide HR).mono ?_
            rintro e w2 ⟨he, _, hb2⟩
            obtain ⟨v, rfl, hown⟩ := he trivial
            rw [unhide HCS] at hown
            obtain ⟨g, cap, rfl, hg, hc⟩ := own_words hown (Nat.zero_lt_one)
            have c0 := hc 0 (.int .i64 K) rfl
            have c4 := hc 4 (.int .i64 b) rfl
            have c5 := hc 5 (.int .i64 e9) rfl
            have HB2 := hide hb2
            clear he hb2 hown hc hg
            go_wp2_with fail
            go_ret
            exact ⟨rfl, unhide HB2⟩
    · have hl : legalB s = false := by
        cases q : legalB s
        · rfl
        · obtain ⟨_, x, hx, _⟩ := hlw.1 q; rw [hx] at h1; exact absurd rfl h1
      rw [hl]
      have h1' : ((ws.length : Int) == 1) = false := by simp; omega
      clear hlw hl h1
      go_enter Tryz.func33, Tryz.ntmps33
      go_wp2_with fail
      refine (unhide HR).mono ?_
      rintro e w2 ⟨he, _, hb2⟩
      obtain ⟨v, rfl, hown⟩ := he trivial
      have HB2 := hide hb2
      obtain ⟨a, c, rfl⟩ : ∃ a c, v = .slice a ws.length c := by
        rcases hown.2 with ⟨rfl, h0⟩ | ⟨g, cap, cur, rfl, _⟩
        · exact ⟨none, 0, by rw [h0]⟩
        · exact ⟨_, cap, rfl⟩
      clear he hb2 hown
      go_wp2_with fail
      go_ret
      exact ⟨rfl, unhide HB2⟩
end Go.Proofs.YtbefahknbdjnpaaGreatDoor
