/- Texts of this claim, one behind the other. -/
import Derived.Test.YtgchlilpjkndlaaGreatDoorM30
import Derived.Test.YtgchlilpjkndlaaGreatDoorM26
import Derived.Test.YtgchlilpjkndlaaGreatDoorM17
import Derived.Lib.TrimUEq
import Derived.KernelRfl
/- The reference's decimal (guiseref5). -/
namespace Go.Proofs.YtgchlilpjkndlaaGreatDoor
open Go.RowKit Go.Shelf
set_option linter.unusedVariables false
theorem conv1d (W : World) (u : Nat) (hu : u < 10) : (convert 97 9 (.slice (some ⟨W.heap.size, 0, none⟩) 1 1)).run Tryz.prog (W.alloc (.cells #[.int .u8 (48 + (u : Int))] 5)) = .ok (.string ⟨#[UInt8.ofNat (48 + u)]⟩) (W.alloc (.cells #[.int .u8 (48 + (u : Int))] 5)) := by
  have hb := Blk.new W #[.int .u8 (48 + (u : Int))] 5
  have hk8 : ((UInt8.ofNat (48 + u)).toNat : Int) = 48 + (u : Int) := by simp; omega
  have := run_convert_bytes_back (W.alloc (.cells #[.int .u8 (48 + (u : Int))] 5)) 97 9 5 ⟨W.heap.size, 0, none⟩ 1 [UInt8.ofNat (48 + u)] Tryz.underlying97 Tryz.underlying5 Tryz.underlying9 (fun j h1 => by
    rw [show (⟨W.heap.size, 0, none⟩ : Addr).add j = ⟨W.heap.size, j, none⟩ by unfold Addr.add; split <;> simp_all, hb.cell j]
    match j, h1 with
    | 0, _ => show some (Value.int .u8 (48 + (u : Int))) = some (Value.int .u8 ((UInt8.ofNat (48 + u)).toNat : Int)); rw [hk8])
  exact this
def decB (u : Nat) : ByteArray := ⟨(Lib.decDigits u).toArray⟩
theorem decB_small {u : Nat} (h : u < 10) : decB u = ⟨#[UInt8.ofNat (48 + u)]⟩ := by unfold decB; rw [Lib.decDigits_one h]
theorem decB_big {u : Nat} (h : ¬ u < 10) : decB u = decB (u / 10) ++ decB (u % 10) := by
  rw [decB_small (show u % 10 < 10 by omega)]
  unfold decB
  rw [Lib.decDigits, dif_neg h]
  apply ByteArray.ext
  simp
set_option maxRecDepth 100000 in
set_option maxHeartbeats 4000000 in
theorem dec_one (u : Nat) (hu : u < 10) (w : World) : Calls Tryz.prog 35 #[.int .i64 u] w fun e w' => e = .returned (.string (decB u)) ∧ Below w.heap.size w w' := by
  rw [decB_small hu]
  have k1 : ((u : Nat) : Int) < 10 := by omega
  have hcv := conv1d w u hu
  generalize UInt8.ofNat (48 + u) = z at *
  have e1 : (48 + (u : Int)) % 256 = 48 + (u : Int) := by omega
  go_enter Tryz.func35, Tryz.ntmps35
  go_wp2_with fail
  go_ret
  exact ⟨rfl, (Below.refl _ _).alloc (Nat.le_refl _) _⟩
theorem nd_le (u : Nat) : (decB u).size ≤ u + 1 := by
  induction u using Nat.strongRecOn with
  | _ u ih =>
    by_cases h : u < 10
    · rw [decB_small h]; show 1 ≤ _; omega
    · rw [decB_big h, ByteArray.size_append, decB_small (show u % 10 < 10 by omega)]
      have := ih (u / 10) (by omega)
      show _ + 1 ≤ _
      omega
set_option maxRecDepth 100000 in
set_option maxHeartbeats 4000000 in
theorem dec_any (u : Nat) : u ≤ 65535 → ∀ w : World, Calls Tryz.prog 35 #[.int .i64 u] w fun e w' => e = .returned (.string (decB u)) ∧ Below w.heap.size w w' := by
  induction u using Nat.strongRecOn with
  | _ u ih =>
    intro hu w
    by_cases h : u < 10
    · exact dec_one u h w
    · rw [decB_big h]
      have k1 : ¬ ((u : Nat) : Int) < 10 := by omega
      have H1 := hide (fun w => ih (u / 10) (by omega) (by omega) w)
      rw [show ((u / 10 : Nat) : Int) = (u : Int) / 10 by omega] at H1
      have H2 := hide (fun w => dec_one (u % 10) (by omega) w)
      rw [show ((u % 10 : Nat) : Int) = (u : Int) % 10 by omega] at H2
      have s1 := nd_le (u / 10)
      have s2 := nd_le (u % 10)
      generalize decB (u / 10) = A at *
      generalize decB (u % 10) = B at *
      have s3 : ¬ 9223372036854775807 < A.size + B.size := by omega
      clear ih
      go_enter Tryz.func35, Tryz.ntmps35
      go_wp2_with fail
      refine (unhide H1 _).mono ?_
      rintro e w1 ⟨rfl, hb1⟩
      have HB1 := hide hb1
      clear hb1
      go_wp2_with fail
      refine (unhide H2 _).mono ?_
      rintro e w2 ⟨rfl, hb2⟩
      have HB2 := hide ((unhide HB1).trans (hb2.mono (unhide HB1).size))
      clear hb2
      go_wp2_with fail
      go_ret
      exact ⟨rfl, unhide HB2⟩
theorem valid_starts (s : ByteArray) : ∀ f i, Lib.validGoD f (s.data.toList.drop i) = true ↔ ∀ p ∈ startsFrom s f i, badB s p = false
  | 0, i => ⟨fun _ p hp => (by cases hp), fun _ => rfl⟩
  | f + 1, i => by
    have hl : (s.data.toList.drop i).length = s.size - i := by rw [List.length_drop, Array.length_toList]; rfl
    unfold Lib.validGoD
    by_cases hi : i < s.size
    · have hne : ¬ s.data.toList.drop i = [] := fun e => by rw [e] at hl; have : ([] : List UInt8).length = 0 := rfl; omega
      rw [if_neg hne, startsFrom_cons s f i hi, Lib.decodeL_drop, List.drop_drop]
      by_cases hb : rn s i = 65533 ∧ wd s i = 1
      · rw [if_pos hb]
        exact ⟨fun h => (by cases h), fun h => by have := h i (List.mem_cons_self ..); unfold badB at this; rw [decide_eq_true hb] at this; cases this⟩
      · rw [if_neg hb]
        have ih := valid_starts s f (i + wd s i)
        refine ih.trans ⟨fun h p hp => ?_, fun h p hp => h p (List.mem_cons_of_mem _ hp)⟩
        rcases List.mem_cons.1 hp with rfl | hp
        · unfold badB; exact decide_eq_false hb
        · exact h p hp
    · have hne : s.data.toList.drop i = [] := List.length_eq_zero_iff.1 (by omega)
      rw [if_pos hne, startsFrom_end s _ i hi]
      exact ⟨fun _ p hp => (by cases hp), fun _ => rfl⟩
theorem okTo_iff {s : ByteArray} : okTo s = true ↔ s.size ≠ 0 ∧ ∀ p ∈ starts s, badB s p = false := by
  unfold okTo
  rw [Bool.and_eq_true, decide_eq_true_iff]
  have h := valid_starts s s.size 0
  have e : Lib.validD s.data.toList = Lib.validGoD s.size (s.data.toList.drop 0) := rfl
  rw [e]
  exact ⟨fun q => ⟨q.1, h.1 q.2⟩, fun q => ⟨q.1, h.2 q.2⟩⟩
end Go.Proofs.YtgchlilpjkndlaaGreatDoor
namespace Go.Proofs.YtgchlilpjkndlaaGreatDoor
open Go.RowKit Go.Shelf
open Go.Lib (decode_at)
set_option linter.unusedVariables false
theorem dec0 (N b0 b1 b2 b3 : Nat) (h : (128 ≤ b0 ∧ b0 < 192) ∨ (248 ≤ b0 ∧ b0 < 256)) : Lib.decodeN N b0 b1 b2 b3 = (65533, 1) := by
  unfold Lib.decodeN
  repeat' split
  all_goals first | rfl | (exfalso; omega)
theorem dec1 (N b0 b1 b2 b3 : Nat) (h0 : 192 ≤ b0) (h1 : b0 < 224) (hb : b1 < 256) : Lib.decodeN N b0 b1 b2 b3 = if (1 < N ∧ 128 ≤ b1 ∧ b1 < 192) ∧ 128 ≤ (b0 - 192) * 64 + (b1 - 128) then ((b0 - 192) * 64 + (b1 - 128), 2) else (65533, 1) := by
  have e1 : b0 % 32 = b0 - 192 := by omega
  unfold Lib.decodeN
  rw [if_neg (by omega), e1]
  by_cases hc : 1 < N ∧ 128 ≤ b1 ∧ b1 < 192
  · have e2 : b1 % 64 = b1 - 128 := by omega
    rw [if_pos (by omega), e2]
    by_cases hv : 128 ≤ (b0 - 192) * 64 + (b1 - 128)
    · rw [if_pos hv, if_pos ⟨hc, hv⟩]
    · rw [if_neg hv, if_neg (fun q => hv q.2)]
  · rw [if_neg (by omega), if_neg (by omega), if_neg (by omega), if_neg (fun q => hc q.1)]
theorem dec2 (N b0 b1 b2 b3 : Nat) (h0 : 224 ≤ b0) (h1 : b0 < 240) (hb : b1 < 256) (hb2 : b2 < 256) : Lib.decodeN N b0 b1 b2 b3 = if ((1 < N ∧ 128 ≤ b1 ∧ b1 < 192) ∧ (2 < N ∧ 128 ≤ b2 ∧ b2 < 192)) ∧ 2048 ≤ ((b0 - 224) * 64 + (b1 - 128)) * 64 + (b2 - 128) ∧ (((b0 - 224) * 64 + (b1 - 128)) * 64 + (b2 - 128) < 55296 ∨ 57343 < ((b0 - 224) * 64 + (b1 - 128)) * 64 + (b2 - 128)) then (((b0 - 224) * 64 + (b1 - 128)) * 64 + (b2 - 128), 3) else (65533, 1) := by
  have e1 : b0 % 16 = b0 - 224 := by omega
  unfold Lib.decodeN
  rw [if_neg (by omega), if_neg (by omega), e1]
  by_cases hc : (1 < N ∧ 128 ≤ b1 ∧ b1 < 192) ∧ (2 < N ∧ 128 ≤ b2 ∧ b2 < 192)
  · have e2 : b1 % 64 = b1 - 128 := by omega
    have e3 : b2 % 64 = b2 - 128 := by omega
    have e4 : (b0 - 224) * 4096 + (b1 - 128) * 64 + (b2 - 128) = ((b0 - 224) * 64 + (b1 - 128)) * 64 + (b2 - 128) := by omega
    rw [if_pos (by omega), e2, e3, e4]
    generalize hv : ((b0 - 224) * 64 + (b1 - 128)) * 64 + (b2 - 128) = v
    have hv2 : v < 65536 := by omega
    by_cases q : 2048 ≤ v ∧ (v < 55296 ∨ 57343 < v)
    · rw [if_pos (by omega), if_pos ⟨hc, q⟩]
    · rw [if_neg (by omega), if_neg (fun z => q z.2)]
  · rw [if_neg (by omega), if_neg (by omega), if_neg (fun q => hc q.1)]
theorem dec3 (N b0 b1 b2 b3 : Nat) (h0 : 240 ≤ b0) (h1 : b0 < 248) (hb : b1 < 256) (hb2 : b2 < 256) (hb3 : b3 < 256) : Lib.decodeN N b0 b1 b2 b3 = if ((1 < N ∧ 128 ≤ b1 ∧ b1 < 192) ∧ (2 < N ∧ 128 ≤ b2 ∧ b2 < 192) ∧ (3 < N ∧ 128 ≤ b3 ∧ b3 < 192)) ∧ 65536 ≤ (((b0 - 240) * 64 + (b1 - 128)) * 64 + (b2 - 128)) * 64 + (b3 - 128) ∧ (((b0 - 240) * 64 + (b1 - 128)) * 64 + (b2 - 128)) * 64 + (b3 - 128) ≤ 1114111 then ((((b0 - 240) * 64 + (b1 - 128)) * 64 + (b2 - 128)) * 64 + (b3 - 128), 4) else (65533, 1) := by
  have e1 : b0 % 8 = b0 - 240 := by omega
  unfold Lib.decodeN
  rw [if_neg (by omega), if_neg (by omega), if_neg (by omega), e1]
  by_cases hc : (1 < N ∧ 128 ≤ b1 ∧ b1 < 192) ∧ (2 < N ∧ 128 ≤ b2 ∧ b2 < 192) ∧ (3 < N ∧ 128 ≤ b3 ∧ b3 < 192)
  · have e2 : b1 % 64 = b1 - 128 := by omega
    have e3 : b2 % 64 = b2 - 128 := by omega
    have e5 : b3 % 64 = b3 - 128 := by omega
    have e4 : (b0 - 240) * 262144 + (b1 - 128) * 4096 + (b2 - 128) * 64 + (b3 - 128) = (((b0 - 240) * 64 + (b1 - 128)) * 64 + (b2 - 128)) * 64 + (b3 - 128) := by omega
    rw [if_pos (by omega), e2, e3, e5, e4]
    generalize hv : (((b0 - 240) * 64 + (b1 - 128)) * 64 + (b2 - 128)) * 64 + (b3 - 128) = v
    by_cases q : 65536 ≤ v ∧ v ≤ 1114111
    · rw [if_pos (by omega), if_pos ⟨hc, q⟩]
    · rw [if_neg (by omega), if_neg (fun z => q z.2)]
  · rw [if_neg (by omega), if_neg (fun q => hc q.1)]
def valK (s : ByteArray) (i base : Nat) : Nat → Nat
  | 0 => bt s i - base
  | k + 1 => valK s i base k * 64 + (bt s (i + (k + 1)) - 128)
def conB (s : ByteArray) (j : Nat) : Prop := j < s.size ∧ 128 ≤ bt s j ∧ bt s j < 192
theorem valK_bd (s : ByteArray) (i base : Nat) (h : bt s i - base < 32) : ∀ k, (∀ q, 1 ≤ q → q ≤ k → conB s (i + q)) → valK s i base k < 32 * 64 ^ k
  | 0, _ => by rw [Nat.pow_zero, Nat.mul_one]; exact h
  | k + 1, hc => by
    have ih := valK_bd s i base h k (fun q h1 h2 => hc q h1 (by omega))
    have hb := hc (k + 1) (by omega) (by omega)
    unfold conB at hb
    have e : valK s i base (k + 1) = valK s i base k * 64 + (bt s (i + (k + 1)) - 128) := rfl
    rw [e, Nat.pow_succ]
    generalize 64 ^ k = P at *
    omega
def cls (n : Nat) : Nat × Nat × Nat := match n with
  | 1 => (192, 224, 128)
  | 2 => (224, 240, 2048)
  | _ => (240, 248, 65536)
def scalB (v : Nat) : Bool := decide (v ≤ 1114111 ∧ (v < 55296 ∨ 57343 < v))
theorem if_both {P C : Prop} [Decidable P] {a b : Nat × Nat} (h : P ↔ C) : (C → (if P then a else b) = a) ∧ (¬ C → (if P then a else b) = b) := ⟨fun q => if_pos (h.2 q), fun q => if_neg (fun z => q (h.1 z))⟩
theorem dec_cls (s : ByteArray) (i n : Nat) (hn : n = 1 ∨ n = 2 ∨ n = 3) (h0 : (cls n).1 ≤ bt s i) (h1 : bt s i < (cls n).2.1) :
    ((∀ q, 1 ≤ q → q ≤ n → conB s (i + q)) ∧ (cls n).2.2 ≤ valK s i (cls n).1 n ∧ scalB (valK s i (cls n).1 n) = true → Utf8.decode s i = (valK s i (cls n).1 n, n + 1)) ∧ (¬ ((∀ q, 1 ≤ q → q ≤ n → conB s (i + q)) ∧ (cls n).2.2 ≤ valK s i (cls n).1 n ∧ scalB (valK s i (cls n).1 n) = true) → Utf8.decode s i = (65533, 1)) := by
  rw [decode_at]
  have hb := fun j => bt_lt s j
  have ed : Lib.decodeN (s.size - i) (s.get! i).toNat (s.get! (i + 1)).toNat (s.get! (i + 2)).toNat (s.get! (i + 3)).toNat = Lib.decodeN (s.size - i) (bt s i) (bt s (i + 1)) (bt s (i + 2)) (bt s (i + 3)) := rfl
  rw [ed]
  have q1 := hb (i + 1)
  have q2 := hb (i + 2)
  have q3 := hb (i + 3)
  rcases hn with rfl | rfl | rfl
  · have e : valK s i (cls 1).1 1 = (bt s i - 192) * 64 + (bt s (i + 1) - 128) := rfl
    rw [dec1 _ _ _ _ _ h0 h1 q1, e]
    generalize bt s i = b0 at *
    have hc : (∀ q, 1 ≤ q → q ≤ 1 → conB s (i + q)) ↔ (1 < s.size - i ∧ 128 ≤ bt s (i + 1) ∧ bt s (i + 1) < 192) := by
      constructor
      · intro h; have := h 1 (by omega) (by omega); unfold conB at this; omega
      · intro h q a b; obtain rfl : q = 1 := by omega
        unfold conB; omega
    generalize bt s (i + 1) = b1 at *
    have hv : (b0 - 192) * 64 + (b1 - 128) < 55296 ∨ ¬ (1 < s.size - i ∧ 128 ≤ b1 ∧ b1 < 192) := by
      have h1' : b0 < 224 := h1
      omega
    generalize (b0 - 192) * 64 + (b1 - 128) = v at *
    refine if_both ?_
    rw [hc]
    unfold scalB
    rw [decide_eq_true_iff]
    show _ ∧ 128 ≤ v ↔ _ ∧ 128 ≤ v ∧ _
    constructor
    · rintro ⟨a, b⟩; exact ⟨a, b, by rcases hv with q | q; omega; exact absurd a q⟩
    · rintro ⟨a, b, _⟩; exact ⟨a, b⟩
  · have e : valK s i (cls 2).1 2 = ((bt s i - 224) * 64 + (bt s (i + 1) - 128)) * 64 + (bt s (i + 2) - 128) := rfl
    rw [dec2 _ _ _ _ _ h0 h1 q1 q2, e]
    generalize bt s i = b0 at *
    have hc : (∀ q, 1 ≤ q → q ≤ 2 → conB s (i + q)) ↔ ((1 < s.size - i ∧ 128 ≤ bt s (i + 1) ∧ bt s (i + 1) < 192) ∧ (2 < s.size - i ∧ 128 ≤ bt s (i + 2) ∧ bt s (i + 2) < 192)) := by
      constructor
      · intro h; have a := h 1 (by omega) (by omega); have b := h 2 (by omega) (by omega); unfold conB at a b; omega
      · intro h q a b
        rcases (by omega : q = 1 ∨ q = 2) with rfl | rfl <;> (unfold conB; omega)
    generalize bt s (i + 1) = b1 at *
    generalize bt s (i + 2) = b2 at *
    have hv : ((b0 - 224) * 64 + (b1 - 128)) * 64 + (b2 - 128) ≤ 65535 ∨ ¬ ((1 < s.size - i ∧ 128 ≤ b1 ∧ b1 < 192) ∧ (2 < s.size - i ∧ 128 ≤ b2 ∧ b2 < 192)) := by
      have h1' : b0 < 240 := h1
      omega
    generalize ((b0 - 224) * 64 + (b1 - 128)) * 64 + (b2 - 128) = v at *
    refine if_both ?_
    rw [hc]
    unfold scalB
    rw [decide_eq_true_iff]
    show _ ∧ 2048 ≤ v ∧ _ ↔ _ ∧ 2048 ≤ v ∧ _
    constructor
    · rintro ⟨a, b, c⟩; exact ⟨a, b, by rcases hv with q | q; exact ⟨by omega, c⟩; exact absurd a q⟩
    · rintro ⟨a, b, c⟩; exact ⟨a, b, c.2⟩
  · have e : valK s i (cls 3).1 3 = (((bt s i - 240) * 64 + (bt s (i + 1) - 128)) * 64 + (bt s (i + 2) - 128)) * 64 + (bt s (i + 3) - 128) := rfl
    rw [dec3 _ _ _ _ _ h0 h1 q1 q2 q3, e]
    generalize bt s i = b0 at *
    have hc : (∀ q, 1 ≤ q → q ≤ 3 → conB s (i + q)) ↔ ((1 < s.size - i ∧ 128 ≤ bt s (i + 1) ∧ bt s (i + 1) < 192) ∧ (2 < s.size - i ∧ 128 ≤ bt s (i + 2) ∧ bt s (i + 2) < 192) ∧ (3 < s.size - i ∧ 128 ≤ bt s (i + 3) ∧ bt s (i + 3) < 192)) := by
      constructor
      · intro h; have a := h 1 (by omega) (by omega); have b := h 2 (by omega) (by omega); have c := h 3 (by omega) (by omega); unfold conB at a b c; omega
      · intro h q a b
        rcases (by omega : q = 1 ∨ q = 2 ∨ q = 3) with rfl | rfl | rfl <;> (unfold conB; omega)
    generalize bt s (i + 1) = b1 at *
    generalize bt s (i + 2) = b2 at *
    generalize bt s (i + 3) = b3 at *
    generalize (((b0 - 240) * 64 + (b1 - 128)) * 64 + (b2 - 128)) * 64 + (b3 - 128) = v at *
    refine if_both ?_
    rw [hc]
    unfold scalB
    rw [decide_eq_true_iff]
    show _ ∧ 65536 ≤ v ∧ _ ↔ _ ∧ 65536 ≤ v ∧ _
    constructor
    · rintro ⟨a, b, c⟩; exact ⟨a, b, by omega⟩
    · rintro ⟨a, b, c⟩; exact ⟨a, b, by omega⟩
theorem dec_asc (s : ByteArray) (i : Nat) (h : bt s i < 128) : rn s i = bt s i ∧ wd s i = 1 ∧ badB s i = false := by
  have e : Utf8.decode s i = (bt s i, 1) := by
    rw [decode_at]
    show Lib.decodeN _ (bt s i) _ _ _ = _
    unfold Lib.decodeN
    rw [if_pos h]
  refine ⟨by unfold rn; rw [e], by unfold wd; rw [e], ?_⟩
  unfold badB rn wd
  rw [e]
  exact decide_eq_false (by dsimp only; omega)
theorem dec_none (s : ByteArray) (i : Nat) (h : (128 ≤ bt s i ∧ bt s i < 192) ∨ 248 ≤ bt s i) : badB s i = true := by
  have hb := bt_lt s i
  have e : Utf8.decode s i = (65533, 1) := by
    rw [decode_at]
    exact dec0 _ _ _ _ _ (by show (128 ≤ bt s i ∧ bt s i < 192) ∨ (248 ≤ bt s i ∧ bt s i < 256); omega)
  unfold badB rn wd
  rw [e]
  rfl
theorem dec_yes (s : ByteArray) (i n : Nat) (hn : n = 1 ∨ n = 2 ∨ n = 3) (h0 : (cls n).1 ≤ bt s i) (h1 : bt s i < (cls n).2.1) (hc : ∀ q, 1 ≤ q → q ≤ n → conB s (i + q)) (hl : (cls n).2.2 ≤ valK s i (cls n).1 n) (hs : scalB (valK s i (cls n).1 n) = true) : rn s i = valK s i (cls n).1 n ∧ wd s i = n + 1 ∧ badB s i = false := by
  have e := (dec_cls s i n hn h0 h1).1 ⟨hc, hl, hs⟩
  refine ⟨by unfold rn; rw [e], by unfold wd; rw [e], ?_⟩
  unfold badB rn wd
  rw [e]
  exact decide_eq_false (by dsimp only; omega)
theorem dec_no (s : ByteArray) (i n : Nat) (hn : n = 1 ∨ n = 2 ∨ n = 3) (h0 : (cls n).1 ≤ bt s i) (h1 : bt s i < (cls n).2.1) (hc : ¬ ((∀ q, 1 ≤ q → q ≤ n → conB s (i + q)) ∧ (cls n).2.2 ≤ valK s i (cls n).1 n ∧ scalB (valK s i (cls n).1 n) = true)) : badB s i = true := by
  have e := (dec_cls s i n hn h0 h1).2 hc
  unfold badB rn wd
  rw [e]
  rfl
def okU (s : ByteArray) : Bool := Lib.validD s.data.toList
theorem okU_iff {s : ByteArray} : okU s = true ↔ ∀ p ∈ starts s, badB s p = false := valid_starts s s.size 0
structure RuS (s : ByteArray) (i f : Nat) (zs : List Int) : Prop where
  le : i ≤ s.size
  fu : s.size ≤ i + f
  rs : runesL s = zs ++ (startsFrom s f i).map (fun p => ((rn s p : Nat) : Int))
  ok : okU s = true ↔ ∀ p ∈ startsFrom s f i, badB s p = false
  ln : zs.length ≤ i
theorem RuS.start (s : ByteArray) : RuS s 0 s.size [] := ⟨Nat.zero_le _, by omega, rfl, okU_iff, Nat.le_refl _⟩
theorem RuS.next {s : ByteArray} {i f : Nat} {zs : List Int} (h : RuS s i f zs) (hi : i < s.size) (hb : badB s i = false) : ∃ f', RuS s (i + wd s i) f' (zs ++ [((rn s i : Nat) : Int)]) := by
  have hfu := h.fu
  obtain ⟨g, rfl⟩ : ∃ g, f = g + 1 := ⟨f - 1, by omega⟩
  have hr := h.rs
  have ho := h.ok
  rw [startsFrom_cons s g i hi] at hr ho
  have hw := wd_pos s i
  have hl := h.ln
  refine ⟨g, wd_room s i hi, by omega, ?_, ?_, by rw [List.length_append, List.length_singleton]; omega⟩
  · rw [hr, List.map_cons, List.append_assoc]; rfl
  · refine ho.trans ⟨fun q p hp => q p (List.mem_cons_of_mem _ hp), fun q p hp => ?_⟩
    rcases List.mem_cons.1 hp with rfl | hp
    · exact hb
    · exact q p hp
theorem RuS.bad {s : ByteArray} {i f : Nat} {zs : List Int} (h : RuS s i f zs) (hi : i < s.size) (hb : badB s i = true) : okU s = false := by
  have hfu := h.fu
  obtain ⟨g, rfl⟩ : ∃ g, f = g + 1 := ⟨f - 1, by omega⟩
  have ho := h.ok
  rw [startsFrom_cons s g i hi] at ho
  cases hk : okU s with
  | false => rfl
  | true =>
    have := ho.1 hk i (List.mem_cons_self ..)
    rw [hb] at this
    cases this
theorem RuS.fin {s : ByteArray} {i f : Nat} {zs : List Int} (h : RuS s i f zs) (hi : ¬ i < s.size) : okU s = true ∧ runesL s = zs := by
  have hr := h.rs
  have ho := h.ok
  rw [startsFrom_end s f i hi] at hr ho
  exact ⟨ho.2 (fun p hp => by cases hp), by rw [hr]; simp⟩
end Go.Proofs.YtgchlilpjkndlaaGreatDoor
