/- The bytes ahead of the last hyphen: which of them may not be. -/
import Derived.Lib.ConvBytes
import Derived.Test.YthjndkjbjflmfaaBtH
import Derived.Test.YthjndkjbjflmfaaBtL
namespace Go.Proofs.Ythjndkjbjflmfaa
open Go.RowKit Go.Shelf
set_option linter.unusedVariables false
/-- The first byte that may not be, and why; (0, 0): there is none. -/
def refF (s : ByteArray) : Nat → Nat → Nat × Int
  | 0, i => (0, 0)
  | f + 1, i => if s.size ≤ i then (0, 0) else if i = 4096 then (i, 4) else if basicB (bt s i) then refF s f (i + 1) else (i, 50)
def refV (s : ByteArray) : Nat × Int := refF s s.size 0
theorem refF_end {s : ByteArray} {f i : Nat} (h : s.size ≤ i) : refF s f i = (0, 0) := by
  cases f with
  | zero => rfl
  | succ f => unfold refF; rw [if_pos h]
theorem refF_many {s : ByteArray} {f i : Nat} (h : ¬ s.size ≤ i) (h4 : i = 4096) : refF s (f + 1) i = (i, 4) := by
  unfold refF; rw [if_neg h, if_pos h4]
theorem refF_bad {s : ByteArray} {f i : Nat} (h : ¬ s.size ≤ i) (h4 : ¬ i = 4096) (hb : basicB (bt s i) = false) : refF s (f + 1) i = (i, 50) := by
  unfold refF; rw [if_neg h, if_neg h4, if_neg (by rw [hb]; decide)]
theorem refF_next {s : ByteArray} {f i : Nat} (h : ¬ s.size ≤ i) (h4 : ¬ i = 4096) (hb : basicB (bt s i) = true) : refF s (f + 1) i = refF s f (i + 1) := by
  rw [refF]; rw [if_neg h, if_neg h4, if_pos hb]
set_option maxRecDepth 100000 in
set_option maxHeartbeats 4000000 in
theorem refused_any (s : ByteArray) (hs : s.size ≤ 65536) (w : World) : Calls Try.prog 28 #[.string s] w fun e w' => e = .returned (.tuple #[.int .i64 (refV s).1, .int .i64 (refV s).2]) ∧ Below w.heap.size w w' := by
  have kc := fun w => Lib.run_convert_string_bytes (P := Try.prog) w 9 43 5 s Try.underlying9 Try.underlying43 Try.underlying5
  have B0 : Below w.heap.size w (Lib.bytesWorld w 5 s) := ⟨rfl, rfl, rfl, by rw [Lib.bytesWorld_size]; omega, fun k hk => Lib.bytesWorld_at_old w 5 s k hk⟩
  have C0 : ∀ j (hj : j < s.size), (Lib.bytesWorld w 5 s).cell? ⟨w.heap.size, j, none⟩ = some (.int .u8 (bt s j : Int)) := fun j hj => by
    rw [Lib.bytesWorld_cell w 5 s j hj, bt_get s j hj]
    congr 3
    rw [List.getD_eq_getElem?_getD, Array.getElem?_toList]
    have : s.data[j]? = some (s[j]'hj) := Array.getElem?_eq_getElem hj
    rw [this]; rfl
  have kc0 := kc w
  clear kc
  unfold refV
  have ST : ∃ i f : Nat, (Value.int .i64 0) = .int .i64 i ∧ s.size = f + i ∧ refF s f i = refF s s.size 0 := ⟨0, s.size, rfl, by omega, rfl⟩
  generalize refF s s.size 0 = R at *
  generalize Lib.bytesWorld w 5 s = W1 at *
  generalize grownCap w s.size 0 5 = cap at *
  have HB := hide B0
  have HC := hide C0
  have HST := hide ST
  clear B0 C0 ST
  go_enter Try.func28, Try.ntmps28
  go_wp2_with fail
  go_loopw [9] (fun x wr => (∃ i f : Nat, x = .int .i64 i ∧ s.size = f + i ∧ refF s f i = R) ∧ ∃ q, wr = W1.drewN q) (fun x _ => s.size - (intOf x).toNat)
  case atStart => exact ⟨unhide HST, 0, rfl⟩
  case round =>
    obtain ⟨⟨i, f, rfl, hf, hR⟩, q, rfl⟩ := hrel
    have HF := hide hf
    clear hf
    by_cases hi : i < s.size
    · have hi1 : (i : Int) < (s.size : Int) := by omega
      have hin : ¬ s.size ≤ i := by omega
      have ci : (W1.drewN q).cell? ⟨w.heap.size, i, none⟩ = some (.int .u8 (bt s i : Int)) := unhide HC i hi
      have hb8 : (bt s i : Int) < 256 := by have := bt_lt s i; omega
      have hb0 : (0 : Int) ≤ (bt s i : Int) := by omega
      have hw8 : widthOf (bt s i : Int) ≠ 0 := by unfold widthOf; repeat' split <;> omega
      obtain ⟨g, rfl⟩ : ∃ g, f = g + 1 := ⟨f - 1, by have := unhide HF; omega⟩
      have IS := fun w => isBasic_any hw8 (by omega) w
      have hrb := refF_bad (f := g) hin
      have hrn := refF_next (f := g) hin
      obtain ⟨b, hb⟩ : ∃ b : Int, (bt s i : Int) = b := ⟨_, rfl⟩
      rw [hb] at ci hb8 hb0 IS hrb hrn
      obtain ⟨c, hc⟩ : ∃ c, basicB b = c := ⟨_, rfl⟩
      rw [hc] at IS hrb hrn
      have HIS := hide IS
      have HRB := hide hrb
      have HRN := hide hrn
      clear IS hrb hrn hw8 hb hc
      by_cases h4 : i = 4096
      · obtain rfl : R = (i, 4) := hR.symm.trans (refF_many hin h4)
        subst h4
        go_wp2_with fail
        go_ret2
        exact ⟨rfl, below_drewC (unhide HB) _⟩
      · have h4n : ((i : Int) == 4096) = false := by rw [beq_eq_false_iff_ne]; omega
        cases c with
        | false =>
          obtain rfl : R = (i, 50) := hR.symm.trans (unhide HRB h4 rfl)
          go_wp2_with (go_at_call 40; refine (unhide HIS _).mono ?_; rintro e w1 ⟨rfl, q2, rfl⟩)
          go_ret2
          exact ⟨rfl, below_drewC (unhide HB) _⟩
        | true =>
          have HR2 := hide ((unhide HRN h4 rfl).symm.trans hR)
          clear hR
          go_wp2_with (go_at_call 40; refine (unhide HIS _).mono ?_; rintro e w1 ⟨rfl, q2, rfl⟩)
          go_roundw
          case rel => exact ⟨⟨i + 1, g, by go_num, by have := unhide HF; omega, unhide HR2⟩, _, rfl⟩
          case measure => simp [intOf]; omega
    · have hi1 : ¬ (i : Int) < (s.size : Int) := by omega
      obtain rfl : R = (0, 0) := hR.symm.trans (refF_end (by omega))
      go_wp2_with fail
      go_ret2
      exact ⟨rfl, below_drewC (unhide HB) _⟩
end Go.Proofs.Ythjndkjbjflmfaa
