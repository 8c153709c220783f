/- sets.Text: the set of a text's runes. -/
import Derived.Test.YtemmflhofhngbaaNmInt
import Derived.Test.YtemmflhofhngbaaClean
namespace Go.Proofs.Ytemmflhofhngbaa
open Go.RowKit Go.Shelf
set_option linter.unusedVariables false
theorem runes3_any (s : ByteArray) (hs : s.size ≤ 70368744177664) (w : World) : Calls Try.prog 49 #[.string s] w fun e w' => ∃ cap, e = .returned (.slice (some ⟨w.heap.size, 0, none⟩) (runesL s).length cap) ∧ Sort.Holds (Value.int .i32) w' w.heap.size 0 (runesL s).toArray ∧ w.heap.size < w'.heap.size ∧ Below w.heap.size w w' := by
  refine (runes_any s hs w).mono ?_
  rintro e w' ⟨cap, rfl, hcap, cs, rfl⟩
  refine ⟨cap, rfl, fun j hj => ⟨?_, ?_⟩, by show w.heap.size < (w.drew.alloc _).heap.size; simp, ((Below.refl _ _).drew).alloc (Nat.le_refl _) _⟩
  · have hj' : j < (runesL s).length := by simpa using hj
    have := runes_cell w.drew (runesL s) cs 21 j hj'
    rw [show (⟨w.drew.heap.size, 0, none⟩ : Addr).add j = ⟨w.heap.size, 0 + j, none⟩ by unfold Addr.add; split <;> simp_all] at this
    rw [this]
    simp [List.getD, getElem!_pos, hj']
  · exact Blk.frozen (Blk.new w.drew _ _) _
theorem runesL_runeB (s : ByteArray) : ∀ x ∈ runesL s, runeB x = true := fun x hx => by
  have h := runesL_runes s x hx
  have := width_rune x
  cases e : runeB x with
  | true => rfl
  | false => rw [e] at this; simp at this; exact absurd this h
set_option maxRecDepth 100000 in
set_option maxHeartbeats 4000000 in
theorem settext_any (s : ByteArray) (hs : s.size ≤ 1000) (w : World) : Calls Try.prog 19 #[.string s] w fun e w' => ∃ (B lo0 : Nat) (us : List (Int × Int)), e = .returned (.pointer (some ⟨B, 0, none⟩)) ∧ w.heap.size ≤ lo0 ∧ Made w' B lo0 us ∧ Spread us ∧ us.length ≤ (runesL s).length ∧ (∀ r, memB us r = memB (dup (runesL s)) r) ∧ Below w.heap.size w w' := by
  have hl : (runesL s).length ≤ 1000 := by rw [runesL_length]; have := starts_length s; omega
  have HR := hide (runes3_any s (by omega) w)
  go_enter Try.func19, Try.ntmps19
  go_wp2_with fail
  refine (unhide HR).mono ?_
  rintro e w1 ⟨cap, rfl, hH, hlt, hb⟩
  have HG := hide (gather_any (some ⟨w.heap.size, 0, none⟩) cap w.heap.size (runesL s) (by omega) (runesL_runeB s) w1 hb.size (fun _ => ⟨w.heap.size, 0, rfl, Nat.le_refl _, hlt, hH⟩))
  have HB := hide hb
  clear hH hlt hb HR
  go_wp2_with fail
  refine (unhide HG).mono ?_
  rintro e w2 ⟨B, lo0, us, rfl, hlo, hM, hS, hl2, hm, hb⟩
  have HM := hide hM
  have HSS := hide hS
  have HMM := hide hm
  have HB2 := hide ((unhide HB).trans hb)
  have HLL := hide (Nat.le_trans (unhide HB).size hlo)
  clear hM hS hm hb hlo
  go_wp2_with fail
  go_ret
  exact ⟨B, lo0, us, rfl, unhide HLL, unhide HM, unhide HSS, hl2, unhide HMM, unhide HB2⟩
theorem size_spots (s : ByteArray) : ∀ f i, s.size ≤ i + f → s.size ≤ i + 4 * (startsFrom s f i).length
  | 0, i, h => by simp only [startsFrom, List.length_nil]; omega
  | f + 1, i, h => by
    by_cases hi : i < s.size
    · rw [startsFrom_cons s f i hi, List.length_cons]
      have h1 := wd_pos s i
      have h2 := wd_four s i
      have := size_spots s f (i + wd s i) (by omega)
      omega
    · rw [startsFrom_end s _ i hi]; simp; omega
theorem size_starts (s : ByteArray) : s.size ≤ 4 * (starts s).length := by
  have := size_spots s s.size 0 (by omega)
  unfold starts
  omega
end Go.Proofs.Ytemmflhofhngbaa
