/- A text's spots from the last one on: the mathematics of Back. -/
import Derived.Test.YtnphbjhikapoeaaJoin
import Derived.Test.YtnphbjhikapoeaaBds
namespace Go.Proofs.Ytnphbjhikapoeaa
open Go.RowKit Go.Shelf
set_option linter.unusedVariables false

theorem bk_whole (s : ByteArray) (p : Nat) (h : p ≤ s.size) : s.extract 0 p ++ s.extract p s.size = s := by
  rw [ByteArray.extract_append_extract]
  rw [show min 0 p = 0 by omega, show max p s.size = s.size by omega]
  exact ByteArray.extract_zero_size
theorem bk_both (s : ByteArray) (p : Nat) (h : p ≤ s.size) (hb : bdB s p = true) : starts s = starts (s.extract 0 p) ++ (starts (s.extract p s.size)).map (p + ·) ∧ (∀ x ∈ starts (s.extract 0 p), Utf8.decode (s.extract 0 p) x = Utf8.decode s x) := by
  have hw := bk_whole s p h
  have hz : (s.extract 0 p).size = p := by rw [ByteArray.size_extract]; omega
  have h1 := starts_both (s.extract 0 p) (s.extract p s.size) (by rw [hw, hz]; exact hb)
  rw [hw, hz] at h1
  exact h1
theorem bk_filter (s : ByteArray) (p : Nat) (h : p ≤ s.size) (hb : bdB s p = true) : starts (s.extract 0 p) = (starts s).filter (· < p) := by
  have hz : (s.extract 0 p).size = p := by rw [ByteArray.size_extract]; omega
  rw [(bk_both s p h hb).1, List.filter_append, List.filter_eq_self.2, List.filter_eq_nil_iff.2, List.append_nil]
  · intro x hx
    obtain ⟨y, _, rfl⟩ := List.mem_map.1 hx
    simp
  · intro x hx
    have := (startsFrom_ge _ _ _ _ hx).2
    rw [hz] at this
    simpa using this
/-- One spot back from the place p. -/
theorem bk_step (s : ByteArray) (p : Nat) (h0 : 0 < p) (h : p ≤ s.size) (hb : bdB s p = true) : ∃ q, q < p ∧ bdB s q = true ∧ p = q + wd s q ∧ lastS (s.extract 0 p) = spotV s q ∧ starts (s.extract 0 p) = starts (s.extract 0 q) ++ [q] := by
  have hz : (s.extract 0 p).size = p := by rw [ByteArray.size_extract]; omega
  obtain ⟨q, h1, h2, h3, h4⟩ := last_startsFrom (s.extract 0 p) (s.extract 0 p).size 0 (by omega) (by omega) (bd_zero _)
  have hl := lastS_at (s.extract 0 p) q h2 h3 h4
  have hm : q ∈ starts (s.extract 0 p) := List.mem_of_getLast? h1
  have hd := (bk_both s p h hb).2 q hm
  have hms : q ∈ starts s := by rw [(bk_both s p h hb).1]; exact List.mem_append_left _ hm
  have hqs := (startsFrom_ge _ _ _ _ hms).2
  have hbq := (mem_starts s q hqs).1 hms
  rw [hz] at h2 h3
  have hwd : wd (s.extract 0 p) q = wd s q := by show (Utf8.decode _ q).2 = _; rw [hd]
  refine ⟨q, h2, hbq, by omega, ?_, ?_⟩
  · rw [hl]; simp only [spotV, rn, wd, hd]
  · have hb2 := bk_both (s.extract 0 p) q (by omega) h4
    have e2 : (s.extract 0 p).extract 0 q = s.extract 0 q := by
      rw [ByteArray.extract_extract, show 0 + 0 = 0 from rfl, show min (0 + q) p = q by omega]
    rw [e2] at hb2
    refine hb2.1.trans ?_
    have hsz : ((s.extract 0 p).extract q (s.extract 0 p).size).size = wd (s.extract 0 p) q := by rw [ByteArray.size_extract]; omega
    generalize hu : (s.extract 0 p).extract q (s.extract 0 p).size = u at *
    have hdu : wd u 0 = wd (s.extract 0 p) q := by
      have := decode_suffix (s.extract 0 p) q 0 (by omega)
      rw [hu, Nat.add_zero] at this
      show (Utf8.decode u 0).2 = _
      rw [this]
    have hpos := wd_pos (s.extract 0 p) q
    obtain ⟨f, hf⟩ : ∃ f, u.size = f + 1 := ⟨u.size - 1, by omega⟩
    have key : starts u = [0] := by
      unfold starts
      rw [hf, startsFrom_cons u f 0 (by omega), startsFrom_end u f _ (by omega)]
    rw [key]
    rfl
end Go.Proofs.Ytnphbjhikapoeaa
