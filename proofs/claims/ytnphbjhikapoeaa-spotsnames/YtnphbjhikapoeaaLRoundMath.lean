/- Cutting a text at a spot: the spots of its pieces. -/
import Derived.Test.YtnphbjhikapoeaaWhole
namespace Go.Proofs.Ytnphbjhikapoeaa
open Go.RowKit Go.Shelf
set_option linter.unusedVariables false

theorem pl_bound (s : ByteArray) (n : Nat) (hn : n ≤ (starts s).length) : bdB s (pl s n) = true := by
  by_cases e : n = (starts s).length
  · rw [e, pl_end]; exact bd_end s
  · exact (mem_starts s _ (pl_lt s n (by omega))).1 (List.mem_of_getElem? (pl_start s n (by omega)))
theorem cut_whole (s : ByteArray) (p : Nat) (h : p ≤ s.size) : s.extract 0 p ++ s.extract p s.size = s := by
  rw [ext_join s 0 p s.size (by omega) h (Nat.le_refl _)]
  exact ByteArray.extract_zero_size
theorem starts_cut (s : ByteArray) (n : Nat) (hn : n ≤ (starts s).length) : (starts (s.extract 0 (pl s n))).length = n := by
  have hp := pl_le s n hn
  have hw := cut_whole s (pl s n) hp
  have hz : (s.extract 0 (pl s n)).size = pl s n := by rw [ByteArray.size_extract]; omega
  have hb := pl_bound s n hn
  have hb2 : bdB (s.extract 0 (pl s n) ++ s.extract (pl s n) s.size) (s.extract 0 (pl s n)).size = true := by rw [hw, hz]; exact hb
  have e := (starts_both _ _ hb2).1
  rw [hw, hz] at e
  rcases Nat.lt_trichotomy (starts (s.extract 0 (pl s n))).length n with h | h | h
  · exfalso
    have h1 := pl_start s (starts (s.extract 0 (pl s n))).length (by omega)
    rw [e, List.getElem?_append_right (Nat.le_refl _), Nat.sub_self, List.getElem?_map] at h1
    obtain ⟨x, _, hx⟩ := Option.map_eq_some_iff.1 h1
    have h2 := pl_strict s _ n h hn
    omega
  · exact h
  · exfalso
    have hlen := congrArg List.length e
    rw [List.length_append] at hlen
    have h1 := pl_start s n (by omega)
    rw [e, List.getElem?_append_left h] at h1
    have h2 := (startsFrom_ge _ _ _ _ (List.mem_of_getElem? h1)).2
    rw [hz] at h2
    omega

theorem starts_mid (s : ByteArray) (a b : Nat) (hab : a ≤ b) (hb : b ≤ (starts s).length) : (starts (s.extract (pl s a) (pl s b))).length = b - a := by
  have h1 := pl_mono s a b hab hb
  have h2 := pl_le s b hb
  have hj := ext_join s 0 (pl s a) (pl s b) (by omega) h1 h2
  have hz : (s.extract 0 (pl s a)).size = pl s a := by rw [ByteArray.size_extract]; omega
  have hzb : (s.extract 0 (pl s b)).size = pl s b := by rw [ByteArray.size_extract]; omega
  have hla := starts_cut s a (by omega)
  have hlb := starts_cut s b hb
  have hbd : bdB (s.extract 0 (pl s b)) (pl s a) = true := by
    by_cases e : a = b
    · subst e
      have := bd_end (s.extract 0 (pl s a))
      rw [hz] at this
      exact this
    · have hlt := pl_strict s a b (by omega) hb
      refine (mem_starts _ _ (by rw [hzb]; exact hlt)).1 ?_
      have hw := cut_whole s (pl s b) h2
      have hb2 : bdB (s.extract 0 (pl s b) ++ s.extract (pl s b) s.size) (s.extract 0 (pl s b)).size = true := by rw [hw, hzb]; exact pl_bound s b hb
      have e2 := (starts_both _ _ hb2).1
      rw [hw] at e2
      have h3 := pl_start s a (by omega)
      rw [e2, List.getElem?_append_left (by omega)] at h3
      exact List.mem_of_getElem? h3
  have hb3 : bdB (s.extract 0 (pl s a) ++ s.extract (pl s a) (pl s b)) (s.extract 0 (pl s a)).size = true := by rw [hj, hz]; exact hbd
  have e3 := congrArg List.length (starts_both _ _ hb3).1
  rw [hj, List.length_append, List.length_map] at e3
  omega
end Go.Proofs.Ytnphbjhikapoeaa
