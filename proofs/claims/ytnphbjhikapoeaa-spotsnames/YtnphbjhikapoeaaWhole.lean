/- SpotsWhole, for every text: the lines, with a byte 10 between each two, are the text. -/
import Derived.Test.YtnphbjhikapoeaaSp2
import Derived.Test.YtnphbjhikapoeaaEnc
import Derived.Lib.AppendStr
import Derived.Laws.IdiomStrings
import Derived.Laws.BytesArg
namespace Go.Proofs.Ytnphbjhikapoeaa
open Go.RowKit Go.Shelf
set_option linter.unusedVariables false

theorem startsFrom_next (s : ByteArray) : ∀ f i k x, s.size ≤ i + f → (startsFrom s f i)[k]? = some x → (∀ y, (startsFrom s f i)[k + 1]? = some y → y = x + wd s x) ∧ ((startsFrom s f i)[k + 1]? = none → x + wd s x = s.size)
  | 0, i, k, x, hf, h => by simp [startsFrom] at h
  | f + 1, i, k, x, hf, h => by
    by_cases hi : i < s.size
    · rw [startsFrom_cons s f i hi] at h ⊢
      have hp := wd_pos s i
      have hr := wd_room s i hi
      cases k with
      | zero =>
        simp only [List.getElem?_cons_zero, Option.some.injEq] at h
        subst h
        simp only [Nat.zero_add, List.getElem?_cons_succ]
        by_cases hn : i + wd s i < s.size
        · obtain ⟨f, rfl⟩ : ∃ g, f = g + 1 := ⟨f - 1, by omega⟩
          rw [startsFrom_cons s f _ hn]
          simp
        · rw [startsFrom_end s f _ hn]
          simp
          omega
      | succ k =>
        simp only [List.getElem?_cons_succ] at h ⊢
        exact startsFrom_next s f (i + wd s i) k x (by omega) h
    · rw [startsFrom_end s _ i hi] at h
      simp at h
theorem pl_next (s : ByteArray) (n : Nat) (h : n < (starts s).length) : pl s (n + 1) = pl s n + wd s (pl s n) := by
  obtain ⟨h1, h2⟩ := startsFrom_next s s.size 0 n (pl s n) (by omega) (pl_start s n h)
  by_cases e : n + 1 = (starts s).length
  · rw [e, pl_end]
    exact (h2 (List.getElem?_eq_none (by show (starts s).length ≤ n + 1; omega))).symm
  · exact h1 _ (pl_start s (n + 1) (by omega))

theorem nl_byte (s : ByteArray) (i : Nat) (hi : i < s.size) (h : rn s i = 10) : wd s i = 1 ∧ s.extract i (i + 1) = ⟨#[10]⟩ := by
  have hb : badB s i = false := by simp [badB, h]
  have he := enc_dec s i hi hb
  rw [h] at he
  have h10 : Utf8.encode ((10 : Nat) : Int) = ⟨#[10]⟩ := by decide
  rw [h10] at he
  have hr := wd_room s i hi
  have hsz : (s.extract i (i + wd s i)).size = 1 := by rw [← he]; rfl
  rw [ByteArray.size_extract] at hsz
  have : wd s i = 1 := by omega
  rw [this] at he
  exact ⟨this, he.symm⟩
theorem lnsGo_nl (s : ByteArray) : ∀ (l : List Nat) (k a : Nat), a ∈ lnsGo s l k → ∃ x, l[a - 1 - k]? = some x ∧ rn s x = 10
  | [], k, a, h => by simp [lnsGo] at h
  | x :: l, k, a, h => by
    simp only [lnsGo] at h
    split at h
    · rename_i hx
      rcases List.mem_cons.1 h with rfl | h
      · exact ⟨x, by simp, hx⟩
      · have h1 := (lnsGo_low s l (k + 1) a h).1
        obtain ⟨y, hy, h2⟩ := lnsGo_nl s l (k + 1) a h
        refine ⟨y, ?_, h2⟩
        rw [show a - 1 - k = (a - 1 - (k + 1)) + 1 by omega, List.getElem?_cons_succ]
        exact hy
    · have h1 := (lnsGo_low s l (k + 1) a h).1
      obtain ⟨y, hy, h2⟩ := lnsGo_nl s l (k + 1) a h
      refine ⟨y, ?_, h2⟩
      rw [show a - 1 - k = (a - 1 - (k + 1)) + 1 by omega, List.getElem?_cons_succ]
      exact hy
theorem lns_nl (s : ByteArray) (k b : Nat) (h : (lns s)[k + 1]? = some (b + 1)) : b < (starts s).length ∧ pl s (b + 1) = pl s b + 1 ∧ s.extract (pl s b) (pl s b + 1) = ⟨#[10]⟩ := by
  have hm : b + 1 ∈ lnsGo s (starts s) 0 := by
    have : (lnsGo s (starts s) 0)[k]? = some (b + 1) := by
      have h2 := h
      rw [lns, lnsOf, List.getElem?_cons_succ] at h2
      exact h2
    exact List.mem_of_getElem? this
  have hlo := (lnsGo_low s (starts s) 0 _ hm).2
  obtain ⟨x, hx, h10⟩ := lnsGo_nl s (starts s) 0 _ hm
  rw [show b + 1 - 1 - 0 = b by omega, pl_start s b (by omega)] at hx
  cases hx
  have hn := nl_byte s _ (pl_lt s b (by omega)) h10
  exact ⟨by omega, by rw [pl_next s b (by omega), hn.1], hn.2⟩
theorem ext_join (s : ByteArray) (a b c : Nat) (h1 : a ≤ b) (h2 : b ≤ c) (h3 : c ≤ s.size) : s.extract a b ++ s.extract b c = s.extract a c := by
  have hz : (s.extract a b).size = b - a := by rw [ByteArray.size_extract]; omega
  have hz2 : (s.extract b c).size = c - b := by rw [ByteArray.size_extract]; omega
  refine ext_get _ _ (by rw [ByteArray.size_append, hz, hz2, ByteArray.size_extract]; omega) (fun j hj => ?_)
  rw [ByteArray.size_append, hz, hz2] at hj
  have e2 : bt (s.extract a c) j = bt s (a + j) := by unfold bt; rw [get_extract s a c j (by omega) h3]
  by_cases h : j < b - a
  · rw [bt_left _ _ j (by omega), e2]
    unfold bt
    rw [get_extract s a b j (by omega) (by omega)]
  · have := bt_right (s.extract a b) (s.extract b c) (j - (b - a))
    rw [hz, show b - a + (j - (b - a)) = j by omega] at this
    rw [this, e2]
    unfold bt
    rw [get_extract s b c _ (by omega) h3, show b + (j - (b - a)) = a + j by omega]

open Go.Lib (strCells strCells_length)
theorem strCells_append (a b : ByteArray) : strCells (a ++ b) = strCells a ++ strCells b := by simp [strCells]
theorem infoByte : (Try.prog.info? 5).map (fun i => (i.zero, i.size, i.bytes)) = some (some (.int .u8 0), 1, 1) := by kernel_rfl
/-- The text of the first lines. -/
def upTo (s : ByteArray) : Nat → ByteArray
  | 0 => ⟨#[]⟩
  | k + 1 => match (lns s)[k + 1]? with | some y => s.extract 0 (pl s (y - 1)) | none => s
theorem upTo_succ (s : ByteArray) (k : Nat) : upTo s (k + 1) = match (lns s)[k + 1]? with | some y => s.extract 0 (pl s (y - 1)) | none => s := rfl
theorem upTo_end (s : ByteArray) : upTo s (lns s).length = s := by
  obtain ⟨h1, _⟩ := lns_length s
  obtain ⟨k, hk⟩ : ∃ k, (lns s).length = k + 1 := ⟨(lns s).length - 1, by omega⟩
  rw [hk, upTo_succ, List.getElem?_eq_none (by omega)]
theorem upTo_line (s : ByteArray) (k a b : Nat) (h : LineAt s k a b) : upTo s (k + 1) = s.extract 0 (pl s b) := by
  rw [upTo_succ]
  rcases h.2 with ⟨h1, rfl⟩ | h2
  · rw [List.getElem?_eq_none (by omega), pl_end]
    exact ByteArray.extract_zero_size.symm
  · rw [h2]
    rfl
theorem upTo_first (s : ByteArray) (a b : Nat) (h : LineAt s 0 a b) : upTo s 1 = s.extract (pl s a) (pl s b) := by
  rw [upTo_line s 0 a b h]
  have := h.1
  rw [head_lns] at this
  cases this
  rw [pl_zero]
theorem upTo_next (s : ByteArray) (k a b : Nat) (h : LineAt s (k + 1) a b) : upTo s (k + 1 + 1) = upTo s (k + 1) ++ ⟨#[10]⟩ ++ s.extract (pl s a) (pl s b) := by
  have hp := lns_pos s k a h.1
  obtain ⟨c, rfl⟩ : ∃ c, a = c + 1 := ⟨a - 1, by omega⟩
  obtain ⟨h1, h2, h3⟩ := lns_nl s k c h.1
  have hle := h.le
  have e : upTo s (k + 1) = s.extract 0 (pl s c) := by
    rw [upTo_succ, h.1]
    rfl
  rw [upTo_line s (k + 1) _ b h, e, ← h3]
  have hb := pl_mono s (c + 1) b hle.1 hle.2
  have hs := pl_le s b hle.2
  rw [ext_join s 0 (pl s c) (pl s c + 1) (by omega) (by omega) (by omega), ← h2, ext_join s 0 (pl s (c + 1)) (pl s b) (by omega) hb hs]
theorem upTo_size (s : ByteArray) (k : Nat) : (upTo s k).size ≤ s.size := by
  cases k with
  | zero => exact Nat.zero_le _
  | succ k =>
    rw [upTo_succ]
    split
    · rw [ByteArray.size_extract]; omega
    · exact Nat.le_refl _
end Go.Proofs.Ytnphbjhikapoeaa
