/- Texts of one byte, many times: plain mathematics. -/
import Derived.Test.YtncmabmpkdmpfaaDoorScLC2
import Derived.Test.YtncmabmpkdmpfaaDoorScBackM
namespace Go.Proofs.YtncmabmpkdmpfaaDoor
open Go.RowKit Go.Shelf
set_option linter.unusedVariables false
/-- A byte, so many times. -/
def repB (n : Nat) (c : UInt8) : ByteArray := ⟨Array.replicate n c⟩
theorem repB_size (n : Nat) (c : UInt8) : (repB n c).size = n := Array.size_replicate
theorem repB_bt (n : Nat) (c : UInt8) (i : Nat) (h : i < n) : bt (repB n c) i = c.toNat := by
  unfold bt
  rw [get_lt _ i (by rw [repB_size]; exact h)]
  simp [repB]
theorem repB_ext (n : Nat) (c : UInt8) (a b : Nat) (hb : b ≤ n) : (repB n c).extract a b = repB (b - a) c := by
  refine ext_get _ _ ?_ ?_
  · rw [ByteArray.size_extract, repB_size, repB_size]; omega
  · intro j hj
    rw [ByteArray.size_extract, repB_size] at hj
    rw [repB_bt _ _ _ (by omega)]
    unfold bt
    rw [get_extract _ a b j (by omega) (by rw [repB_size]; omega)]
    exact repB_bt n c (a + j) (by omega)
theorem repB_rst (n : Nat) (c : UInt8) (b : Nat) : rst (repB n c) b = repB (n - b) c := by
  unfold rst
  rw [repB_size, repB_ext n c b n (Nat.le_refl _)]
theorem gapGo_blank (n : Nat) (c : UInt8) (hc : blankB c.toNat = true) : ∀ f k, n ≤ k + f → k ≤ n → gapGo (repB n c) f k = (n, true)
  | 0, k, h, hk => by unfold gapGo; rw [repB_size]
  | f + 1, k, h, hk => by
    unfold gapGo
    rw [repB_size]
    by_cases hl : k < n
    · rw [if_pos hl, repB_bt n c k hl, if_pos hc]
      exact gapGo_blank n c hc f (k + 1) (by omega) (by omega)
    · rw [if_neg hl]
theorem gap_blank (n : Nat) (c : UInt8) (hc : blankB c.toNat = true) : gapV (repB n c) = (n, true) := by
  unfold gapV
  rw [repB_size]
  exact gapGo_blank n c hc n 0 (by omega) (by omega)
theorem badB_ascii (s : ByteArray) (i : Nat) (h : bt s i < 128) : badB s i = false := by
  have t := at_told s i
  unfold badB
  refine decide_eq_false ?_
  rintro ⟨a, b⟩
  rcases t.one b with q | q
  · omega
  · simp only [rn] at a; omega
theorem gap_remark (n : Nat) : gapV (repB n 35) = (n, true) := by
  by_cases h0 : n = 0
  · subst h0; rfl
  · have hnl : nlAt (repB n 35) = n := by
      unfold nlAt
      rw [repB_size, scanTo_all (p := fun k => !decide (bt (repB n 35) k = 10)) (hi := n) (m := n) n 0 (by omega) (Nat.le_refl _) (fun j _ hj => by rw [repB_bt n 35 j hj]; decide)]
      exact scanTo_end (by omega)
    have hb : badOf (repB n 35) = none := by
      unfold badOf
      rw [List.find?_eq_none]
      intro p hp
      have := (startsFrom_ge _ _ _ p hp).2
      rw [repB_size] at this
      rw [badB_ascii _ p (by rw [repB_bt n 35 p this]; decide)]
      decide
    have hr : remV (repB n 35) = (n, true) := by
      unfold remV
      rw [hnl, repB_ext n 35 0 n (Nat.le_refl _), Nat.sub_zero, hb]
      show ((repB n 35).size, true) = _
      rw [repB_size]
    unfold gapV
    rw [repB_size]
    obtain ⟨f, hf⟩ : ∃ f, n = f + 1 := ⟨n - 1, by omega⟩
    have e : ∀ f, n = f + 1 → gapGo (repB n 35) (f + 1) 0 = (n, true) := fun f hf => by
      unfold gapGo
      rw [repB_size, if_pos (by omega), repB_bt n 35 0 (by omega), if_neg (by decide), if_pos (by decide)]
      have hx : (repB n 35).extract 0 n = repB n 35 := by rw [repB_ext n 35 0 n (Nat.le_refl _), Nat.sub_zero]
      rw [hx, hr, if_pos rfl, Nat.zero_add]
      cases f with
      | zero => unfold gapGo; rw [repB_size]
      | succ f => unfold gapGo; rw [repB_size, if_neg (Nat.lt_irrefl _)]
    conv => lhs; arg 2; rw [hf]
    exact e f hf
theorem words_gap {s : ByteArray} (h : gapV s = (s.size, true)) : (wordsV s).ok = true ∧ (wordsV s).ws = [] := by
  have e1 : gB s 0 = s.size := by unfold gB; rw [rst_zero, h]; exact Nat.zero_add _
  have : wordsV s = ⟨true, gB s 0, gLC s 0 (1, 1), []⟩ := by
    unfold wordsV
    rw [cutGo.eq_2, if_neg (by rw [rst_zero, h]; exact fun q => by cases q), if_pos (by rw [e1, rst_size]; omega)]
  rw [this]
  exact ⟨rfl, rfl⟩
/-- The word that a semicolon is. -/
def semiW (i : Nat) : Wd := ⟨⟨6, ByteArray.empty, 0, 0, 1, true⟩, i, 1, i + 1, i + 1⟩
theorem word_semi (n : Nat) (h : 0 < n) : wordV (repB n 59) = ⟨6, ByteArray.empty, 0, 0, 1, true⟩ := by
  have hb : bt (repB n 59) 0 = 59 := repB_bt n 59 0 h
  have hs : sgnV (repB n 59) = (6, 1, true) := by
    unfold sgnV
    rw [hb]
    rfl
  unfold wordV
  rw [hb, if_neg (by decide), if_neg (by decide), if_neg (by decide), if_neg (by decide), hs]
theorem lc_semi (n : Nat) (h : 0 < n) (x : Nat × Nat) : lcB (repB n 59) x 1 = (x.1, x.2 + 1) := by
  unfold lcB
  rw [repB_ext n 59 0 1 (by omega)]
  rfl
theorem cut_semi (n : Nat) : ∀ f b ws, f = n - b + 1 → b ≤ n → cutGo (repB n 59) f b (1, b + 1) ws = ⟨true, n, (1, n + 1), ws ++ (List.range' b (n - b)).map semiW⟩
  | 0, b, ws, h, hb => by omega
  | f + 1, b, ws, h, hb => by
    by_cases hl : b < n
    · have hg : gapV (rst (repB n 59) b) = (0, true) := by
        rw [repB_rst]
        exact gapV_none (by rw [repB_size]; omega) (by rw [repB_bt _ _ _ (by omega)]; decide) (by rw [repB_bt _ _ _ (by omega)]; decide)
      have e1 : gB (repB n 59) b = b := by unfold gB; rw [hg]; rfl
      have e2 : gLC (repB n 59) b (1, b + 1) = (1, b + 1) := by unfold gLC; rw [hg, lcB_zero]
      have hw : wordV (rst (repB n 59) b) = ⟨6, ByteArray.empty, 0, 0, 1, true⟩ := by rw [repB_rst]; exact word_semi _ (by omega)
      rw [cutGo.eq_2, if_neg (by rw [hg]; decide), e1, if_neg (by rw [rst_size, repB_size]; omega), hw, if_neg (by decide), e2]
      have e3 : lcB (rst (repB n 59) b) (1, b + 1) 1 = (1, b + 1 + 1) := by rw [repB_rst]; exact lc_semi _ (by omega) _
      rw [e3, cut_semi n f (b + 1) _ (by omega) (by omega)]
      obtain ⟨m, hm⟩ : ∃ m, n - b = m + 1 := ⟨n - b - 1, by omega⟩
      rw [hm, List.range'_succ, List.map_cons, show n - (b + 1) = m by omega, List.append_assoc]
      rfl
    · have hbn : b = n := by omega
      subst hbn
      have hr : rst (repB b 59) b = repB 0 59 := by rw [repB_rst, Nat.sub_self]
      have hg : gapV (rst (repB b 59) b) = (0, true) := by rw [hr]; rfl
      have e1 : gB (repB b 59) b = b := by unfold gB; rw [hg]; rfl
      have e2 : gLC (repB b 59) b (1, b + 1) = (1, b + 1) := by unfold gLC; rw [hg, lcB_zero]
      rw [cutGo.eq_2, if_neg (by rw [hg]; decide), e1, if_pos (by rw [rst_size, repB_size]; omega), e2, Nat.sub_self]
      simp
theorem words_semi (n : Nat) : (wordsV (repB n 59)).ok = true ∧ (wordsV (repB n 59)).ws = (List.range' 0 n).map semiW := by
  have : wordsV (repB n 59) = ⟨true, n, (1, n + 1), [] ++ (List.range' 0 (n - 0)).map semiW⟩ := by
    unfold wordsV
    rw [repB_size]
    exact cut_semi n (n + 1) 0 [] (by omega) (by omega)
  rw [this]
  exact ⟨rfl, by simp⟩
theorem encWs_at : ∀ (ws : List Wd) (i j : Nat) (x : Wd), ws[i]? = some x → j < 8 → (encWs ws)[8 * i + j]? = (wdCells x)[j]?
  | [], i, j, x, h, _ => by simp at h
  | y :: ws, 0, j, x, h, hj => by
    obtain rfl : y = x := by simpa using h
    show (wdCells y ++ encWs ws)[8 * 0 + j]? = _
    rw [Nat.mul_zero, Nat.zero_add, List.getElem?_append_left (by show j < 8; exact hj)]
  | y :: ws, i + 1, j, x, h, hj => by
    show (wdCells y ++ encWs ws)[8 * (i + 1) + j]? = _
    rw [List.getElem?_append_right (by show 8 ≤ _; omega), show 8 * (i + 1) + j - (wdCells y).length = 8 * i + j by show 8 * (i + 1) + j - 8 = _; omega]
    exact encWs_at ws i j x (by simpa using h) hj
end Go.Proofs.YtncmabmpkdmpfaaDoor
