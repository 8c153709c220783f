/- The words of a text: what the cutter makes of it. -/
import Derived.Test.YtncmabmpkdmpfaaDoorScPass
namespace Go.Proofs.YtncmabmpkdmpfaaDoor
open Go.RowKit Go.Shelf
set_option linter.unusedVariables false
/-- A word: its kind, its text, its rune, its number, its bytes, whether it is right. -/
structure WV where
  kind : Nat
  S : ByteArray
  R : Nat
  N : Nat
  n : Nat
  ok : Bool
/-- May a text go on behind n bytes, or end there? -/
def edgeB (t : ByteArray) (n : Nat) : Bool := decide (n = t.size) || !stkB (bt t n)
def wordV (t : ByteArray) : WV :=
  if smallB (bt t 0) = true then ⟨1, t.extract 0 (nameLen t), 0, 0, nameLen t, edgeB t (nameLen t)⟩
  else if digB (bt t 0) = true then ⟨2, ByteArray.empty, 0, (numV t).1, (numV t).2, edgeB t (numV t).2⟩
  else if bt t 0 = 85 then ⟨3, ByteArray.empty, (numdV t).1, 0, (numdV t).2.1, (numdV t).2.2 && edgeB t (numdV t).2.1⟩
  else if bt t 0 = 39 then ⟨3, ByteArray.empty, (quoV t).1, 0, (quoV t).2.1, (quoV t).2.2⟩
  else ⟨(sgnV t).1, ByteArray.empty, 0, 0, (sgnV t).2.1, (sgnV t).2.2⟩
/-- A word with its place. -/
structure Wd where
  v : WV
  b : Nat
  l : Nat
  c : Nat
  e : Nat
def wdCells (x : Wd) : List Value := [.int .i64 x.v.kind, .string x.v.S, .int .i32 x.v.R, .int .i64 x.v.N, .int .i64 x.b, .int .i64 x.l, .int .i64 x.c, .int .i64 x.e]
def encWs (ws : List Wd) : List Value := ws.flatMap wdCells
theorem encWs_snoc (ws : List Wd) (x : Wd) : encWs (ws ++ [x]) = encWs ws ++ wdCells x := by simp [encWs]
/-- The text from a place on. -/
abbrev rst (s : ByteArray) (b : Nat) : ByteArray := s.extract b s.size
/-- Line and column behind n bytes of a text. -/
def lcB (t : ByteArray) (x : Nat × Nat) (n : Nat) : Nat × Nat := lcF (t.extract 0 n) x (starts (t.extract 0 n))
/-- Behind the blanks and remarks. -/
def gB (s : ByteArray) (b : Nat) : Nat := b + (gapV (rst s b)).1
def gLC (s : ByteArray) (b : Nat) (x : Nat × Nat) : Nat × Nat := lcB (rst s b) x (gapV (rst s b)).1
structure CutV where
  ok : Bool
  b : Nat
  lc : Nat × Nat
  ws : List Wd
def cutGo (s : ByteArray) : Nat → Nat → Nat × Nat → List Wd → CutV
  | 0, b, x, ws => ⟨false, b, x, ws⟩
  | f + 1, b, x, ws =>
    if (gapV (rst s b)).2 = false then ⟨false, gB s b, gLC s b x, ws⟩
    else if (rst s (gB s b)).size = 0 then ⟨true, gB s b, gLC s b x, ws⟩
    else if (wordV (rst s (gB s b))).ok = false then ⟨false, gB s b + (wordV (rst s (gB s b))).n, lcB (rst s (gB s b)) (gLC s b x) (wordV (rst s (gB s b))).n, ws⟩
    else cutGo s f (gB s b + (wordV (rst s (gB s b))).n) (lcB (rst s (gB s b)) (gLC s b x) (wordV (rst s (gB s b))).n) (ws ++ [⟨wordV (rst s (gB s b)), gB s b, (gLC s b x).1, (gLC s b x).2, gB s b + (wordV (rst s (gB s b))).n⟩])
theorem gapGo_le (t : ByteArray) : ∀ f n, n ≤ t.size → (gapGo t f n).1 ≤ t.size
  | 0, n, h => Nat.le_refl _
  | f + 1, n, h => by
    unfold gapGo
    split
    · split
      · exact gapGo_le t f (n + 1) (by omega)
      · split
        · have := remV_le (t.extract n t.size)
          rw [ByteArray.size_extract] at this
          split
          · exact gapGo_le t f _ (by omega)
          · show n + _ ≤ t.size; omega
        · exact h
    · exact Nat.le_refl _
theorem gapV_le (t : ByteArray) : (gapV t).1 ≤ t.size := gapGo_le t _ 0 (Nat.zero_le _)
theorem rst_size (s : ByteArray) (b : Nat) : (rst s b).size = s.size - b := by rw [ByteArray.size_extract]; omega
theorem gB_le (s : ByteArray) (b : Nat) (h : b ≤ s.size) : b ≤ gB s b ∧ gB s b ≤ s.size := by
  have := gapV_le (rst s b)
  rw [rst_size] at this
  unfold gB
  omega
theorem numdGo_le (t : ByteArray) : ∀ k v n, t.size ≤ n + k → n ≤ t.size → n ≤ (numdGo t v n).2 ∧ (numdGo t v n).2 ≤ t.size ∧ (v ≤ 1114111 → (numdGo t v n).1 ≤ 1114111)
  | 0, v, n, h, hn => by rw [numdGo_stop (by omega)]; exact ⟨Nat.le_refl _, hn, fun h => h⟩
  | k + 1, v, n, h, hn => by
    by_cases hc : n < t.size ∧ (n < 6 ∨ bt t 2 ≠ 48) ∧ 0 ≤ hexI (bt t n) ∧ v * 16 + (hexI (bt t n)).toNat ≤ 1114111
    · rw [numdGo_go hc]
      have := numdGo_le t k (v * 16 + (hexI (bt t n)).toNat) (n + 1) (by omega) (by omega)
      exact ⟨by omega, this.2.1, fun _ => this.2.2 hc.2.2.2⟩
    · rw [numdGo_stop hc]; exact ⟨Nat.le_refl _, hn, fun h => h⟩
theorem numdV_le (t : ByteArray) (h : 0 < t.size) : 1 ≤ (numdV t).2.1 ∧ (numdV t).2.1 ≤ t.size := by
  unfold numdV
  by_cases hc : t.size < 2 ∨ bt t 1 ≠ 43
  · rw [if_pos hc]; exact ⟨Nat.le_refl _, h⟩
  · rw [if_neg hc]
    have := numdGo_le t t.size 0 2 (by omega) (by omega)
    split <;> exact ⟨by show 1 ≤ (numdGo t 0 2).2; omega, by show (numdGo t 0 2).2 ≤ t.size; omega⟩
theorem quoV_le (t : ByteArray) (h : 0 < t.size) : 1 ≤ (quoV t).2.1 ∧ (quoV t).2.1 ≤ t.size := by
  have hz := tl1_size t
  have hb : begLen (tl1 t) ≤ (tl1 t).size := (scanTo_le _ (Nat.zero_le _)).2
  have hw := wd_room (tl1 t) 0
  unfold quoV
  split
  · exact ⟨h, Nat.le_refl _⟩
  · split
    · exact ⟨Nat.le_refl _, h⟩
    · split
      · exact ⟨by show 1 ≤ 1 + _; omega, by show 1 + _ ≤ _; omega⟩
      · split
        · exact ⟨h, Nat.le_refl _⟩
        · have := hw (by omega)
          split
          · exact ⟨by show 1 ≤ _ + 2; omega, by show _ + 2 ≤ _; omega⟩
          · exact ⟨by show 1 ≤ 1 + _; omega, by show 1 + _ ≤ _; omega⟩
theorem dotsB_iff (t : ByteArray) : dotsB t = true → 2 ≤ t.size := fun h => by
  have h2 : [46, 46] <+: t.data.toList := List.isPrefixOf_iff_prefix.1 h
  have := h2.length_le
  rw [Array.length_toList] at this
  exact this
theorem sgnV_le (t : ByteArray) (h : 0 < t.size) : (sgnV t).2.1 ≤ t.size ∧ ((sgnV t).2.2 = true → 1 ≤ (sgnV t).2.1) := by
  unfold sgnV
  repeat' split
  all_goals first
    | exact ⟨h, fun _ => Nat.le_refl _⟩
    | exact ⟨dotsB_iff t (by assumption), fun _ => by decide⟩
    | exact ⟨h, fun e => by cases e⟩
    | exact ⟨Nat.zero_le _, fun e => by cases e⟩
theorem wordV_le (t : ByteArray) (h : 0 < t.size) : (wordV t).n ≤ t.size ∧ ((wordV t).ok = true → 1 ≤ (wordV t).n) := by
  unfold wordV
  split
  · rename_i hs
    have h1 := nameLen_le t
    refine ⟨h1.1, fun _ => ?_⟩
    show 1 ≤ nameLen t
    unfold nameLen
    rw [if_neg (fun q => q.elim (by omega) (fun q => by rw [hs] at q; cases q))]
    exact (scanTo_le _ (by omega)).1
  · split
    · have := numGo_le t t.size (bt t 0 - 48) 1 (by omega) (by omega)
      exact ⟨this.2.1, fun _ => this.1⟩
    · split
      · have := numdV_le t h; exact ⟨this.2, fun _ => this.1⟩
      · split
        · have := quoV_le t h; exact ⟨this.2, fun _ => this.1⟩
        · exact sgnV_le t h
end Go.Proofs.YtncmabmpkdmpfaaDoor
