/- Lines and columns, spot by spot: plain mathematics. -/
import Derived.Test.YtncmabmpkdmpfaaDoorScSeqM
namespace Go.Proofs.YtncmabmpkdmpfaaDoor
open Go.RowKit Go.Shelf
set_option linter.unusedVariables false
theorem bd_pre (s : ByteArray) (i e : Nat) (h : bdB s i = true) (hi : i ≤ e) (he : e ≤ s.size) : bdB (s.extract 0 e) i = true := by
  rw [bd_iff] at h ⊢
  intro n h4 h1 hn
  have hz : (s.extract 0 e).size = e := by rw [ByteArray.size_extract]; omega
  by_cases hb : rn (s.extract 0 e) (i - n) = 65533 ∧ wd (s.extract 0 e) (i - n) = 1
  · omega
  · have := decode_grow (s.extract 0 e) (s.extract e s.size) (i - n) (by omega) hb
    rw [cat_split s e he] at this
    unfold wd
    rw [← this]
    exact h n h4 h1 hn
theorem runes_spot (s : ByteArray) (i : Nat) (hi : i < s.size) : runesL (s.extract i (i + wd s i)) = [((rn s i : Nat) : Int)] := by
  have hr := wd_room s i hi
  have hp := wd_pos s i
  have hz : (s.extract i (i + wd s i)).size = wd s i := by rw [ByteArray.size_extract]; omega
  have hcat : s.extract i (i + wd s i) ++ s.extract (i + wd s i) s.size = rst s i := by
    rw [ByteArray.extract_append_extract]
    congr 1 <;> omega
  have hd : Utf8.decode (rst s i) 0 = Utf8.decode s i := decode_suffix s i 0 (by omega)
  have h1 : wd (rst s i) 0 = wd s i := by unfold wd; rw [hd]
  have e := decode_part (s.extract i (i + wd s i)) (s.extract (i + wd s i) s.size) 0 (by omega) (by rw [hcat, h1, hz]; omega)
  rw [hcat, hd] at e
  have hw : wd (s.extract i (i + wd s i)) 0 = wd s i := by show (Utf8.decode _ 0).2 = _; rw [e]
  have hs : starts (s.extract i (i + wd s i)) = [0] := by
    unfold starts
    obtain ⟨m, hm⟩ : ∃ m, (s.extract i (i + wd s i)).size = m + 1 := ⟨wd s i - 1, by omega⟩
    rw [hm, startsFrom_cons _ m 0 (by omega), hw, startsFrom_end _ _ _ (by omega)]
  unfold runesL
  rw [hs]
  simp only [List.map_cons, List.map_nil]
  show [(((Utf8.decode (s.extract i (i + wd s i)) 0).1 : Nat) : Int)] = _
  rw [e]
theorem runes_snoc (s : ByteArray) (i : Nat) (h : bdB s i = true) (hi : i < s.size) : runesL (s.extract 0 (i + wd s i)) = runesL (s.extract 0 i) ++ [((rn s i : Nat) : Int)] := by
  have hr := wd_room s i hi
  have hz : (s.extract 0 (i + wd s i)).size = i + wd s i := by rw [ByteArray.size_extract]; omega
  rw [runesL_split (s.extract 0 (i + wd s i)) i (by omega) (bd_pre s i _ h (by omega) hr), hz, ext_pre s _ _ (by omega), ext_mid, runes_spot s i hi]
theorem cutAt_in (s : ByteArray) (i k : Nat) (h : bdB s i = true) (h1 : i ≤ k) (h2 : k < i + wd s i) : cutAt s k = i := by
  have a := cutAt_max s k i h1 h
  have b := cutAt_le s k
  have c := cutAt_bd s k
  by_cases e : cutAt s k = i
  · exact e
  · rw [bd_within s i (cutAt s k) (by omega) (by omega)] at c
    cases c
/-- Line and column of a place, as the reference counts them. -/
def lcAt (s : ByteArray) (i : Nat) : Nat × Nat := lcR (1, 1) (runesL (s.extract 0 i))
theorem lcAt_zero (s : ByteArray) : lcAt s 0 = (1, 1) := by
  have : s.extract 0 0 = ByteArray.empty := toList_nil _ (by rw [ByteArray.size_extract]; omega)
  unfold lcAt
  rw [this]
  rfl
theorem lcAt_step (s : ByteArray) (i : Nat) (h : bdB s i = true) (hi : i < s.size) : lcAt s (i + wd s i) = if bt s i = 10 then ((lcAt s i).1 + 1, 1) else ((lcAt s i).1, (lcAt s i).2 + 1) := by
  unfold lcAt
  rw [runes_snoc s i h hi, lcR_app, lcR_cons, lcR_nil]
  by_cases e : bt s i = 10
  · rw [if_pos e, if_pos (by have := (rn_ten s i).2 e; omega)]
  · rw [if_neg e, if_neg (fun q => e ((rn_ten s i).1 (by omega)))]
theorem whL_at (s : ByteArray) (k : Nat) : whL s k = lcAt s (cutAt s k) := whL_runes s k
theorem whL_bd (s : ByteArray) (k : Nat) (h : bdB s k = true) : whL s k = lcAt s k := by rw [whL_at, cutAt_self s k h]
/-- How far a spot reaches, by what the reference reads there. -/
theorem seq4_wd (s : ByteArray) (i : Nat) (hi : i < s.size) : (if (seq4V (rst s i)).2.2 = true then i + (seq4V (rst s i)).2.1 else i + 1) = i + wd s i := by
  have hd : Utf8.decode (rst s i) 0 = Utf8.decode s i := decode_suffix s i 0 (by omega)
  have hz := rst_size s i
  by_cases hb : badB (rst s i) 0 = true
  · have e : seq4V (rst s i) = (0, begLen (rst s i), false) := by unfold seq4V; rw [if_neg (by omega), if_pos hb]
    rw [e, if_neg (fun q => by cases q)]
    unfold badB rn wd at hb
    rw [hd] at hb
    have := of_decide_eq_true hb
    show i + 1 = i + (Utf8.decode s i).2
    omega
  · have e : seq4V (rst s i) = (rn (rst s i) 0, wd (rst s i) 0, true) := by unfold seq4V; rw [if_neg (by omega), if_neg hb]
    rw [e, if_pos rfl]
    show i + (Utf8.decode (rst s i) 0).2 = _
    rw [hd]
end Go.Proofs.YtncmabmpkdmpfaaDoor
