/- Texts of ASCII alone; where the last hyphen stands. -/
import Derived.Test.YthjndkjbjflmfaaBtO
namespace Go.Proofs.Ythjndkjbjflmfaa
set_option linter.unusedVariables false
open Go.Lib (decodeN decode_at)
theorem decode_lo {s : ByteArray} {i : Nat} (hi : i < s.size) (h : bt s i < 128) : Utf8.decode s i = (bt s i, 1) := by
  rw [decode_at]
  unfold decodeN
  rw [if_pos h]
theorem startsFrom_lo {s : ByteArray} (h : ∀ j, j < s.size → bt s j < 128) : ∀ f i, i + f = s.size → startsFrom s f i = (List.range f).map (fun k => i + k)
  | 0, i, e => rfl
  | f + 1, i, e => by
    have hi : i < s.size := by omega
    have hd := decode_lo hi (h i hi)
    have hw : wd s i = 1 := by unfold wd; rw [hd]
    rw [startsFrom, if_pos hi, hw, startsFrom_lo h f (i + 1) (by omega), List.range_succ_eq_map, List.map_cons, List.map_map]
    congr 1
    apply List.map_congr_left
    intro k _
    simp; omega
/-- The first bytes, as numbers. -/
def bytesH (s : ByteArray) (n : Nat) : List Int := (List.range n).map (fun j => (bt s j : Int))
theorem bytesH_len (s : ByteArray) (n : Nat) : (bytesH s n).length = n := by simp [bytesH]
theorem bytesH_snoc (s : ByteArray) (n : Nat) : bytesH s (n + 1) = bytesH s n ++ [(bt s n : Int)] := by simp [bytesH, List.range_succ]
theorem runesL_lo {s : ByteArray} (h : ∀ j, j < s.size → bt s j < 128) : runesL s = bytesH s s.size := by
  unfold runesL starts bytesH
  rw [startsFrom_lo h s.size 0 (by omega), List.map_map]
  apply List.map_congr_left
  intro k hk
  have hk := List.mem_range.1 hk
  have hd := decode_lo hk (h k hk)
  simp only [Function.comp, Nat.zero_add]
  unfold rn
  rw [hd]
theorem basic_lo {b : Int} (h : basicB b = true) : 0 ≤ b ∧ b < 128 := by
  unfold basicB at h
  have := of_decide_eq_true h
  omega
theorem bt_head (a : ByteArray) (m j : Nat) (hm : m ≤ a.size) (hj : j < m) : bt (a.extract 0 m) j = bt a j := by
  have h1 : j < (a.extract 0 m).size := by rw [ByteArray.size_extract]; omega
  rw [bt_get _ j h1, bt_get a j (by omega)]
  congr 1
  simp [ByteArray.getElem_extract]
theorem lastH_of {a : ByteArray} {k : Int} (h1 : ∀ j : Nat, k < j → j < a.size → bt a j ≠ 45) (h2 : k = -1 ∨ ∃ i : Nat, k = i ∧ i < a.size ∧ bt a i = 45) : lastH a = k := by
  have hb : ∀ j, j < a.size → ((a.data[j]!).toNat : Int) = (bt a j : Int) := fun j hj => by
    rw [bt_get a j hj]
    have : a.data[j]! = a[j]'hj := by
      have hj' : j < a.data.size := hj
      rw [getElem!_pos a.data j hj']; rfl
    rw [this]
  unfold lastH
  rcases Lib.lastIndexByte_spec a 45 with ⟨e, h⟩ | ⟨i, hi, e, h3, h4⟩
  · rcases h2 with h2 | ⟨i, rfl, hi, hb2⟩
    · rw [e, h2]
    · exact absurd (by rw [hb i hi, hb2]; rfl) (h i hi)
  · rw [hb i hi] at h3
    rcases h2 with h2 | ⟨i', rfl, hi', hb2⟩
    · exact absurd (by omega) (h1 i (by omega) hi)
    · rw [e]
      rcases Nat.lt_trichotomy i i' with h | h | h
      · exact absurd (by rw [hb i' hi', hb2]; rfl) (h4 i' h hi')
      · rw [h]
      · exact absurd (by omega) (h1 i (by omega) hi)
theorem own_baseB {W : World} {base base' e size n : Nat} {v : Value} {xs : List Value} (h : W.ownsRow base e size v n xs) (hb : base' ≤ base) : W.ownsRow base' e size v n xs :=
  ⟨h.1, h.2.imp id (fun ⟨g, cap, cur, h1, h2, h3⟩ => ⟨g, cap, cur, h1, Nat.le_trans hb h2, h3⟩)⟩
end Go.Proofs.Ythjndkjbjflmfaa
