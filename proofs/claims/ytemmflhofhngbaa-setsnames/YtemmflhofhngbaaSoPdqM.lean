/- What a round of pdqsort keeps: mathematics. -/
import Derived.Test.YtemmflhofhngbaaM1
import Derived.Sort.LotA
import Derived.Sort.LotB
namespace Go.Proofs.Ytemmflhofhngbaa
open Go.RowKit Go.Shelf
set_option linter.unusedVariables false
theorem ltI (x y : Int) : Sort.ltInt x y = decide (x < y) := rfl
theorem ltI_t {x y : Int} (h : Sort.ltInt x y = true) : x < y := of_decide_eq_true h
theorem ltI_f {x y : Int} (h : Sort.ltInt x y = false) : y ≤ x := by have := of_decide_eq_false h; omega
theorem ltI_mk {x y : Int} (h : y ≤ x) : Sort.ltInt x y = false := decide_eq_false (by omega)
theorem swoI : Sort.SWO Sort.ltInt := ⟨fun x => ltI_mk (Int.le_refl _), fun x y z h1 h2 => decide_eq_true (by have := ltI_t h1; have := ltI_t h2; omega), fun x y z h1 h2 => ltI_mk (by have := ltI_f h1; have := ltI_f h2; omega)⟩
/-- What is left to do between a and b, so that all from a0 to b0 is sorted. -/
structure PdI (a0 b0 N : Nat) (d : Array Int) (a b : Nat) (dk : Array Int) : Prop where
  le : a ≤ b
  bN : b ≤ N
  size : dk.size = N
  bel : Sort.Below Sort.ltInt a b dk
  fin : ∀ d', Sort.PermIn a b dk d' → Sort.SortedIn Sort.ltInt a b d' → Sort.PermIn a0 b0 d d' ∧ Sort.SortedIn Sort.ltInt a0 b0 d'
theorem PdI.perm {a0 b0 N a b : Nat} {d dk dk' : Array Int} (h : PdI a0 b0 N d a b dk) (hp : Sort.PermIn a b dk dk') : PdI a0 b0 N d a b dk' :=
  ⟨h.le, h.bN, hp.1.trans h.size, h.bel.perm (by have := h.bN; have := h.size; omega) hp, fun d' h1 h2 => h.fin d' (Sort.permIn_trans _ _ _ _ _ hp h1) h2⟩
theorem PdI.eqs {a0 b0 N a b m pv : Nat} {d dk d2 : Array Int} (h : PdI a0 b0 N d a b dk) (ha : 0 < a) (hp1 : a ≤ pv) (hp2 : pv < b) (hl : Sort.ltInt dk[a - 1]! dk[pv]! = false) (he : EqOk a b m dk[pv]! dk d2) : PdI a0 b0 N d m b d2 := by
  have hN := h.bN
  have hz := h.size
  have hlow : ∀ t, a ≤ t → t < b → dk[pv]! ≤ d2[t]! := by
    have h1 : ∀ t, a ≤ t → t < b → dk[pv]! ≤ dk[t]! := fun t h1 h2 => by
      rcases h.bel with h0 | h0
      · omega
      · have := ltI_f (h0 t h1 h2)
        have := ltI_f hl
        omega
    exact Sort.permIn_all dk d2 a b (fun x => dk[pv]! ≤ x) (by omega) he.perm h1
  have heq : ∀ t, a ≤ t → t < m → d2[t]! = dk[pv]! := fun t h1 h2 => by
    have := ltI_f (he.lo t h1 h2)
    have := hlow t h1 (by have := he.mb; omega)
    omega
  have h2z : d2.size = N := he.perm.1.trans hz
  refine ⟨he.mb, hN, h2z, .inr fun t h1 h2 => ?_, fun d' h1 h2 => ?_⟩
  · refine ltI_mk ?_
    rw [heq (m - 1) (by have := he.am; omega) (by have := he.am; omega)]
    exact hlow t (by have := he.am; omega) h2
  · have ham := he.am
    have hmb := he.mb
    refine h.fin d' (Sort.permIn_trans _ _ _ _ _ he.perm (Sort.permIn_mono _ _ m b a b (by omega) (Nat.le_refl _) (by omega) h1)) (fun i j hi hij hj => ltI_mk ?_)
    have hup : ∀ t, m ≤ t → t < b → dk[pv]! < d'[t]! := Sort.permIn_all d2 d' m b (fun x => dk[pv]! < x) (by omega) h1 (fun t h3 h4 => ltI_t (he.hi t h3 h4))
    have hsame : ∀ t, a ≤ t → t < m → d'[t]! = dk[pv]! := fun t h3 h4 => (h1.2.1 t (.inl h4)).trans (heq t h3 h4)
    by_cases c1 : j < m
    · rw [hsame i hi (by omega), hsame j (by omega) c1]; exact Int.le_refl _
    · by_cases c2 : i < m
      · rw [hsame i hi c2]; have := hup j (by omega) hj; omega
      · exact ltI_f (h2 i j (by omega) hij hj)
/-- Behind a partition the left part has been sorted: the right one is left. -/
theorem PdI.left {a0 b0 N a b m : Nat} {d dk d2 L : Array Int} (h : PdI a0 b0 N d a b dk) (hp : PartOk a b m dk d2) (h1 : Sort.PermIn a m d2 L) (h2 : Sort.SortedIn Sort.ltInt a m L) : PdI a0 b0 N d (m + 1) b L := by
  have hN := h.bN
  have hz := h.size
  have ham := hp.am
  have hmb := hp.mb
  have h2z : d2.size = N := hp.perm.1.trans hz
  have hLz : L.size = N := h1.1.trans h2z
  have eL : ∀ t, m ≤ t → L[t]! = d2[t]! := fun t ht => h1.2.1 t (.inr ht)
  have hlo : ∀ t, a ≤ t → t < m → L[t]! < d2[m]! := Sort.permIn_all d2 L a m (fun x => x < d2[m]!) (by omega) h1 (fun t h3 h4 => ltI_t (hp.lo t h3 h4))
  have hhi : ∀ t, m < t → t < b → d2[m]! ≤ L[t]! := fun t h3 h4 => by rw [eL t (by omega)]; exact ltI_f (hp.hi t h3 h4)
  refine ⟨by omega, hN, hLz, .inr fun t h3 h4 => ltI_mk ?_, fun d' h3 h4 => ?_⟩
  · rw [Nat.add_sub_cancel, eL m (Nat.le_refl _)]; exact hhi t (by omega) h4
  · have eD : ∀ t, t ≤ m → d'[t]! = L[t]! := fun t ht => h3.2.1 t (.inl (by omega))
    have hD : ∀ t, m + 1 ≤ t → t < b → d2[m]! ≤ d'[t]! := Sort.permIn_all L d' (m + 1) b (fun x => d2[m]! ≤ x) (by omega) h3 (fun t h5 h6 => hhi t (by omega) h6)
    refine h.fin d' (Sort.permIn_trans _ _ _ _ _ hp.perm (Sort.permIn_trans _ _ _ _ _ (Sort.permIn_mono _ _ a m a b (Nat.le_refl _) (by omega) (by omega) h1) (Sort.permIn_mono _ _ (m + 1) b a b (by omega) (Nat.le_refl _) (by omega) h3))) (fun i j hi hij hj => ltI_mk ?_)
    by_cases c1 : j ≤ m
    · rw [eD i (by omega), eD j c1]
      by_cases c2 : j = m
      · subst c2; rw [eL j (Nat.le_refl _)]; have := hlo i hi (by omega); omega
      · exact ltI_f (h2 i j hi hij (by omega))
    · have hj2 := hD j (by omega) hj
      by_cases c2 : i ≤ m
      · rw [eD i c2]
        by_cases c3 : i = m
        · subst c3; rw [eL i (Nat.le_refl _)]; exact hj2
        · have := hlo i hi (by omega); omega
      · exact ltI_f (h4 i j (by omega) hij hj)
/-- The right part has been sorted: the left one is left. -/
theorem PdI.right {a0 b0 N a b m : Nat} {d dk d2 L : Array Int} (h : PdI a0 b0 N d a b dk) (hp : PartOk a b m dk d2) (h1 : Sort.PermIn (m + 1) b d2 L) (h2 : Sort.SortedIn Sort.ltInt (m + 1) b L) : PdI a0 b0 N d a m L := by
  have hN := h.bN
  have hz := h.size
  have ham := hp.am
  have hmb := hp.mb
  have h2z : d2.size = N := hp.perm.1.trans hz
  have hLz : L.size = N := h1.1.trans h2z
  have eL : ∀ t, t ≤ m → L[t]! = d2[t]! := fun t ht => h1.2.1 t (.inl (by omega))
  have hlo : ∀ t, a ≤ t → t < m → L[t]! < d2[m]! := fun t h3 h4 => by rw [eL t (by omega)]; exact ltI_t (hp.lo t h3 h4)
  have hhi : ∀ t, m + 1 ≤ t → t < b → d2[m]! ≤ L[t]! := Sort.permIn_all d2 L (m + 1) b (fun x => d2[m]! ≤ x) (by omega) h1 (fun t h3 h4 => ltI_f (hp.hi t (by omega) h4))
  have hb2 : Sort.Below Sort.ltInt a b d2 := h.bel.perm (by omega) hp.perm
  refine ⟨ham, by omega, hLz, ?_, fun d' h3 h4 => ?_⟩
  · rcases hb2 with h0 | h0
    · exact .inl h0
    · by_cases ha : a = 0
      · exact .inl ha
      · exact .inr fun t h5 h6 => by rw [eL t (by omega), eL (a - 1) (by omega)]; exact h0 t h5 (by omega)
  · have eD : ∀ t, m ≤ t → d'[t]! = L[t]! := fun t ht => h3.2.1 t (.inr ht)
    have hD : ∀ t, a ≤ t → t < m → d'[t]! < d2[m]! := Sort.permIn_all L d' a m (fun x => x < d2[m]!) (by omega) h3 hlo
    refine h.fin d' (Sort.permIn_trans _ _ _ _ _ hp.perm (Sort.permIn_trans _ _ _ _ _ (Sort.permIn_mono _ _ (m + 1) b a b (by omega) (Nat.le_refl _) (by omega) h1) (Sort.permIn_mono _ _ a m a b (Nat.le_refl _) (by omega) (by omega) h3))) (fun i j hi hij hj => ltI_mk ?_)
    by_cases c1 : j < m
    · exact ltI_f (h4 i j hi hij c1)
    · rw [eD j (by omega)]
      have hj2 : d2[m]! ≤ L[j]! := by
        by_cases c2 : j = m
        · subst c2; rw [eL j (Nat.le_refl _)]; exact Int.le_refl _
        · exact hhi j (by omega) hj
      by_cases c3 : i < m
      · have := hD i hi c3; omega
      · rw [eD i (by omega)]
        by_cases c4 : i = m
        · subst c4; rw [eL i (Nat.le_refl _)]; exact hj2
        · exact ltI_f (h2 i j (by omega) hij hj)
end Go.Proofs.Ytemmflhofhngbaa
