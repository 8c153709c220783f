/- Plain facts: the numbers of the spots' first bytes are just the bounds below the end; the last spot is what Last answers; how a list of spots lies in memory. -/
import Derived.Test.YthjndkjbjflmfaaLast
import Derived.Test.YthjndkjbjflmfaaRefSpots
namespace Go.Proofs.Ythjndkjbjflmfaa
open Go.RowKit Go.Shelf
set_option linter.unusedVariables false

theorem startsFrom_ge (s : ByteArray) : ∀ f i p, p ∈ startsFrom s f i → i ≤ p ∧ p < s.size
  | 0, i, p, h => by simp [startsFrom] at h
  | f + 1, i, p, h => by
    unfold startsFrom at h
    split at h
    · rename_i hi
      rcases List.mem_cons.1 h with rfl | h
      · exact ⟨Nat.le_refl _, hi⟩
      · have := startsFrom_ge s f _ p h
        exact ⟨by omega, this.2⟩
    · cases h

/-- Within a sequence there is no bound. -/
theorem bd_within (s : ByteArray) (i p : Nat) (h1 : i < p) (h2 : p < i + wd s i) : bdB s p = false := by
  have h4 := wd_four s i
  rw [← Bool.not_eq_true, bd_iff]
  intro h
  have := h (p - i) (by omega) (by omega) (by omega)
  rw [show p - (p - i) = i by omega] at this
  omega

theorem mem_startsFrom (s : ByteArray) : ∀ f i, s.size ≤ i + f → bdB s i = true → ∀ p, i ≤ p → p < s.size → (p ∈ startsFrom s f i ↔ bdB s p = true)
  | 0, i, hf, hb, p, h1, h2 => by omega
  | f + 1, i, hf, hb, p, h1, h2 => by
    have hi : i < s.size := by omega
    have hw := wd_pos s i
    rw [startsFrom_cons s f i hi, List.mem_cons]
    by_cases e : p = i
    · subst e; simp [hb]
    · by_cases hlt : p < i + wd s i
      · rw [bd_within s i p (by omega) hlt]
        constructor
        · rintro (h | h)
          · exact absurd h e
          · have := startsFrom_ge s f _ p h; omega
        · intro h; cases h
      · have := mem_startsFrom s f (i + wd s i) (by omega) (bd_step s i hb hi) p (by omega) h2
        rw [this]
        simp [e]
theorem mem_starts (s : ByteArray) (p : Nat) (h : p < s.size) : p ∈ starts s ↔ bdB s p = true := mem_startsFrom s s.size 0 (by omega) (bd_zero s) p (Nat.zero_le _) h

theorem last_startsFrom (s : ByteArray) : ∀ f i, s.size ≤ i + f → i < s.size → bdB s i = true → ∃ p, (startsFrom s f i).getLast? = some p ∧ p < s.size ∧ p + wd s p = s.size ∧ bdB s p = true
  | 0, i, hf, h, hb => by omega
  | f + 1, i, hf, hi, hb => by
    have hw := wd_pos s i
    have hr := wd_room s i hi
    rw [startsFrom_cons s f i hi]
    by_cases h : i + wd s i < s.size
    · obtain ⟨p, hp, h1, h2, h3⟩ := last_startsFrom s f (i + wd s i) (by omega) h (bd_step s i hb hi)
      refine ⟨p, ?_, h1, h2, h3⟩
      rw [List.getLast?_cons, hp]
      rfl
    · rw [startsFrom_end s f _ h]
      exact ⟨i, rfl, hi, by omega, hb⟩

theorem lastS_at (s : ByteArray) (p : Nat) (hp : p < s.size) (hw : p + wd s p = s.size) (hb : bdB s p = true) : lastS s = spotV s p := by
  have h1 := wd_pos s p
  have h4 := wd_four s p
  by_cases hbad : rn s p = 65533 ∧ wd s p = 1
  · have hall : ∀ m, m < 5 → 1 ≤ m → goodEnd s m = false := fun m hm hm1 => by
      unfold goodEnd
      refine decide_eq_false ?_
      rintro ⟨hle, hwm, hg⟩
      by_cases e : m = 1
      · subst e
        rw [show s.size - 1 = p by omega] at hg
        exact hg hbad
      · have := (bd_iff s p).1 hb (m - 1) (by omega) (by omega) (by omega)
        rw [show p - (m - 1) = s.size - m by omega] at this
        omega
    rw [lastS_none s hall]
    have e1 := hbad.1
    have e2 := hbad.2
    unfold spotV
    rw [decide_eq_true hbad, e1, e2]
    rfl
  · have hk : goodEnd s (wd s p) = true := by
      unfold goodEnd
      refine decide_eq_true ?_
      rw [show s.size - wd s p = p by omega]
      exact ⟨by omega, rfl, hbad⟩
    have := lastS_hit s (wd s p) h1 h4 hk (fun m hm hm1 => by
      unfold goodEnd
      refine decide_eq_false ?_
      rintro ⟨hle, hwm, hg⟩
      have hc := wd_cont s p (wd s p - m) (by omega) (by omega)
      rw [show p + (wd s p - m) = s.size - m by omega] at hc
      by_cases e : m = 1
      · have := (at_told s (s.size - m)).one (by show wd s (s.size - m) = 1; omega)
        rcases this with ⟨h, _⟩ | ⟨_, h⟩
        · exact hg ⟨h, by omega⟩
        · omega
      · have := wd_lead s (s.size - m) (by omega)
        omega)
    rw [this, show s.size - wd s p = p by omega]

theorem last_spot (s : ByteArray) (h : 0 < s.size) : ∃ p, (starts s).getLast? = some p ∧ p < s.size ∧ lastS s = spotV s p := by
  obtain ⟨p, h1, h2, h3, h4⟩ := last_startsFrom s s.size 0 (by omega) h (bd_zero s)
  exact ⟨p, h1, h2, lastS_at s p h2 h3 h4⟩

/-- A list of things of four cells each: the cell number j of the thing number i. -/
theorem flat4 {α : Type} (f : α → List Value) (hf : ∀ x, (f x).length = 4) : ∀ (l : List α) (i j : Nat) (x : α), l[i]? = some x → j < 4 → (l.flatMap f)[4 * i + j]? = (f x)[j]?
  | [], i, j, x, h, _ => by simp at h
  | y :: l, 0, j, x, h, hj => by
    simp at h
    subst h
    rw [List.flatMap_cons, List.getElem?_append_left (by rw [hf]; omega), Nat.mul_zero, Nat.zero_add]
  | y :: l, i + 1, j, x, h, hj => by
    simp at h
    rw [List.flatMap_cons, List.getElem?_append_right (by rw [hf]; omega), hf, show 4 * (i + 1) + j - 4 = 4 * i + j by omega]
    exact flat4 f hf l i j x h hj

/-- How a list of spots lies in memory. -/
theorem row_cells {W : World} {base : Nat} {e : TypeId} {v : Value} {l : List Nat} {s : ByteArray} (h : W.ownsRow base e 4 v l.length (l.flatMap (refCells s))) (hne : 0 < l.length) :
    ∃ g cap, v = .slice (some ⟨g, 0, none⟩) l.length cap ∧ base ≤ g ∧ g < W.heap.size ∧ l.length ≤ cap ∧ (∀ i x, l[i]? = some x → ∀ j, j < 4 → W.cell? ⟨g, 4 * i + j, none⟩ = (refCells s x)[j]?) := by
  rcases h.2 with ⟨rfl, h0⟩ | ⟨g, cap, cur, rfl, hb, hh, hc, hm, hsz, ht⟩
  · omega
  · refine ⟨g, cap, rfl, hb, (Array.getElem?_eq_some_iff.1 hh).1, hc, fun i x hx j hj => ?_⟩
    have hil : i < l.length := (List.getElem?_eq_some_iff.1 hx).1
    rw [← flat4 (refCells s) (fun _ => rfl) l i j x hx hj, ← ht, List.getElem?_take, if_pos (by omega)]
    simp [World.cell?, hh]
end Go.Proofs.Ythjndkjbjflmfaa
