/- holding, told for every rising list of numbers that begins at 0: the number of the last one that is not above n. -/
import Derived.Test.YtnphbjhikapoeaaSp
namespace Go.Proofs.Ytnphbjhikapoeaa
open Go.RowKit Go.Shelf
set_option linter.unusedVariables false

theorem less_any (a b : Int) (w : World) : Calls Try.prog 83 #[.int .i64 a, .int .i64 b] w fun e w' => e = .returned (.bool (decide (a < b))) ∧ w' = w := by
  have ha : (a != a) = false := by simp
  go_enter Try.func83, Try.ntmps83
  go_wp2_with go_in
  go_ret
  exact ⟨rfl, rfl⟩

/-- Rising. -/
def Rises (l : List Nat) : Prop := ∀ i j x y : Nat, i < j → l[i]? = some x → l[j]? = some y → x < y

set_option maxRecDepth 100000 in
set_option maxHeartbeats 4000000 in
theorem search_any (g cap : Nat) (l : List Nat) (hl : l.length ≤ 1048576) (hr : Rises l) (n : Nat) (hn : n ≤ 1048576) (W : World) (hi : IntsAt W g l) :
    Calls Try.prog 64 #[.slice (some ⟨g, 0, none⟩) l.length cap, .int .i64 n] W fun e w' => ∃ p : Nat, e = .returned (.tuple #[.int .i64 p, .bool (decide (l[p]? = some n))]) ∧ p ≤ l.length ∧ (∀ j x, j < p → l[j]? = some x → x < n) ∧ (∀ j x, p ≤ j → l[j]? = some x → n ≤ x) ∧ Below W.heap.size W w' := by
  have HI := hide hi
  have HRS := hide hr
  clear hi hr
  go_enter Try.func64, Try.ntmps64
  go_wp2
  go_loop [7, 8] (fun i j => ∃ a b : Nat, a ≤ b ∧ b ≤ l.length ∧ i = .int .i64 a ∧ j = .int .i64 b ∧ Hid (∀ j x, j < a → l[j]? = some x → x < n) ∧ Hid (∀ j x, b ≤ j → l[j]? = some x → n ≤ x)) (fun i j => (intOf j).toNat - (intOf i).toNat)
  case atStart => exact ⟨0, l.length, by omega, Nat.le_refl _, rfl, rfl, hide (fun j x hj => by omega), hide (fun j x hj hx => by have := (List.getElem?_eq_some_iff.1 hx).1; omega)⟩
  case round =>
    obtain ⟨a, b, hab, hb, rfl, rfl, H1, H2⟩ := hrel
    by_cases hlt : a < b
    · have h1 : (a : Int) < (b : Int) := by omega
      obtain ⟨x, hx⟩ : ∃ x, l[(a + b) / 2]? = some x := ⟨_, List.getElem?_eq_getElem (by omega)⟩
      have ck := unhide HI _ _ hx
      have HX := hide hx
      clear hx
      by_cases hxn : x < n
      · have hd : decide ((x : Int) < (n : Int)) = true := decide_eq_true (by omega)
        go_wp2_with (go_at_call 83; refine (less_any _ _ _).mono ?_; rintro e w' ⟨rfl, rfl⟩)
        go_round
        case rel =>
          refine ⟨(a + b) / 2 + 1, b, by omega, hb, ?_, rfl, hide (fun j y hj hy => ?_), H2⟩
          · congr 1
          · by_cases e : j = (a + b) / 2
            · subst e; rw [unhide HX] at hy; cases hy; exact hxn
            · have := unhide HRS j ((a + b) / 2) y x (by omega) hy (unhide HX); omega
        case measure => simp [intOf]; omega
      · have hd : decide ((x : Int) < (n : Int)) = false := decide_eq_false (by omega)
        go_wp2_with (go_at_call 83; refine (less_any _ _ _).mono ?_; rintro e w' ⟨rfl, rfl⟩)
        go_round
        case rel =>
          refine ⟨a, (a + b) / 2, by omega, by omega, rfl, ?_, H1, hide (fun j y hj hy => ?_)⟩
          · congr 1
          · by_cases e : j = (a + b) / 2
            · subst e; rw [unhide HX] at hy; cases hy; omega
            · have := unhide HRS ((a + b) / 2) j x y (by omega) (unhide HX) hy; omega
        case measure => simp [intOf]; omega
    · have h1 : ¬ (a : Int) < (b : Int) := by omega
      obtain rfl : a = b := by omega
      by_cases hal : a < l.length
      · obtain ⟨x, hx⟩ : ∃ x, l[a]? = some x := ⟨_, List.getElem?_eq_getElem hal⟩
        have ck := unhide HI _ _ hx
        have h2 : (a : Int) < (l.length : Int) := by omega
        have h3 : ((a : Nat) : Int).toNat = a := by omega
        have HX := hide hx
        clear hx
        by_cases hxn : x = n
        · subst hxn
          have hxe : ((x : Int) == (x : Int)) = true := by simp
          have HD := hide (show decide (l[a]? = some x) = true from decide_eq_true (unhide HX))
          go_wp2
          go_ret2
          exact ⟨a, by rw [unhide HD]; rfl, hb, unhide H1, unhide H2, Below.refl _ _⟩
        · have hxe : ((x : Int) == (n : Int)) = false := beq_eq_false_iff_ne.2 (by omega)
          have hxx : ((x : Int) != (x : Int)) = false := by simp
          have HD := hide (show decide (l[a]? = some n) = false from decide_eq_false (by rw [unhide HX]; simp; omega))
          go_wp2_with go_in
          go_ret2
          exact ⟨a, by rw [unhide HD]; rfl, hb, unhide H1, unhide H2, Below.refl _ _⟩
      · have h2 : ¬ (a : Int) < (l.length : Int) := by omega
        have HD := hide (show decide (l[a]? = some n) = false from decide_eq_false (by rw [List.getElem?_eq_none (by omega)]; simp))
        go_wp2
        go_ret2
        exact ⟨a, by rw [unhide HD]; rfl, hb, unhide H1, unhide H2, Below.refl _ _⟩

/-- Of a rising list that begins at 0: the last one that is not above n. -/
theorem holding_any (g cap : Nat) (l : List Nat) (hl : l.length ≤ 1048576) (hr : Rises l) (h0 : l[0]? = some 0) (n : Nat) (hn : n ≤ 1048576) (W : World) (hi : IntsAt W g l) :
    Calls Try.prog 41 #[.slice (some ⟨g, 0, none⟩) l.length cap, .int .i64 n] W fun e w' => ∃ p x : Nat, e = .returned (.int .i64 p) ∧ l[p]? = some x ∧ x ≤ n ∧ (∀ y, l[p + 1]? = some y → n < y) ∧ Below W.heap.size W w' := by
  have HI := hide hi
  have HRS := hide hr
  have H0 := hide h0
  clear hi hr h0
  go_enter Try.func41, Try.ntmps41
  go_wp2_with fail
  refine (search_any g cap l hl (unhide HRS) n hn _ (unhide HI)).mono ?_
  rintro e w1 ⟨p, rfl, hp, h1, h2, hb⟩
  have HB := hide hb
  have H1 := hide h1
  have H2 := hide h2
  clear hb h1 h2
  by_cases hd : l[p]? = some n
  · have hdd : decide (l[p]? = some n) = true := decide_eq_true hd
    rw [hdd]
    have HD := hide hd
    clear hd hdd
    go_wp2
    go_ret
    exact ⟨p, n, rfl, unhide HD, Nat.le_refl _, fun y hy => unhide HRS p (p + 1) n y (by omega) (unhide HD) hy, unhide HB⟩
  · have hdd : decide (l[p]? = some n) = false := decide_eq_false hd
    rw [hdd]
    have hp1 : 1 ≤ p := by
      rcases Nat.eq_zero_or_pos p with e | e
      · subst e
        have := unhide H2 0 0 (Nat.le_refl _) (unhide H0)
        exact absurd (by rw [unhide H0, show n = 0 by omega]) hd
      · exact e
    obtain ⟨x, hx⟩ : ∃ x, l[p - 1]? = some x := ⟨_, List.getElem?_eq_getElem (by omega)⟩
    have HX := hide hx
    have HD := hide hd
    have hpi : (1 : Int) ≤ (p : Int) := by omega
    clear hd hdd hx
    go_wp2
    go_ret
    refine ⟨p - 1, x, ?_, unhide HX, Nat.le_of_lt (unhide H1 (p - 1) x (by omega) (unhide HX)), fun y hy => ?_, unhide HB⟩
    · show Ending.returned (Value.int .i64 ((p : Int) - 1)) = _
      congr 2
      omega
    · rw [show p - 1 + 1 = p by omega] at hy
      have := unhide H2 p y (Nat.le_refl _) hy
      rcases Nat.lt_or_ge n y with h | h
      · exact h
      · exact absurd (by rw [hy, show y = n by omega]) (unhide HD)

theorem hold_exists (l : List Nat) (n : Nat) : ∀ k p x : Nat, l.length ≤ p + k → l[p]? = some x → x ≤ n → ∃ p' x' : Nat, l[p']? = some x' ∧ x' ≤ n ∧ ∀ y, l[p' + 1]? = some y → n < y
  | 0, p, x, hk, hx, hn => by have := (List.getElem?_eq_some_iff.1 hx).1; omega
  | k + 1, p, x, hk, hx, hn => by
    cases hy : l[p + 1]? with
    | none => exact ⟨p, x, hx, hn, fun y h => by rw [hy] at h; cases h⟩
    | some y =>
      by_cases h : y ≤ n
      · exact hold_exists l n k (p + 1) y (by omega) hy h
      · exact ⟨p, x, hx, hn, fun z hz => by rw [hy] at hz; cases hz; omega⟩
theorem hold_unique (l : List Nat) (hr : Rises l) (n p x q z : Nat) (hp : l[p]? = some x) (hx : x ≤ n) (hpn : ∀ y, l[p + 1]? = some y → n < y) (hq : l[q]? = some z) (hz : z ≤ n) (hqn : ∀ y, l[q + 1]? = some y → n < y) : p = q := by
  rcases Nat.lt_trichotomy p q with h | h | h
  · exfalso
    have hl := (List.getElem?_eq_some_iff.1 hq).1
    obtain ⟨y, hy⟩ : ∃ y, l[p + 1]? = some y := ⟨_, List.getElem?_eq_getElem (by omega)⟩
    have h1 := hpn y hy
    rcases Nat.lt_or_ge (p + 1) q with h2 | h2
    · have := hr (p + 1) q y z h2 hy hq; omega
    · rw [show q = p + 1 by omega, hy] at hq; cases hq; omega
  · exact h
  · exfalso
    have hl := (List.getElem?_eq_some_iff.1 hp).1
    obtain ⟨y, hy⟩ : ∃ y, l[q + 1]? = some y := ⟨_, List.getElem?_eq_getElem (by omega)⟩
    have h1 := hqn y hy
    rcases Nat.lt_or_ge (q + 1) p with h2 | h2
    · have := hr (q + 1) p y x h2 hy hp; omega
    · rw [show p = q + 1 by omega, hy] at hp; cases hp; omega

theorem holding_at (g cap m : Nat) (l : List Nat) (hm : l.length = m) (hl : l.length ≤ 1048576) (hr : Rises l) (h0 : l[0]? = some 0) (n p x : Nat) (hn : n ≤ 1048576) (hp : l[p]? = some x) (hx : x ≤ n) (hpn : ∀ y, l[p + 1]? = some y → n < y) (W : World) (hi : IntsAt W g l) :
    Calls Try.prog 41 #[.slice (some ⟨g, 0, none⟩) m cap, .int .i64 n] W fun e w' => e = .returned (.int .i64 p) ∧ Below W.heap.size W w' := by
  subst hm
  refine (holding_any g cap l hl hr h0 n hn W hi).mono ?_
  rintro e w' ⟨q, z, rfl, h1, h2, h3, hb⟩
  rw [hold_unique l hr n q z p x h1 h2 h3 hp hx hpn]
  exact ⟨rfl, hb⟩

theorem rises_starts (s : ByteArray) : Rises (starts s ++ [s.size]) := fun i j x y h hx hy => by
  have hj := (List.getElem?_eq_some_iff.1 hy).1
  rw [List.length_append] at hj
  simp at hj
  rw [pl_get s i (by omega)] at hx
  rw [pl_get s j (by omega)] at hy
  cases hx
  cases hy
  exact pl_strict s i j h (by omega)
theorem head_starts (s : ByteArray) : (starts s ++ [s.size])[0]? = some 0 := by rw [pl_get s 0 (by omega), pl_zero]
theorem lnsGo_low (s : ByteArray) : ∀ (l : List Nat) (k a : Nat), a ∈ lnsGo s l k → k < a ∧ a ≤ k + l.length
  | [], k, a, h => by simp [lnsGo] at h
  | x :: l, k, a, h => by
    simp only [lnsGo] at h
    split at h
    · rcases List.mem_cons.1 h with rfl | h
      · simp
      · have := lnsGo_low s l (k + 1) a h
        simp
        omega
    · have := lnsGo_low s l (k + 1) a h
      simp
      omega
theorem lnsGo_sorted (s : ByteArray) : ∀ (l : List Nat) (k : Nat), (lnsGo s l k).Pairwise (· < ·)
  | [], k => by simp [lnsGo]
  | x :: l, k => by
    simp only [lnsGo]
    split
    · refine List.pairwise_cons.2 ⟨fun a ha => ?_, lnsGo_sorted s l (k + 1)⟩
      exact (lnsGo_low s l (k + 1) a ha).1
    · exact lnsGo_sorted s l (k + 1)
theorem rises_lns (s : ByteArray) : Rises (lns s) := fun i j x y h hx hy => by
  obtain ⟨h1, e1⟩ := List.getElem?_eq_some_iff.1 hx
  obtain ⟨h2, e2⟩ := List.getElem?_eq_some_iff.1 hy
  rw [← e1, ← e2]
  have hp : (lns s).Pairwise (· < ·) := List.pairwise_cons.2 ⟨fun a ha => by have := (lnsGo_low s (starts s) 0 a ha).1; omega, lnsGo_sorted s (starts s) 0⟩
  exact List.pairwise_iff_getElem.1 hp i j h1 h2 h
theorem head_lns (s : ByteArray) : (lns s)[0]? = some 0 := rfl
theorem lns_le (s : ByteArray) (k a : Nat) (h : (lns s)[k]? = some a) : a ≤ (starts s).length := by
  have hm := List.mem_of_getElem? h
  rcases List.mem_cons.1 hm with rfl | hm
  · exact Nat.zero_le _
  · have := (lnsGo_low s (starts s) 0 a hm).2
    omega
theorem lns_pos (s : ByteArray) (k a : Nat) (h : (lns s)[k + 1]? = some a) : 1 ≤ a := by
  have := rises_lns s 0 (k + 1) 0 a (by omega) (head_lns s) h
  omega
theorem lns_length (s : ByteArray) : 1 ≤ (lns s).length ∧ (lns s).length ≤ (starts s).length + 1 := ⟨by simp [lns, lnsOf], lnsOf_length s _⟩
end Go.Proofs.Ytnphbjhikapoeaa
