/- Texts of this claim, one behind the other. -/
import Derived.Test.YtnnbaodillnkkaaGreatM19
/- At and Next of a set. -/
namespace Go.Proofs.YtnnbaodillnkkaaGreat
open Go.RowKit Go.Shelf
set_option linter.unusedVariables false
theorem less_any (a b : Int) (w : World) : Calls Tryz.prog 197 #[.int .i64 a, .int .i64 b] w fun e w' => e = .returned (.bool (decide (a < b))) ∧ w' = w := by
  have ha : (a != a) = false := by simp
  go_enter Tryz.func197, Tryz.ntmps197
  go_wp2_with go_in
  go_ret
  exact ⟨rfl, rfl⟩
def foundB (m : Nat) (F : Nat → Int) (k : Nat) (n : Int) : Bool := decide (k < m ∧ F k = n)
set_option maxRecDepth 100000 in
set_option maxHeartbeats 4000000 in
theorem searchA_any (p : Option Addr) (cap m : Nat) (F : Nat → Int) (hl : m ≤ 1112064) (hr : ∀ i j : Nat, i < j → j < m → F i < F j) (n : Int) (W : World) (hi : 0 < m → ∃ g o, p = some ⟨g, o, none⟩ ∧ g < W.heap.size ∧ ∀ j, j < m → W.cell? ⟨g, o + j, none⟩ = some (.int .i64 (F j))) :
    Calls Tryz.prog 191 #[.slice p m cap, .int .i64 n] W fun e w' => ∃ k : Nat, e = .returned (.tuple #[.int .i64 k, .bool (foundB m F k n)]) ∧ k ≤ m ∧ (∀ j, j < k → F j < n) ∧ (∀ j, k ≤ j → j < m → n ≤ F j) ∧ Below W.heap.size W w' := by
  have HI := hide hi
  have HRS := hide hr
  clear hi hr
  go_enter Tryz.func191, Tryz.ntmps191
  go_wp2
  go_loop [7, 8] (fun i j => ∃ a b : Nat, a ≤ b ∧ b ≤ m ∧ i = .int .i64 a ∧ j = .int .i64 b ∧ Hz (∀ j, j < a → F j < n) ∧ Hz (∀ j, b ≤ j → j < m → n ≤ F j)) (fun i j => (intOf j).toNat - (intOf i).toNat)
  case atStart => exact ⟨0, m, by omega, Nat.le_refl _, rfl, rfl, hide (fun j hj => by omega), hide (fun j h1 h2 => by omega)⟩
  case round =>
    obtain ⟨a, b, hab, hb, rfl, rfl, H1, H2⟩ := hrel
    by_cases hlt : a < b
    · have h1 : (a : Int) < (b : Int) := by omega
      obtain ⟨g, o, rfl, hg, hc⟩ := unhide HI (by omega)
      have ck := hc ((a + b) / 2) (by omega)
      have HM : Hz (∀ j, j < (a + b) / 2 → F j < F ((a + b) / 2)) := hide (fun j hj => unhide HRS j _ hj (by omega))
      have HM2 : Hz (∀ j, (a + b) / 2 < j → j < m → F ((a + b) / 2) < F j) := hide (fun j hj h2 => unhide HRS _ j hj h2)
      obtain ⟨x, hx⟩ : ∃ x, F ((a + b) / 2) = x := ⟨_, rfl⟩
      rw [hx] at ck HM HM2
      have HX := hide hx
      clear hx hc
      by_cases hxn : x < n
      · have hd : decide (x < n) = true := decide_eq_true hxn
        go_wp2_with (go_at_call 197; refine (less_any _ _ _).mono ?_; rintro e w' ⟨rfl, rfl⟩)
        go_round
        case rel =>
          refine ⟨(a + b) / 2 + 1, b, by omega, hb, ?_, rfl, hide (fun j hj => ?_), H2⟩
          · congr 1
          · by_cases e : j = (a + b) / 2
            · subst e; rw [unhide HX]; exact hxn
            · have := unhide HM j (by omega); omega
        case measure => simp [intOf]; omega
      · have hd : decide (x < n) = false := decide_eq_false hxn
        go_wp2_with (go_at_call 197; refine (less_any _ _ _).mono ?_; rintro e w' ⟨rfl, rfl⟩)
        go_round
        case rel =>
          refine ⟨a, (a + b) / 2, by omega, by omega, rfl, ?_, H1, hide (fun j hj h2 => ?_)⟩
          · congr 1
          · by_cases e : j = (a + b) / 2
            · subst e; rw [unhide HX]; omega
            · have := unhide HM2 j (by omega) h2; omega
        case measure => simp [intOf]; omega
    · have h1 : ¬ (a : Int) < (b : Int) := by omega
      obtain rfl : a = b := by omega
      by_cases hal : a < m
      · obtain ⟨g, o, rfl, hg, hc⟩ := unhide HI (by omega)
        have ck := hc a hal
        have h2 : (a : Int) < (m : Int) := by omega
        have h3 : ((a : Nat) : Int).toNat = a := by omega
        obtain ⟨x, hx⟩ : ∃ x, F a = x := ⟨_, rfl⟩
        rw [hx] at ck
        have HX := hide hx
        clear hx hc
        by_cases hxn : x = n
        · subst hxn
          have hxe : (x == x) = true := by simp
          have HD := hide (show foundB m F a x = true from decide_eq_true ⟨hal, unhide HX⟩)
          go_wp2
          go_ret2
          exact ⟨a, by rw [unhide HD]; rfl, hb, unhide H1, unhide H2, Below.refl _ _⟩
        · have hxe : (x == n) = false := beq_eq_false_iff_ne.2 hxn
          have hxx : (x != x) = false := by simp
          have HD := hide (show foundB m F a n = false from decide_eq_false (fun h => hxn ((unhide HX).symm.trans h.2)))
          go_wp2_with go_in
          go_ret2
          exact ⟨a, by rw [unhide HD]; rfl, hb, unhide H1, unhide H2, Below.refl _ _⟩
      · have h2 : ¬ (a : Int) < (m : Int) := by omega
        have HD := hide (show foundB m F a n = false from decide_eq_false (fun h => hal h.1))
        go_wp2
        go_ret2
        exact ⟨a, by rw [unhide HD]; rfl, hb, unhide H1, unhide H2, Below.refl _ _⟩
theorem total_rises {zs : List (Int × Int)} (h : RightL zs) : ∀ i j : Nat, i < j → j < zs.length → total (zs.take i) < total (zs.take j) := by
  intro i j hij
  induction j with
  | zero => omega
  | succ j ih =>
    intro hj
    obtain ⟨x, hx⟩ : ∃ x, zs[j]? = some x := ⟨_, List.getElem?_eq_getElem (by omega)⟩
    have hp := h x (List.mem_of_getElem? hx)
    have := span_pos hp.1 hp.2
    rw [take_more hx, total_snoc]
    rcases Nat.lt_or_eq_of_le (show i ≤ j by omega) with a | a
    · have := ih a (by omega); omega
    · subst a; omega
theorem found_span {zs : List (Int × Int)} (hR : RightL zs) {n : Int} (h0 : 0 ≤ n) (h1 : n < total zs) {k : Nat} (hk : k ≤ zs.length) (ha : ∀ j, j < k → total (zs.take j) < n) (hb : ∀ j, k ≤ j → j < zs.length → n ≤ total (zs.take j)) :
    ∃ (i : Nat) (x : Int × Int), (if foundB zs.length (fun j => total (zs.take j)) k n then i = k else i + 1 = k) ∧ zs[i]? = some x ∧ total (zs.take i) ≤ n ∧ n < total (zs.take i) + spanSize x := by
  by_cases c : k < zs.length ∧ total (zs.take k) = n
  · obtain ⟨x, hx⟩ : ∃ x, zs[k]? = some x := ⟨_, List.getElem?_eq_getElem c.1⟩
    have hp := hR x (List.mem_of_getElem? hx)
    have := span_pos hp.1 hp.2
    exact ⟨k, x, by rw [show foundB zs.length (fun j => total (zs.take j)) k n = true from decide_eq_true c]; simp, hx, by omega, by omega⟩
  · cases k with
    | zero =>
      exfalso
      by_cases l : 0 < zs.length
      · have := hb 0 (Nat.le_refl _) l
        simp only [List.take_zero, total] at this
        exact c ⟨l, by simp only [List.take_zero, total]; omega⟩
      · have : zs = [] := List.eq_nil_of_length_eq_zero (by omega)
        subst this
        simp [total] at h1
        omega
    | succ i =>
      obtain ⟨x, hx⟩ : ∃ x, zs[i]? = some x := ⟨_, List.getElem?_eq_getElem (by omega)⟩
      have ht : total (zs.take (i + 1)) = total (zs.take i) + spanSize x := by rw [take_more hx, total_snoc]
      refine ⟨i, x, by rw [show foundB zs.length (fun j => total (zs.take j)) (i + 1) n = false from decide_eq_false c]; simp, hx, by have := ha i (by omega); omega, ?_⟩
      by_cases l : i + 1 < zs.length
      · have := hb (i + 1) (Nat.le_refl _) l
        have : total (zs.take (i + 1)) ≠ n := fun e => c ⟨l, e⟩
        omega
      · have : zs.take (i + 1) = zs := List.take_of_length_le (by omega)
        rw [this] at ht
        omega
set_option maxRecDepth 100000 in
set_option maxHeartbeats 4000000 in
theorem at_in (B : Nat) (zs : List (Int × Int)) (n : Int) (h0 : 0 ≤ n) (h1 : n < total zs) (w : World) (hs : SetAt w B zs) :
    Calls Tryz.prog 177 #[.pointer (some ⟨B, 0, none⟩), .int .i64 n] w fun e w' => e = .returned (.tuple #[.int .i32 (nthOf zs n), .bool true]) ∧ Below w.heap.size w w' := by
  have HS := hide hs
  have HZ := hide (size_any B zs w hs)
  have htb := (total_bound hs.spread.ends).2
  have hlen := hs.len
  have htt : total zs ≤ 1236686340096 := by omega
  have hge : ¬ total zs ≤ n := by omega
  have HT := hide h1
  generalize htg : total zs = tot at *
  have HTG := hide htg
  clear hs htb hlen htg
  go_enter Tryz.func177, Tryz.ntmps177
  go_wp2_with fail
  refine (unhide HZ).mono ?_
  rintro e w1 ⟨rfl, hb1⟩
  have HB1 := hide hb1
  have HS1 := hide ((unhide HS).below hb1)
  clear hb1
  obtain ⟨⟨a, ca, b, cb, hb0, hp, ha⟩, hsp, hl⟩ := unhide HS1
  have d0 := hb0.cell 0
  have d1 := hb0.cell 1
  have HQ := hide (searchA_any b cb zs.length (fun j => total (zs.take j)) hl (total_rises hsp.ends) n w1 ha)
  have HBk := hide hb0
  have HP := hide hp
  have HA := hide ha
  have HSp := hide hsp
  clear hb0 hp ha hsp
  go_wp2_with fail
  refine (unhide HQ).mono ?_
  rintro e w2 ⟨k, rfl, hk, hka, hkb, hb2⟩
  obtain ⟨i, x, hif, hx, hx1, hx2⟩ := found_span (unhide HSp).ends h0 (by rw [unhide HTG]; exact h1) hk hka hkb
  have HB2 := hide ((unhide HB1).trans (hb2.mono (unhide HB1).size))
  have hbk := (unhide HBk).below hb2 (unhide HBk).lt
  have e0 := hbk.cell 0
  have e1 := hbk.cell 1
  have hil := (List.getElem?_eq_some_iff.1 hx).1
  obtain ⟨g, o, rfl, hg, hc⟩ := ((unhide HP).below hb2) (by omega)
  obtain ⟨g', o', rfl, hg', hc'⟩ := ((unhide HA).below hb2) (by omega)
  have c0 := (hc i x hx).1
  have c2 := hc' i hil
  have HV := hide (nth_at zs i x n (unhide HSp).ends hx hx1 hx2)
  have hex := endsB_iff ((unhide HSp).ends x (List.mem_of_getElem? hx)).1
  have r1 := rank_range hex.1.1 hex.1.2.1
  have r2 := rank_range hex.2.1 hex.2.2.1
  have hss : spanSize x = rankOf x.2 + 1 - rankOf x.1 := rfl
  have htk : 0 ≤ total (zs.take i) := total_take_nonneg (unhide HSp).ends i
  have hlo : 0 ≤ x.1 ∧ x.1 ≤ 1114111 := ⟨hex.1.1, hex.1.2.1⟩
  rw [hss] at hx2
  generalize hdc : foundB zs.length (fun j => total (zs.take j)) k n = dc at hif ⊢
  clear hdc hka hkb
  generalize total (zs.take i) = tk at *
  obtain ⟨lo, hi⟩ := x
  simp only at c0 hx2 HV r1 r2 hlo
  have hi1 : (i : Int) < (zs.length : Int) := by omega
  have hi2 : ((i : Nat) : Int).toNat = i := by omega
  clear hb2 hbk hc hc' hx hss HQ HS HS1 HA HP HBk HZ hex
  cases dc with
  | true =>
    simp at hif
    subst hif
    go_wp2
    go_quiet (first | (go_at_call 173; exact Calls.quiet_of_same (rank_any _ (by omega) (by omega) _)) | (go_at_call 189; exact Calls.quiet_of_same (ranked_any _ (by omega) (by omega) _)))
    go_wp2
    go_ret2
    exact ⟨by rw [unhide HV, show rankOf lo + (n - tk) = rankOf lo + n - tk by omega]; rfl, below_drewN (unhide HB2) _⟩
  | false =>
    simp at hif
    subst hif
    have hi3 : ((i + 1 : Nat) : Int) - 1 = (i : Int) := by omega
    go_wp2
    go_quiet (first | (go_at_call 173; exact Calls.quiet_of_same (rank_any _ (by omega) (by omega) _)) | (go_at_call 189; exact Calls.quiet_of_same (ranked_any _ (by omega) (by omega) _)))
    go_wp2
    go_ret2
    exact ⟨by rw [unhide HV, show rankOf lo + (n - tk) = rankOf lo + n - tk by omega]; rfl, below_drewN (unhide HB2) _⟩
set_option maxRecDepth 100000 in
set_option maxHeartbeats 4000000 in
theorem at_out (B : Nat) (zs : List (Int × Int)) (n : Int) (h : n < 0 ∨ total zs ≤ n) (w : World) (hs : SetAt w B zs) :
    Calls Tryz.prog 177 #[.pointer (some ⟨B, 0, none⟩), .int .i64 n] w fun e w' => e = .returned (.tuple #[.int .i32 0, .bool false]) ∧ Below w.heap.size w w' := by
  have HZ := hide (size_any B zs w hs)
  by_cases h0 : n < 0
  · go_enter Tryz.func177, Tryz.ntmps177
    go_wp2
    go_ret2
    exact ⟨rfl, Below.refl _ _⟩
  · have h1 : total zs ≤ n := by omega
    generalize total zs = tot at *
    clear hs h
    go_enter Tryz.func177, Tryz.ntmps177
    go_wp2_with fail
    refine (unhide HZ).mono ?_
    rintro e w1 ⟨rfl, hb1⟩
    have HB1 := hide hb1
    clear hb1
    go_wp2
    go_ret2
    exact ⟨rfl, unhide HB1⟩
def atnV (zs : List (Int × Int)) (n : Int) : Value := if 0 ≤ n ∧ n < total zs then .tuple #[.int .i32 (nthOf zs n), .bool true] else .tuple #[.int .i32 0, .bool false]
theorem at_any (B : Nat) (zs : List (Int × Int)) (n : Int) (w : World) (hs : SetAt w B zs) :
    Calls Tryz.prog 177 #[.pointer (some ⟨B, 0, none⟩), .int .i64 n] w fun e w' => e = .returned (atnV zs n) ∧ Below w.heap.size w w' := by
  unfold atnV
  by_cases h : 0 ≤ n ∧ n < total zs
  · rw [if_pos h]; exact at_in B zs n h.1 h.2 w hs
  · rw [if_neg h]; exact at_out B zs n (by omega) w hs
theorem belowOf_any (B : Nat) (zs : List (Int × Int)) (r : Int) (h0 : -2147483648 ≤ r) (h1 : r ≤ 2147483647) (w : World) (hs : SetAt w B zs) :
    Calls Tryz.prog 176 #[.pointer (some ⟨B, 0, none⟩), .int .i32 r] w fun e w' => e = .returned (.int .i64 (belowOf zs r)) ∧ Below w.heap.size w w' :=
  (below_any B zs r h0 h1 w hs).mono fun e w' ⟨k, he, hc, hb⟩ => ⟨by rw [he, belowK_of zs r k hs.spread hc], hb⟩
theorem below_bound : ∀ (zs : List (Int × Int)) (r : Int), RightL zs → -2147483648 ≤ r → r ≤ 2147483647 → -(4294967296 * zs.length) ≤ belowOf zs r ∧ belowOf zs r ≤ 4294967296 * zs.length
  | [], r, _, _, _ => by simp [belowOf]
  | x :: zs, r, hR, h0, h1 => by
    have ih := below_bound zs r (fun z hz => hR z (List.mem_cons_of_mem _ hz)) h0 h1
    have he := endsB_iff (hR x List.mem_cons_self).1
    have a := rank_range he.1.1 he.1.2.1
    have b := rank_range he.2.1 he.2.2.1
    have c : -2147483648 ≤ rankOf r ∧ rankOf r ≤ 2147483647 := by unfold rankOf; split <;> (try split) <;> omega
    simp only [List.length_cons]
    show _ ≤ (if x.1 < r then _ else 0) + belowOf zs r ∧ (if x.1 < r then _ else 0) + belowOf zs r ≤ _
    split <;> omega
set_option maxRecDepth 100000 in
set_option maxHeartbeats 4000000 in
theorem next_in (B : Nat) (zs : List (Int × Int)) (r : Int) (hm : memB zs r = true) (h0 : -2147483648 ≤ r) (h1 : r ≤ 2147483647) (w : World) (hs : SetAt w B zs) :
    Calls Tryz.prog 162 #[.pointer (some ⟨B, 0, none⟩), .int .i32 r] w fun e w' => e = .returned (atnV zs (belowOf zs r + 1)) ∧ Below w.heap.size w w' := by
  have HS := hide hs
  have hbd := below_bound zs r hs.spread.ends h0 h1
  have hl := hs.len
  have HQ := hide (belowOf_any B zs r h0 h1 w hs)
  have HI := hide (fun w hs => in_any B zs r w hs)
  rw [hm] at HI
  obtain ⟨bo, hbo⟩ : ∃ bo, belowOf zs r = bo := ⟨_, rfl⟩
  rw [hbo] at hbd HQ ⊢
  have hbb : -9000000000000000 ≤ bo ∧ bo ≤ 9000000000000000 := by omega
  obtain ⟨t, d, ht⟩ : ∃ t d, atnV zs (bo + 1) = .tuple #[.int .i32 t, .bool d] := by
    unfold atnV
    split <;> exact ⟨_, _, rfl⟩
  have HA := hide (fun w hs => at_any B zs (bo + 1) w hs)
  rw [ht] at HA ⊢
  clear hs hbd hl hm hbo ht
  go_enter Tryz.func162, Tryz.ntmps162
  go_wp2_with fail
  refine (unhide HQ).mono ?_
  rintro e w1 ⟨rfl, hb1⟩
  have HB1 := hide hb1
  have HS1 := hide ((unhide HS).below hb1)
  clear hb1
  go_wp2_with fail
  refine (unhide HI w1 (unhide HS1)).mono ?_
  rintro e w2 ⟨rfl, hb2⟩
  have HB2 := hide ((unhide HB1).trans (hb2.mono (unhide HB1).size))
  have HS2 := hide ((unhide HS1).below hb2)
  clear hb2
  go_wp2_with fail
  refine (unhide HA w2 (unhide HS2)).mono ?_
  rintro e w3 ⟨rfl, hb3⟩
  have HB3 := hide ((unhide HB2).trans (hb3.mono (unhide HB2).size))
  clear hb3
  go_wp2
  go_ret2
  exact ⟨rfl, unhide HB3⟩
set_option maxRecDepth 100000 in
set_option maxHeartbeats 4000000 in
theorem next_out (B : Nat) (zs : List (Int × Int)) (r : Int) (hm : memB zs r = false) (h0 : -2147483648 ≤ r) (h1 : r ≤ 2147483647) (w : World) (hs : SetAt w B zs) :
    Calls Tryz.prog 162 #[.pointer (some ⟨B, 0, none⟩), .int .i32 r] w fun e w' => e = .returned (atnV zs (belowOf zs r)) ∧ Below w.heap.size w w' := by
  have HS := hide hs
  have hbd := below_bound zs r hs.spread.ends h0 h1
  have hl := hs.len
  have HQ := hide (belowOf_any B zs r h0 h1 w hs)
  have HI := hide (fun w hs => in_any B zs r w hs)
  rw [hm] at HI
  obtain ⟨bo, hbo⟩ : ∃ bo, belowOf zs r = bo := ⟨_, rfl⟩
  rw [hbo] at hbd HQ ⊢
  have hbb : -9000000000000000 ≤ bo ∧ bo ≤ 9000000000000000 := by omega
  obtain ⟨t, d, ht⟩ : ∃ t d, atnV zs (bo) = .tuple #[.int .i32 t, .bool d] := by
    unfold atnV
    split <;> exact ⟨_, _, rfl⟩
  have HA := hide (fun w hs => at_any B zs (bo) w hs)
  rw [ht] at HA ⊢
  clear hs hbd hl hm hbo ht
  go_enter Tryz.func162, Tryz.ntmps162
  go_wp2_with fail
  refine (unhide HQ).mono ?_
  rintro e w1 ⟨rfl, hb1⟩
  have HB1 := hide hb1
  have HS1 := hide ((unhide HS).below hb1)
  clear hb1
  go_wp2_with fail
  refine (unhide HI w1 (unhide HS1)).mono ?_
  rintro e w2 ⟨rfl, hb2⟩
  have HB2 := hide ((unhide HB1).trans (hb2.mono (unhide HB1).size))
  have HS2 := hide ((unhide HS1).below hb2)
  clear hb2
  go_wp2_with fail
  refine (unhide HA w2 (unhide HS2)).mono ?_
  rintro e w3 ⟨rfl, hb3⟩
  have HB3 := hide ((unhide HB2).trans (hb3.mono (unhide HB2).size))
  clear hb3
  go_wp2
  go_ret2
  exact ⟨rfl, unhide HB3⟩
def oneIf (b : Bool) : Int := if b then 1 else 0
def spanBelow (x : Int × Int) (r : Int) : Int := if x.1 < r then min (rankOf r) (rankOf x.2 + 1) - rankOf x.1 else 0
theorem belowOf_cons (x : Int × Int) (zs : List (Int × Int)) (r : Int) : belowOf (x :: zs) r = spanBelow x r + belowOf zs r := rfl
theorem rank_step (r : Int) : rankOf (r + 1) = rankOf r + (if r < 55296 ∨ 57343 < r then 1 else 0) := by
  unfold rankOf
  repeat' split
  all_goals omega
theorem rank_le' {a b : Int} (h : a ≤ b) : rankOf a ≤ rankOf b := by
  unfold rankOf
  repeat' split
  all_goals omega
theorem spanBelow_step {x : Int × Int} (he : endsB x = true) (hx : x.1 ≤ x.2) (r : Int) : spanBelow x (r + 1) = spanBelow x r + oneIf (decide (x.1 ≤ r ∧ r ≤ x.2) && runeB r) := by
  have e := endsB_iff he
  have hs := rank_step r
  unfold spanBelow oneIf
  by_cases h1 : x.1 < r
  · rw [if_pos h1, if_pos (by omega)]
    by_cases h2 : r ≤ x.2
    · have m1 := rank_le' h2
      by_cases h3 : r < 55296 ∨ 57343 < r
      · rw [if_pos h3] at hs
        have hb : (decide (x.1 ≤ r ∧ r ≤ x.2) && runeB r) = true := by unfold runeB; simp; omega
        rw [hb]
        simp only [if_true]
        omega
      · rw [if_neg h3] at hs
        have hb : (decide (x.1 ≤ r ∧ r ≤ x.2) && runeB r) = false := by unfold runeB; simp; omega
        rw [hb]
        simp only [Bool.false_eq_true, if_false]
        omega
    · have m1 := rank_above (a := x.2) (b := r) (by omega) (by omega)
      have m2 := rank_above (a := x.2) (b := r + 1) (by omega) (by omega)
      have hb : (decide (x.1 ≤ r ∧ r ≤ x.2) && runeB r) = false := by simp; omega
      rw [hb]
      simp only [Bool.false_eq_true, if_false]
      omega
  · rw [if_neg h1]
    by_cases h2 : x.1 = r
    · subst h2
      rw [if_pos (by omega)]
      rw [if_pos (by omega)] at hs
      have hb : (decide (x.1 ≤ x.1 ∧ x.1 ≤ x.2) && runeB x.1) = true := by unfold runeB; simp; omega
      rw [hb]
      have m1 := rank_le' hx
      simp only [if_true]
      omega
    · rw [if_neg (by omega)]
      have hb : (decide (x.1 ≤ r ∧ r ≤ x.2) && runeB r) = false := by simp; omega
      rw [hb]
      simp
theorem belowOf_step : ∀ (zs : List (Int × Int)) (r : Int), Spread zs → belowOf zs (r + 1) = belowOf zs r + oneIf (memB zs r)
  | [], r, _ => by simp [belowOf, memB, oneIf]
  | x :: zs, r, h => by
    have he := h.ends x List.mem_cons_self
    have hs := spanBelow_step he.1 he.2 r
    have ht := belowOf_step zs r h.tail
    rw [belowOf_cons, belowOf_cons, hs, ht]
    have hc : memB (x :: zs) r = ((decide (x.1 ≤ r ∧ r ≤ x.2) && runeB r) || memB zs r) := by
      unfold memB
      simp only [List.any_cons, Bool.and_or_distrib_right]
    rw [hc]
    by_cases hd : (decide (x.1 ≤ r ∧ r ≤ x.2) && runeB r) = true
    · have hz : memB zs r = false := by
        rw [← Bool.not_eq_true]
        intro hm
        obtain ⟨⟨y, hy, p, q⟩, _⟩ := (memB_iff _ _).1 hm
        have := h.head_lt hy
        simp at hd
        omega
      rw [hd, hz]
      simp [oneIf]
      omega
    · rw [Bool.not_eq_true] at hd
      rw [hd, Bool.false_or]
      simp [oneIf]
      omega
theorem belowOf_all : ∀ (zs : List (Int × Int)), Spread zs → belowOf zs 1114112 = total zs
  | [], _ => rfl
  | x :: zs, h => by
    have he := h.ends x List.mem_cons_self
    have e := endsB_iff he.1
    have m1 := rank_above (a := x.2) (b := 1114112) (by omega) (by omega)
    rw [belowOf_cons, total_cons, belowOf_all zs h.tail]
    unfold spanBelow spanSize
    rw [if_pos (by omega)]
    omega
theorem total_zero {zs : List (Int × Int)} (h : Spread zs) : (total zs == 0) = decide (zs = []) := by
  cases zs with
  | nil => rfl
  | cons x zs =>
    have he := h.ends x List.mem_cons_self
    have p := span_pos he.1 he.2
    have q := (total_bound h.tail.ends).1
    have : total (x :: zs) ≠ 0 := by rw [total_cons]; omega
    simp [this]
theorem below_nonneg : ∀ (zs : List (Int × Int)) (r : Int), RightL zs → 0 ≤ belowOf zs r
  | [], r, _ => by simp [belowOf]
  | x :: zs, r, hR => by
    have ih := below_nonneg zs r (fun z hz => hR z (List.mem_cons_of_mem _ hz))
    have hx := hR x List.mem_cons_self
    have he := endsB_iff hx.1
    have hrk := (rank_le he.1.2.2 he.2.2.2).2 hx.2
    show 0 ≤ (if x.1 < r then _ else 0) + belowOf zs r
    split
    · rename_i h
      have := rank_above he.1.2.2 h
      omega
    · omega
end Go.Proofs.YtnnbaodillnkkaaGreat
