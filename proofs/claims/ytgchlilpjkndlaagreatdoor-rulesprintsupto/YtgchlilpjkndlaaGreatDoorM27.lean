/- Texts of this claim, one behind the other. -/
import Derived.Test.YtgchlilpjkndlaaGreatDoorM26
import Derived.Test.YtgchlilpjkndlaaGreatDoorM25
/- The reference's Where. -/
namespace Go.Proofs.YtgchlilpjkndlaaGreatDoor
open Go.RowKit Go.Shelf
set_option linter.unusedVariables false
theorem sequence_any (s : ByteArray) (hs : s.size ≤ 1099511627776) (a : Nat) (ha : a ≤ 1099511627776) (w : World) : Calls Tryz.prog 95 #[.string s, .int .i64 a] w fun e w' => e = .returned (seqR4 a (seq4V (rst s a))) ∧ w' = w := by
  by_cases h : a < s.size
  · by_cases h0 : (secOf (bt s a)).1 = 0
    · exact sequence_small s hs a ha (.inr ⟨h, by omega⟩) w
    · exact sequence_long s hs a h h0 w
  · exact sequence_small s hs a ha (.inl (by omega)) w
def blA (s : ByteArray) (r : Bool) (p : Nat) : Nat × Bool := if r = true then remA s p else gapA s p
theorem blA_end (s : ByteArray) (r : Bool) (p : Nat) (h : p = s.size) : blA s r p = (p, true) := by
  unfold blA
  split
  · exact remA_end s p h
  · exact gapA_end s p (by omega) (by omega)
theorem seq4_cases (s : ByteArray) (p : Nat) (h : p < s.size) : (badB s p = true ∧ seq4V (rst s p) = (0, begLen (rst s p), false)) ∨ (badB s p = false ∧ seq4V (rst s p) = (rn s p, wd s p, true)) := by
  have hd : Utf8.decode (rst s p) 0 = Utf8.decode s p := decode_suffix s p 0 (by omega)
  have hb : badB (rst s p) 0 = badB s p := by unfold badB; simp only [rn, wd, hd]
  have hz := rst_size s p
  cases q : badB s p with
  | true => exact .inl ⟨rfl, by unfold seq4V; rw [if_neg (by omega), hb, q, if_pos rfl]⟩
  | false => exact .inr ⟨rfl, by unfold seq4V; rw [if_neg (by omega), hb, q, if_neg (by decide)]; simp only [rn, wd, hd]⟩
theorem blA_seq_bad (s : ByteArray) (p : Nat) (h : p < s.size) (r n : Nat) (hv : seq4V (rst s p) = (r, n, false)) : blA s true p = (p + n, false) := by
  rcases seq4_cases s p h with ⟨h1, h2⟩ | ⟨h1, h2⟩
  · rw [hv, Prod.mk.injEq, Prod.mk.injEq] at h2
    unfold blA
    rw [if_pos rfl, remA_bad s p h h1, h2.2.1]
  · rw [hv, Prod.mk.injEq, Prod.mk.injEq] at h2
    cases h2.2.2
theorem blA_seq_ok (s : ByteArray) (p : Nat) (h : p < s.size) (r n : Nat) (hv : seq4V (rst s p) = (r, n, true)) : 1 ≤ n ∧ p + n ≤ s.size ∧ blA s true p = blA s (!decide (bt s p = 10)) (p + n) := by
  rcases seq4_cases s p h with ⟨h1, h2⟩ | ⟨h1, h2⟩
  · rw [hv, Prod.mk.injEq, Prod.mk.injEq] at h2
    cases h2.2.2
  · rw [hv, Prod.mk.injEq, Prod.mk.injEq] at h2
    have hn : n = wd s p := h2.2.1
    have hr := wd_room s p h
    have hp := wd_pos s p
    refine ⟨by omega, by omega, ?_⟩
    unfold blA
    rw [if_pos rfl, hn]
    by_cases e : bt s p = 10
    · have hw : wd s p = 1 := by
        rcases Nat.lt_or_ge (wd s p) 2 with q | q
        · omega
        · have := wd_lead s p q; omega
      rw [decide_eq_true e, hw, if_neg (by decide)]
      exact remA_nl s p h e
    · rw [decide_eq_false e, if_pos (by decide)]
      exact remA_spot s p h e h1
set_option maxRecDepth 100000 in
set_option maxHeartbeats 8000000 in
theorem blank_any (s : ByteArray) (hs : s.size ≤ 1099511627776) (a : Nat) (ha : a ≤ s.size) (w : World) : Calls Tryz.prog 93 #[.string s, .int .i64 a] w fun e w' => e = .returned (.tuple #[.int .i64 (gapA s a).1, .bool (gapA s a).2]) ∧ w' = w := by
  obtain ⟨q, o, hq⟩ : ∃ q o, gapA s a = (q, o) := ⟨_, _, rfl⟩
  rw [hq]
  have HQ := hide hq
  clear hq
  go_enter Tryz.func93, Tryz.ntmps93
  go_wp2_with fail
  go_loop [1, 6, 7, 8, 9] (fun x r _ _ _ => ∃ (p : Nat) (b : Bool), p ≤ s.size ∧ x = .int .i64 p ∧ r = .bool b ∧ Hz (blA s b p = (q, o))) (fun x _ _ _ _ => s.size - (intOf x).toNat)
  case atStart => exact ⟨a, false, ha, rfl, rfl, hide (by unfold blA; rw [if_neg (by decide)]; exact unhide HQ)⟩
  case round =>
    obtain ⟨p, b, hp, rfl, rfl, HB⟩ := hrel
    by_cases hps : p < s.size
    · have hps' : (p : Int) < (s.size : Int) := by omega
      have hgb := bt_get s p hps
      obtain ⟨c, ec⟩ : ∃ c, (s[p]'hps).toNat = c := ⟨_, rfl⟩
      rw [ec] at hgb
      cases b
      · have hcase : (c = 9 ∨ c = 10 ∨ c = 13 ∨ c = 32) ∨ c = 35 ∨ (c ≠ 9 ∧ c ≠ 10 ∧ c ≠ 13 ∧ c ≠ 32 ∧ c ≠ 35) := by omega
        rcases hcase with hc | hc | hc
        · have HN : Hz (blA s false (p + 1) = (q, o)) := hide (by
            have := unhide HB
            unfold blA at this ⊢
            rw [if_neg (by decide)] at this ⊢
            rw [← gapA_blank s p hps (by rw [hgb]; unfold blankB; exact decide_eq_true hc)]
            exact this)
          clear hgb HB HQ
          rcases hc with rfl | rfl | rfl | rfl
          all_goals
            go_wp2_with fail
            go_round
            case rel => exact ⟨p + 1, false, by omega, by go_num, rfl, HN⟩
            case measure => simp [intOf]; omega
        · have HN : Hz (blA s true (p + 1) = (q, o)) := hide (by
            have := unhide HB
            unfold blA at this ⊢
            rw [if_neg (by decide)] at this
            rw [if_pos rfl, ← gapA_rem s p hps (by rw [hgb]; exact hc)]
            exact this)
          clear hgb HB HQ
          subst hc
          go_wp2_with fail
          go_round
          case rel => exact ⟨p + 1, true, by omega, by go_num, rfl, HN⟩
          case measure => simp [intOf]; omega
        · have hq : (p, true) = (q, o) := by
            have := unhide HB
            unfold blA at this
            rw [if_neg (by decide), gapA_stop s p hps (by rw [hgb]; unfold blankB; exact decide_eq_false (by omega)) (by rw [hgb]; exact hc.2.2.2.2)] at this
            exact this
          obtain ⟨rfl, rfl⟩ := Prod.mk.inj hq
          obtain ⟨c1, c2, c3, c4, c5⟩ := hc
          have d1 : ((c : Int) != 9) = true := by simp; omega
          have d2 : ((c : Int) != 10) = true := by simp; omega
          have d3 : ((c : Int) != 13) = true := by simp; omega
          have d4 : ((c : Int) != 32) = true := by simp; omega
          have d5 : ((c : Int) != 35) = true := by simp; omega
          clear hgb HB HQ hq c1 c2 c3 c4 c5
          go_wp2_with fail
          go_ret2
          exact ⟨rfl, rfl⟩
      · obtain ⟨r, n, ok, hv⟩ : ∃ r n ok, seq4V (rst s p) = (r, n, ok) := ⟨_, _, _, rfl⟩
        have HSQ := hide (sequence_any s hs p (by omega))
        rw [hv] at HSQ
        cases ok
        · have hq := blA_seq_bad s p hps r n hv
          rw [unhide HB] at hq
          obtain ⟨rfl, rfl⟩ := Prod.mk.inj hq
          clear hgb HB HQ hq hv
          go_wp2_with fail
          refine (unhide HSQ _).mono ?_
          rintro e w1 ⟨rfl, rfl⟩
          go_wp2_with fail
          go_ret2
          exact ⟨rfl, rfl⟩
        · obtain ⟨hn1, hn2, hn3⟩ := blA_seq_ok s p hps r n hv
          rw [unhide HB, hgb] at hn3
          have hnb : (p : Int) + (n : Int) ≤ (s.size : Int) := by omega
          by_cases h10 : c = 10
          · rw [decide_eq_true h10] at hn3
            have HN : Hz (blA s false (p + n) = (q, o)) := hide hn3.symm
            subst h10
            clear hgb HB HQ hn3 hv
            go_wp2_with fail
            refine (unhide HSQ _).mono ?_
            rintro e w1 ⟨rfl, rfl⟩
            go_wp2_with fail
            go_round
            case rel => exact ⟨p + n, false, by omega, by go_num, rfl, HN⟩
            case measure => simp [intOf]; omega
          · rw [decide_eq_false h10] at hn3
            have HN : Hz (blA s true (p + n) = (q, o)) := hide hn3.symm
            have d2 : ((c : Int) != 10) = true := by simp; omega
            clear hgb HB HQ hn3 hv h10
            go_wp2_with fail
            refine (unhide HSQ _).mono ?_
            rintro e w1 ⟨rfl, rfl⟩
            go_wp2_with fail
            go_round
            case rel => exact ⟨p + n, true, by omega, by go_num, rfl, HN⟩
            case measure => simp [intOf]; omega
    · have hps' : ¬ (p : Int) < (s.size : Int) := by omega
      have hq := blA_end s b p (by omega)
      rw [unhide HB] at hq
      obtain ⟨rfl, rfl⟩ := Prod.mk.inj hq
      clear HB HQ hq
      go_wp2_with fail
      go_ret2
      exact ⟨rfl, rfl⟩
theorem small_ref (c : Nat) (hc : c < 256) (w : World) : Calls Tryz.prog 140 #[.int .u8 c] w fun e w' => e = .returned (.bool (smallB c)) ∧ w' = w := by
  by_cases h1 : 97 ≤ c
  · by_cases h2 : c ≤ 122
    · rw [show smallB c = true from decide_eq_true ⟨h1, h2⟩]
      go_enter Tryz.func140, Tryz.ntmps140
      go_wp2
      go_ret
      exact ⟨by first | rfl | (simp; omega), rfl⟩
    · rw [show smallB c = false from decide_eq_false (by omega)]
      go_enter Tryz.func140, Tryz.ntmps140
      go_wp2
      go_ret
      exact ⟨by first | rfl | (simp; omega), rfl⟩
  · rw [show smallB c = false from decide_eq_false (by omega)]
    go_enter Tryz.func140, Tryz.ntmps140
    go_wp2
    go_ret
    exact ⟨by first | rfl | (simp; omega), rfl⟩
theorem digit_ref (c : Nat) (hc : c < 256) (w : World) : Calls Tryz.prog 141 #[.int .u8 c] w fun e w' => e = .returned (.bool (digB c)) ∧ w' = w := by
  by_cases h1 : 48 ≤ c
  · by_cases h2 : c ≤ 57
    · rw [show digB c = true from decide_eq_true ⟨h1, h2⟩]
      go_enter Tryz.func141, Tryz.ntmps141
      go_wp2
      go_ret
      exact ⟨by first | rfl | (simp; omega), rfl⟩
    · rw [show digB c = false from decide_eq_false (by omega)]
      go_enter Tryz.func141, Tryz.ntmps141
      go_wp2
      go_ret
      exact ⟨by first | rfl | (simp; omega), rfl⟩
  · rw [show digB c = false from decide_eq_false (by omega)]
    go_enter Tryz.func141, Tryz.ntmps141
    go_wp2
    go_ret
    exact ⟨by first | rfl | (simp; omega), rfl⟩
def hexB (c : Nat) : Bool := digB c || decide (65 ≤ c ∧ c ≤ 70)
theorem hexB_iff (c : Nat) : hexB c = true ↔ 0 ≤ hexI c := by
  unfold hexB digB hexI
  simp only [Bool.or_eq_true, decide_eq_true_eq]
  constructor
  · intro h; split <;> (try split) <;> omega
  · intro h; split at h <;> (try split at h) <;> omega
theorem hex_ref (c : Nat) (hc : c < 256) (w : World) : Calls Tryz.prog 170 #[.int .u8 c] w fun e w' => e = .returned (.bool (hexB c)) ∧ w' = w := by
  have HD := hide (digit_ref c hc)
  unfold hexB
  cases hd : digB c
  · rw [hd] at HD
    by_cases h1 : 65 ≤ c
    · by_cases h2 : c ≤ 70
      · rw [decide_eq_true ⟨h1, h2⟩]
        go_enter Tryz.func170, Tryz.ntmps170
        go_wp2_with fail
        refine (unhide HD _).mono ?_
        rintro e w1 ⟨rfl, rfl⟩
        go_wp2
        go_ret
        exact ⟨by first | rfl | (simp; omega), rfl⟩
      · rw [decide_eq_false (by omega)]
        go_enter Tryz.func170, Tryz.ntmps170
        go_wp2_with fail
        refine (unhide HD _).mono ?_
        rintro e w1 ⟨rfl, rfl⟩
        go_wp2
        go_ret
        exact ⟨by first | rfl | (simp; omega), rfl⟩
    · rw [decide_eq_false (by omega)]
      go_enter Tryz.func170, Tryz.ntmps170
      go_wp2_with fail
      refine (unhide HD _).mono ?_
      rintro e w1 ⟨rfl, rfl⟩
      go_wp2
      go_ret
      exact ⟨by first | rfl | (simp; omega), rfl⟩
  · rw [hd] at HD
    go_enter Tryz.func170, Tryz.ntmps170
    go_wp2_with fail
    refine (unhide HD _).mono ?_
    rintro e w1 ⟨rfl, rfl⟩
    go_wp2
    go_ret
    exact ⟨by first | rfl | (simp; omega), rfl⟩
set_option maxRecDepth 100000 in
set_option maxHeartbeats 4000000 in
theorem close_ref (c : Nat) (hc : c < 256) (w : World) : Calls Tryz.prog 145 #[.int .u8 c] w fun e w' => e = .returned (.bool (stkB c)) ∧ w' = w := by
  have HS := hide (small_ref c hc)
  have HD := hide (digit_ref c hc)
  have hv : stkB c = (smallB c || (digB c || decide ((65 ≤ c ∧ c ≤ 90) ∨ c = 45 ∨ c = 95))) := by
    unfold stkB inNB
    cases smallB c <;> cases digB c <;> simp <;> (try omega)
    by_cases a : c = 45 <;> by_cases b : 65 ≤ c ∧ c ≤ 90 <;> by_cases d : c = 95 <;> simp_all
  rw [hv]
  clear hv
  cases hs : smallB c
  · rw [hs] at HS
    cases hd : digB c
    · rw [hd] at HD
      have hcase : (65 ≤ c ∧ c ≤ 90) ∨ (¬ 65 ≤ c ∧ c = 45) ∨ (65 ≤ c ∧ ¬ c ≤ 90 ∧ c = 95) ∨ (¬ 65 ≤ c ∧ c ≠ 45) ∨ (65 ≤ c ∧ ¬ c ≤ 90 ∧ c ≠ 95) := by omega
      have hR : ∀ b : Bool, decide ((65 ≤ c ∧ c ≤ 90) ∨ c = 45 ∨ c = 95) = b → (false || (false || decide ((65 ≤ c ∧ c ≤ 90) ∨ c = 45 ∨ c = 95))) = b := fun b h => by simpa using h
      rcases hcase with ⟨h1, h2⟩ | ⟨h1, rfl⟩ | ⟨h1, h2, rfl⟩ | ⟨h1, h2⟩ | ⟨h1, h2, h3⟩
      · rw [hR true (decide_eq_true (.inl ⟨h1, h2⟩))]
        clear hR
        go_enter Tryz.func145, Tryz.ntmps145
        go_wp2_with fail
        refine (unhide HS _).mono ?_
        rintro e w1 ⟨rfl, rfl⟩
        go_wp2_with fail
        refine (unhide HD _).mono ?_
        rintro e w1 ⟨rfl, rfl⟩
        go_wp2
        go_ret
        exact ⟨by first | rfl | (simp; omega), rfl⟩
      · rw [hR true (by decide)]
        clear hR
        go_enter Tryz.func145, Tryz.ntmps145
        go_wp2_with fail
        refine (unhide HS _).mono ?_
        rintro e w1 ⟨rfl, rfl⟩
        go_wp2_with fail
        refine (unhide HD _).mono ?_
        rintro e w1 ⟨rfl, rfl⟩
        go_wp2
        go_ret
        exact ⟨by first | rfl | (simp; omega), rfl⟩
      · rw [hR true (by decide)]
        clear hR
        go_enter Tryz.func145, Tryz.ntmps145
        go_wp2_with fail
        refine (unhide HS _).mono ?_
        rintro e w1 ⟨rfl, rfl⟩
        go_wp2_with fail
        refine (unhide HD _).mono ?_
        rintro e w1 ⟨rfl, rfl⟩
        go_wp2
        go_ret
        exact ⟨by first | rfl | (simp; omega), rfl⟩
      · rw [hR false (decide_eq_false (by omega))]
        have d1 : ((c : Int) == 45) = false := by simp; omega
        have d2 : ((c : Int) == 95) = false := by simp; omega
        clear hR h2
        go_enter Tryz.func145, Tryz.ntmps145
        go_wp2_with fail
        refine (unhide HS _).mono ?_
        rintro e w1 ⟨rfl, rfl⟩
        go_wp2_with fail
        refine (unhide HD _).mono ?_
        rintro e w1 ⟨rfl, rfl⟩
        go_wp2
        go_ret
        exact ⟨by first | rfl | (simp; omega), rfl⟩
      · rw [hR false (decide_eq_false (by omega))]
        have d1 : ((c : Int) == 45) = false := by simp; omega
        have d2 : ((c : Int) == 95) = false := by simp; omega
        clear hR h3
        go_enter Tryz.func145, Tryz.ntmps145
        go_wp2_with fail
        refine (unhide HS _).mono ?_
        rintro e w1 ⟨rfl, rfl⟩
        go_wp2_with fail
        refine (unhide HD _).mono ?_
        rintro e w1 ⟨rfl, rfl⟩
        go_wp2
        go_ret
        exact ⟨by first | rfl | (simp; omega), rfl⟩
    · rw [hd] at HD
      go_enter Tryz.func145, Tryz.ntmps145
      go_wp2_with fail
      refine (unhide HS _).mono ?_
      rintro e w1 ⟨rfl, rfl⟩
      go_wp2_with fail
      refine (unhide HD _).mono ?_
      rintro e w1 ⟨rfl, rfl⟩
      go_wp2
      go_ret
      exact ⟨by first | rfl | (simp; omega), rfl⟩
  · rw [hs] at HS
    go_enter Tryz.func145, Tryz.ntmps145
    go_wp2_with fail
    refine (unhide HS _).mono ?_
    rintro e w1 ⟨rfl, rfl⟩
    go_wp2
    go_ret
    exact ⟨by first | rfl | (simp; omega), rfl⟩
def noDig (s : ByteArray) (p : Nat) : Bool := !(decide (p < s.size) && digB (bt s p))
def NumSt (t : ByteArray) (v k : Nat) : Prop := (k = 0 ∧ v = 0) ∨ (1 ≤ k ∧ numV t = numGo t v k)
set_option maxRecDepth 100000 in
set_option maxHeartbeats 8000000 in
theorem number_ref (s : ByteArray) (hs : s.size ≤ 1099511627776) (a : Nat) (ha : a < s.size) (hd : digB (bt s a) = true) (w : World) : Calls Tryz.prog 142 #[.string s, .int .i64 a] w fun e w' => e = .returned (.tuple #[.int .i64 (if noDig s (a + (numV (rst s a)).2) = true then (numV (rst s a)).1 else 0 : Nat), .int .i64 ((a + (numV (rst s a)).2 : Nat) : Int), .bool (noDig s (a + (numV (rst s a)).2))]) ∧ w' = w := by
  have hrb : ∀ k, bt (rst s a) k = bt s (a + k) := fun k => rst_at s a k (by omega)
  have hz := rst_size s a
  obtain ⟨V, N, hV⟩ : ∃ V N, numV (rst s a) = (V, N) := ⟨_, _, rfl⟩
  have hini : numV (rst s a) = numGo (rst s a) (bt s a - 48) 1 := by unfold numV; rw [hrb 0]; rfl
  have hend : ∀ v k, 1 ≤ k → numV (rst s a) = numGo (rst s a) v k → ¬ (a + k < s.size ∧ digB (bt s (a + k)) = true ∧ 0 < v ∧ v * 10 + (bt s (a + k) - 48) ≤ 65535) → V = v ∧ N = k := fun v k h1 h2 h3 => by
    rw [hV, numGo_stop (by rw [hrb]; intro q; exact h3 ⟨by omega, q.2⟩), Prod.mk.injEq] at h2
    exact h2
  have hstep : ∀ v k, 1 ≤ k → numV (rst s a) = numGo (rst s a) v k → (a + k < s.size ∧ digB (bt s (a + k)) = true ∧ 0 < v ∧ v * 10 + (bt s (a + k) - 48) ≤ 65535) → numV (rst s a) = numGo (rst s a) (v * 10 + (bt s (a + k) - 48)) (k + 1) := fun v k h1 h2 h3 => by
    rw [h2, numGo_go (by omega) (by rw [hrb]; exact h3.2.1) h3.2.2.1 (by rw [hrb]; exact h3.2.2.2), hrb]
  rw [hV]
  obtain ⟨R, hR⟩ : ∃ R, R = Value.tuple #[.int .i64 (if noDig s (a + N) = true then V else 0 : Nat), .int .i64 ((a + N : Nat) : Int), .bool (noDig s (a + N))] := ⟨_, rfl⟩
  show Calls Tryz.prog 142 #[.string s, .int .i64 a] w fun e w' => e = .returned (Value.tuple #[.int .i64 (if noDig s (a + N) = true then V else 0 : Nat), .int .i64 ((a + N : Nat) : Int), .bool (noDig s (a + N))]) ∧ w' = w
  rw [← hR]
  have hok : ∀ v k, V = v ∧ N = k → noDig s (a + k) = true → R = .tuple #[.int .i64 v, .int .i64 ((a + k : Nat) : Int), .bool true] := fun v k ⟨h1, h2⟩ h3 => by rw [hR, h1, h2, h3, if_pos rfl]
  have hno : ∀ v k, V = v ∧ N = k → noDig s (a + k) = false → R = .tuple #[.int .i64 0, .int .i64 ((a + k : Nat) : Int), .bool false] := fun v k ⟨h1, h2⟩ h3 => by rw [hR, h2, h3, if_neg (by decide)]; rfl
  have HOK := hide hok
  have HNO := hide hno
  have HV := hide hV
  have HINI := hide hini
  have HEND := hide hend
  have HSTEP := hide hstep
  have HD0 := hide hd
  clear hV hini hend hstep hrb hz hd hR hok hno
  go_enter Tryz.func142, Tryz.ntmps142
  go_wp2_with fail
  go_loop [1, 7] (fun x n => ∃ p v k : Nat, p ≤ s.size ∧ a ≤ p ∧ v ≤ 65535 ∧ x = .int .i64 p ∧ n = .int .i64 v ∧ Hz (p = a + k) ∧ Hz (NumSt (rst s a) v k)) (fun x _ => s.size - (intOf x).toNat)
  case atStart => exact ⟨a, 0, 0, by omega, by omega, by omega, rfl, rfl, hide rfl, hide (.inl ⟨rfl, rfl⟩)⟩
  case round =>
    obtain ⟨p, v, k, hp, hap, hv, rfl, rfl, HPK, HS⟩ := hrel
    by_cases hps : p < s.size
    · have hps' : (p : Int) < (s.size : Int) := by omega
      have hgb := bt_get s p hps
      have hcl := bt_lt s p
      obtain ⟨c, ec⟩ : ∃ c, (s[p]'hps).toNat = c := ⟨_, rfl⟩
      rw [hgb, ec] at hcl
      rw [ec] at hgb
      have HDG := hide (digit_ref c hcl)
      cases hdc : digB c
      · rw [hdc] at HDG
        have hk1 : 1 ≤ k ∧ numV (rst s a) = numGo (rst s a) v k := by
          rcases unhide HS with h | h
          · exfalso
            have := unhide HD0
            have e := unhide HPK
            rw [h.1, Nat.add_zero] at e
            rw [← e, hgb, hdc] at this
            cases this
          · exact h
        have hq := unhide HEND v k hk1.1 hk1.2 (by rw [← unhide HPK, hgb, hdc]; exact fun q => by cases q.2.1)
        have HF := hide (unhide HOK v k hq (by rw [← unhide HPK]; unfold noDig; rw [hgb, hdc]; simp))
        rw [← unhide HPK] at HF
        clear hgb hk1 hq hdc
        go_wp2_with fail
        refine (unhide HDG _).mono ?_
        rintro e w1 ⟨rfl, rfl⟩
        go_wp2_with fail
        go_ret3
        exact ⟨by rw [unhide HF]; rfl, rfl⟩
      · rw [hdc] at HDG
        have hc2 := digB_iff.1 hdc
        have hnd : noDig s p = false := by unfold noDig; rw [hgb, hdc, decide_eq_true hps]; rfl
        by_cases hk0 : k = 0
        · have hv0 : v = 0 := by
            rcases unhide HS with h | h
            · exact h.2
            · omega
          have hpa : p = a := by have := unhide HPK; omega
          subst hv0
          subst hpa
          have HN : Hz (NumSt (rst s p) (c - 48) 1) := hide (.inr ⟨by omega, by rw [unhide HINI, hgb]⟩)
          have hc3 : ((c - 48 : Nat) : Int) = (c : Int) - 48 := by omega
          have hc4 : ¬ (65535 : Int) < (c : Int) - 48 := by omega
          clear hgb hnd HS hdc
          go_wp2_with fail
          refine (unhide HDG _).mono ?_
          rintro e w1 ⟨rfl, rfl⟩
          go_wp2_with fail
          go_round
          case rel => exact ⟨p + 1, c - 48, 1, by omega, by omega, by omega, by go_num, by rw [hc3], hide rfl, HN⟩
          case measure => simp [intOf]; omega
        · have hk1 : 1 ≤ k ∧ numV (rst s a) = numGo (rst s a) v k := by
            rcases unhide HS with h | h
            · omega
            · exact h
          have hap' : (a : Int) < (p : Int) := by have := unhide HPK; omega
          have hc3 : ((c - 48 : Nat) : Int) = (c : Int) - 48 := by omega
          by_cases hv0 : v = 0
          · subst hv0
            have hq := unhide HEND 0 k hk1.1 hk1.2 (by omega)
            have HF := hide (unhide HNO 0 k hq (by rw [← unhide HPK]; exact hnd))
            rw [← unhide HPK] at HF
            clear hgb hnd HS hdc hk1 hq
            go_wp2_with fail
            refine (unhide HDG _).mono ?_
            rintro e w1 ⟨rfl, rfl⟩
            go_wp2_with fail
            go_ret3
            exact ⟨by rw [unhide HF]; rfl, rfl⟩
          · have hv0' : ((v : Int) == 0) = false := by simp; omega
            by_cases hbig : 65535 < v * 10 + (c - 48)
            · have hbig' : (65535 : Int) < (v : Int) * 10 + ((c : Int) - 48) := by omega
              have hq := unhide HEND v k hk1.1 hk1.2 (by rw [← unhide HPK, hgb]; omega)
              have HF := hide (unhide HNO v k hq (by rw [← unhide HPK]; exact hnd))
              rw [← unhide HPK] at HF
              clear hgb hnd HS hdc hk1 hq hbig hv0
              go_wp2_with fail
              refine (unhide HDG _).mono ?_
              rintro e w1 ⟨rfl, rfl⟩
              go_wp2_with fail
              go_ret3
              exact ⟨by rw [unhide HF]; rfl, rfl⟩
            · have hbig' : ¬ (65535 : Int) < (v : Int) * 10 + ((c : Int) - 48) := by omega
              have hq := unhide HSTEP v k hk1.1 hk1.2 (by rw [← unhide HPK, hgb]; exact ⟨hps, hdc, by omega, by omega⟩)
              rw [← unhide HPK, hgb] at hq
              have HN : Hz (NumSt (rst s a) (v * 10 + (c - 48)) (k + 1)) := hide (.inr ⟨by omega, hq⟩)
              have HPK2 : Hz (p + 1 = a + (k + 1)) := hide (by have := unhide HPK; omega)
              have hc5 : ((v * 10 + (c - 48) : Nat) : Int) = (v : Int) * 10 + ((c : Int) - 48) := by omega
              have HC5 := hide hc5
              have hbd : v * 10 + (c - 48) ≤ 65535 := by omega
              have HBD := hide hbd
              clear hgb hnd HS hdc hk1 hq hbig hv0 hc5 hbd hc3
              go_wp2_with fail
              refine (unhide HDG _).mono ?_
              rintro e w1 ⟨rfl, rfl⟩
              go_wp2_with fail
              go_round
              case rel => exact ⟨p + 1, v * 10 + (c - 48), k + 1, by omega, by omega, unhide HBD, by go_num, by rw [unhide HC5], HPK2, HN⟩
              case measure => simp [intOf]; omega
    · have hps' : ¬ (p : Int) < (s.size : Int) := by omega
      have hk1 : 1 ≤ k ∧ numV (rst s a) = numGo (rst s a) v k := by
        rcases unhide HS with h | h
        · have e := unhide HPK; omega
        · exact h
      have hq := unhide HEND v k hk1.1 hk1.2 (by rw [← unhide HPK]; omega)
      have HF := hide (unhide HOK v k hq (by rw [← unhide HPK]; unfold noDig; rw [decide_eq_false hps]; rfl))
      rw [← unhide HPK] at HF
      clear hk1 hq
      go_wp2_with fail
      go_ret3
      exact ⟨by rw [unhide HF]; rfl, rfl⟩
set_option maxRecDepth 100000 in
set_option maxHeartbeats 8000000 in
theorem quoted_ref (s : ByteArray) (hs : s.size ≤ 1099511627776) (a : Nat) (ha : a < s.size) (w : World) : Calls Tryz.prog 144 #[.string s, .int .i64 a] w fun e w' => e = .returned (seqR4 a (quoV (rst s a))) ∧ w' = w := by
  have hsq := sequence_any s hs (a + 1) (by omega)
  have hcast : ((a + 1 : Nat) : Int) = (a : Int) + 1 := by omega
  rw [hcast] at hsq
  rcases quo_cases s a ha with ⟨n, hv, hq⟩ | ⟨r, n, hv, hn, hns, hr, hq⟩
  · rw [hv] at hsq
    have hc2 : ((a + 1 + n : Nat) : Int) = (a : Int) + (1 + n : Nat) := by omega
    have HSQ := hide hsq
    have HQ := hide hq
    have HC := hide hc2
    clear hsq hq hcast hv hc2
    go_enter Tryz.func144, Tryz.ntmps144
    go_wp2_with fail
    refine (unhide HSQ _).mono ?_
    rintro e w1 ⟨rfl, rfl⟩
    go_wp2_with fail
    go_ret3
    exact ⟨by rw [unhide HQ]; show Ending.returned (Value.tuple #[_, Value.int .i64 ((a + 1 + n : Nat) : Int), _]) = _; rw [unhide HC]; rfl, rfl⟩
  · rw [hv] at hsq
    have HSQ := hide hsq
    have hcase : (r < 32) ∨ (¬ r < 32 ∧ r = 39) ∨ (¬ r < 32 ∧ r ≠ 39 ∧ r = 127) ∨ (¬ r < 32 ∧ r ≠ 39 ∧ r ≠ 127) := by omega
    have hrb : (r : Int) ≤ 1114111 := by omega
    have hnb : (a : Int) + 1 + (n : Int) ≤ (s.size : Int) := by omega
    clear hsq hcast hv hr
    rcases hcase with h1 | ⟨h1, h2⟩ | ⟨h1, h2, h3⟩ | ⟨h1, h2, h3⟩
    · rw [if_pos (.inl h1)] at hq
      have HQ := hide hq
      have h1' : (r : Int) < 32 := by omega
      clear hq h1
      go_enter Tryz.func144, Tryz.ntmps144
      go_wp2_with fail
      refine (unhide HSQ _).mono ?_
      rintro e w1 ⟨rfl, rfl⟩
      go_wp2_with fail
      go_ret3
      exact ⟨by rw [unhide HQ]; rfl, rfl⟩
    · rw [if_pos (.inr (.inl h2))] at hq
      have HQ := hide hq
      have h1' : ¬ (r : Int) < 32 := by omega
      have h2' : ((r : Int) == 39) = true := by simp; omega
      clear hq h1 h2
      go_enter Tryz.func144, Tryz.ntmps144
      go_wp2_with fail
      refine (unhide HSQ _).mono ?_
      rintro e w1 ⟨rfl, rfl⟩
      go_wp2_with fail
      go_ret3
      exact ⟨by rw [unhide HQ]; rfl, rfl⟩
    · rw [if_pos (.inr (.inr h3))] at hq
      have HQ := hide hq
      have h1' : ¬ (r : Int) < 32 := by omega
      have h2' : ((r : Int) == 39) = false := by simp; omega
      have h3' : ((r : Int) == 127) = true := by simp; omega
      clear hq h1 h2 h3
      go_enter Tryz.func144, Tryz.ntmps144
      go_wp2_with fail
      refine (unhide HSQ _).mono ?_
      rintro e w1 ⟨rfl, rfl⟩
      go_wp2_with fail
      go_ret3
      exact ⟨by rw [unhide HQ]; rfl, rfl⟩
    · rw [if_neg (by omega)] at hq
      have h1' : ¬ (r : Int) < 32 := by omega
      have h2' : ((r : Int) == 39) = false := by simp; omega
      have h3' : ((r : Int) == 127) = false := by simp; omega
      obtain ⟨p, hp⟩ : ∃ p, p = a + 1 + n := ⟨_, rfl⟩
      have hpi : ((a + 1 + n : Nat) : Int) = (p : Int) := by omega
      have HPI := hide (show (p : Int) = (a : Int) + (1 + n : Nat) by omega)
      have hpb : p ≤ s.size := by omega
      have hHSQ := unhide HSQ
      have HSQ2 : Hz (∀ w, Calls Tryz.prog 95 #[.string s, .int .i64 ((a : Int) + 1)] w fun e w' => e = .returned (.tuple #[.int .i32 r, .int .i64 (p : Int), .bool true]) ∧ w' = w) := hide (fun w => by rw [← hpi]; exact hHSQ w)
      rw [← hp] at hq
      clear hHSQ HSQ h1 h2 h3 hns hnb hpi
      by_cases hl : p < s.size
      · have hl' : ¬ (s.size : Int) ≤ (p : Int) := by omega
        have hl2 : (p : Int) < (s.size : Int) := by omega
        have hgb := bt_get s p hl
        obtain ⟨c, ec⟩ : ∃ c, (s[p]'hl).toNat = c := ⟨_, rfl⟩
        rw [ec] at hgb
        rw [hgb] at hq
        by_cases h39 : c = 39
        · rw [if_pos ⟨hl, h39⟩] at hq
          have HQ := hide hq
          have hc' : ((c : Int) != 39) = false := by simp; omega
          have HP1 := hide (show (p : Int) + 1 = ((a + (n + 2) : Nat) : Int) by have := unhide HPI; omega)
          clear hq hgb h39 hp
          go_enter Tryz.func144, Tryz.ntmps144
          go_wp2_with fail
          refine (unhide HSQ2 _).mono ?_
          rintro e w1 ⟨rfl, rfl⟩
          go_wp2_with fail
          go_ret3
          exact ⟨by rw [unhide HQ]; show Ending.returned (Value.tuple #[_, Value.int .i64 ((p : Int) + 1), _]) = _; rw [unhide HP1]; rfl, rfl⟩
        · rw [if_neg (fun q => h39 q.2)] at hq
          have HQ := hide hq
          have hc' : ((c : Int) != 39) = true := by simp; omega
          clear hq hgb h39 hp
          go_enter Tryz.func144, Tryz.ntmps144
          go_wp2_with fail
          refine (unhide HSQ2 _).mono ?_
          rintro e w1 ⟨rfl, rfl⟩
          go_wp2_with fail
          go_ret3
          exact ⟨by rw [unhide HQ]; show Ending.returned (Value.tuple #[_, Value.int .i64 (p : Int), _]) = _; rw [unhide HPI]; rfl, rfl⟩
      · rw [if_neg (fun q => hl q.1)] at hq
        have HQ := hide hq
        have hl' : (s.size : Int) ≤ (p : Int) := by omega
        clear hq hp hl
        go_enter Tryz.func144, Tryz.ntmps144
        go_wp2_with fail
        refine (unhide HSQ2 _).mono ?_
        rintro e w1 ⟨rfl, rfl⟩
        go_wp2_with fail
        go_ret3
        exact ⟨by rw [unhide HQ]; show Ending.returned (Value.tuple #[_, Value.int .i64 (p : Int), _]) = _; rw [unhide HPI]; rfl, rfl⟩
theorem hexB_hxB (c : Nat) : hexB c = hxB c := by
  cases h : hxB c with
  | true => exact (hexB_iff c).2 (hxB_hexI.1 h)
  | false =>
    cases h2 : hexB c with
    | true => rw [hxB_hexI.2 ((hexB_iff c).1 h2)] at h; cases h
    | false => rfl
set_option maxRecDepth 100000 in
set_option maxHeartbeats 8000000 in
theorem scalar_ref (n : Int) (w : World) : Calls Tryz.prog 108 #[.int .i64 n] w fun e w' => e = .returned (.bool (decide (widthOf n ≠ 0))) ∧ w' = w := by
  have hw : decide (widthOf n ≠ 0) = decide (0 ≤ n ∧ n ≤ 1114111 ∧ (n < 55296 ∨ 57343 < n)) := by
    apply decide_eq_decide.2
    unfold widthOf
    constructor
    · intro h; repeat' split at h
      all_goals omega
    · intro h
      rw [if_neg (by omega)]
      repeat' split
      all_goals decide
  rw [hw]
  clear hw
  have hcase : (n < 0) ∨ (0 ≤ n ∧ 1114111 < n) ∨ (0 ≤ n ∧ n ≤ 1114111 ∧ n < 55296) ∨ (0 ≤ n ∧ n ≤ 1114111 ∧ ¬ n < 55296 ∧ 57343 < n) ∨ (0 ≤ n ∧ n ≤ 1114111 ∧ ¬ n < 55296 ∧ ¬ 57343 < n) := by omega
  rcases hcase with h | ⟨h1, h2⟩ | ⟨h1, h2, h3⟩ | ⟨h1, h2, h3, h4⟩ | ⟨h1, h2, h3, h4⟩
  · rw [decide_eq_false (by omega)]
    go_enter Tryz.func108, Tryz.ntmps108
    go_wp2
    go_ret
    exact ⟨by first | rfl | (simp; omega), rfl⟩
  · rw [decide_eq_false (by omega)]
    go_enter Tryz.func108, Tryz.ntmps108
    go_wp2
    go_ret
    exact ⟨by first | rfl | (simp; omega), rfl⟩
  · rw [decide_eq_true (by omega)]
    go_enter Tryz.func108, Tryz.ntmps108
    go_wp2
    go_ret
    exact ⟨by first | rfl | (simp; omega), rfl⟩
  · rw [decide_eq_true (by omega)]
    go_enter Tryz.func108, Tryz.ntmps108
    go_wp2
    go_ret
    exact ⟨by first | rfl | (simp; omega), rfl⟩
  · rw [decide_eq_false (by omega)]
    go_enter Tryz.func108, Tryz.ntmps108
    go_wp2
    go_ret
    exact ⟨by first | rfl | (simp; omega), rfl⟩
set_option maxRecDepth 100000 in
set_option maxHeartbeats 8000000 in
theorem value_ref (u : ByteArray) (hu : u.size ≤ 6) (hx : ∀ i, i < u.size → hxB (bt u i) = true) (w : World) : Calls Tryz.prog 171 #[.string u] w fun e w' => e = .returned (.int .i64 (hxV u u.size)) ∧ w' = w := by
  have HX := hide hx
  clear hx
  go_enter Tryz.func171, Tryz.ntmps171
  go_wp2_with fail
  go_loop [3, 4] (fun n i => ∃ k v : Nat, k ≤ u.size ∧ i = .int .i64 k ∧ n = .int .i64 v ∧ Hz (v = hxV u k) ∧ Hz (v < 16 ^ k)) (fun _ i => u.size - (intOf i).toNat)
  case atStart => exact ⟨0, 0, by omega, rfl, rfl, hide rfl, hide (by decide)⟩
  case round =>
    obtain ⟨k, v, hk, rfl, rfl, HV, HL⟩ := hrel
    by_cases hks : k < u.size
    · have hks' : (k : Int) < (u.size : Int) := by omega
      have hgb := bt_get u k hks
      have hcl := bt_lt u k
      have hxk := unhide HX k hks
      obtain ⟨c, ec⟩ : ∃ c, (u[k]'hks).toNat = c := ⟨_, rfl⟩
      rw [hgb, ec] at hcl hxk
      rw [ec] at hgb
      have hvb : v < 1048576 := Nat.lt_of_lt_of_le (unhide HL) (Nat.le_trans (Nat.pow_le_pow_right (by decide) (show k ≤ 5 by omega)) (by decide))
      have hst : hxV u (k + 1) = v * 16 + (hexI c).toNat := by show hxV u k * 16 + (hexI (bt u k)).toNat = _; rw [← unhide HV, hgb]
      have hd := (hexI_nat hxk).1
      have HL2 : Hz (v * 16 + (hexI c).toNat < 16 ^ (k + 1)) := hide (by rw [Nat.pow_succ]; have := unhide HL; omega)
      have HDG := hide (digit_ref c hcl)
      have hx2 := of_decide_eq_true hxk
      by_cases h57 : c ≤ 57
      · have hdc : digB c = true := decide_eq_true (by omega)
        have hI : (hexI c).toNat = c - 48 := by unfold hexI; rw [if_pos (by omega)]; omega
        have hc48 : 48 ≤ c := by omega
        rw [hdc] at HDG
        rw [hI] at hst HL2
        have HST := hide hst
        have HC := hide (show ((v * 16 + (c - 48) : Nat) : Int) = (v : Int) * 16 + ((c : Int) - 48) by omega)
        clear hst hI hgb hxk hx2 hdc hd
        go_wp2_with fail
        refine (unhide HDG _).mono ?_
        rintro e w1 ⟨rfl, rfl⟩
        go_wp2_with fail
        go_round
        case rel => exact ⟨k + 1, v * 16 + (c - 48), by omega, by go_num, by rw [unhide HC], hide (unhide HST).symm, HL2⟩
        case measure => simp [intOf]; omega
      · have hdc : digB c = false := decide_eq_false (by omega)
        have hI : (hexI c).toNat = c - 55 := by unfold hexI; rw [if_neg (by omega), if_pos (by omega)]; omega
        have hc65 : 65 ≤ c := by omega
        rw [hdc] at HDG
        rw [hI] at hst HL2
        have HST := hide hst
        have HC := hide (show ((v * 16 + (c - 55) : Nat) : Int) = (v : Int) * 16 + ((c : Int) - 65) + 10 by omega)
        clear hst hI hgb hxk hx2 hdc hd
        go_wp2_with fail
        refine (unhide HDG _).mono ?_
        rintro e w1 ⟨rfl, rfl⟩
        go_wp2_with fail
        go_round
        case rel => exact ⟨k + 1, v * 16 + (c - 55), by omega, by go_num, by rw [unhide HC], hide (unhide HST).symm, HL2⟩
        case measure => simp [intOf]; omega
    · have hks' : ¬ (k : Int) < (u.size : Int) := by omega
      have HF : Hz (v = hxV u u.size) := hide (by rw [show u.size = k by omega]; exact unhide HV)
      go_wp2_with fail
      go_ret
      exact ⟨by rw [← unhide HF]; rfl, rfl⟩
end Go.Proofs.YtgchlilpjkndlaaGreatDoor
