/- Texts of this claim, one behind the other. -/
import Derived.Test.YtcnhkhjkeemafaaGreatDoorM6
import Derived.Test.YtcnhkhjkeemafaaGreatDoorM5
import Derived.Deep.AppendLies
import Derived.Test.YtcnhkhjkeemafaaGreatDoorM4
import Derived.Laws.BytesArg
/- The reference's word, part C. -/
namespace Go.Proofs.YtcnhkhjkeemafaaGreatDoor
open Go.RowKit Go.Shelf
set_option linter.unusedVariables false
theorem edge_abs (s : ByteArray) (a n : Nat) (h : a + n ≤ s.size) : edgeB (rst s a) n = (decide (a + n = s.size) || !stkB (bt s (a + n))) := by
  unfold edgeB
  rw [rst_size, rst_at s a n (by omega)]
  congr 1
  exact decide_eq_decide.2 (by omega)
theorem word_u_v (s : ByteArray) (a : Nat) (ha : a < s.size) (hc : bt s a = 85) : ∃ V N o, plusV s a = (V, N, o) ∧ 1 ≤ N ∧ a + N ≤ s.size ∧ (o = false → V = 0 ∧ (wordV (rst s a)).n = N ∧ (wordV (rst s a)).ok = false) ∧ (o = true → wordV (rst s a) = ⟨3, ByteArray.empty, V, 0, N, decide (a + N = s.size) || !stkB (bt s (a + N))⟩ ∧ stkB (bt s (a + N - 1)) = true) := by
  have hb0 : bt (rst s a) 0 = bt s a := rst_at s a 0 (by omega)
  have hz := rst_size s a
  have hv0 : wordV (rst s a) = ⟨3, ByteArray.empty, (numdV (rst s a)).1, 0, (numdV (rst s a)).2.1, (numdV (rst s a)).2.2 && edgeB (rst s a) (numdV (rst s a)).2.1⟩ := by
    unfold wordV
    rw [hb0, hc, if_neg (by decide), if_neg (by decide), if_pos rfl]
  have hle := numdV_le (rst s a) (by omega)
  have hed : edgeB (rst s a) (numdV (rst s a)).2.1 = (decide (a + (numdV (rst s a)).2.1 = s.size) || !stkB (bt s (a + (numdV (rst s a)).2.1))) := by
    exact edge_abs s a _ (by omega)
  have hpr : (numdV (rst s a)).2.2 = true → hxB (bt s (a + (numdV (rst s a)).2.1 - 1)) = true := fun h => by
    have h6 : (numdV (rst s a)).2.1 = (numdGo (rst s a) 0 2).2 ∧ 6 ≤ (numdGo (rst s a) 0 2).2 := by
      unfold numdV at h ⊢
      split at h
      · cases h
      · rename_i q1
        rw [if_neg q1]
        split at h
        · cases h
        · rename_i q
          rw [if_neg q]
          exact ⟨rfl, by omega⟩
    have := numdGo_prev (rst s a) (rst s a).size 0 2 (by omega) (by omega) (fun q => by omega) (by omega)
    rw [← h6.1, rst_at s a _ (by omega), ← Nat.add_sub_assoc (by omega)] at this
    exact this
  rw [hv0]
  unfold plusV
  generalize numdV (rst s a) = x at *
  obtain ⟨V, N, o⟩ := x
  simp only [] at hle hed hpr ⊢
  by_cases q : (o && noHex s (a + N)) = true
  · rw [if_pos q]
    have q2 := (Bool.and_eq_true _ _).mp q
    refine ⟨V, N, true, rfl, hle.1, by omega, (fun h => by cases h), fun _ => ⟨?_, stk_hex (hpr q2.1)⟩⟩
    rw [q2.1, Bool.true_and, hed]
  · rw [if_neg q]
    refine ⟨0, N, false, rfl, hle.1, by omega, fun _ => ⟨rfl, rfl, ?_⟩, (fun h => by cases h)⟩
    cases o with
    | false => rfl
    | true =>
      rw [Bool.true_and] at q ⊢
      have hnh : noHex s (a + N) = false := Bool.eq_false_iff.2 q
      unfold noHex at hnh
      simp at hnh
      rw [hed, decide_eq_false (by omega), stk_hex hnh.2]
      rfl
set_option maxRecDepth 100000 in
set_option maxHeartbeats 8000000 in
theorem word_u (s : ByteArray) (hs : s.size ≤ 1099511627776) (a : Nat) (ha : a < s.size) (hc : bt s a = 85) (w : World) : Calls Tryz.prog 25 #[.string s, .int .i64 a] w fun e w' => ∃ V, e = .returned (.tuple #[V, .int .i64 ((a + (wordV (rst s a)).n : Nat) : Int), .bool (wordV (rst s a)).ok]) ∧ ((wordV (rst s a)).ok = true → V = wordA (wordV (rst s a)) a) ∧ IsW V ∧ Below w.heap.size w w' := by
  obtain ⟨V, N, o, hp, hn1, hn2, hno, hok⟩ := word_u_v s a ha hc
  have hnr := plus_ref s hs a ha
  rw [hp] at hnr
  have hpl : a + N - 1 < s.size := by omega
  have hcl := bt_lt s (a + N - 1)
  have hgp := bt_get s (a + N - 1) hpl
  obtain ⟨d, ed⟩ : ∃ d, (s[a + N - 1]'hpl).toNat = d := ⟨_, rfl⟩
  rw [hgp, ed] at hcl
  have hei : (a : Int) + (N : Int) - 1 = ((a + N - 1 : Nat) : Int) := by omega
  have hel : ((a + N - 1 : Nat) : Int) < (s.size : Int) := by omega
  have hen : (a : Int) + (N : Int) ≤ (s.size : Int) := by omega
  have hl : (a : Int) < (s.size : Int) := by omega
  have hgb' : (s[a]'ha).toNat = 85 := (bt_get s a ha).symm.trans hc
  have HN := hide hnr
  clear hnr hp hc
  cases o
  · obtain ⟨rfl, h2, h3⟩ := hno rfl
    rw [h2, h3]
    clear hno hok h2 h3 hgp
    go_enter Tryz.func25, Tryz.ntmps25
    go_wp2_with fail
    have hst0 := wdC_new w a
    generalize (w.alloc (.cells (wz (.int .i64 0)) 43)).alloc (.cells (wz (.int .i64 a)) 43) = W0 at *
    have HST := hide hst0
    clear hst0
    refine (small_int 85 85 rfl (by decide) false (by decide) _).mono ?_
    rintro e w1 ⟨rfl, rfl⟩
    go_wp2_with fail
    refine (digit_int 85 85 rfl (by decide) false (by decide) _).mono ?_
    rintro e w1 ⟨rfl, rfl⟩
    have hcu := (unhide HST).cur
    have k0 := hcu.cell 0
    have f0 := hcu.frozen 0
    have f2 := (hcu.set 0 (.int .i64 3)).frozen 2
    have k2 := (hcu.set 0 (.int .i64 3)).cell 2
    clear hcu
    go_wp2_with fail
    refine (unhide HN _).mono ?_
    rintro e w1 ⟨rfl, rfl⟩
    have h2 := (((unhide HST).set 0 (.int .i64 3)).set 2 (.int .i32 0))
    have r0 := h2.res.cell 0
    have r1 := h2.res.cell 1
    have r2 := h2.res.cell 2
    have r3 := h2.res.cell 3
    have r4 := h2.res.cell 4
    have r5 := h2.res.cell 5
    have rf0 := h2.res.frozen 0
    have rf1 := h2.res.frozen 1
    have rf2 := h2.res.frozen 2
    have rf3 := h2.res.frozen 3
    have rf4 := h2.res.frozen 4
    have rf5 := h2.res.frozen 5
    have hfin := h2.fin (.int .i64 0) (.string ⟨#[]⟩) (.int .i32 0) (.int .i64 0) (.int .i64 0) (.int .i64 0)
    have HFIN := hide hfin
    clear hfin h2
    go_wp2_with fail
    have hfin := unhide HFIN
    have e0 := hfin.1.cell 0
    have e1 := hfin.1.cell 1
    have e2 := hfin.1.cell 2
    have e3 := hfin.1.cell 3
    have e4 := hfin.1.cell 4
    have e5 := hfin.1.cell 5
    have HB := hide hfin.2
    exact bodyPost_ret (v := .tuple #[.agg (wz (.int .i64 0)), .int .i64 ((a : Int) + (N : Int)), .bool false]) (by simp [results, Tryz.results25, go_sem, e0, e1, e2, e3, e4, e5]) rfl ⟨_, rfl, (fun q => by cases q), ⟨_, _, _, _, _, _, rfl⟩, unhide HB⟩
  · obtain ⟨hv, hst⟩ := hok rfl
    rw [hgp, ed] at hst
    have hcr := close_ref d hcl
    rw [hst] at hcr
    have HCL := hide hcr
    rw [hv]
    clear hno hok hgp hst hcr hv
    show Calls Tryz.prog 25 #[.string s, .int .i64 a] w fun e w' => ∃ X, e = .returned (.tuple #[X, .int .i64 ((a + N : Nat) : Int), .bool (decide (a + N = s.size) || !stkB (bt s (a + N)))]) ∧ ((decide (a + N = s.size) || !stkB (bt s (a + N))) = true → X = wordA ⟨3, ByteArray.empty, V, 0, N, decide (a + N = s.size) || !stkB (bt s (a + N))⟩ a) ∧ IsW X ∧ Below w.heap.size w w'
    by_cases hend : a + N < s.size
    · have hend' : (a : Int) + (N : Int) < (s.size : Int) := by omega
      have hge := bt_get s (a + N) hend
      have hxl := bt_lt s (a + N)
      obtain ⟨x, ex⟩ : ∃ x, (s[a + N]'hend).toNat = x := ⟨_, rfl⟩
      rw [hge, ex] at hxl ⊢
      rw [decide_eq_false (by omega), Bool.false_or]
      have hcx := close_ref x hxl
      cases hsx : stkB x
      · rw [hsx] at hcx
        have HX := hide hcx
        clear hcx hge hsx
        go_enter Tryz.func25, Tryz.ntmps25
        go_wp2_with fail
        have hst0 := wdC_new w a
        generalize (w.alloc (.cells (wz (.int .i64 0)) 43)).alloc (.cells (wz (.int .i64 a)) 43) = W0 at *
        have HST := hide hst0
        clear hst0
        refine (small_int 85 85 rfl (by decide) false (by decide) _).mono ?_
        rintro e w1 ⟨rfl, rfl⟩
        go_wp2_with fail
        refine (digit_int 85 85 rfl (by decide) false (by decide) _).mono ?_
        rintro e w1 ⟨rfl, rfl⟩
        have hcu := (unhide HST).cur
        have k0 := hcu.cell 0
        have f0 := hcu.frozen 0
        have f2 := (hcu.set 0 (.int .i64 3)).frozen 2
        have k2 := (hcu.set 0 (.int .i64 3)).cell 2
        clear hcu
        go_wp2_with fail
        refine (unhide HN _).mono ?_
        rintro e w1 ⟨rfl, rfl⟩
        go_wp2_with fail
        refine (unhide HCL _).mono ?_
        rintro e w1 ⟨rfl, rfl⟩
        go_wp2_with fail
        refine (unhide HX _).mono ?_
        rintro e w1 ⟨rfl, rfl⟩
        have h2 := (((unhide HST).set 0 (.int .i64 3)).set 2 (.int .i32 V))
        have r0 := h2.res.cell 0
        have r1 := h2.res.cell 1
        have r2 := h2.res.cell 2
        have r3 := h2.res.cell 3
        have r4 := h2.res.cell 4
        have r5 := h2.res.cell 5
        have rf0 := h2.res.frozen 0
        have rf1 := h2.res.frozen 1
        have rf2 := h2.res.frozen 2
        have rf3 := h2.res.frozen 3
        have rf4 := h2.res.frozen 4
        have rf5 := h2.res.frozen 5
        have c5 := h2.cur.cell 5
        have cf5 := h2.cur.frozen 5
        have h3 := h2.set 5 (.int .i64 ((a : Int) + (N : Int)))
        have g0 := h3.cur.cell 0
        have g1 := h3.cur.cell 1
        have g2 := h3.cur.cell 2
        have g3 := h3.cur.cell 3
        have g4 := h3.cur.cell 4
        have g5 := h3.cur.cell 5
        have hfin := h3.fin (.int .i64 3) (.string (⟨#[]⟩ : ByteArray)) (.int .i32 V) (.int .i64 0) (.int .i64 a) (.int .i64 ((a : Int) + (N : Int)))
        have HFIN := hide hfin
        clear hfin h2 h3
        go_wp2_with fail
        have hfin := unhide HFIN
        have e0 := hfin.1.cell 0
        have e1 := hfin.1.cell 1
        have e2 := hfin.1.cell 2
        have e3 := hfin.1.cell 3
        have e4 := hfin.1.cell 4
        have e5 := hfin.1.cell 5
        have HB := hide hfin.2
        exact bodyPost_ret (v := .tuple #[wordA ⟨3, ByteArray.empty, V, 0, N, true⟩ a, .int .i64 ((a : Int) + (N : Int)), .bool true]) (by simp [results, Tryz.results25, go_sem, e0, e1, e2, e3, e4, e5]; first | rfl | exact ⟨rfl, by omega⟩) rfl ⟨_, rfl, by first | exact fun _ => rfl | rfl, ⟨_, _, _, _, _, _, rfl⟩, unhide HB⟩
      · rw [hsx] at hcx
        have HX := hide hcx
        clear hcx hge hsx
        go_enter Tryz.func25, Tryz.ntmps25
        go_wp2_with fail
        have hst0 := wdC_new w a
        generalize (w.alloc (.cells (wz (.int .i64 0)) 43)).alloc (.cells (wz (.int .i64 a)) 43) = W0 at *
        have HST := hide hst0
        clear hst0
        refine (small_int 85 85 rfl (by decide) false (by decide) _).mono ?_
        rintro e w1 ⟨rfl, rfl⟩
        go_wp2_with fail
        refine (digit_int 85 85 rfl (by decide) false (by decide) _).mono ?_
        rintro e w1 ⟨rfl, rfl⟩
        have hcu := (unhide HST).cur
        have k0 := hcu.cell 0
        have f0 := hcu.frozen 0
        have f2 := (hcu.set 0 (.int .i64 3)).frozen 2
        have k2 := (hcu.set 0 (.int .i64 3)).cell 2
        clear hcu
        go_wp2_with fail
        refine (unhide HN _).mono ?_
        rintro e w1 ⟨rfl, rfl⟩
        go_wp2_with fail
        refine (unhide HCL _).mono ?_
        rintro e w1 ⟨rfl, rfl⟩
        go_wp2_with fail
        refine (unhide HX _).mono ?_
        rintro e w1 ⟨rfl, rfl⟩
        have h2 := (((unhide HST).set 0 (.int .i64 3)).set 2 (.int .i32 V))
        have r0 := h2.res.cell 0
        have r1 := h2.res.cell 1
        have r2 := h2.res.cell 2
        have r3 := h2.res.cell 3
        have r4 := h2.res.cell 4
        have r5 := h2.res.cell 5
        have rf0 := h2.res.frozen 0
        have rf1 := h2.res.frozen 1
        have rf2 := h2.res.frozen 2
        have rf3 := h2.res.frozen 3
        have rf4 := h2.res.frozen 4
        have rf5 := h2.res.frozen 5
        have hfin := h2.fin (.int .i64 0) (.string ⟨#[]⟩) (.int .i32 0) (.int .i64 0) (.int .i64 0) (.int .i64 0)
        have HFIN := hide hfin
        clear hfin h2
        go_wp2_with fail
        have hfin := unhide HFIN
        have e0 := hfin.1.cell 0
        have e1 := hfin.1.cell 1
        have e2 := hfin.1.cell 2
        have e3 := hfin.1.cell 3
        have e4 := hfin.1.cell 4
        have e5 := hfin.1.cell 5
        have HB := hide hfin.2
        exact bodyPost_ret (v := .tuple #[.agg (wz (.int .i64 0)), .int .i64 ((a : Int) + (N : Int)), .bool false]) (by simp [results, Tryz.results25, go_sem, e0, e1, e2, e3, e4, e5]) rfl ⟨_, rfl, (fun q => by cases q), ⟨_, _, _, _, _, _, rfl⟩, unhide HB⟩
    · have hend' : ¬ (a : Int) + (N : Int) < (s.size : Int) := by omega
      rw [decide_eq_true (show a + N = s.size by omega), Bool.true_or]
      go_enter Tryz.func25, Tryz.ntmps25
      go_wp2_with fail
      have hst0 := wdC_new w a
      generalize (w.alloc (.cells (wz (.int .i64 0)) 43)).alloc (.cells (wz (.int .i64 a)) 43) = W0 at *
      have HST := hide hst0
      clear hst0
      refine (small_int 85 85 rfl (by decide) false (by decide) _).mono ?_
      rintro e w1 ⟨rfl, rfl⟩
      go_wp2_with fail
      refine (digit_int 85 85 rfl (by decide) false (by decide) _).mono ?_
      rintro e w1 ⟨rfl, rfl⟩
      have hcu := (unhide HST).cur
      have k0 := hcu.cell 0
      have f0 := hcu.frozen 0
      have f2 := (hcu.set 0 (.int .i64 3)).frozen 2
      have k2 := (hcu.set 0 (.int .i64 3)).cell 2
      clear hcu
      go_wp2_with fail
      refine (unhide HN _).mono ?_
      rintro e w1 ⟨rfl, rfl⟩
      go_wp2_with fail
      refine (unhide HCL _).mono ?_
      rintro e w1 ⟨rfl, rfl⟩
      have h2 := (((unhide HST).set 0 (.int .i64 3)).set 2 (.int .i32 V))
      have r0 := h2.res.cell 0
      have r1 := h2.res.cell 1
      have r2 := h2.res.cell 2
      have r3 := h2.res.cell 3
      have r4 := h2.res.cell 4
      have r5 := h2.res.cell 5
      have rf0 := h2.res.frozen 0
      have rf1 := h2.res.frozen 1
      have rf2 := h2.res.frozen 2
      have rf3 := h2.res.frozen 3
      have rf4 := h2.res.frozen 4
      have rf5 := h2.res.frozen 5
      have c5 := h2.cur.cell 5
      have cf5 := h2.cur.frozen 5
      have h3 := h2.set 5 (.int .i64 ((a : Int) + (N : Int)))
      have g0 := h3.cur.cell 0
      have g1 := h3.cur.cell 1
      have g2 := h3.cur.cell 2
      have g3 := h3.cur.cell 3
      have g4 := h3.cur.cell 4
      have g5 := h3.cur.cell 5
      have hfin := h3.fin (.int .i64 3) (.string (⟨#[]⟩ : ByteArray)) (.int .i32 V) (.int .i64 0) (.int .i64 a) (.int .i64 ((a : Int) + (N : Int)))
      have HFIN := hide hfin
      clear hfin h2 h3
      go_wp2_with fail
      have hfin := unhide HFIN
      have e0 := hfin.1.cell 0
      have e1 := hfin.1.cell 1
      have e2 := hfin.1.cell 2
      have e3 := hfin.1.cell 3
      have e4 := hfin.1.cell 4
      have e5 := hfin.1.cell 5
      have HB := hide hfin.2
      exact bodyPost_ret (v := .tuple #[wordA ⟨3, ByteArray.empty, V, 0, N, true⟩ a, .int .i64 ((a : Int) + (N : Int)), .bool true]) (by simp [results, Tryz.results25, go_sem, e0, e1, e2, e3, e4, e5]; first | rfl | exact ⟨rfl, by omega⟩) rfl ⟨_, rfl, by first | exact fun _ => rfl | rfl, ⟨_, _, _, _, _, _, rfl⟩, unhide HB⟩
def NmSt (t : ByteArray) (n k : Nat) : Prop := k = 0 ∨ (1 ≤ k ∧ n = scanTo (fun j => inNB (bt t j)) (min t.size 32) k)
theorem nm_top {t : ByteArray} {n k : Nat} (h : NmSt t n k) (hk : k = 32) (hs : 32 ≤ t.size) : n = 32 := by
  rcases h with h | ⟨_, h⟩
  · omega
  · rw [h, hk, scanTo_end (by omega)]
theorem nm_end {t : ByteArray} {n k : Nat} (h : NmSt t n k) (h0 : k = 0 → False) (hx : ¬ (k < t.size ∧ inNB (bt t k) = true)) : 1 ≤ k ∧ n = k := by
  rcases h with h | ⟨h1, h⟩
  · exact (h0 h).elim
  · refine ⟨h1, ?_⟩
    rw [h]
    by_cases hl : k < min t.size 32
    · exact scanTo_no (p := fun j => inNB (bt t j)) (Bool.eq_false_iff.2 (fun q => hx ⟨by omega, q⟩))
    · exact scanTo_end hl
theorem nm_step {t : ByteArray} {n k : Nat} (h : NmSt t n k) (hi : n = scanTo (fun j => inNB (bt t j)) (min t.size 32) 1) (hk : k < min t.size 32) (hx : inNB (bt t k) = true) : NmSt t n (k + 1) := by
  rcases h with h | ⟨h1, h⟩
  · rw [h]; exact .inr ⟨by omega, hi⟩
  · exact .inr ⟨by omega, by rw [h, scanTo_go (p := fun j => inNB (bt t j)) hk hx]⟩
set_option maxRecDepth 100000 in
set_option maxHeartbeats 8000000 in
theorem word_name (s : ByteArray) (hs : s.size ≤ 1099511627776) (a : Nat) (ha : a < s.size) (hsml : smallB (bt s a) = true) (w : World) : Calls Tryz.prog 25 #[.string s, .int .i64 a] w fun e w' => ∃ V, e = .returned (.tuple #[V, .int .i64 ((a + (wordV (rst s a)).n : Nat) : Int), .bool (wordV (rst s a)).ok]) ∧ ((wordV (rst s a)).ok = true → V = wordA (wordV (rst s a)) a) ∧ IsW V ∧ Below w.heap.size w w' := by
  have hb0 : bt (rst s a) 0 = bt s a := rst_at s a 0 (by omega)
  have hz := rst_size s a
  have hv0 : wordV (rst s a) = ⟨1, (rst s a).extract 0 (nameLen (rst s a)), 0, 0, nameLen (rst s a), edgeB (rst s a) (nameLen (rst s a))⟩ := by
    unfold wordV
    rw [hb0, if_pos hsml]
  have hini : nameLen (rst s a) = scanTo (fun n => inNB (bt (rst s a) n)) (min (rst s a).size 32) 1 := by
    unfold nameLen
    rw [if_neg (fun q => q.elim (fun q => by omega) (fun q => by rw [hb0, hsml] at q; cases q))]
  have hgb := bt_get s a ha
  have hcb := bt_lt s a
  obtain ⟨c, ec⟩ : ∃ c, (s[a]'ha).toNat = c := ⟨_, rfl⟩
  rw [ec] at hgb
  rw [hgb] at hsml hcb
  have HS0 := hide (small_int (c : Int) c rfl hcb true hsml)
  have hl : (a : Int) < (s.size : Int) := by omega
  rw [hv0]
  generalize nameLen (rst s a) = n at *
  have HINI := hide hini
  clear hv0 hini hb0 hgb
  go_enter Tryz.func25, Tryz.ntmps25
  go_wp2_with fail
  have hst0 := wdC_new w a
  generalize (w.alloc (.cells (wz (.int .i64 0)) 43)).alloc (.cells (wz (.int .i64 a)) 43) = W0 at *
  have HST := hide hst0
  clear hst0
  refine (unhide HS0 _).mono ?_
  rintro e w1 ⟨rfl, rfl⟩
  go_wp2_with fail
  go_loop [8] (fun x => ∃ p k : Nat, p ≤ s.size ∧ a ≤ p ∧ k ≤ 32 ∧ x = .int .i64 p ∧ Hz (p = a + k) ∧ Hz (NmSt (rst s a) n k)) (fun x => s.size - (intOf x).toNat)
  case atStart => exact ⟨a, 0, by omega, by omega, by omega, rfl, hide rfl, hide (.inl rfl)⟩
  case round =>
    obtain ⟨p, k, hp, hap, hk32, rfl, HPK, HNM⟩ := hrel
    have hpk : (p : Int) - (a : Int) = (k : Int) := by have := unhide HPK; omega
    by_cases hps : p < s.size
    · have hps' : (p : Int) < (s.size : Int) := by omega
      have hgx := bt_get s p hps
      have hxl := bt_lt s p
      obtain ⟨x, ex⟩ : ∃ x, (s[p]'hps).toNat = x := ⟨_, rfl⟩
      rw [ex] at hgx
      rw [hgx] at hxl
      have HSM := hide (small_ref x hxl)
      have HDG := hide (digit_ref x hxl)
      cases hsm : smallB x
      · rw [hsm] at HSM
        cases hdg : digB x
        · rw [hdg] at HDG
          by_cases h45 : x = 45
          · have h45' : ((x : Int) == 45) = true := by simp; omega
            have hin : inNB x = true := by unfold inNB; rw [hsm, hdg, decide_eq_true h45]; rfl
            clear h45
            by_cases h32 : k = 32
            · have t32 : ((k : Int) == 32) = true := by simp; omega
              have hnk : n = 32 := nm_top (unhide HNM) h32 (by rw [hz]; have := unhide HPK; omega)
              have he : edgeB (rst s a) n = false := by rw [edge_abs s a n (by have := unhide HPK; omega), hnk, decide_eq_false (by have := unhide HPK; omega), show a + 32 = p by have := unhide HPK; omega, hgx, stk_inN hin]; rfl
              have HEd := hide he
              have HPN := hide (show (p : Int) = ((a + n : Nat) : Int) by have := unhide HPK; omega)
              have h2 := (unhide HST)
              have r0 := h2.res.cell 0
              have r1 := h2.res.cell 1
              have r2 := h2.res.cell 2
              have r3 := h2.res.cell 3
              have r4 := h2.res.cell 4
              have r5 := h2.res.cell 5
              have rf0 := h2.res.frozen 0
              have rf1 := h2.res.frozen 1
              have rf2 := h2.res.frozen 2
              have rf3 := h2.res.frozen 3
              have rf4 := h2.res.frozen 4
              have rf5 := h2.res.frozen 5
              have g0 := h2.cur.cell 0
              have g1 := h2.cur.cell 1
              have g2 := h2.cur.cell 2
              have g3 := h2.cur.cell 3
              have g4 := h2.cur.cell 4
              have g5 := h2.cur.cell 5
              have hfin := h2.fin (.int .i64 0) (.string ⟨#[]⟩) (.int .i32 0) (.int .i64 0) (.int .i64 a) (.int .i64 0)
              have HFIN := hide hfin
              clear hfin h2 he hnk hgx hin h32 HNM
              go_wp2_with fail
              refine (unhide HSM _).mono ?_
              rintro e w1 ⟨rfl, rfl⟩
              go_wp2_with fail
              refine (unhide HDG _).mono ?_
              rintro e w1 ⟨rfl, rfl⟩
              go_wp2_with fail
              have hfin := unhide HFIN
              have e0 := hfin.1.cell 0
              have e1 := hfin.1.cell 1
              have e2 := hfin.1.cell 2
              have e3 := hfin.1.cell 3
              have e4 := hfin.1.cell 4
              have e5 := hfin.1.cell 5
              have HB := hide hfin.2
              exact bodyPost_ret (v := .tuple #[.agg (wz (.int .i64 a)), .int .i64 (p : Int), .bool false]) (by simp [results, Tryz.results25, go_sem, e0, e1, e2, e3, e4, e5]) rfl ⟨_, by rw [unhide HEd, unhide HPN], (fun q => by rw [unhide HEd] at q; cases q), ⟨_, _, _, _, _, _, rfl⟩, unhide HB⟩
            · have t32 : ((k : Int) == 32) = false := by simp; omega
              have HN2 := hide (nm_step (unhide HNM) (unhide HINI) (show k < min (rst s a).size 32 by rw [hz]; have := unhide HPK; omega) (by rw [rst_at s a k (by omega), ← unhide HPK, hgx]; exact hin))
              have HPK2 : Hz (p + 1 = a + (k + 1)) := hide (by have := unhide HPK; omega)
              have HK := hide (show k + 1 ≤ 32 by omega)
              clear hgx hin h32 HNM
              go_wp2_with fail
              refine (unhide HSM _).mono ?_
              rintro e w1 ⟨rfl, rfl⟩
              go_wp2_with fail
              refine (unhide HDG _).mono ?_
              rintro e w1 ⟨rfl, rfl⟩
              go_wp2_with fail
              go_round
              case rel => exact ⟨p + 1, k + 1, by omega, by omega, unhide HK, by go_num, HPK2, HN2⟩
              case measure => simp [intOf]; omega
          · have h45' : ((x : Int) == 45) = false := by simp; omega
            have hin : inNB x = false := by unfold inNB; rw [hsm, hdg, decide_eq_false h45]; rfl
            have hk1 : 1 ≤ k ∧ n = k := nm_end (unhide HNM) (fun e => by rw [e, Nat.add_zero] at HPK; have q := unhide HPK; rw [q, (bt_get s a ha).trans ec] at hgx; rw [← hgx] at hsm; rw [hsml] at hsm; cases hsm) (by rw [hz]; intro q; rw [rst_at s a k (by omega), ← unhide HPK, hgx, hin] at q; cases q.2)
            have hnk := hk1.2
            have hp1 : p - 1 < s.size := by omega
            have hgd := bt_get s (p - 1) hp1
            have hdl := bt_lt s (p - 1)
            have hin1 : inNB (bt s (p - 1)) = true := by
              have := nameLen_prev (rst s a) (min (rst s a).size 32) 1 (by omega) (by omega) (by rw [hz]; omega) (by rw [rst_at s a 0 (by omega), Nat.add_zero, show bt s a = c from (bt_get s a ha).trans ec]; unfold inNB; rw [hsml]; rfl)
              rw [← unhide HINI, rst_at s a _ (by omega), show a + (n - 1) = p - 1 by have := unhide HPK; omega] at this
              exact this
            obtain ⟨d, ed⟩ : ∃ d, (s[p - 1]'hp1).toNat = d := ⟨_, rfl⟩
            rw [ed] at hgd
            rw [hgd] at hdl hin1
            have hcd := close_ref d hdl
            rw [stk_inN hin1] at hcd
            have HCL := hide hcd
            have hei : (p : Int) - 1 = ((p - 1 : Nat) : Int) := by have := unhide HPK; omega
            have hel : ((p - 1 : Nat) : Int) < (s.size : Int) := by omega
            have h39 : ((c : Int) != 39) = true := by have := smallB_iff.1 hsml; simp; omega
            have hap' : (a : Int) ≤ (p : Int) := by omega
            have hps2 : (p : Int) ≤ (s.size : Int) := by omega
            have hpn : p = a + n := by have := unhide HPK; omega
            have hex : (rst s a).extract 0 n = s.extract a p := by
              unfold rst
              rw [ByteArray.extract_extract, Nat.add_zero, hpn, Nat.min_eq_left (by omega)]
            have HEX := hide hex
            have HPN := hide (show (p : Int) = ((a + n : Nat) : Int) by omega)
            have hcx := close_ref x hxl
            cases hsx : stkB x
            · rw [hsx] at hcx
              have HX := hide hcx
              have HEd : Hz (edgeB (rst s a) n = true) := hide (by rw [edge_abs s a n (by omega), decide_eq_false (by omega), ← hpn, hgx, hsx]; rfl)
              clear hk1 hnk hgd hin1 hcd hpn hex hsml HNM hcx hgx hin hsx hsm hdg
              go_wp2_with fail
              refine (unhide HSM _).mono ?_
              rintro e w1 ⟨rfl, rfl⟩
              go_wp2_with fail
              refine (unhide HDG _).mono ?_
              rintro e w1 ⟨rfl, rfl⟩
              have hcu := (unhide HST).cur
              have k0 := hcu.cell 0
              have f0 := hcu.frozen 0
              have f1 := (hcu.set 0 (.int .i64 1)).frozen 1
              have k1 := (hcu.set 0 (.int .i64 1)).cell 1
              clear hcu
              go_wp2_with fail
              refine (unhide HCL _).mono ?_
              rintro e w1 ⟨rfl, rfl⟩
              go_wp2_with fail
              refine (unhide HX _).mono ?_
              rintro e w1 ⟨rfl, rfl⟩
              have h2 := (((unhide HST).set 0 (.int .i64 1)).set 1 (.string (s.extract a p)))
              have r0 := h2.res.cell 0
              have r1 := h2.res.cell 1
              have r2 := h2.res.cell 2
              have r3 := h2.res.cell 3
              have r4 := h2.res.cell 4
              have r5 := h2.res.cell 5
              have rf0 := h2.res.frozen 0
              have rf1 := h2.res.frozen 1
              have rf2 := h2.res.frozen 2
              have rf3 := h2.res.frozen 3
              have rf4 := h2.res.frozen 4
              have rf5 := h2.res.frozen 5
              have c5 := h2.cur.cell 5
              have cf5 := h2.cur.frozen 5
              have h3 := h2.set 5 (.int .i64 (p : Int))
              have g0 := h3.cur.cell 0
              have g1 := h3.cur.cell 1
              have g2 := h3.cur.cell 2
              have g3 := h3.cur.cell 3
              have g4 := h3.cur.cell 4
              have g5 := h3.cur.cell 5
              have hfin := h3.fin (.int .i64 1) (.string (s.extract a p)) (.int .i32 0) (.int .i64 0) (.int .i64 a) (.int .i64 (p : Int))
              have HFIN := hide hfin
              clear hfin h2 h3
              go_wp2_with fail
              have hfin := unhide HFIN
              have e0 := hfin.1.cell 0
              have e1 := hfin.1.cell 1
              have e2 := hfin.1.cell 2
              have e3 := hfin.1.cell 3
              have e4 := hfin.1.cell 4
              have e5 := hfin.1.cell 5
              have HB := hide hfin.2
              exact bodyPost_ret (v := .tuple #[.agg #[.int .i64 1, .string (s.extract a p), .int .i32 0, .int .i64 0, .int .i64 a, .int .i64 (p : Int)], .int .i64 (p : Int), .bool true]) (by simp [results, Tryz.results25, go_sem, e0, e1, e2, e3, e4, e5]) rfl ⟨_, by rw [unhide HEd, unhide HPN], fun _ => by rw [← unhide HEX]; rfl, ⟨_, _, _, _, _, _, rfl⟩, unhide HB⟩
            · rw [hsx] at hcx
              have HX := hide hcx
              have HEd : Hz (edgeB (rst s a) n = false) := hide (by rw [edge_abs s a n (by omega), decide_eq_false (by omega), ← hpn, hgx, hsx]; rfl)
              clear hk1 hnk hgd hin1 hcd hpn hex hsml HNM hcx hgx hin hsx hsm hdg
              go_wp2_with fail
              refine (unhide HSM _).mono ?_
              rintro e w1 ⟨rfl, rfl⟩
              go_wp2_with fail
              refine (unhide HDG _).mono ?_
              rintro e w1 ⟨rfl, rfl⟩
              have hcu := (unhide HST).cur
              have k0 := hcu.cell 0
              have f0 := hcu.frozen 0
              have f1 := (hcu.set 0 (.int .i64 1)).frozen 1
              have k1 := (hcu.set 0 (.int .i64 1)).cell 1
              clear hcu
              go_wp2_with fail
              refine (unhide HCL _).mono ?_
              rintro e w1 ⟨rfl, rfl⟩
              go_wp2_with fail
              refine (unhide HX _).mono ?_
              rintro e w1 ⟨rfl, rfl⟩
              have h2 := (((unhide HST).set 0 (.int .i64 1)).set 1 (.string (s.extract a p)))
              have r0 := h2.res.cell 0
              have r1 := h2.res.cell 1
              have r2 := h2.res.cell 2
              have r3 := h2.res.cell 3
              have r4 := h2.res.cell 4
              have r5 := h2.res.cell 5
              have rf0 := h2.res.frozen 0
              have rf1 := h2.res.frozen 1
              have rf2 := h2.res.frozen 2
              have rf3 := h2.res.frozen 3
              have rf4 := h2.res.frozen 4
              have rf5 := h2.res.frozen 5
              have hfin := h2.fin (.int .i64 0) (.string ⟨#[]⟩) (.int .i32 0) (.int .i64 0) (.int .i64 0) (.int .i64 0)
              have HFIN := hide hfin
              clear hfin h2
              go_wp2_with fail
              have hfin := unhide HFIN
              have e0 := hfin.1.cell 0
              have e1 := hfin.1.cell 1
              have e2 := hfin.1.cell 2
              have e3 := hfin.1.cell 3
              have e4 := hfin.1.cell 4
              have e5 := hfin.1.cell 5
              have HB := hide hfin.2
              exact bodyPost_ret (v := .tuple #[.agg (wz (.int .i64 0)), .int .i64 (p : Int), .bool false]) (by simp [results, Tryz.results25, go_sem, e0, e1, e2, e3, e4, e5]) rfl ⟨_, by rw [unhide HEd, unhide HPN], (fun q => by rw [unhide HEd] at q; cases q), ⟨_, _, _, _, _, _, rfl⟩, unhide HB⟩
        · rw [hdg] at HDG
          have hin : inNB x = true := by unfold inNB; rw [hsm, hdg]; rfl
          by_cases h32 : k = 32
          · have t32 : ((k : Int) == 32) = true := by simp; omega
            have hnk : n = 32 := nm_top (unhide HNM) h32 (by rw [hz]; have := unhide HPK; omega)
            have he : edgeB (rst s a) n = false := by rw [edge_abs s a n (by have := unhide HPK; omega), hnk, decide_eq_false (by have := unhide HPK; omega), show a + 32 = p by have := unhide HPK; omega, hgx, stk_inN hin]; rfl
            have HEd := hide he
            have HPN := hide (show (p : Int) = ((a + n : Nat) : Int) by have := unhide HPK; omega)
            have h2 := (unhide HST)
            have r0 := h2.res.cell 0
            have r1 := h2.res.cell 1
            have r2 := h2.res.cell 2
            have r3 := h2.res.cell 3
            have r4 := h2.res.cell 4
            have r5 := h2.res.cell 5
            have rf0 := h2.res.frozen 0
            have rf1 := h2.res.frozen 1
            have rf2 := h2.res.frozen 2
            have rf3 := h2.res.frozen 3
            have rf4 := h2.res.frozen 4
            have rf5 := h2.res.frozen 5
            have g0 := h2.cur.cell 0
            have g1 := h2.cur.cell 1
            have g2 := h2.cur.cell 2
            have g3 := h2.cur.cell 3
            have g4 := h2.cur.cell 4
            have g5 := h2.cur.cell 5
            have hfin := h2.fin (.int .i64 0) (.string ⟨#[]⟩) (.int .i32 0) (.int .i64 0) (.int .i64 a) (.int .i64 0)
            have HFIN := hide hfin
            clear hfin h2 he hnk hgx hin h32 HNM
            go_wp2_with fail
            refine (unhide HSM _).mono ?_
            rintro e w1 ⟨rfl, rfl⟩
            go_wp2_with fail
            refine (unhide HDG _).mono ?_
            rintro e w1 ⟨rfl, rfl⟩
            go_wp2_with fail
            have hfin := unhide HFIN
            have e0 := hfin.1.cell 0
            have e1 := hfin.1.cell 1
            have e2 := hfin.1.cell 2
            have e3 := hfin.1.cell 3
            have e4 := hfin.1.cell 4
            have e5 := hfin.1.cell 5
            have HB := hide hfin.2
            exact bodyPost_ret (v := .tuple #[.agg (wz (.int .i64 a)), .int .i64 (p : Int), .bool false]) (by simp [results, Tryz.results25, go_sem, e0, e1, e2, e3, e4, e5]) rfl ⟨_, by rw [unhide HEd, unhide HPN], (fun q => by rw [unhide HEd] at q; cases q), ⟨_, _, _, _, _, _, rfl⟩, unhide HB⟩
          · have t32 : ((k : Int) == 32) = false := by simp; omega
            have HN2 := hide (nm_step (unhide HNM) (unhide HINI) (show k < min (rst s a).size 32 by rw [hz]; have := unhide HPK; omega) (by rw [rst_at s a k (by omega), ← unhide HPK, hgx]; exact hin))
            have HPK2 : Hz (p + 1 = a + (k + 1)) := hide (by have := unhide HPK; omega)
            have HK := hide (show k + 1 ≤ 32 by omega)
            clear hgx hin h32 HNM
            go_wp2_with fail
            refine (unhide HSM _).mono ?_
            rintro e w1 ⟨rfl, rfl⟩
            go_wp2_with fail
            refine (unhide HDG _).mono ?_
            rintro e w1 ⟨rfl, rfl⟩
            go_wp2_with fail
            go_round
            case rel => exact ⟨p + 1, k + 1, by omega, by omega, unhide HK, by go_num, HPK2, HN2⟩
            case measure => simp [intOf]; omega
      · rw [hsm] at HSM
        have hin : inNB x = true := by unfold inNB; rw [hsm]; rfl
        by_cases h32 : k = 32
        · have t32 : ((k : Int) == 32) = true := by simp; omega
          have hnk : n = 32 := nm_top (unhide HNM) h32 (by rw [hz]; have := unhide HPK; omega)
          have he : edgeB (rst s a) n = false := by rw [edge_abs s a n (by have := unhide HPK; omega), hnk, decide_eq_false (by have := unhide HPK; omega), show a + 32 = p by have := unhide HPK; omega, hgx, stk_inN hin]; rfl
          have HEd := hide he
          have HPN := hide (show (p : Int) = ((a + n : Nat) : Int) by have := unhide HPK; omega)
          have h2 := (unhide HST)
          have r0 := h2.res.cell 0
          have r1 := h2.res.cell 1
          have r2 := h2.res.cell 2
          have r3 := h2.res.cell 3
          have r4 := h2.res.cell 4
          have r5 := h2.res.cell 5
          have rf0 := h2.res.frozen 0
          have rf1 := h2.res.frozen 1
          have rf2 := h2.res.frozen 2
          have rf3 := h2.res.frozen 3
          have rf4 := h2.res.frozen 4
          have rf5 := h2.res.frozen 5
          have g0 := h2.cur.cell 0
          have g1 := h2.cur.cell 1
          have g2 := h2.cur.cell 2
          have g3 := h2.cur.cell 3
          have g4 := h2.cur.cell 4
          have g5 := h2.cur.cell 5
          have hfin := h2.fin (.int .i64 0) (.string ⟨#[]⟩) (.int .i32 0) (.int .i64 0) (.int .i64 a) (.int .i64 0)
          have HFIN := hide hfin
          clear hfin h2 he hnk hgx hin h32 HNM
          go_wp2_with fail
          refine (unhide HSM _).mono ?_
          rintro e w1 ⟨rfl, rfl⟩
          go_wp2_with fail
          have hfin := unhide HFIN
          have e0 := hfin.1.cell 0
          have e1 := hfin.1.cell 1
          have e2 := hfin.1.cell 2
          have e3 := hfin.1.cell 3
          have e4 := hfin.1.cell 4
          have e5 := hfin.1.cell 5
          have HB := hide hfin.2
          exact bodyPost_ret (v := .tuple #[.agg (wz (.int .i64 a)), .int .i64 (p : Int), .bool false]) (by simp [results, Tryz.results25, go_sem, e0, e1, e2, e3, e4, e5]) rfl ⟨_, by rw [unhide HEd, unhide HPN], (fun q => by rw [unhide HEd] at q; cases q), ⟨_, _, _, _, _, _, rfl⟩, unhide HB⟩
        · have t32 : ((k : Int) == 32) = false := by simp; omega
          have HN2 := hide (nm_step (unhide HNM) (unhide HINI) (show k < min (rst s a).size 32 by rw [hz]; have := unhide HPK; omega) (by rw [rst_at s a k (by omega), ← unhide HPK, hgx]; exact hin))
          have HPK2 : Hz (p + 1 = a + (k + 1)) := hide (by have := unhide HPK; omega)
          have HK := hide (show k + 1 ≤ 32 by omega)
          clear hgx hin h32 HNM
          go_wp2_with fail
          refine (unhide HSM _).mono ?_
          rintro e w1 ⟨rfl, rfl⟩
          go_wp2_with fail
          go_round
          case rel => exact ⟨p + 1, k + 1, by omega, by omega, unhide HK, by go_num, HPK2, HN2⟩
          case measure => simp [intOf]; omega
    · skip
      have hps' : ¬ (p : Int) < (s.size : Int) := by omega
      have hk1 : 1 ≤ k ∧ n = k := nm_end (unhide HNM) (fun e => by have q := unhide HPK; omega) (by rw [hz]; intro q; have := unhide HPK; omega)
      have hnk := hk1.2
      have hp1 : p - 1 < s.size := by omega
      have hgd := bt_get s (p - 1) hp1
      have hdl := bt_lt s (p - 1)
      have hin1 : inNB (bt s (p - 1)) = true := by
        have := nameLen_prev (rst s a) (min (rst s a).size 32) 1 (by omega) (by omega) (by rw [hz]; omega) (by rw [rst_at s a 0 (by omega), Nat.add_zero, show bt s a = c from (bt_get s a ha).trans ec]; unfold inNB; rw [hsml]; rfl)
        rw [← unhide HINI, rst_at s a _ (by omega), show a + (n - 1) = p - 1 by have := unhide HPK; omega] at this
        exact this
      obtain ⟨d, ed⟩ : ∃ d, (s[p - 1]'hp1).toNat = d := ⟨_, rfl⟩
      rw [ed] at hgd
      rw [hgd] at hdl hin1
      have hcd := close_ref d hdl
      rw [stk_inN hin1] at hcd
      have HCL := hide hcd
      have hei : (p : Int) - 1 = ((p - 1 : Nat) : Int) := by have := unhide HPK; omega
      have hel : ((p - 1 : Nat) : Int) < (s.size : Int) := by omega
      have h39 : ((c : Int) != 39) = true := by have := smallB_iff.1 hsml; simp; omega
      have hap' : (a : Int) ≤ (p : Int) := by omega
      have hps2 : (p : Int) ≤ (s.size : Int) := by omega
      have hpn : p = a + n := by have := unhide HPK; omega
      have hex : (rst s a).extract 0 n = s.extract a p := by
        unfold rst
        rw [ByteArray.extract_extract, Nat.add_zero, hpn, Nat.min_eq_left (by omega)]
      have HEX := hide hex
      have HPN := hide (show (p : Int) = ((a + n : Nat) : Int) by omega)
      have HEd : Hz (edgeB (rst s a) n = true) := hide (by rw [edge_abs s a n (by omega), decide_eq_true (by omega)]; rfl)
      clear hk1 hnk hgd hin1 hcd hpn hex hsml HNM
      have hcu := (unhide HST).cur
      have k0 := hcu.cell 0
      have f0 := hcu.frozen 0
      have f1 := (hcu.set 0 (.int .i64 1)).frozen 1
      have k1 := (hcu.set 0 (.int .i64 1)).cell 1
      clear hcu
      go_wp2_with fail
      refine (unhide HCL _).mono ?_
      rintro e w1 ⟨rfl, rfl⟩
      have h2 := (((unhide HST).set 0 (.int .i64 1)).set 1 (.string (s.extract a p)))
      have r0 := h2.res.cell 0
      have r1 := h2.res.cell 1
      have r2 := h2.res.cell 2
      have r3 := h2.res.cell 3
      have r4 := h2.res.cell 4
      have r5 := h2.res.cell 5
      have rf0 := h2.res.frozen 0
      have rf1 := h2.res.frozen 1
      have rf2 := h2.res.frozen 2
      have rf3 := h2.res.frozen 3
      have rf4 := h2.res.frozen 4
      have rf5 := h2.res.frozen 5
      have c5 := h2.cur.cell 5
      have cf5 := h2.cur.frozen 5
      have h3 := h2.set 5 (.int .i64 (p : Int))
      have g0 := h3.cur.cell 0
      have g1 := h3.cur.cell 1
      have g2 := h3.cur.cell 2
      have g3 := h3.cur.cell 3
      have g4 := h3.cur.cell 4
      have g5 := h3.cur.cell 5
      have hfin := h3.fin (.int .i64 1) (.string (s.extract a p)) (.int .i32 0) (.int .i64 0) (.int .i64 a) (.int .i64 (p : Int))
      have HFIN := hide hfin
      clear hfin h2 h3
      go_wp2_with fail
      have hfin := unhide HFIN
      have e0 := hfin.1.cell 0
      have e1 := hfin.1.cell 1
      have e2 := hfin.1.cell 2
      have e3 := hfin.1.cell 3
      have e4 := hfin.1.cell 4
      have e5 := hfin.1.cell 5
      have HB := hide hfin.2
      exact bodyPost_ret (v := .tuple #[.agg #[.int .i64 1, .string (s.extract a p), .int .i32 0, .int .i64 0, .int .i64 a, .int .i64 (p : Int)], .int .i64 (p : Int), .bool true]) (by simp [results, Tryz.results25, go_sem, e0, e1, e2, e3, e4, e5]) rfl ⟨_, by rw [unhide HEd, unhide HPN], fun _ => by rw [← unhide HEX]; rfl, ⟨_, _, _, _, _, _, rfl⟩, unhide HB⟩
end Go.Proofs.YtcnhkhjkeemafaaGreatDoor
/- The reference's word, part D. -/
namespace Go.Proofs.YtcnhkhjkeemafaaGreatDoor
open Go.RowKit Go.Shelf
set_option linter.unusedVariables false
theorem sgn_dot (t : ByteArray) (h : bt t 0 = 46) : sgnV t = if dotsB t = true then (9, 2, true) else (0, 1, false) := by
  unfold sgnV
  rw [h, if_neg (by decide), if_neg (by decide), if_neg (by decide), if_neg (by decide), if_neg (by decide), if_pos rfl]
theorem dots_yes (t : ByteArray) (h : 2 ≤ t.size) (h0 : bt t 0 = 46) (h1 : bt t 1 = 46) : dotsB t = true := by
  have e : t.data.toList = t.get! 0 :: t.get! 1 :: t.data.toList.drop 2 := by
    have a := drop_bt t 0 (by omega)
    have b := drop_bt t 1 (by omega)
    rw [List.drop_zero] at a
    exact a.trans (congrArg (List.cons _) b)
  have g0 : t.get! 0 = 46 := by rw [← UInt8.toNat_inj]; exact h0
  have g1 : t.get! 1 = 46 := by rw [← UInt8.toNat_inj]; exact h1
  unfold dotsB
  rw [e, g0, g1]
  rfl
theorem dots_no (t : ByteArray) (h : ¬ (2 ≤ t.size ∧ bt t 1 = 46)) : dotsB t = false := by
  cases q : dotsB t with
  | false => rfl
  | true =>
    have h2 := dotsB_iff t q
    have e : t.data.toList = t.get! 0 :: t.get! 1 :: t.data.toList.drop 2 := by
      have a := drop_bt t 0 (by omega)
      have b := drop_bt t 1 (by omega)
      rw [List.drop_zero] at a
      exact a.trans (congrArg (List.cons _) b)
    have hp : [46, 46] <+: t.data.toList := List.isPrefixOf_iff_prefix.1 q
    rw [e] at hp
    obtain ⟨r, hr⟩ := hp
    have : t.get! 1 = 46 := by
      have := congrArg (fun l => l[1]?) hr
      simpa using this.symm
    exact absurd ⟨h2, by unfold bt; rw [this]; rfl⟩ h
set_option maxRecDepth 100000 in
set_option maxHeartbeats 8000000 in
theorem word_dot (s : ByteArray) (hs : s.size ≤ 1099511627776) (a : Nat) (ha : a < s.size) (hc : bt s a = 46) (w : World) : Calls Tryz.prog 25 #[.string s, .int .i64 a] w fun e w' => ∃ V, e = .returned (.tuple #[V, .int .i64 ((a + (wordV (rst s a)).n : Nat) : Int), .bool (wordV (rst s a)).ok]) ∧ ((wordV (rst s a)).ok = true → V = wordA (wordV (rst s a)) a) ∧ IsW V ∧ Below w.heap.size w w' := by
  have hb0 : bt (rst s a) 0 = bt s a := rst_at s a 0 (by omega)
  have hb1 : bt (rst s a) 1 = bt s (a + 1) := rst_at s a 1 (by omega)
  have hz := rst_size s a
  have hv : wordV (rst s a) = if dotsB (rst s a) = true then ⟨9, ByteArray.empty, 0, 0, 2, true⟩ else ⟨0, ByteArray.empty, 0, 0, 1, false⟩ := by
    unfold wordV
    rw [hb0, hc, if_neg (by decide), if_neg (by decide), if_neg (by decide), if_neg (by decide), sgn_dot _ (by rw [hb0]; exact hc)]
    by_cases q : dotsB (rst s a) = true
    · rw [if_pos q, if_pos q]
    · rw [if_neg q, if_neg q]
  have hgb := bt_get s a ha
  rw [hc] at hgb
  have hl : (a : Int) < (s.size : Int) := by omega
  have hgb' : (s[a]'ha).toNat = 46 := hgb.symm
  by_cases hl1 : a + 1 < s.size
  · have hl1' : (a : Int) + 1 < (s.size : Int) := by omega
    have hg1 := bt_get s (a + 1) hl1
    obtain ⟨d, ed⟩ : ∃ d, (s[a + 1]'hl1).toNat = d := ⟨_, rfl⟩
    rw [ed] at hg1
    by_cases hd : d = 46
    · subst hd
      rw [dots_yes _ (by omega) (by rw [hb0]; exact hc) (by rw [hb1]; exact hg1), if_pos rfl] at hv
      rw [hv]
      have hei : (a : Int) + 1 + 1 - 1 = (a : Int) + 1 := by omega
      clear hv hb0 hb1 hc hgb hg1 hz
      go_enter Tryz.func25, Tryz.ntmps25
      go_wp2_with fail
      have hst0 := wdC_new w a
      generalize (w.alloc (.cells (wz (.int .i64 0)) 43)).alloc (.cells (wz (.int .i64 a)) 43) = W0 at *
      have HST := hide hst0
      clear hst0
      refine (small_int 46 46 rfl (by decide) false (by decide) _).mono ?_
      rintro e w1 ⟨rfl, rfl⟩
      go_wp2_with fail
      refine (digit_int 46 46 rfl (by decide) false (by decide) _).mono ?_
      rintro e w1 ⟨rfl, rfl⟩
      have hcu := (unhide HST).cur
      have k0 := hcu.cell 0
      have f0 := hcu.frozen 0
      clear hcu
      go_wp2_with fail
      refine (close_int 46 46 rfl (by decide) false (by decide) _).mono ?_
      rintro e w1 ⟨rfl, rfl⟩
      have h2 := ((unhide HST).set 0 (.int .i64 9))
      have r0 := h2.res.cell 0
      have r1 := h2.res.cell 1
      have r2 := h2.res.cell 2
      have r3 := h2.res.cell 3
      have r4 := h2.res.cell 4
      have r5 := h2.res.cell 5
      have rf0 := h2.res.frozen 0
      have rf1 := h2.res.frozen 1
      have rf2 := h2.res.frozen 2
      have rf3 := h2.res.frozen 3
      have rf4 := h2.res.frozen 4
      have rf5 := h2.res.frozen 5
      have c5 := h2.cur.cell 5
      have cf5 := h2.cur.frozen 5
      have h3 := h2.set 5 (.int .i64 ((a : Int) + 1 + 1))
      have g0 := h3.cur.cell 0
      have g1 := h3.cur.cell 1
      have g2 := h3.cur.cell 2
      have g3 := h3.cur.cell 3
      have g4 := h3.cur.cell 4
      have g5 := h3.cur.cell 5
      have hfin := h3.fin (.int .i64 9) (.string (⟨#[]⟩ : ByteArray)) (.int .i32 0) (.int .i64 0) (.int .i64 a) (.int .i64 ((a : Int) + 1 + 1))
      have HFIN := hide hfin
      clear hfin h2 h3
      go_wp2_with fail
      have hfin := unhide HFIN
      have e0 := hfin.1.cell 0
      have e1 := hfin.1.cell 1
      have e2 := hfin.1.cell 2
      have e3 := hfin.1.cell 3
      have e4 := hfin.1.cell 4
      have e5 := hfin.1.cell 5
      have HB := hide hfin.2
      exact bodyPost_ret (v := .tuple #[wordA ⟨9, ByteArray.empty, 0, 0, 2, true⟩ a, .int .i64 ((a : Int) + 1 + 1), .bool true]) (by simp [results, Tryz.results25, go_sem, e0, e1, e2, e3, e4, e5]; first | rfl | exact ⟨rfl, by omega⟩) rfl ⟨_, rfl, by first | exact fun _ => rfl | rfl, ⟨_, _, _, _, _, _, rfl⟩, unhide HB⟩
    · rw [dots_no _ (by rw [hb1, hg1]; exact fun q => hd q.2), if_neg (by decide)] at hv
      rw [hv]
      have hd' : ((d : Int) == 46) = false := by simp; omega
      clear hv hb0 hb1 hc hgb hg1 hz hd
      go_enter Tryz.func25, Tryz.ntmps25
      go_wp2_with fail
      have hst0 := wdC_new w a
      generalize (w.alloc (.cells (wz (.int .i64 0)) 43)).alloc (.cells (wz (.int .i64 a)) 43) = W0 at *
      have HST := hide hst0
      clear hst0
      refine (small_int 46 46 rfl (by decide) false (by decide) _).mono ?_
      rintro e w1 ⟨rfl, rfl⟩
      go_wp2_with fail
      refine (digit_int 46 46 rfl (by decide) false (by decide) _).mono ?_
      rintro e w1 ⟨rfl, rfl⟩
      have hcu := (unhide HST).cur
      have k0 := hcu.cell 0
      have f0 := hcu.frozen 0
      clear hcu
      have h2 := ((unhide HST).set 0 (.int .i64 9))
      have r0 := (unhide HST).res.cell 0
      have r1 := (unhide HST).res.cell 1
      have r2 := (unhide HST).res.cell 2
      have r3 := (unhide HST).res.cell 3
      have r4 := (unhide HST).res.cell 4
      have r5 := (unhide HST).res.cell 5
      have rf0 := (unhide HST).res.frozen 0
      have rf1 := (unhide HST).res.frozen 1
      have rf2 := (unhide HST).res.frozen 2
      have rf3 := (unhide HST).res.frozen 3
      have rf4 := (unhide HST).res.frozen 4
      have rf5 := (unhide HST).res.frozen 5
      have hfin := h2.fin (.int .i64 0) (.string ⟨#[]⟩) (.int .i32 0) (.int .i64 0) (.int .i64 0) (.int .i64 0)
      have HFIN := hide hfin
      clear hfin h2
      go_wp2_with fail
      have hfin := unhide HFIN
      have e0 := hfin.1.cell 0
      have e1 := hfin.1.cell 1
      have e2 := hfin.1.cell 2
      have e3 := hfin.1.cell 3
      have e4 := hfin.1.cell 4
      have e5 := hfin.1.cell 5
      have HB := hide hfin.2
      exact bodyPost_ret (v := .tuple #[.agg (wz (.int .i64 0)), .int .i64 ((a : Int) + (1 : Int)), .bool false]) (by simp [results, Tryz.results25, go_sem, e0, e1, e2, e3, e4, e5]) rfl ⟨_, rfl, (fun q => by cases q), ⟨_, _, _, _, _, _, rfl⟩, unhide HB⟩
  · have hl1' : ¬ (a : Int) + 1 < (s.size : Int) := by omega
    rw [dots_no _ (by omega), if_neg (by decide)] at hv
    rw [hv]
    have hsz : (s.size : Int) = (a : Int) + 1 := by omega
    clear hv hb0 hb1 hc hgb hz hl1' hl1
    go_enter Tryz.func25, Tryz.ntmps25
    go_wp2_with fail
    have hst0 := wdC_new w a
    generalize (w.alloc (.cells (wz (.int .i64 0)) 43)).alloc (.cells (wz (.int .i64 a)) 43) = W0 at *
    have HST := hide hst0
    clear hst0
    refine (small_int 46 46 rfl (by decide) false (by decide) _).mono ?_
    rintro e w1 ⟨rfl, rfl⟩
    go_wp2_with fail
    refine (digit_int 46 46 rfl (by decide) false (by decide) _).mono ?_
    rintro e w1 ⟨rfl, rfl⟩
    have hcu := (unhide HST).cur
    have k0 := hcu.cell 0
    have f0 := hcu.frozen 0
    clear hcu
    have h2 := ((unhide HST).set 0 (.int .i64 9))
    have r0 := (unhide HST).res.cell 0
    have r1 := (unhide HST).res.cell 1
    have r2 := (unhide HST).res.cell 2
    have r3 := (unhide HST).res.cell 3
    have r4 := (unhide HST).res.cell 4
    have r5 := (unhide HST).res.cell 5
    have rf0 := (unhide HST).res.frozen 0
    have rf1 := (unhide HST).res.frozen 1
    have rf2 := (unhide HST).res.frozen 2
    have rf3 := (unhide HST).res.frozen 3
    have rf4 := (unhide HST).res.frozen 4
    have rf5 := (unhide HST).res.frozen 5
    have hfin := h2.fin (.int .i64 0) (.string ⟨#[]⟩) (.int .i32 0) (.int .i64 0) (.int .i64 0) (.int .i64 0)
    have HFIN := hide hfin
    clear hfin h2
    go_wp2_with fail
    have hfin := unhide HFIN
    have e0 := hfin.1.cell 0
    have e1 := hfin.1.cell 1
    have e2 := hfin.1.cell 2
    have e3 := hfin.1.cell 3
    have e4 := hfin.1.cell 4
    have e5 := hfin.1.cell 5
    have HB := hide hfin.2
    exact bodyPost_ret (v := .tuple #[.agg (wz (.int .i64 0)), .int .i64 ((a : Int) + (1 : Int)), .bool false]) (by simp [results, Tryz.results25, go_sem, e0, e1, e2, e3, e4, e5]) rfl ⟨_, rfl, (fun q => by cases q), ⟨_, _, _, _, _, _, rfl⟩, unhide HB⟩
set_option maxRecDepth 100000 in
set_option maxHeartbeats 8000000 in
theorem word_other (s : ByteArray) (hs : s.size ≤ 1099511627776) (a : Nat) (ha : a < s.size) (h1 : smallB (bt s a) = false) (h2 : digB (bt s a) = false) (hn : bt s a ≠ 85 ∧ bt s a ≠ 39 ∧ bt s a ≠ 46 ∧ bt s a ≠ 123 ∧ bt s a ≠ 125 ∧ bt s a ≠ 59 ∧ bt s a ≠ 61 ∧ bt s a ≠ 43) (w : World) : Calls Tryz.prog 25 #[.string s, .int .i64 a] w fun e w' => ∃ V, e = .returned (.tuple #[V, .int .i64 ((a + (wordV (rst s a)).n : Nat) : Int), .bool (wordV (rst s a)).ok]) ∧ ((wordV (rst s a)).ok = true → V = wordA (wordV (rst s a)) a) ∧ IsW V ∧ Below w.heap.size w w' := by
  have hb0 : bt (rst s a) 0 = bt s a := rst_at s a 0 (by omega)
  have hv : wordV (rst s a) = ⟨0, ByteArray.empty, 0, 0, 0, false⟩ := by
    unfold wordV sgnV
    rw [hb0, if_neg (by rw [h1]; decide), if_neg (by rw [h2]; decide), if_neg hn.1, if_neg hn.2.1, if_neg hn.2.2.2.1, if_neg hn.2.2.2.2.1, if_neg hn.2.2.2.2.2.1, if_neg hn.2.2.2.2.2.2.1, if_neg hn.2.2.2.2.2.2.2, if_neg hn.2.2.1]
  rw [hv]
  have hcl := bt_lt s a
  have hgb := bt_get s a ha
  obtain ⟨c, ec⟩ : ∃ c, (s[a]'ha).toNat = c := ⟨_, rfl⟩
  rw [ec] at hgb
  rw [hgb] at h1 h2 hn hcl
  have hl : (a : Int) < (s.size : Int) := by omega
  obtain ⟨n1, n2, n3, n4, n5, n6, n7, n8⟩ := hn
  have d1 : ((c : Int) == 85) = false := by simp; omega
  have d2 : ((c : Int) == 39) = false := by simp; omega
  have d3 : ((c : Int) == 46) = false := by simp; omega
  have d4 : ((123 : Int) == (c : Int)) = false := by simp; omega
  have d5 : ((125 : Int) == (c : Int)) = false := by simp; omega
  have d6 : ((59 : Int) == (c : Int)) = false := by simp; omega
  have d7 : ((61 : Int) == (c : Int)) = false := by simp; omega
  have d8 : ((43 : Int) == (c : Int)) = false := by simp; omega
  have s0 : ((⟨#[123, 125, 59, 61, 43]⟩ : ByteArray)[0]'(by decide)).toNat = 123 := rfl
  have s1 : ((⟨#[123, 125, 59, 61, 43]⟩ : ByteArray)[1]'(by decide)).toNat = 125 := rfl
  have s2 : ((⟨#[123, 125, 59, 61, 43]⟩ : ByteArray)[2]'(by decide)).toNat = 59 := rfl
  have s3 : ((⟨#[123, 125, 59, 61, 43]⟩ : ByteArray)[3]'(by decide)).toNat = 61 := rfl
  have s4 : ((⟨#[123, 125, 59, 61, 43]⟩ : ByteArray)[4]'(by decide)).toNat = 43 := rfl
  have HS := hide (small_ref c hcl)
  have HD := hide (digit_ref c hcl)
  rw [h1] at HS
  rw [h2] at HD
  clear hv hb0 hgb h1 h2 n1 n2 n3 n4 n5 n6 n7 n8
  go_enter Tryz.func25, Tryz.ntmps25
  go_wp2_with fail
  have hst0 := wdC_new w a
  generalize (w.alloc (.cells (wz (.int .i64 0)) 43)).alloc (.cells (wz (.int .i64 a)) 43) = W0 at *
  have HST := hide hst0
  clear hst0
  refine (unhide HS _).mono ?_
  rintro e w1 ⟨rfl, rfl⟩
  go_wp2_with fail
  refine (unhide HD _).mono ?_
  rintro e w1 ⟨rfl, rfl⟩
  have h2 := (unhide HST)
  have r0 := h2.res.cell 0
  have r1 := h2.res.cell 1
  have r2 := h2.res.cell 2
  have r3 := h2.res.cell 3
  have r4 := h2.res.cell 4
  have r5 := h2.res.cell 5
  have rf0 := h2.res.frozen 0
  have rf1 := h2.res.frozen 1
  have rf2 := h2.res.frozen 2
  have rf3 := h2.res.frozen 3
  have rf4 := h2.res.frozen 4
  have rf5 := h2.res.frozen 5
  have g0 := h2.cur.cell 0
  have g1 := h2.cur.cell 1
  have g2 := h2.cur.cell 2
  have g3 := h2.cur.cell 3
  have g4 := h2.cur.cell 4
  have g5 := h2.cur.cell 5
  have hfin := h2.fin (.int .i64 0) (.string ⟨#[]⟩) (.int .i32 0) (.int .i64 0) (.int .i64 a) (.int .i64 0)
  have HFIN := hide hfin
  clear hfin h2
  go_wp2_with fail
  refine wp_loop_rounds 6 ?_
  iterate 6
    rw [rounds_succ]
    go_wp2_with fail
  have hfin := unhide HFIN
  have e0 := hfin.1.cell 0
  have e1 := hfin.1.cell 1
  have e2 := hfin.1.cell 2
  have e3 := hfin.1.cell 3
  have e4 := hfin.1.cell 4
  have e5 := hfin.1.cell 5
  have HB := hide hfin.2
  exact bodyPost_ret (v := .tuple #[.agg (wz (.int .i64 a)), .int .i64 (a : Int), .bool false]) (by simp [results, Tryz.results25, go_sem, e0, e1, e2, e3, e4, e5]) rfl ⟨_, rfl, (fun q => by cases q), ⟨_, _, _, _, _, _, rfl⟩, unhide HB⟩
end Go.Proofs.YtcnhkhjkeemafaaGreatDoor
/- The reference's word, at every place. -/
namespace Go.Proofs.YtcnhkhjkeemafaaGreatDoor
open Go.RowKit Go.Shelf
set_option linter.unusedVariables false
theorem word_any (s : ByteArray) (hs : s.size ≤ 1099511627776) (a : Nat) (ha : a < s.size) (w : World) : Calls Tryz.prog 25 #[.string s, .int .i64 a] w fun e w' => ∃ V, e = .returned (.tuple #[V, .int .i64 ((a + (wordV (rst s a)).n : Nat) : Int), .bool (wordV (rst s a)).ok]) ∧ ((wordV (rst s a)).ok = true → V = wordA (wordV (rst s a)) a) ∧ IsW V ∧ Below w.heap.size w w' := by
  cases h1 : smallB (bt s a)
  · cases h2 : digB (bt s a)
    · by_cases q1 : bt s a = 85
      · exact word_u s hs a ha q1 w
      by_cases q2 : bt s a = 39
      · exact word_quo s hs a ha q2 w
      by_cases q3 : bt s a = 46
      · exact word_dot s hs a ha q3 w
      by_cases q4 : bt s a = 123
      · exact word_open s hs a ha q4 w
      by_cases q5 : bt s a = 125
      · exact word_shut s hs a ha q5 w
      by_cases q6 : bt s a = 59
      · exact word_semi s hs a ha q6 w
      by_cases q7 : bt s a = 61
      · exact word_asg s hs a ha q7 w
      by_cases q8 : bt s a = 43
      · exact word_plus s hs a ha q8 w
      exact word_other s hs a ha h1 h2 ⟨q1, q2, q3, q4, q5, q6, q7, q8⟩ w
    · exact word_num s hs a ha h2 w
  · exact word_name s hs a ha h1 w
end Go.Proofs.YtcnhkhjkeemafaaGreatDoor
/- The reference's Words. -/
namespace Go.Proofs.YtcnhkhjkeemafaaGreatDoor
open Go.RowKit Go.Shelf
set_option linter.unusedVariables false
def rdCells (x : Wd) : List Value := [.int .i64 x.v.kind, .string x.v.S, .int .i32 x.v.R, .int .i64 x.v.N, .int .i64 x.b, .int .i64 x.e]
def encR (ws : List Wd) : List Value := ws.flatMap rdCells
theorem encR_snoc (ws : List Wd) (x : Wd) : encR (ws ++ [x]) = encR ws ++ rdCells x := by simp [encR]
theorem infoRW : (Tryz.prog.info? 43).map (fun i => (i.zero, i.size, i.bytes)) = some (some (.agg #[.int .i64 0, .string ⟨#[]⟩, .int .i32 0, .int .i64 0, .int .i64 0, .int .i64 0]), 6, 56) := by kernel_rfl
theorem new_cells6 (W : World) (c0 c1 c2 c3 c4 c5 : Value) (t : TypeId) : ∀ j u, [c0, c1, c2, c3, c4, c5][j]? = some u → (W.alloc (.cells #[c0, c1, c2, c3, c4, c5] t)).cell? ((⟨W.heap.size, 0, none⟩ : Addr).add j) = some u := by
  intro j u hj
  have := (Blk.new W #[c0, c1, c2, c3, c4, c5] t).cell j
  rw [show (⟨W.heap.size, 0, none⟩ : Addr).add j = ⟨W.heap.size, j, none⟩ by unfold Addr.add; split <;> simp_all, this, ← hj]
  simp
theorem own_belowW {W W' : World} {base e size n : Nat} {v : Value} {xs : List Value} (h : W.ownsRow base e size v n xs) (hb : Below W.heap.size W W') : W'.ownsRow base e size v n xs :=
  h.kept (row := none) ⟨hb.os, hb.tape, hb.output, hb.size, fun j hj _ => hb.block j hj⟩ (by cases v.ownBlock <;> simp)
/-- What is left to be cut. -/
structure RwSt (s : ByteArray) (f b : Nat) (x : Nat × Nat) (ws : List Wd) : Prop where
  eq : wordsV s = cutGo s f b x ws
  fu : s.size < b + f
  le : b ≤ s.size
  len : ws.length ≤ b
theorem gapA_gB (s : ByteArray) (b : Nat) : gapA s b = (gB s b, (gapV (rst s b)).2) := rfl
theorem RwSt.bad {s : ByteArray} {f b : Nat} {x : Nat × Nat} {ws : List Wd} (h : RwSt s f b x ws) (hg : (gapV (rst s b)).2 = false) : (wordsV s).ok = false ∧ (wordsV s).b = gB s b := by
  obtain ⟨g, rfl⟩ : ∃ g, f = g + 1 := ⟨f - 1, by have := h.fu; have := h.le; omega⟩
  have e := h.eq
  unfold cutGo at e
  rw [if_pos hg] at e
  rw [e]
  exact ⟨rfl, rfl⟩
theorem RwSt.done {s : ByteArray} {f b : Nat} {x : Nat × Nat} {ws : List Wd} (h : RwSt s f b x ws) (hg : (gapV (rst s b)).2 = true) (he : gB s b = s.size) : (wordsV s).ok = true ∧ (wordsV s).ws = ws := by
  obtain ⟨g, rfl⟩ : ∃ g, f = g + 1 := ⟨f - 1, by have := h.fu; have := h.le; omega⟩
  have e := h.eq
  unfold cutGo at e
  rw [if_neg (by rw [hg]; decide), if_pos (by rw [rst_size]; omega)] at e
  rw [e]
  exact ⟨rfl, rfl⟩
theorem RwSt.no {s : ByteArray} {f b : Nat} {x : Nat × Nat} {ws : List Wd} (h : RwSt s f b x ws) (hg : (gapV (rst s b)).2 = true) (he : gB s b ≠ s.size) (ho : (wordV (rst s (gB s b))).ok = false) : (wordsV s).ok = false ∧ (wordsV s).b = gB s b + (wordV (rst s (gB s b))).n := by
  obtain ⟨g, rfl⟩ : ∃ g, f = g + 1 := ⟨f - 1, by have := h.fu; have := h.le; omega⟩
  have hb := gB_le s b h.le
  have e := h.eq
  unfold cutGo at e
  rw [if_neg (by rw [hg]; decide), if_neg (by rw [rst_size]; omega), if_pos ho] at e
  rw [e]
  exact ⟨rfl, rfl⟩
theorem RwSt.yes {s : ByteArray} {f b : Nat} {x : Nat × Nat} {ws : List Wd} (h : RwSt s f b x ws) (hg : (gapV (rst s b)).2 = true) (he : gB s b ≠ s.size) (ho : (wordV (rst s (gB s b))).ok = true) :
    ∃ f' x' y, RwSt s f' (gB s b + (wordV (rst s (gB s b))).n) x' (ws ++ [y]) ∧ rdCells y = [.int .i64 (wordV (rst s (gB s b))).kind, .string (wordV (rst s (gB s b))).S, .int .i32 (wordV (rst s (gB s b))).R, .int .i64 (wordV (rst s (gB s b))).N, .int .i64 (gB s b), .int .i64 ((gB s b + (wordV (rst s (gB s b))).n : Nat) : Int)] ∧ 1 ≤ (wordV (rst s (gB s b))).n := by
  obtain ⟨g, rfl⟩ : ∃ g, f = g + 1 := ⟨f - 1, by have := h.fu; have := h.le; omega⟩
  have hb := gB_le s b h.le
  have e := h.eq
  unfold cutGo at e
  rw [if_neg (by rw [hg]; decide), if_neg (by rw [rst_size]; omega), if_neg (by rw [ho]; decide)] at e
  have hp : 0 < (rst s (gB s b)).size := by rw [rst_size]; omega
  have hle := wordV_le (rst s (gB s b)) hp
  rw [rst_size] at hle
  have h1 := hle.2 ho
  have h2 := h.fu
  have h3 := h.len
  exact ⟨g, _, _, ⟨e, by omega, by omega, by rw [List.length_append, List.length_singleton]; omega⟩, rfl, h1⟩
/-- What one round does to the list. -/
theorem rw_step {w w1 w2 : World} {v v' : Value} {ws : List Wd} {y : Wd} {c0 c1 c2 c3 c4 c5 : Value} (hrc : rdCells y = [c0, c1, c2, c3, c4, c5])
    (hown : w1.ownsRow w.heap.size 43 6 v ws.length (encR ws)) (hB : Below w.heap.size w w1)
    (hown' : w2.ownsRow w.heap.size 43 6 v' (ws.length + 1) (encR ws ++ [c0, c1, c2, c3, c4, c5]))
    (hgrow : ((w1.alloc (.cells #[c0, c1, c2, c3, c4, c5] 43)).alloc (.cells #[c0, c1, c2, c3, c4, c5] 43)).grownBy w2 v.ownBlock) :
    w2.ownsRow w.heap.size 43 6 v' (ws ++ [y]).length (encR (ws ++ [y])) ∧ Below w.heap.size w w2 := by
  have hl := own_lt hown
  refine ⟨?_, ?_⟩
  · rw [encR_snoc, List.length_append, hrc]; exact hown'
  · exact ((hB.alloc hB.size _).alloc (by have := hB.size; simp; omega) _).grown hgrow (by have := hB.size; simp; omega) (fun k hk => (hl k hk).1)
def rwsPost (s : ByteArray) (w : World) (e : Ending) (w' : World) : Prop :=
  ((wordsV s).ok = true → ∃ v, e = .returned (.tuple #[v, .int .i64 (-1), .int .i64 0]) ∧ w'.ownsRow w.heap.size 43 6 v (wordsV s).ws.length (encR (wordsV s).ws)) ∧
  ((wordsV s).ok = false → e = .returned (.tuple #[.slice none 0 0, .int .i64 (wordsV s).b, .int .i64 (if (wordsV s).b < s.size then 20 else 21)])) ∧ Below w.heap.size w w'
theorem rwsPost_no {s : ByteArray} {w w' : World} {n : Nat} (h : (wordsV s).ok = false ∧ (wordsV s).b = n) (c : Int) (hc : c = if n < s.size then 20 else 21) (hb : Below w.heap.size w w') : rwsPost s w (.returned (.tuple #[.slice none 0 0, .int .i64 n, .int .i64 c])) w' :=
  ⟨(fun q => by rw [h.1] at q; cases q), (fun _ => by rw [h.2, hc]), hb⟩
set_option maxRecDepth 100000 in
set_option maxHeartbeats 8000000 in
theorem refWords_any (s : ByteArray) (hs : s.size ≤ 262144) (w : World) : Calls Tryz.prog 14 #[.string s] w fun e w' => rwsPost s w e w' := by
  obtain ⟨i0, hi, hz0, hz1, hz2⟩ := info_parts infoRW
  have HI := hide hi
  have HZ0 := hide hz0
  have HZ1 := hide hz1
  have HZ2 := hide hz2
  clear hi hz0 hz1 hz2
  have hl : ¬ (262144 : Int) < (s.size : Int) := by omega
  have HS1 := hide (show s.size ≤ 1099511627776 by omega)
  go_enter Tryz.func14, Tryz.ntmps14
  go_wp2_with fail
  go_loopw [5, 6, 7, 8, 9, 10, 11] (fun v i _ _ _ _ _ wr => ∃ (f b : Nat) (x : Nat × Nat) (ws : List Wd), Hz (RwSt s f b x ws) ∧ b ≤ s.size ∧ i = .int .i64 b ∧ Hz (wr.ownsRow w.heap.size 43 6 v ws.length (encR ws)) ∧ Hz (Below w.heap.size w wr))
    (fun _ i _ _ _ _ _ _ => s.size - (intOf i).toNat)
  case atStart => exact ⟨s.size + 1, 0, (1, 1), [], hide ⟨rfl, by omega, by omega, by simp⟩, by omega, rfl, hide (World.ownsRow_nil _ _ _ _), hide (Below.refl _ _)⟩
  case round =>
    obtain ⟨f, b, x, ws, HR, hb, rfl, HOWN, HB⟩ := hrel
    have hgb := gB_le s b hb
    have hbl := blank_any s (unhide HS1) b hb
    rw [gapA_gB] at hbl
    have hno := fun h => (unhide HR).bad h
    have hdo := fun h1 h2 => (unhide HR).done h1 h2
    have hwn := fun h1 h2 h3 => (unhide HR).no h1 h2 h3
    have hwy := fun h1 h2 h3 => (unhide HR).yes h1 h2 h3
    have hwd := fun (h : gB s b < s.size) => word_any s (unhide HS1) (gB s b) h
    have hwle := fun (h : gB s b < s.size) => wordV_le (rst s (gB s b)) (by rw [rst_size]; omega)
    rw [rst_size] at hwle
    have hlen : ws.length ≤ 262144 := by have := (unhide HR).len; omega
    generalize (gapV (rst s b)).2 = o at *
    generalize gB s b = g at *
    generalize wordV (rst s g) = V at *
    cases o
    · have HNO := hide (hno rfl)
      have HBL := hide hbl
      clear hno hdo hwn hwy hwd hwle hbl
      by_cases he : g = s.size
      · have he' : ((g : Int) == (s.size : Int)) = true := by simp; omega
        have HC := hide (show (21 : Int) = if g < s.size then 20 else 21 by rw [if_neg (by omega)])
        clear he
        go_wp2_with fail
        refine (unhide HBL _).mono ?_
        rintro e w1 ⟨rfl, rfl⟩
        go_wp2_with fail
        exact bodyPost_ret (v := .tuple #[.slice none 0 0, .int .i64 g, .int .i64 21]) (by simp [results, Tryz.results14, go_sem]) rfl (rwsPost_no (unhide HNO) 21 (unhide HC) (unhide HB))
      · have he' : ((g : Int) == (s.size : Int)) = false := by simp; omega
        have HC := hide (show (20 : Int) = if g < s.size then 20 else 21 by rw [if_pos (by omega)])
        clear he
        go_wp2_with fail
        refine (unhide HBL _).mono ?_
        rintro e w1 ⟨rfl, rfl⟩
        go_wp2_with fail
        exact bodyPost_ret (v := .tuple #[.slice none 0 0, .int .i64 g, .int .i64 20]) (by simp [results, Tryz.results14, go_sem]) rfl (rwsPost_no (unhide HNO) 20 (unhide HC) (unhide HB))
    · have HBL := hide hbl
      clear hno hbl
      by_cases he : g = s.size
      · have he' : ((g : Int) == (s.size : Int)) = true := by simp; omega
        have HDO := hide (hdo rfl he)
        clear he hdo hwn hwy hwd hwle
        go_wp2_with fail
        refine (unhide HBL _).mono ?_
        rintro e w1 ⟨rfl, rfl⟩
        go_wp2_with fail
        exact bodyPost_ret (v := .tuple #[u5, .int .i64 (-1), .int .i64 0]) (by simp [results, Tryz.results14, go_sem]) rfl ⟨fun _ => ⟨_, rfl, by rw [(unhide HDO).2]; exact unhide HOWN⟩, (fun q => by rw [(unhide HDO).1] at q; cases q), unhide HB⟩
      · have he' : ((g : Int) == (s.size : Int)) = false := by simp; omega
        have hlt : g < s.size := by omega
        have hle := hwle hlt
        have hwc := hwd hlt
        have hn := hwn rfl he
        have hy := hwy rfl he
        clear hdo hwn hwy hwd hwle he
        obtain ⟨K, S, R, N, n, o⟩ := V
        have hle1 : g + n ≤ s.size := by have : n ≤ s.size - g := hle.1; omega
        obtain ⟨q, hq⟩ : ∃ q, q = g + n := ⟨_, rfl⟩
        have HWC : Hz (∀ w, Calls Tryz.prog 25 #[.string s, .int .i64 g] w fun e w' => ∃ X, e = .returned (.tuple #[X, .int .i64 (q : Int), .bool o]) ∧ (o = true → X = .agg #[.int .i64 K, .string S, .int .i32 R, .int .i64 N, .int .i64 g, .int .i64 (q : Int)]) ∧ IsW X ∧ Below w.heap.size w w') := hide (by intro w; rw [hq]; exact hwc w)
        have hn' : o = false → (wordsV s).ok = false ∧ (wordsV s).b = q := by rw [hq]; exact hn
        have hy' : o = true → ∃ f' x' y, RwSt s f' q x' (ws ++ [y]) ∧ rdCells y = [.int .i64 K, .string S, .int .i32 R, .int .i64 N, .int .i64 g, .int .i64 (q : Int)] ∧ b < q := by
          intro h
          obtain ⟨f', x', y, h1, h2, h3⟩ := hy h
          refine ⟨f', x', y, by rw [hq]; exact h1, by rw [hq]; exact h2, ?_⟩
          have : 1 ≤ n := h3
          omega
        rw [← hq] at hle1
        clear hwc hn hy hle hq
        cases o
        · have HNO := hide (hn' rfl)
          clear hn' hy'
          by_cases he2 : q = s.size
          · have he3 : ((q : Int) == (s.size : Int)) = true := by simp; omega
            have HC := hide (show (21 : Int) = if q < s.size then 20 else 21 by rw [if_neg (by omega)])
            clear he2
            go_wp2_with fail
            refine (unhide HBL _).mono ?_
            rintro e w1 ⟨rfl, rfl⟩
            go_wp2_with fail
            refine (unhide HWC _).mono ?_
            rintro e w2 ⟨X, rfl, _, ⟨z0, z1, z2, z3, z4, z5, rfl⟩, hb2⟩
            have HB2 := hide ((unhide HB).trans (hb2.mono (unhide HB).size))
            clear hb2
            go_wp2_with fail
            exact bodyPost_ret (v := .tuple #[.slice none 0 0, .int .i64 (q : Int), .int .i64 21]) (by simp [results, Tryz.results14, go_sem]) rfl (rwsPost_no (unhide HNO) 21 (unhide HC) ((unhide HB2).alloc (unhide HB2).size _))
          · have he3 : ((q : Int) == (s.size : Int)) = false := by simp; omega
            have HC := hide (show (20 : Int) = if q < s.size then 20 else 21 by rw [if_pos (by omega)])
            clear he2
            go_wp2_with fail
            refine (unhide HBL _).mono ?_
            rintro e w1 ⟨rfl, rfl⟩
            go_wp2_with fail
            refine (unhide HWC _).mono ?_
            rintro e w2 ⟨X, rfl, _, ⟨z0, z1, z2, z3, z4, z5, rfl⟩, hb2⟩
            have HB2 := hide ((unhide HB).trans (hb2.mono (unhide HB).size))
            clear hb2
            go_wp2_with fail
            exact bodyPost_ret (v := .tuple #[.slice none 0 0, .int .i64 (q : Int), .int .i64 20]) (by simp [results, Tryz.results14, go_sem]) rfl (rwsPost_no (unhide HNO) 20 (unhide HC) ((unhide HB2).alloc (unhide HB2).size _))
        · obtain ⟨f', x', y, hr', hrc, hn1⟩ := hy' rfl
          have HR2 := hide hr'
          have HRC := hide hrc
          have HN1 := hide hn1
          clear hy' hn' hr' hrc hn1
          go_wp2_with fail
          refine (unhide HBL _).mono ?_
          rintro e w1 ⟨rfl, rfl⟩
          go_wp2_with fail
          refine (unhide HWC _).mono ?_
          rintro e w2 ⟨X, rfl, hX, _, hb2⟩
          obtain rfl := hX trivial
          have hB2 := (unhide HB).trans (hb2.mono (unhide HB).size)
          have hO2 := own_belowW (unhide HOWN) hb2
          have HB2 := hide hB2
          have HO2 := hide hO2
          have HLN := hide (new_cells6 (w2.alloc (.cells #[.int .i64 K, .string S, .int .i32 R, .int .i64 N, .int .i64 g, .int .i64 (q : Int)] 43)) (.int .i64 K) (.string S) (.int .i32 R) (.int .i64 N) (.int .i64 g) (.int .i64 (q : Int)) 43)
          clear hb2 hB2 hO2
          go_wp2_with (at_builtin; refine wpList_append_own _ rfl _ _ 38 rfl w.heap.size 43 i0 (.agg #[.int .i64 0, .string ⟨#[]⟩, .int .i32 0, .int .i64 0, .int .i64 0, .int .i64 0]) 6 56 Tryz.underlying38 (unhide HI) (unhide HZ0) (unhide HZ1) (unhide HZ2) rfl (by decide) _ _ _ rfl (((unhide HO2).alloc _).alloc _) ⟨w2.heap.size + 1, 0, none⟩ 1 1 [.int .i64 K, .string S, .int .i32 R, .int .i64 N, .int .i64 g, .int .i64 (q : Int)] rfl rfl ?c1 ?c2 ?c3 ?c4 ?c5 ?_)
          case c1 => have := unhide HLN; simpa using this
          case c2 => intro u hu; simp at hu; rcases hu with rfl | rfl | rfl | rfl | rfl | rfl <;> rfl
          case c3 => unfold maxLen; omega
          case c4 => omega
          case c5 => have := (unhide HB2).size; simp; omega
          intro v' w3 hown' hgrow _
          obtain ⟨hown3, hB3⟩ := rw_step (unhide HRC) (unhide HO2) (unhide HB2) hown' hgrow
          have HO3 := hide hown3
          have HB3 := hide hB3
          clear hown' hgrow HLN hown3 hB3 HO2 HB2
          go_wp2_with fail
          go_roundw
          case rel => exact ⟨f', q, x', ws ++ [y], HR2, hle1, rfl, HO3, HB3⟩
          case measure => have := unhide HN1; simp [intOf]; omega
end Go.Proofs.YtcnhkhjkeemafaaGreatDoor
/- The reference's Text and Legal. -/
namespace Go.Proofs.YtcnhkhjkeemafaaGreatDoor
open Go.RowKit Go.Shelf
set_option linter.unusedVariables false
theorem quo_bytes : ∀ k : Nat, k < 128 → (⟨#[39]⟩ : ByteArray) ++ Utf8.encode (k : Int) ++ ⟨#[39]⟩ = ⟨#[39, k.toUInt8, 39]⟩ := by decide +kernel
def strLen : Value → Nat
  | .string s => s.size
  | _ => 0
theorem slice_hex (d : Nat) (h : d < 16) (w : World) : (Instr.slice 9 (.string ⟨#[48, 49, 50, 51, 52, 53, 54, 55, 56, 57, 65, 66, 67, 68, 69, 70]⟩) (some (.int .i64 (d : Int))) (some (.int .i64 ((d : Int) + 1))) none).run Tryz.prog w = .ok (.string ⟨#[upD d]⟩) w :=
  match d, h with
  | 0, _ => (by kernel_rfl)
  | 1, _ => (by kernel_rfl)
  | 2, _ => (by kernel_rfl)
  | 3, _ => (by kernel_rfl)
  | 4, _ => (by kernel_rfl)
  | 5, _ => (by kernel_rfl)
  | 6, _ => (by kernel_rfl)
  | 7, _ => (by kernel_rfl)
  | 8, _ => (by kernel_rfl)
  | 9, _ => (by kernel_rfl)
  | 10, _ => (by kernel_rfl)
  | 11, _ => (by kernel_rfl)
  | 12, _ => (by kernel_rfl)
  | 13, _ => (by kernel_rfl)
  | 14, _ => (by kernel_rfl)
  | 15, _ => (by kernel_rfl)
  | n + 16, q => absurd q (by omega)
theorem conv3 (W : World) (k : Nat) (hk : k < 128) : (convert 50 9 (.slice (some ⟨W.heap.size, 0, none⟩) 3 3)).run Tryz.prog (W.alloc (.cells #[.int .u8 39, .int .u8 (k : Int), .int .u8 39] 5)) = .ok (.string ⟨#[39, k.toUInt8, 39]⟩) (W.alloc (.cells #[.int .u8 39, .int .u8 (k : Int), .int .u8 39] 5)) := by
  have hb := Blk.new W #[.int .u8 39, .int .u8 (k : Int), .int .u8 39] 5
  have hk8 : (k.toUInt8.toNat : Int) = k := by simp; omega
  have := run_convert_bytes_back (W.alloc (.cells #[.int .u8 39, .int .u8 (k : Int), .int .u8 39] 5)) 50 9 5 ⟨W.heap.size, 0, none⟩ 3 [39, k.toUInt8, 39] Tryz.underlying50 Tryz.underlying5 Tryz.underlying9 (fun j h1 => by
    rw [show (⟨W.heap.size, 0, none⟩ : Addr).add j = ⟨W.heap.size, j, none⟩ by unfold Addr.add; split <;> simp_all, hb.cell j]
    match j, h1 with
    | 0, _ => rfl
    | 1, _ => show some (Value.int .u8 (k : Int)) = some (Value.int .u8 (k.toUInt8.toNat : Int)); rw [hk8]
    | 2, _ => rfl)
  exact this
set_option maxRecDepth 100000 in
set_option maxHeartbeats 4000000 in
theorem refText_any (r : Int) (hr1 : -2147483648 ≤ r) (hr2 : r ≤ 2147483647) (w : World) : Calls Tryz.prog 10 #[.int .i32 r] w fun e w' => e = .returned (.tuple #[.string (textV r).1, .int .i64 (textV r).2]) ∧ Below w.heap.size w w' := by
  by_cases h0 : widthOf r = 0
  · have hv : textV r = (⟨#[]⟩, 12) := by unfold textV; rw [if_pos h0]
    have hsc := fun w => scalar_ref r w
    simp only [h0, ne_eq, not_true, decide_false] at hsc
    rw [hv]
    have HSC := hide hsc
    clear hv h0 hsc
    go_enter Tryz.func10, Tryz.ntmps10
    go_wp2_with fail
    refine (unhide HSC _).mono ?_
    rintro e w1 ⟨rfl, rfl⟩
    go_wp2_with fail
    go_ret2
    exact ⟨rfl, Below.refl _ _⟩
  · have hb := width_bound r h0
    have hsc := fun w => scalar_ref r w
    rw [decide_eq_true h0] at hsc
    have HSC := hide hsc
    by_cases hq : 33 ≤ r ∧ r ≤ 126 ∧ r ≠ 39
    · have hv : textV r = (⟨#[39]⟩ ++ Utf8.encode r ++ ⟨#[39]⟩, 0) := by unfold textV; rw [if_neg h0, if_pos hq]
      obtain ⟨q1, q2, q3⟩ := hq
      obtain ⟨k, rfl⟩ : ∃ k : Nat, r = k := ⟨r.toNat, by omega⟩
      rw [quo_bytes k (by omega)] at hv
      rw [hv]
      have q3' : ((k : Int) != 39) = true := by simpa using q3
      have q1' : (32 : Int) < k := by omega
      have q2' : (k : Int) < 127 := by omega
      clear hv h0 q3 hsc
      go_enter Tryz.func10, Tryz.ntmps10
      go_wp2_with fail
      refine (unhide HSC _).mono ?_
      rintro e w1 ⟨rfl, rfl⟩
      have hcv := conv3 w1 k (by omega)
      go_wp2_with fail
      go_ret2
      exact ⟨rfl, (Below.refl _ _).alloc (Nat.le_refl _) _⟩
    · have hv : textV r = (⟨#[85, 43]⟩ ++ ⟨(Lib.repeatL [48] (4 - (upS r.toNat).size)).toArray⟩ ++ upS r.toNat, 0) := by unfold textV; rw [if_neg h0, if_neg hq]
      obtain ⟨k, rfl⟩ : ∃ k : Nat, r = k := ⟨r.toNat, by omega⟩
      have hk : k ≤ 1114111 := by omega
      rw [hv]
      have ht := fun j h1 h2 h3 => text_digs k j hk h1 h2 h3
      rw [Int.toNat_natCast]
      generalize (⟨#[85, 43]⟩ : ByteArray) ++ ⟨(Lib.repeatL [48] (4 - (upS k).size)).toArray⟩ ++ upS k = T at *
      have HT := hide ht
      have hq3 : (32 : Int) < k → (k : Int) < 127 → ((k : Int) != 39) = false := fun h1 h2 => by
        have : (k : Int) = 39 := by omega
        simp [this]
      clear hv h0 hsc ht hb
      have hcase : ((32 : Int) < k ∧ (k : Int) < 127) ∨ (¬ (32 : Int) < k) ∨ ((32 : Int) < k ∧ ¬ (k : Int) < 127) := by omega
      rcases hcase with ⟨a1, a2⟩ | a1 | ⟨a1, a2⟩
      all_goals
        first | have a3 := hq3 a1 a2 | skip
        clear hq3 hq
        go_enter Tryz.func10, Tryz.ntmps10
        go_wp2_with fail
        refine (unhide HSC _).mono ?_
        rintro e w1 ⟨rfl, rfl⟩
        go_wp2_with fail
        go_loop [4, 5] (fun s n => ∃ j m : Nat, s = .string (digB8 k j) ∧ n = .int .i64 m ∧ m ≤ 1114111 ∧ j ≤ 6 ∧ Hz (m = k / 16 ^ j) ∧ Hz (j ≤ 4 ∨ k / 16 ^ (j - 1) ≠ 0)) (fun s _ => 7 - strLen s)
        case atStart => exact ⟨0, k, rfl, rfl, hk, by omega, hide (by simp), hide (.inl (by omega))⟩
        case round =>
          obtain ⟨j, m, rfl, rfl, hm, hj6, HMJ, HLJ⟩ := hrel
          have hz := digB8_size k j
          by_cases hgo : 0 < m ∨ j < 4
          · have hd16 : m % 16 < 16 := Nat.mod_lt _ (by decide)
            have hx := hexS_one (m % 16) hd16
            unfold hexS at hx
            have hst : (⟨#[upD (m % 16)]⟩ : ByteArray) ++ digB8 k j = digB8 k (j + 1) := by rw [unhide HMJ]; exact digB8_step k j
            have hj5 : j ≤ 5 := by
              rcases Nat.lt_or_ge j 6 with q | q
              · omega
              · have e : j = 6 := by omega
                rcases hgo with h | h
                · have := unhide HMJ; rw [e, Nat.div_eq_of_lt (by omega)] at this; omega
                · omega
            have hrem : Int.tmod (m : Int) 16 = ((m % 16 : Nat) : Int) := rfl
            have hdiv : Int.tdiv (m : Int) 16 = ((m / 16 : Nat) : Int) := rfl
            have HM2 : Hz (m / 16 = k / 16 ^ (j + 1)) := hide (by rw [unhide HMJ, Nat.div_div_eq_div_mul, ← Nat.pow_succ])
            have HL2 : Hz (j + 1 ≤ 4 ∨ k / 16 ^ (j + 1 - 1) ≠ 0) := hide (by
              rcases hgo with h | h
              · right; rw [Nat.add_sub_cancel, ← unhide HMJ]; omega
              · left; omega)
            generalize digB8 k j = D at *
            generalize m % 16 = d at *
            have hm2 : m / 16 < m ∨ (m = 0 ∧ m / 16 = 0) := by omega
            have hm3 : m / 16 ≤ 1114111 := by omega
            generalize m / 16 = m2 at *
            have HST := hide hst
            clear hst
            have hsl := slice_hex d hd16 w1
            clear hx
            by_cases h0 : 0 < m
            · have h0' : (0 : Int) < (m : Int) := by omega
              clear hgo
              go_wp2_with fail
              go_round
              case rel => exact ⟨j + 1, m2, by rw [← unhide HST], rfl, hm3, by omega, HM2, HL2⟩
              case measure => simp only [strLen]; simp [hz, ByteArray.size_append]; have : (⟨#[upD d]⟩ : ByteArray).size = 1 := rfl; omega
            · have h0' : ¬ (0 : Int) < (m : Int) := by omega
              have h4' : (j : Int) < 4 := by omega
              clear hgo
              go_wp2_with fail
              go_round
              case rel => exact ⟨j + 1, m2, by rw [← unhide HST], rfl, hm3, by omega, HM2, HL2⟩
              case measure => simp only [strLen]; simp [hz, ByteArray.size_append]; have : (⟨#[upD d]⟩ : ByteArray).size = 1 := rfl; omega
          · have hm0 : m = 0 := by omega
            have h4 : 4 ≤ j := by omega
            have hT : (⟨#[85, 43]⟩ : ByteArray) ++ digB8 k j = T := unhide HT j h4 (by rw [← unhide HMJ]; exact hm0) (by have := unhide HLJ; omega)
            have h0' : ¬ (0 : Int) < (m : Int) := by omega
            have h4' : ¬ (j : Int) < 4 := by omega
            generalize digB8 k j = D at *
            have HTT := hide hT
            clear hT hgo
            go_wp2_with fail
            go_ret2
            exact ⟨by rw [← unhide HTT]; rfl, Below.refl _ _⟩
theorem legR_not {s : ByteArray} (h : legalB s = false) : ¬ legR s := fun q => by rw [(legal_words s).2 q] at h; cases h
set_option maxRecDepth 100000 in
set_option maxHeartbeats 4000000 in
theorem refLegal_any (s : ByteArray) (hs : s.size ≤ 262144) (w : World) : Calls Tryz.prog 12 #[.string s] w fun e w' => e = .returned (.bool (legalB s)) ∧ Below w.heap.size w w' := by
  have hR := refWords_any s hs w
  cases ho : (wordsV s).ok
  · have hl : legalB s = false := by
      cases q : legalB s
      · rfl
      · have := ((legal_words s).1 q).1; rw [ho] at this; cases this
    rw [hl]
    simp only [rwsPost, ho] at hR
    obtain ⟨c, hc, hc0⟩ : ∃ c : Int, (if (wordsV s).b < s.size then (20 : Int) else 21) = c ∧ (c = 20 ∨ c = 21) := ⟨_, rfl, by split <;> simp⟩
    rw [hc] at hR
    generalize (wordsV s).b = b at hR
    have HR := hide hR
    clear hR hl hc
    rcases hc0 with rfl | rfl
    all_goals
      go_enter Tryz.func12, Tryz.ntmps12
      go_wp2_with fail
      refine (unhide HR).mono ?_
      rintro e w2 ⟨_, he, hb2⟩
      obtain rfl := he trivial
      have HB2 := hide hb2
      clear he hb2
      go_wp2_with fail
      go_ret
      exact ⟨rfl, unhide HB2⟩
  · simp only [rwsPost, ho] at hR
    have hlw := legal_words s
    unfold legR at hlw
    rw [ho] at hlw
    have hpl := (words_places s).1
    generalize (wordsV s).ws = ws at *
    have HR := hide hR
    have HPL := hide hpl
    clear hR hpl ho
    by_cases h1 : ws.length = 1
    · obtain ⟨x, rfl⟩ : ∃ x, ws = [x] := List.length_eq_one_iff.1 h1
      have hv : legalB s = (((x.v.kind : Int) == 1) && ((x.b : Int) == 0) && ((x.e : Int) == (s.size : Int))) := by
        rw [Bool.eq_iff_iff, hlw]
        simp only [Bool.and_eq_true, beq_iff_eq]
        constructor
        · rintro ⟨_, y, hy, h1, h2, h3⟩
          obtain rfl : x = y := by simpa using hy
          omega
        · rintro ⟨⟨h1, h2⟩, h3⟩
          exact ⟨trivial, x, rfl, by omega, by omega, by omega⟩
      rw [hv]
      have hcs : encR [x] = rdCells x := by simp [encR]
      have HCS := hide hcs
      clear hlw hv hcs HPL h1
      obtain ⟨⟨K, S, R, N, n, o⟩, b, l, c, e9⟩ := x
      have h1' : (((1 : Nat) : Int) == 1) = true := by decide
      simp only
      cases q1 : ((K : Int) == 1)
      · go_enter Tryz.func12, Tryz.ntmps12
        go_wp2_with fail
        refine (unhide HR).mono ?_
        rintro e w2 ⟨he, _, hb2⟩
        obtain ⟨v, rfl, hown⟩ := he trivial
        rw [unhide HCS] at hown
        obtain ⟨g, cap, rfl, hg, hc⟩ := own_words hown (Nat.zero_lt_one)
        have c0 := hc 0 (.int .i64 K) rfl
        have c4 := hc 4 (.int .i64 b) rfl
        have c5 := hc 5 (.int .i64 e9) rfl
        have HB2 := hide hb2
        clear he hb2 hown hc hg
        go_wp2_with fail
        go_ret
        exact ⟨rfl, unhide HB2⟩
      · cases q2 : ((b : Int) == 0)
        · go_enter Tryz.func12, Tryz.ntmps12
          go_wp2_with fail
          refine (unhide HR).mono ?_
          rintro e w2 ⟨he, _, hb2⟩
          obtain ⟨v, rfl, hown⟩ := he trivial
          rw [unhide HCS] at hown
          obtain ⟨g, cap, rfl, hg, hc⟩ := own_words hown (Nat.zero_lt_one)
          have c0 := hc 0 (.int .i64 K) rfl
          have c4 := hc 4 (.int .i64 b) rfl
          have c5 := hc 5 (.int .i64 e9) rfl
          have HB2 := hide hb2
          clear he hb2 hown hc hg
          go_wp2_with fail
          go_ret
          exact ⟨rfl, unhide HB2⟩
        · cases q3 : ((e9 : Int) == (s.size : Int))
          all_goals
            go_enter Tryz.func12, Tryz.ntmps12
            go_wp2_with fail
            refine (unhide HR).mono ?_
            rintro e w2 ⟨he, _, hb2⟩
            obtain ⟨v, rfl, hown⟩ := he trivial
            rw [unhide HCS] at hown
            obtain ⟨g, cap, rfl, hg, hc⟩ := own_words hown (Nat.zero_lt_one)
            have c0 := hc 0 (.int .i64 K) rfl
            have c4 := hc 4 (.int .i64 b) rfl
            have c5 := hc 5 (.int .i64 e9) rfl
            have HB2 := hide hb2
            clear he hb2 hown hc hg
            go_wp2_with fail
            go_ret
            exact ⟨rfl, unhide HB2⟩
    · have hl : legalB s = false := by
        cases q : legalB s
        · rfl
        · obtain ⟨_, x, hx, _⟩ := hlw.1 q; rw [hx] at h1; exact absurd rfl h1
      rw [hl]
      have h1' : ((ws.length : Int) == 1) = false := by simp; omega
      clear hlw hl h1
      go_enter Tryz.func12, Tryz.ntmps12
      go_wp2_with fail
      refine (unhide HR).mono ?_
      rintro e w2 ⟨he, _, hb2⟩
      obtain ⟨v, rfl, hown⟩ := he trivial
      have HB2 := hide hb2
      obtain ⟨a, c, rfl⟩ : ∃ a c, v = .slice a ws.length c := by
        rcases hown.2 with ⟨rfl, h0⟩ | ⟨g, cap, cur, rfl, _⟩
        · exact ⟨none, 0, by rw [h0]⟩
        · exact ⟨_, cap, rfl⟩
      clear he hb2 hown
      go_wp2_with fail
      go_ret
      exact ⟨rfl, unhide HB2⟩
end Go.Proofs.YtcnhkhjkeemafaaGreatDoor
/- ScanTexts: any number as a rune, any text as a name. -/
namespace Go.Proofs.YtcnhkhjkeemafaaGreatDoor
open Go.RowKit Go.Shelf
set_option linter.unusedVariables false
theorem legal_long (s : ByteArray) (h : 32 < s.size) : legalB s = false := by
  unfold legalB
  have := nameLen_le s
  exact decide_eq_false (by omega)
theorem textV_code (r : Int) : (textV r).2 = 0 ∨ (textV r).2 = 12 := by
  unfold textV
  repeat' split
  all_goals simp
set_option maxRecDepth 100000 in
set_option maxHeartbeats 4000000 in
theorem law_scantexts (r : Int) (hr : (Lit.int .i32 r).wf = true) (s : ByteArray) (hs : s.size ≤ maxLen) (m : Int) (w : World) (hE : Env m w) : Calls Tryz.prog 4 #[.int .i32 r, .string s] w fun e w' => e = .returned (.bool true) ∧ Below w.heap.size w w' := by
  have hb : -2147483648 ≤ r ∧ r ≤ 2147483647 := by
    have := hr
    have h1 : IntKind.i32.min = -2147483648 := by decide
    have h2 : IntKind.i32.max = 2147483647 := by decide
    simp [Lit.wf] at this
    omega
  have hT1 := text_scan r w hE.tab
  have hT2 := fun w => refText_any r hb.1 hb.2 w
  have hcd := textV_code r
  have hm : s.size ≤ 9223372036854775807 := by unfold maxLen at hs; exact hs
  have hL1 := fun w => legal_any s hs w
  have hL2 := fun (h : s.size ≤ 32) w => refLegal_any s (by omega) w
  have hlg := fun (h : 32 < s.size) => legal_long s h
  generalize legalB s = L at *
  obtain ⟨T, c, htc⟩ : ∃ T c, textV r = (T, c) := ⟨_, _, rfl⟩
  rw [htc] at hT1 hcd
  simp only [htc] at hT2
  have H1 := hide hT1
  have H2 := hide hT2
  have H3 := hide hL1
  have HE := hide hE
  have e1 : (T.toList == T.toList) = true := by simp
  have e2 : (c == c) = true := by simp
  have e3 : (L == L) = true := by simp
  clear hT1 hT2 hL1 hE htc hr hs
  by_cases h32 : s.size ≤ 32
  · have H4 := hide (hL2 h32)
    have h32' : (s.size : Int) ≤ 32 := by omega
    clear hL2 hlg
    go_enter Tryz.func4, Tryz.ntmps4
    go_wp2_with fail
    refine (unhide H1).mono ?_
    rintro e w1 ⟨rfl, hb1⟩
    have HB1 := hide hb1
    clear hb1
    go_wp2_with fail
    refine (unhide H2 _).mono ?_
    rintro e w2 ⟨rfl, hb2⟩
    have HB2 := hide ((unhide HB1).trans (hb2.mono (unhide HB1).size))
    clear hb2
    go_wp2_with fail
    refine (unhide H3 _).mono ?_
    rintro e w3 ⟨rfl, rfl⟩
    go_wp2_with fail
    refine (unhide H4 _).mono ?_
    rintro e w4 ⟨rfl, hb4⟩
    have HB4 := hide ((unhide HB2).trans (hb4.mono (unhide HB2).size))
    clear hb4
    go_wp2_with fail
    refine (known_any m _ ((unhide HE).below (unhide HB4) (Nat.le_refl _))).mono ?_
    rintro e w5 ⟨rfl, hb5⟩
    have HB5 := hide ((unhide HB4).trans (hb5.mono (unhide HB4).size))
    clear hb5
    go_wp2_with fail
    go_ret
    exact ⟨rfl, unhide HB5⟩
  · have hlf := hlg (by omega)
    subst hlf
    have h32' : ¬ (s.size : Int) ≤ 32 := by omega
    clear hL2 hlg
    go_enter Tryz.func4, Tryz.ntmps4
    go_wp2_with fail
    refine (unhide H1).mono ?_
    rintro e w1 ⟨rfl, hb1⟩
    have HB1 := hide hb1
    clear hb1
    go_wp2_with fail
    refine (unhide H2 _).mono ?_
    rintro e w2 ⟨rfl, hb2⟩
    have HB2 := hide ((unhide HB1).trans (hb2.mono (unhide HB1).size))
    clear hb2
    go_wp2_with fail
    refine (unhide H3 _).mono ?_
    rintro e w3 ⟨rfl, rfl⟩
    go_wp2_with fail
    refine (known_any m _ ((unhide HE).below (unhide HB2) (Nat.le_refl _))).mono ?_
    rintro e w5 ⟨rfl, hb5⟩
    have HB5 := hide ((unhide HB2).trans (hb5.mono (unhide HB2).size))
    clear hb5
    go_wp2_with fail
    go_ret
    exact ⟨rfl, unhide HB5⟩
end Go.Proofs.YtcnhkhjkeemafaaGreatDoor
