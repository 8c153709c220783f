/- Texts of this claim, one behind the other. -/
import Derived.Test.YtcnhkhjkeemafaaGreatDoorM6
import Derived.Test.YtcnhkhjkeemafaaGreatDoorM5
import Derived.Deep.AppendLies
import Derived.Test.YtcnhkhjkeemafaaGreatDoorM1
import Derived.Test.YtcnhkhjkeemafaaGreatDoorM4
import Derived.Lib.QuietBelow
import Derived.BigQuiet
/- The reference's word, part D. -/
namespace Go.Proofs.YtcnhkhjkeemafaaGreatDoor
open Go.RowKit Go.Shelf
set_option linter.unusedVariables false
theorem sgn_dot (t : ByteArray) (h : bt t 0 = 46) : sgnV t = if dotsB t = true then (9, 2, true) else (0, 1, false) := by
  unfold sgnV
  rw [h, if_neg (by decide), if_neg (by decide), if_neg (by decide), if_neg (by decide), if_neg (by decide), if_pos rfl]
theorem dots_yes (t : ByteArray) (h : 2 ≤ t.size) (h0 : bt t 0 = 46) (h1 : bt t 1 = 46) : dotsB t = true := by
  have e : t.data.toList = t.get! 0 :: t.get! 1 :: t.data.toList.drop 2 := by
    have a := drop_bt t 0 (by omega)
    have b := drop_bt t 1 (by omega)
    rw [List.drop_zero] at a
    exact a.trans (congrArg (List.cons _) b)
  have g0 : t.get! 0 = 46 := by rw [← UInt8.toNat_inj]; exact h0
  have g1 : t.get! 1 = 46 := by rw [← UInt8.toNat_inj]; exact h1
  unfold dotsB
  rw [e, g0, g1]
  rfl
theorem dots_no (t : ByteArray) (h : ¬ (2 ≤ t.size ∧ bt t 1 = 46)) : dotsB t = false := by
  cases q : dotsB t with
  | false => rfl
  | true =>
    have h2 := dotsB_iff t q
    have e : t.data.toList = t.get! 0 :: t.get! 1 :: t.data.toList.drop 2 := by
      have a := drop_bt t 0 (by omega)
      have b := drop_bt t 1 (by omega)
      rw [List.drop_zero] at a
      exact a.trans (congrArg (List.cons _) b)
    have hp : [46, 46] <+: t.data.toList := List.isPrefixOf_iff_prefix.1 q
    rw [e] at hp
    obtain ⟨r, hr⟩ := hp
    have : t.get! 1 = 46 := by
      have := congrArg (fun l => l[1]?) hr
      simpa using this.symm
    exact absurd ⟨h2, by unfold bt; rw [this]; rfl⟩ h
set_option maxRecDepth 100000 in
set_option maxHeartbeats 8000000 in
theorem word_dot (s : ByteArray) (hs : s.size ≤ 1099511627776) (a : Nat) (ha : a < s.size) (hc : bt s a = 46) (w : World) : Calls Tryz.prog 25 #[.string s, .int .i64 a] w fun e w' => ∃ V, e = .returned (.tuple #[V, .int .i64 ((a + (wordV (rst s a)).n : Nat) : Int), .bool (wordV (rst s a)).ok]) ∧ ((wordV (rst s a)).ok = true → V = wordA (wordV (rst s a)) a) ∧ IsW V ∧ Below w.heap.size w w' := by
  have hb0 : bt (rst s a) 0 = bt s a := rst_at s a 0 (by omega)
  have hb1 : bt (rst s a) 1 = bt s (a + 1) := rst_at s a 1 (by omega)
  have hz := rst_size s a
  have hv : wordV (rst s a) = if dotsB (rst s a) = true then ⟨9, ByteArray.empty, 0, 0, 2, true⟩ else ⟨0, ByteArray.empty, 0, 0, 1, false⟩ := by
    unfold wordV
    rw [hb0, hc, if_neg (by decide), if_neg (by decide), if_neg (by decide), if_neg (by decide), sgn_dot _ (by rw [hb0]; exact hc)]
    by_cases q : dotsB (rst s a) = true
    · rw [if_pos q, if_pos q]
    · rw [if_neg q, if_neg q]
  have hgb := bt_get s a ha
  rw [hc] at hgb
  have hl : (a : Int) < (s.size : Int) := by omega
  have hgb' : (s[a]'ha).toNat = 46 := hgb.symm
  by_cases hl1 : a + 1 < s.size
  · have hl1' : (a : Int) + 1 < (s.size : Int) := by omega
    have hg1 := bt_get s (a + 1) hl1
    obtain ⟨d, ed⟩ : ∃ d, (s[a + 1]'hl1).toNat = d := ⟨_, rfl⟩
    rw [ed] at hg1
    by_cases hd : d = 46
    · subst hd
      rw [dots_yes _ (by omega) (by rw [hb0]; exact hc) (by rw [hb1]; exact hg1), if_pos rfl] at hv
      rw [hv]
      have hei : (a : Int) + 1 + 1 - 1 = (a : Int) + 1 := by omega
      clear hv hb0 hb1 hc hgb hg1 hz
      go_enter Tryz.func25, Tryz.ntmps25
      go_wp2_with fail
      have hst0 := wdC_new w a
      generalize (w.alloc (.cells (wz (.int .i64 0)) 43)).alloc (.cells (wz (.int .i64 a)) 43) = W0 at *
      have HST := hide hst0
      clear hst0
      refine (small_int 46 46 rfl (by decide) false (by decide) _).mono ?_
      rintro e w1 ⟨rfl, rfl⟩
      go_wp2_with fail
      refine (digit_int 46 46 rfl (by decide) false (by decide) _).mono ?_
      rintro e w1 ⟨rfl, rfl⟩
      have hcu := (unhide HST).cur
      have k0 := hcu.cell 0
      have f0 := hcu.frozen 0
      clear hcu
      go_wp2_with fail
      refine (close_int 46 46 rfl (by decide) false (by decide) _).mono ?_
      rintro e w1 ⟨rfl, rfl⟩
      have h2 := ((unhide HST).set 0 (.int .i64 9))
      have r0 := h2.res.cell 0
      have r1 := h2.res.cell 1
      have r2 := h2.res.cell 2
      have r3 := h2.res.cell 3
      have r4 := h2.res.cell 4
      have r5 := h2.res.cell 5
      have rf0 := h2.res.frozen 0
      have rf1 := h2.res.frozen 1
      have rf2 := h2.res.frozen 2
      have rf3 := h2.res.frozen 3
      have rf4 := h2.res.frozen 4
      have rf5 := h2.res.frozen 5
      have c5 := h2.cur.cell 5
      have cf5 := h2.cur.frozen 5
      have h3 := h2.set 5 (.int .i64 ((a : Int) + 1 + 1))
      have g0 := h3.cur.cell 0
      have g1 := h3.cur.cell 1
      have g2 := h3.cur.cell 2
      have g3 := h3.cur.cell 3
      have g4 := h3.cur.cell 4
      have g5 := h3.cur.cell 5
      have hfin := h3.fin (.int .i64 9) (.string (⟨#[]⟩ : ByteArray)) (.int .i32 0) (.int .i64 0) (.int .i64 a) (.int .i64 ((a : Int) + 1 + 1))
      have HFIN := hide hfin
      clear hfin h2 h3
      go_wp2_with fail
      have hfin := unhide HFIN
      have e0 := hfin.1.cell 0
      have e1 := hfin.1.cell 1
      have e2 := hfin.1.cell 2
      have e3 := hfin.1.cell 3
      have e4 := hfin.1.cell 4
      have e5 := hfin.1.cell 5
      have HB := hide hfin.2
      exact bodyPost_ret (v := .tuple #[wordA ⟨9, ByteArray.empty, 0, 0, 2, true⟩ a, .int .i64 ((a : Int) + 1 + 1), .bool true]) (by simp [results, Tryz.results25, go_sem, e0, e1, e2, e3, e4, e5]; first | rfl | exact ⟨rfl, by omega⟩) rfl ⟨_, rfl, by first | exact fun _ => rfl | rfl, ⟨_, _, _, _, _, _, rfl⟩, unhide HB⟩
    · rw [dots_no _ (by rw [hb1, hg1]; exact fun q => hd q.2), if_neg (by decide)] at hv
      rw [hv]
      have hd' : ((d : Int) == 46) = false := by simp; omega
      clear hv hb0 hb1 hc hgb hg1 hz hd
      go_enter Tryz.func25, Tryz.ntmps25
      go_wp2_with fail
      have hst0 := wdC_new w a
      generalize (w.alloc (.cells (wz (.int .i64 0)) 43)).alloc (.cells (wz (.int .i64 a)) 43) = W0 at *
      have HST := hide hst0
      clear hst0
      refine (small_int 46 46 rfl (by decide) false (by decide) _).mono ?_
      rintro e w1 ⟨rfl, rfl⟩
      go_wp2_with fail
      refine (digit_int 46 46 rfl (by decide) false (by decide) _).mono ?_
      rintro e w1 ⟨rfl, rfl⟩
      have hcu := (unhide HST).cur
      have k0 := hcu.cell 0
      have f0 := hcu.frozen 0
      clear hcu
      have h2 := ((unhide HST).set 0 (.int .i64 9))
      have r0 := (unhide HST).res.cell 0
      have r1 := (unhide HST).res.cell 1
      have r2 := (unhide HST).res.cell 2
      have r3 := (unhide HST).res.cell 3
      have r4 := (unhide HST).res.cell 4
      have r5 := (unhide HST).res.cell 5
      have rf0 := (unhide HST).res.frozen 0
      have rf1 := (unhide HST).res.frozen 1
      have rf2 := (unhide HST).res.frozen 2
      have rf3 := (unhide HST).res.frozen 3
      have rf4 := (unhide HST).res.frozen 4
      have rf5 := (unhide HST).res.frozen 5
      have hfin := h2.fin (.int .i64 0) (.string ⟨#[]⟩) (.int .i32 0) (.int .i64 0) (.int .i64 0) (.int .i64 0)
      have HFIN := hide hfin
      clear hfin h2
      go_wp2_with fail
      have hfin := unhide HFIN
      have e0 := hfin.1.cell 0
      have e1 := hfin.1.cell 1
      have e2 := hfin.1.cell 2
      have e3 := hfin.1.cell 3
      have e4 := hfin.1.cell 4
      have e5 := hfin.1.cell 5
      have HB := hide hfin.2
      exact bodyPost_ret (v := .tuple #[.agg (wz (.int .i64 0)), .int .i64 ((a : Int) + (1 : Int)), .bool false]) (by simp [results, Tryz.results25, go_sem, e0, e1, e2, e3, e4, e5]) rfl ⟨_, rfl, (fun q => by cases q), ⟨_, _, _, _, _, _, rfl⟩, unhide HB⟩
  · have hl1' : ¬ (a : Int) + 1 < (s.size : Int) := by omega
    rw [dots_no _ (by omega), if_neg (by decide)] at hv
    rw [hv]
    have hsz : (s.size : Int) = (a : Int) + 1 := by omega
    clear hv hb0 hb1 hc hgb hz hl1' hl1
    go_enter Tryz.func25, Tryz.ntmps25
    go_wp2_with fail
    have hst0 := wdC_new w a
    generalize (w.alloc (.cells (wz (.int .i64 0)) 43)).alloc (.cells (wz (.int .i64 a)) 43) = W0 at *
    have HST := hide hst0
    clear hst0
    refine (small_int 46 46 rfl (by decide) false (by decide) _).mono ?_
    rintro e w1 ⟨rfl, rfl⟩
    go_wp2_with fail
    refine (digit_int 46 46 rfl (by decide) false (by decide) _).mono ?_
    rintro e w1 ⟨rfl, rfl⟩
    have hcu := (unhide HST).cur
    have k0 := hcu.cell 0
    have f0 := hcu.frozen 0
    clear hcu
    have h2 := ((unhide HST).set 0 (.int .i64 9))
    have r0 := (unhide HST).res.cell 0
    have r1 := (unhide HST).res.cell 1
    have r2 := (unhide HST).res.cell 2
    have r3 := (unhide HST).res.cell 3
    have r4 := (unhide HST).res.cell 4
    have r5 := (unhide HST).res.cell 5
    have rf0 := (unhide HST).res.frozen 0
    have rf1 := (unhide HST).res.frozen 1
    have rf2 := (unhide HST).res.frozen 2
    have rf3 := (unhide HST).res.frozen 3
    have rf4 := (unhide HST).res.frozen 4
    have rf5 := (unhide HST).res.frozen 5
    have hfin := h2.fin (.int .i64 0) (.string ⟨#[]⟩) (.int .i32 0) (.int .i64 0) (.int .i64 0) (.int .i64 0)
    have HFIN := hide hfin
    clear hfin h2
    go_wp2_with fail
    have hfin := unhide HFIN
    have e0 := hfin.1.cell 0
    have e1 := hfin.1.cell 1
    have e2 := hfin.1.cell 2
    have e3 := hfin.1.cell 3
    have e4 := hfin.1.cell 4
    have e5 := hfin.1.cell 5
    have HB := hide hfin.2
    exact bodyPost_ret (v := .tuple #[.agg (wz (.int .i64 0)), .int .i64 ((a : Int) + (1 : Int)), .bool false]) (by simp [results, Tryz.results25, go_sem, e0, e1, e2, e3, e4, e5]) rfl ⟨_, rfl, (fun q => by cases q), ⟨_, _, _, _, _, _, rfl⟩, unhide HB⟩
set_option maxRecDepth 100000 in
set_option maxHeartbeats 8000000 in
theorem word_other (s : ByteArray) (hs : s.size ≤ 1099511627776) (a : Nat) (ha : a < s.size) (h1 : smallB (bt s a) = false) (h2 : digB (bt s a) = false) (hn : bt s a ≠ 85 ∧ bt s a ≠ 39 ∧ bt s a ≠ 46 ∧ bt s a ≠ 123 ∧ bt s a ≠ 125 ∧ bt s a ≠ 59 ∧ bt s a ≠ 61 ∧ bt s a ≠ 43) (w : World) : Calls Tryz.prog 25 #[.string s, .int .i64 a] w fun e w' => ∃ V, e = .returned (.tuple #[V, .int .i64 ((a + (wordV (rst s a)).n : Nat) : Int), .bool (wordV (rst s a)).ok]) ∧ ((wordV (rst s a)).ok = true → V = wordA (wordV (rst s a)) a) ∧ IsW V ∧ Below w.heap.size w w' := by
  have hb0 : bt (rst s a) 0 = bt s a := rst_at s a 0 (by omega)
  have hv : wordV (rst s a) = ⟨0, ByteArray.empty, 0, 0, 0, false⟩ := by
    unfold wordV sgnV
    rw [hb0, if_neg (by rw [h1]; decide), if_neg (by rw [h2]; decide), if_neg hn.1, if_neg hn.2.1, if_neg hn.2.2.2.1, if_neg hn.2.2.2.2.1, if_neg hn.2.2.2.2.2.1, if_neg hn.2.2.2.2.2.2.1, if_neg hn.2.2.2.2.2.2.2, if_neg hn.2.2.1]
  rw [hv]
  have hcl := bt_lt s a
  have hgb := bt_get s a ha
  obtain ⟨c, ec⟩ : ∃ c, (s[a]'ha).toNat = c := ⟨_, rfl⟩
  rw [ec] at hgb
  rw [hgb] at h1 h2 hn hcl
  have hl : (a : Int) < (s.size : Int) := by omega
  obtain ⟨n1, n2, n3, n4, n5, n6, n7, n8⟩ := hn
  have d1 : ((c : Int) == 85) = false := by simp; omega
  have d2 : ((c : Int) == 39) = false := by simp; omega
  have d3 : ((c : Int) == 46) = false := by simp; omega
  have d4 : ((123 : Int) == (c : Int)) = false := by simp; omega
  have d5 : ((125 : Int) == (c : Int)) = false := by simp; omega
  have d6 : ((59 : Int) == (c : Int)) = false := by simp; omega
  have d7 : ((61 : Int) == (c : Int)) = false := by simp; omega
  have d8 : ((43 : Int) == (c : Int)) = false := by simp; omega
  have s0 : ((⟨#[123, 125, 59, 61, 43]⟩ : ByteArray)[0]'(by decide)).toNat = 123 := rfl
  have s1 : ((⟨#[123, 125, 59, 61, 43]⟩ : ByteArray)[1]'(by decide)).toNat = 125 := rfl
  have s2 : ((⟨#[123, 125, 59, 61, 43]⟩ : ByteArray)[2]'(by decide)).toNat = 59 := rfl
  have s3 : ((⟨#[123, 125, 59, 61, 43]⟩ : ByteArray)[3]'(by decide)).toNat = 61 := rfl
  have s4 : ((⟨#[123, 125, 59, 61, 43]⟩ : ByteArray)[4]'(by decide)).toNat = 43 := rfl
  have HS := hide (small_ref c hcl)
  have HD := hide (digit_ref c hcl)
  rw [h1] at HS
  rw [h2] at HD
  clear hv hb0 hgb h1 h2 n1 n2 n3 n4 n5 n6 n7 n8
  go_enter Tryz.func25, Tryz.ntmps25
  go_wp2_with fail
  have hst0 := wdC_new w a
  generalize (w.alloc (.cells (wz (.int .i64 0)) 43)).alloc (.cells (wz (.int .i64 a)) 43) = W0 at *
  have HST := hide hst0
  clear hst0
  refine (unhide HS _).mono ?_
  rintro e w1 ⟨rfl, rfl⟩
  go_wp2_with fail
  refine (unhide HD _).mono ?_
  rintro e w1 ⟨rfl, rfl⟩
  have h2 := (unhide HST)
  have r0 := h2.res.cell 0
  have r1 := h2.res.cell 1
  have r2 := h2.res.cell 2
  have r3 := h2.res.cell 3
  have r4 := h2.res.cell 4
  have r5 := h2.res.cell 5
  have rf0 := h2.res.frozen 0
  have rf1 := h2.res.frozen 1
  have rf2 := h2.res.frozen 2
  have rf3 := h2.res.frozen 3
  have rf4 := h2.res.frozen 4
  have rf5 := h2.res.frozen 5
  have g0 := h2.cur.cell 0
  have g1 := h2.cur.cell 1
  have g2 := h2.cur.cell 2
  have g3 := h2.cur.cell 3
  have g4 := h2.cur.cell 4
  have g5 := h2.cur.cell 5
  have hfin := h2.fin (.int .i64 0) (.string ⟨#[]⟩) (.int .i32 0) (.int .i64 0) (.int .i64 a) (.int .i64 0)
  have HFIN := hide hfin
  clear hfin h2
  go_wp2_with fail
  refine wp_loop_rounds 6 ?_
  iterate 6
    rw [rounds_succ]
    go_wp2_with fail
  have hfin := unhide HFIN
  have e0 := hfin.1.cell 0
  have e1 := hfin.1.cell 1
  have e2 := hfin.1.cell 2
  have e3 := hfin.1.cell 3
  have e4 := hfin.1.cell 4
  have e5 := hfin.1.cell 5
  have HB := hide hfin.2
  exact bodyPost_ret (v := .tuple #[.agg (wz (.int .i64 a)), .int .i64 (a : Int), .bool false]) (by simp [results, Tryz.results25, go_sem, e0, e1, e2, e3, e4, e5]) rfl ⟨_, rfl, (fun q => by cases q), ⟨_, _, _, _, _, _, rfl⟩, unhide HB⟩
end Go.Proofs.YtcnhkhjkeemafaaGreatDoor
/- The reference's word, at every place. -/
namespace Go.Proofs.YtcnhkhjkeemafaaGreatDoor
open Go.RowKit Go.Shelf
set_option linter.unusedVariables false
theorem word_any (s : ByteArray) (hs : s.size ≤ 1099511627776) (a : Nat) (ha : a < s.size) (w : World) : Calls Tryz.prog 25 #[.string s, .int .i64 a] w fun e w' => ∃ V, e = .returned (.tuple #[V, .int .i64 ((a + (wordV (rst s a)).n : Nat) : Int), .bool (wordV (rst s a)).ok]) ∧ ((wordV (rst s a)).ok = true → V = wordA (wordV (rst s a)) a) ∧ IsW V ∧ Below w.heap.size w w' := by
  cases h1 : smallB (bt s a)
  · cases h2 : digB (bt s a)
    · by_cases q1 : bt s a = 85
      · exact word_u s hs a ha q1 w
      by_cases q2 : bt s a = 39
      · exact word_quo s hs a ha q2 w
      by_cases q3 : bt s a = 46
      · exact word_dot s hs a ha q3 w
      by_cases q4 : bt s a = 123
      · exact word_open s hs a ha q4 w
      by_cases q5 : bt s a = 125
      · exact word_shut s hs a ha q5 w
      by_cases q6 : bt s a = 59
      · exact word_semi s hs a ha q6 w
      by_cases q7 : bt s a = 61
      · exact word_asg s hs a ha q7 w
      by_cases q8 : bt s a = 43
      · exact word_plus s hs a ha q8 w
      exact word_other s hs a ha h1 h2 ⟨q1, q2, q3, q4, q5, q6, q7, q8⟩ w
    · exact word_num s hs a ha h2 w
  · exact word_name s hs a ha h1 w
end Go.Proofs.YtcnhkhjkeemafaaGreatDoor
/- Where words stand: plain mathematics. -/
namespace Go.Proofs.YtcnhkhjkeemafaaGreatDoor
open Go.RowKit Go.Shelf
set_option linter.unusedVariables false
theorem small_lt {c : Nat} (h : smallB c = true) : c < 128 := by have := smallB_iff.1 h; omega
theorem dig_lt {c : Nat} (h : digB c = true) : c < 128 := by have := digB_iff.1 h; omega
theorem stk_lt {c : Nat} (h : stkB c = true) : c < 128 := by
  unfold stkB inNB smallB digB at h
  simp at h
  omega
theorem tl1_bt (t : ByteArray) (k : Nat) (h : 1 ≤ t.size) : bt (tl1 t) k = bt t (1 + k) := by unfold tl1 bt; rw [get_suffix t 1 k h]
theorem dots_bt (t : ByteArray) (h : dotsB t = true) : bt t 1 = 46 := by
  have h2 : [46, 46] <+: t.data.toList := List.isPrefixOf_iff_prefix.1 h
  obtain ⟨r, hr⟩ := h2
  have hz := dotsB_iff t h
  have : t.data.toList[1]? = some 46 := by rw [← hr]; rfl
  have h1 : 1 < t.size := by omega
  unfold bt
  rw [get_lt t 1 h1]
  rw [Array.getElem?_toList, Array.getElem?_eq_getElem h1] at this
  have e : t.data[1] = 46 := Option.some.inj this
  show (t.data[1]).toNat = 46
  rw [e]
  rfl
theorem word_last (t : ByteArray) (h : 0 < t.size) (ho : (wordV t).ok = true) : bt t ((wordV t).n - 1) < 128 := by
  unfold wordV at ho ⊢
  split at ho
  · rename_i hs
    rw [if_pos hs]
    refine stk_lt (stk_inN ?_)
    have hn : nameLen t = scanTo (fun n => inNB (bt t n)) (min t.size 32) 1 := by unfold nameLen; rw [if_neg (fun q => q.elim (by omega) (fun q => by rw [hs] at q; cases q))]
    show inNB (bt t (nameLen t - 1)) = true
    rw [hn]
    exact nameLen_prev t (min t.size 32) 1 (by omega) (by omega) (by omega) (by show inNB (bt t 0) = true; unfold inNB; rw [hs]; rfl)
  · rename_i hs
    rw [if_neg hs]
    split at ho
    · rename_i hd
      rw [if_pos hd]
      exact dig_lt (numV_prev t h hd)
    · rename_i hd
      rw [if_neg hd]
      split at ho
      · rename_i hu
        rw [if_pos hu]
        have ho2 : (numdV t).2.2 = true := ((Bool.and_eq_true _ _).mp ho).1
        show bt t ((numdV t).2.1 - 1) < 128
        unfold numdV at ho2 ⊢
        split at ho2
        · cases ho2
        · rename_i h1
          rw [if_neg h1]
          split at ho2
          · cases ho2
          · rename_i h6
            rw [if_neg h6]
            exact stk_lt (stk_hex (numdGo_prev t t.size 0 2 (by omega) (by omega) (fun q => by omega) (by omega)))
      · rename_i hu
        rw [if_neg hu]
        split at ho
        · rename_i hq
          rw [if_pos hq]
          have ho2 : (quoV t).2.2 = true := ho
          show bt t ((quoV t).2.1 - 1) < 128
          unfold quoV at ho2 ⊢
          repeat' split at ho2
          all_goals first | (cases ho2; done) | skip
          rename_i h1 h2 h3 h4 h5
          rw [if_neg h1, if_neg h2, if_neg h3, if_neg h4, if_pos h5]
          have := (rn_39 (tl1 t) (wd (tl1 t) 0)).1 h5
          rw [tl1_bt t _ h] at this
          show bt t (wd (tl1 t) 0 + 2 - 1) < 128
          rw [show wd (tl1 t) 0 + 2 - 1 = 1 + wd (tl1 t) 0 by omega, this]
          decide
        · rename_i hq
          rw [if_neg hq]
          have ho2 : (sgnV t).2.2 = true := ho
          show bt t ((sgnV t).2.1 - 1) < 128
          unfold sgnV at ho2 ⊢
          repeat' split
          all_goals first
            | (show bt t 0 < 128; omega)
            | skip
          all_goals first
            | (rename_i hdt; show bt t 1 < 128; rw [dots_bt t hdt]; decide)
            | (exfalso; simp_all; done)
theorem word_first (t : ByteArray) (ho : (wordV t).ok = true) : bt t 0 < 128 := by
  by_cases hs : smallB (bt t 0) = true
  · exact small_lt hs
  · by_cases hd : digB (bt t 0) = true
    · exact dig_lt hd
    · unfold wordV at ho
      rw [if_neg hs, if_neg hd] at ho
      split at ho
      · omega
      · split at ho
        · omega
        · have ho2 : (sgnV t).2.2 = true := ho
          unfold sgnV at ho2
          repeat' split at ho2
          all_goals first | omega | cases ho2
theorem bd_ascii (s : ByteArray) (i : Nat) (h : bt s i < 128) : bdB s i = true := bd_lead s i (by omega)
theorem bd_next (s : ByteArray) (i : Nat) (hi : i < s.size) (h : bt s i < 128) : bdB s (i + 1) = true := by
  have hw : wd s i = 1 := by
    rcases Nat.lt_or_ge (wd s i) 2 with q | q
    · have := wd_pos s i; omega
    · have := wd_lead s _ q; omega
  have := bd_step s i (bd_ascii s i h) hi
  rwa [hw] at this
/-- Lines and columns behind n bytes more. -/
theorem lcB_at (s : ByteArray) (b n : Nat) (hb : b + n ≤ s.size) (hd : bdB s b = true) : lcB (rst s b) (lcAt s b) n = lcAt s (b + n) := by
  unfold lcB lcAt
  have e : (rst s b).extract 0 n = s.extract b (b + n) := by
    unfold rst
    rw [ByteArray.extract_extract, Nat.add_zero, Nat.min_eq_left (by omega)]
  rw [e, lcF_all, ← lcR_on s b (b + n) (1, 1) (by omega) hb (bd_pre s b (b + n) hd (by omega) hb)]
/-- What is known of a word's place. -/
structure WdAt (s : ByteArray) (x : Wd) : Prop where
  lc : (x.l, x.c) = whL s x.b
  lt : x.b < s.size
  e : x.e = x.b + x.v.n
  v : x.v = wordV (rst s x.b)
  le : x.e ≤ s.size
theorem wdAt_mk {s : ByteArray} {b : Nat} {x : Nat × Nat} (h1 : x = whL s b) (h2 : b < s.size) (h3 : b + (wordV (rst s b)).n ≤ s.size) : WdAt s ⟨wordV (rst s b), b, x.1, x.2, b + (wordV (rst s b)).n⟩ := by
  obtain ⟨x1, x2⟩ := x
  generalize hw : whL s b = y at h1
  subst h1
  generalize hv : wordV (rst s b) = v at h3
  exact { lc := hw.symm, lt := h2, e := rfl, v := hv.symm, le := h3 }
theorem cut_places (s : ByteArray) : ∀ f b x ws, b ≤ s.size → bdB s b = true → x = lcAt s b → (∀ y ∈ ws, WdAt s y) → (∀ y ∈ (cutGo s f b x ws).ws, WdAt s y) ∧ (cutGo s f b x ws).b ≤ s.size
  | 0, b, x, ws, hb, _, _, h => ⟨h, hb⟩
  | f + 1, b, x, ws, hb, hd, hx, h => by
    have hg := gB_le s b hb
    unfold cutGo
    split
    · exact ⟨h, hg.2⟩
    · split
      · exact ⟨h, hg.2⟩
      · rename_i hz
        rw [rst_size] at hz
        have hp : 0 < (rst s (gB s b)).size := by rw [rst_size]; omega
        have hle := wordV_le (rst s (gB s b)) hp
        rw [rst_size] at hle
        split
        · exact ⟨h, by show gB s b + _ ≤ _; omega⟩
        · rename_i ho
          have ho2 : (wordV (rst s (gB s b))).ok = true := Bool.eq_false_or_eq_true _ |>.resolve_right ho
          have hn := hle.2 ho2
          have e0 : bt (rst s (gB s b)) 0 = bt s (gB s b) := rst_at s (gB s b) 0 hg.2
          have hf := word_first _ ho2
          rw [e0] at hf
          have hl := word_last _ hp ho2
          rw [rst_at s (gB s b) _ hg.2] at hl
          have hbg : bdB s (gB s b) = true := bd_ascii s _ hf
          have hgl : gLC s b x = lcAt s (gB s b) := by
            unfold gLC
            rw [hx, lcB_at s b _ (by have := hg.2; unfold gB at this; exact this) hd]
            rfl
          have hnx : bdB s (gB s b + (wordV (rst s (gB s b))).n) = true := by
            have := bd_next s (gB s b + ((wordV (rst s (gB s b))).n - 1)) (by omega) hl
            rwa [show gB s b + ((wordV (rst s (gB s b))).n - 1) + 1 = gB s b + (wordV (rst s (gB s b))).n by omega] at this
          refine cut_places s f _ _ _ (by omega) hnx (by rw [hgl, lcB_at s _ _ (by omega) hbg]) (fun y hy => ?_)
          rcases List.mem_append.1 hy with hy | hy
          · exact h y hy
          · obtain rfl := List.mem_singleton.1 hy
            exact wdAt_mk (hgl.trans (whL_bd s _ hbg).symm) (by omega) (by omega)
theorem words_places (s : ByteArray) : (∀ y ∈ (wordsV s).ws, WdAt s y) ∧ (wordsV s).b ≤ s.size := cut_places s _ 0 (1, 1) [] (Nat.zero_le _) (bd_zero s) (lcAt_zero s).symm (fun _ h => by cases h)
end Go.Proofs.YtcnhkhjkeemafaaGreatDoor
/- The reference's Words. -/
namespace Go.Proofs.YtcnhkhjkeemafaaGreatDoor
open Go.RowKit Go.Shelf
set_option linter.unusedVariables false
def rdCells (x : Wd) : List Value := [.int .i64 x.v.kind, .string x.v.S, .int .i32 x.v.R, .int .i64 x.v.N, .int .i64 x.b, .int .i64 x.e]
def encR (ws : List Wd) : List Value := ws.flatMap rdCells
theorem encR_snoc (ws : List Wd) (x : Wd) : encR (ws ++ [x]) = encR ws ++ rdCells x := by simp [encR]
theorem infoRW : (Tryz.prog.info? 43).map (fun i => (i.zero, i.size, i.bytes)) = some (some (.agg #[.int .i64 0, .string ⟨#[]⟩, .int .i32 0, .int .i64 0, .int .i64 0, .int .i64 0]), 6, 56) := by kernel_rfl
theorem new_cells6 (W : World) (c0 c1 c2 c3 c4 c5 : Value) (t : TypeId) : ∀ j u, [c0, c1, c2, c3, c4, c5][j]? = some u → (W.alloc (.cells #[c0, c1, c2, c3, c4, c5] t)).cell? ((⟨W.heap.size, 0, none⟩ : Addr).add j) = some u := by
  intro j u hj
  have := (Blk.new W #[c0, c1, c2, c3, c4, c5] t).cell j
  rw [show (⟨W.heap.size, 0, none⟩ : Addr).add j = ⟨W.heap.size, j, none⟩ by unfold Addr.add; split <;> simp_all, this, ← hj]
  simp
theorem own_belowW {W W' : World} {base e size n : Nat} {v : Value} {xs : List Value} (h : W.ownsRow base e size v n xs) (hb : Below W.heap.size W W') : W'.ownsRow base e size v n xs :=
  h.kept (row := none) ⟨hb.os, hb.tape, hb.output, hb.size, fun j hj _ => hb.block j hj⟩ (by cases v.ownBlock <;> simp)
/-- What is left to be cut. -/
structure RwSt (s : ByteArray) (f b : Nat) (x : Nat × Nat) (ws : List Wd) : Prop where
  eq : wordsV s = cutGo s f b x ws
  fu : s.size < b + f
  le : b ≤ s.size
  len : ws.length ≤ b
theorem gapA_gB (s : ByteArray) (b : Nat) : gapA s b = (gB s b, (gapV (rst s b)).2) := rfl
theorem RwSt.bad {s : ByteArray} {f b : Nat} {x : Nat × Nat} {ws : List Wd} (h : RwSt s f b x ws) (hg : (gapV (rst s b)).2 = false) : (wordsV s).ok = false ∧ (wordsV s).b = gB s b := by
  obtain ⟨g, rfl⟩ : ∃ g, f = g + 1 := ⟨f - 1, by have := h.fu; have := h.le; omega⟩
  have e := h.eq
  unfold cutGo at e
  rw [if_pos hg] at e
  rw [e]
  exact ⟨rfl, rfl⟩
theorem RwSt.done {s : ByteArray} {f b : Nat} {x : Nat × Nat} {ws : List Wd} (h : RwSt s f b x ws) (hg : (gapV (rst s b)).2 = true) (he : gB s b = s.size) : (wordsV s).ok = true ∧ (wordsV s).ws = ws := by
  obtain ⟨g, rfl⟩ : ∃ g, f = g + 1 := ⟨f - 1, by have := h.fu; have := h.le; omega⟩
  have e := h.eq
  unfold cutGo at e
  rw [if_neg (by rw [hg]; decide), if_pos (by rw [rst_size]; omega)] at e
  rw [e]
  exact ⟨rfl, rfl⟩
theorem RwSt.no {s : ByteArray} {f b : Nat} {x : Nat × Nat} {ws : List Wd} (h : RwSt s f b x ws) (hg : (gapV (rst s b)).2 = true) (he : gB s b ≠ s.size) (ho : (wordV (rst s (gB s b))).ok = false) : (wordsV s).ok = false ∧ (wordsV s).b = gB s b + (wordV (rst s (gB s b))).n := by
  obtain ⟨g, rfl⟩ : ∃ g, f = g + 1 := ⟨f - 1, by have := h.fu; have := h.le; omega⟩
  have hb := gB_le s b h.le
  have e := h.eq
  unfold cutGo at e
  rw [if_neg (by rw [hg]; decide), if_neg (by rw [rst_size]; omega), if_pos ho] at e
  rw [e]
  exact ⟨rfl, rfl⟩
theorem RwSt.yes {s : ByteArray} {f b : Nat} {x : Nat × Nat} {ws : List Wd} (h : RwSt s f b x ws) (hg : (gapV (rst s b)).2 = true) (he : gB s b ≠ s.size) (ho : (wordV (rst s (gB s b))).ok = true) :
    ∃ f' x' y, RwSt s f' (gB s b + (wordV (rst s (gB s b))).n) x' (ws ++ [y]) ∧ rdCells y = [.int .i64 (wordV (rst s (gB s b))).kind, .string (wordV (rst s (gB s b))).S, .int .i32 (wordV (rst s (gB s b))).R, .int .i64 (wordV (rst s (gB s b))).N, .int .i64 (gB s b), .int .i64 ((gB s b + (wordV (rst s (gB s b))).n : Nat) : Int)] ∧ 1 ≤ (wordV (rst s (gB s b))).n := by
  obtain ⟨g, rfl⟩ : ∃ g, f = g + 1 := ⟨f - 1, by have := h.fu; have := h.le; omega⟩
  have hb := gB_le s b h.le
  have e := h.eq
  unfold cutGo at e
  rw [if_neg (by rw [hg]; decide), if_neg (by rw [rst_size]; omega), if_neg (by rw [ho]; decide)] at e
  have hp : 0 < (rst s (gB s b)).size := by rw [rst_size]; omega
  have hle := wordV_le (rst s (gB s b)) hp
  rw [rst_size] at hle
  have h1 := hle.2 ho
  have h2 := h.fu
  have h3 := h.len
  exact ⟨g, _, _, ⟨e, by omega, by omega, by rw [List.length_append, List.length_singleton]; omega⟩, rfl, h1⟩
/-- What one round does to the list. -/
theorem rw_step {w w1 w2 : World} {v v' : Value} {ws : List Wd} {y : Wd} {c0 c1 c2 c3 c4 c5 : Value} (hrc : rdCells y = [c0, c1, c2, c3, c4, c5])
    (hown : w1.ownsRow w.heap.size 43 6 v ws.length (encR ws)) (hB : Below w.heap.size w w1)
    (hown' : w2.ownsRow w.heap.size 43 6 v' (ws.length + 1) (encR ws ++ [c0, c1, c2, c3, c4, c5]))
    (hgrow : ((w1.alloc (.cells #[c0, c1, c2, c3, c4, c5] 43)).alloc (.cells #[c0, c1, c2, c3, c4, c5] 43)).grownBy w2 v.ownBlock) :
    w2.ownsRow w.heap.size 43 6 v' (ws ++ [y]).length (encR (ws ++ [y])) ∧ Below w.heap.size w w2 := by
  have hl := own_lt hown
  refine ⟨?_, ?_⟩
  · rw [encR_snoc, List.length_append, hrc]; exact hown'
  · exact ((hB.alloc hB.size _).alloc (by have := hB.size; simp; omega) _).grown hgrow (by have := hB.size; simp; omega) (fun k hk => (hl k hk).1)
def rwsPost (s : ByteArray) (w : World) (e : Ending) (w' : World) : Prop :=
  ((wordsV s).ok = true → ∃ v, e = .returned (.tuple #[v, .int .i64 (-1), .int .i64 0]) ∧ w'.ownsRow w.heap.size 43 6 v (wordsV s).ws.length (encR (wordsV s).ws)) ∧
  ((wordsV s).ok = false → e = .returned (.tuple #[.slice none 0 0, .int .i64 (wordsV s).b, .int .i64 (if (wordsV s).b < s.size then 20 else 21)])) ∧ Below w.heap.size w w'
theorem rwsPost_no {s : ByteArray} {w w' : World} {n : Nat} (h : (wordsV s).ok = false ∧ (wordsV s).b = n) (c : Int) (hc : c = if n < s.size then 20 else 21) (hb : Below w.heap.size w w') : rwsPost s w (.returned (.tuple #[.slice none 0 0, .int .i64 n, .int .i64 c])) w' :=
  ⟨(fun q => by rw [h.1] at q; cases q), (fun _ => by rw [h.2, hc]), hb⟩
set_option maxRecDepth 100000 in
set_option maxHeartbeats 8000000 in
theorem refWords_any (s : ByteArray) (hs : s.size ≤ 262144) (w : World) : Calls Tryz.prog 14 #[.string s] w fun e w' => rwsPost s w e w' := by
  obtain ⟨i0, hi, hz0, hz1, hz2⟩ := info_parts infoRW
  have HI := hide hi
  have HZ0 := hide hz0
  have HZ1 := hide hz1
  have HZ2 := hide hz2
  clear hi hz0 hz1 hz2
  have hl : ¬ (262144 : Int) < (s.size : Int) := by omega
  have HS1 := hide (show s.size ≤ 1099511627776 by omega)
  go_enter Tryz.func14, Tryz.ntmps14
  go_wp2_with fail
  go_loopw [5, 6, 7, 8, 9, 10, 11] (fun v i _ _ _ _ _ wr => ∃ (f b : Nat) (x : Nat × Nat) (ws : List Wd), Hz (RwSt s f b x ws) ∧ b ≤ s.size ∧ i = .int .i64 b ∧ Hz (wr.ownsRow w.heap.size 43 6 v ws.length (encR ws)) ∧ Hz (Below w.heap.size w wr))
    (fun _ i _ _ _ _ _ _ => s.size - (intOf i).toNat)
  case atStart => exact ⟨s.size + 1, 0, (1, 1), [], hide ⟨rfl, by omega, by omega, by simp⟩, by omega, rfl, hide (World.ownsRow_nil _ _ _ _), hide (Below.refl _ _)⟩
  case round =>
    obtain ⟨f, b, x, ws, HR, hb, rfl, HOWN, HB⟩ := hrel
    have hgb := gB_le s b hb
    have hbl := blank_any s (unhide HS1) b hb
    rw [gapA_gB] at hbl
    have hno := fun h => (unhide HR).bad h
    have hdo := fun h1 h2 => (unhide HR).done h1 h2
    have hwn := fun h1 h2 h3 => (unhide HR).no h1 h2 h3
    have hwy := fun h1 h2 h3 => (unhide HR).yes h1 h2 h3
    have hwd := fun (h : gB s b < s.size) => word_any s (unhide HS1) (gB s b) h
    have hwle := fun (h : gB s b < s.size) => wordV_le (rst s (gB s b)) (by rw [rst_size]; omega)
    rw [rst_size] at hwle
    have hlen : ws.length ≤ 262144 := by have := (unhide HR).len; omega
    generalize (gapV (rst s b)).2 = o at *
    generalize gB s b = g at *
    generalize wordV (rst s g) = V at *
    cases o
    · have HNO := hide (hno rfl)
      have HBL := hide hbl
      clear hno hdo hwn hwy hwd hwle hbl
      by_cases he : g = s.size
      · have he' : ((g : Int) == (s.size : Int)) = true := by simp; omega
        have HC := hide (show (21 : Int) = if g < s.size then 20 else 21 by rw [if_neg (by omega)])
        clear he
        go_wp2_with fail
        refine (unhide HBL _).mono ?_
        rintro e w1 ⟨rfl, rfl⟩
        go_wp2_with fail
        exact bodyPost_ret (v := .tuple #[.slice none 0 0, .int .i64 g, .int .i64 21]) (by simp [results, Tryz.results14, go_sem]) rfl (rwsPost_no (unhide HNO) 21 (unhide HC) (unhide HB))
      · have he' : ((g : Int) == (s.size : Int)) = false := by simp; omega
        have HC := hide (show (20 : Int) = if g < s.size then 20 else 21 by rw [if_pos (by omega)])
        clear he
        go_wp2_with fail
        refine (unhide HBL _).mono ?_
        rintro e w1 ⟨rfl, rfl⟩
        go_wp2_with fail
        exact bodyPost_ret (v := .tuple #[.slice none 0 0, .int .i64 g, .int .i64 20]) (by simp [results, Tryz.results14, go_sem]) rfl (rwsPost_no (unhide HNO) 20 (unhide HC) (unhide HB))
    · have HBL := hide hbl
      clear hno hbl
      by_cases he : g = s.size
      · have he' : ((g : Int) == (s.size : Int)) = true := by simp; omega
        have HDO := hide (hdo rfl he)
        clear he hdo hwn hwy hwd hwle
        go_wp2_with fail
        refine (unhide HBL _).mono ?_
        rintro e w1 ⟨rfl, rfl⟩
        go_wp2_with fail
        exact bodyPost_ret (v := .tuple #[u5, .int .i64 (-1), .int .i64 0]) (by simp [results, Tryz.results14, go_sem]) rfl ⟨fun _ => ⟨_, rfl, by rw [(unhide HDO).2]; exact unhide HOWN⟩, (fun q => by rw [(unhide HDO).1] at q; cases q), unhide HB⟩
      · have he' : ((g : Int) == (s.size : Int)) = false := by simp; omega
        have hlt : g < s.size := by omega
        have hle := hwle hlt
        have hwc := hwd hlt
        have hn := hwn rfl he
        have hy := hwy rfl he
        clear hdo hwn hwy hwd hwle he
        obtain ⟨K, S, R, N, n, o⟩ := V
        have hle1 : g + n ≤ s.size := by have : n ≤ s.size - g := hle.1; omega
        obtain ⟨q, hq⟩ : ∃ q, q = g + n := ⟨_, rfl⟩
        have HWC : Hz (∀ w, Calls Tryz.prog 25 #[.string s, .int .i64 g] w fun e w' => ∃ X, e = .returned (.tuple #[X, .int .i64 (q : Int), .bool o]) ∧ (o = true → X = .agg #[.int .i64 K, .string S, .int .i32 R, .int .i64 N, .int .i64 g, .int .i64 (q : Int)]) ∧ IsW X ∧ Below w.heap.size w w') := hide (by intro w; rw [hq]; exact hwc w)
        have hn' : o = false → (wordsV s).ok = false ∧ (wordsV s).b = q := by rw [hq]; exact hn
        have hy' : o = true → ∃ f' x' y, RwSt s f' q x' (ws ++ [y]) ∧ rdCells y = [.int .i64 K, .string S, .int .i32 R, .int .i64 N, .int .i64 g, .int .i64 (q : Int)] ∧ b < q := by
          intro h
          obtain ⟨f', x', y, h1, h2, h3⟩ := hy h
          refine ⟨f', x', y, by rw [hq]; exact h1, by rw [hq]; exact h2, ?_⟩
          have : 1 ≤ n := h3
          omega
        rw [← hq] at hle1
        clear hwc hn hy hle hq
        cases o
        · have HNO := hide (hn' rfl)
          clear hn' hy'
          by_cases he2 : q = s.size
          · have he3 : ((q : Int) == (s.size : Int)) = true := by simp; omega
            have HC := hide (show (21 : Int) = if q < s.size then 20 else 21 by rw [if_neg (by omega)])
            clear he2
            go_wp2_with fail
            refine (unhide HBL _).mono ?_
            rintro e w1 ⟨rfl, rfl⟩
            go_wp2_with fail
            refine (unhide HWC _).mono ?_
            rintro e w2 ⟨X, rfl, _, ⟨z0, z1, z2, z3, z4, z5, rfl⟩, hb2⟩
            have HB2 := hide ((unhide HB).trans (hb2.mono (unhide HB).size))
            clear hb2
            go_wp2_with fail
            exact bodyPost_ret (v := .tuple #[.slice none 0 0, .int .i64 (q : Int), .int .i64 21]) (by simp [results, Tryz.results14, go_sem]) rfl (rwsPost_no (unhide HNO) 21 (unhide HC) ((unhide HB2).alloc (unhide HB2).size _))
          · have he3 : ((q : Int) == (s.size : Int)) = false := by simp; omega
            have HC := hide (show (20 : Int) = if q < s.size then 20 else 21 by rw [if_pos (by omega)])
            clear he2
            go_wp2_with fail
            refine (unhide HBL _).mono ?_
            rintro e w1 ⟨rfl, rfl⟩
            go_wp2_with fail
            refine (unhide HWC _).mono ?_
            rintro e w2 ⟨X, rfl, _, ⟨z0, z1, z2, z3, z4, z5, rfl⟩, hb2⟩
            have HB2 := hide ((unhide HB).trans (hb2.mono (unhide HB).size))
            clear hb2
            go_wp2_with fail
            exact bodyPost_ret (v := .tuple #[.slice none 0 0, .int .i64 (q : Int), .int .i64 20]) (by simp [results, Tryz.results14, go_sem]) rfl (rwsPost_no (unhide HNO) 20 (unhide HC) ((unhide HB2).alloc (unhide HB2).size _))
        · obtain ⟨f', x', y, hr', hrc, hn1⟩ := hy' rfl
          have HR2 := hide hr'
          have HRC := hide hrc
          have HN1 := hide hn1
          clear hy' hn' hr' hrc hn1
          go_wp2_with fail
          refine (unhide HBL _).mono ?_
          rintro e w1 ⟨rfl, rfl⟩
          go_wp2_with fail
          refine (unhide HWC _).mono ?_
          rintro e w2 ⟨X, rfl, hX, _, hb2⟩
          obtain rfl := hX trivial
          have hB2 := (unhide HB).trans (hb2.mono (unhide HB).size)
          have hO2 := own_belowW (unhide HOWN) hb2
          have HB2 := hide hB2
          have HO2 := hide hO2
          have HLN := hide (new_cells6 (w2.alloc (.cells #[.int .i64 K, .string S, .int .i32 R, .int .i64 N, .int .i64 g, .int .i64 (q : Int)] 43)) (.int .i64 K) (.string S) (.int .i32 R) (.int .i64 N) (.int .i64 g) (.int .i64 (q : Int)) 43)
          clear hb2 hB2 hO2
          go_wp2_with (at_builtin; refine wpList_append_own _ rfl _ _ 38 rfl w.heap.size 43 i0 (.agg #[.int .i64 0, .string ⟨#[]⟩, .int .i32 0, .int .i64 0, .int .i64 0, .int .i64 0]) 6 56 Tryz.underlying38 (unhide HI) (unhide HZ0) (unhide HZ1) (unhide HZ2) rfl (by decide) _ _ _ rfl (((unhide HO2).alloc _).alloc _) ⟨w2.heap.size + 1, 0, none⟩ 1 1 [.int .i64 K, .string S, .int .i32 R, .int .i64 N, .int .i64 g, .int .i64 (q : Int)] rfl rfl ?c1 ?c2 ?c3 ?c4 ?c5 ?_)
          case c1 => have := unhide HLN; simpa using this
          case c2 => intro u hu; simp at hu; rcases hu with rfl | rfl | rfl | rfl | rfl | rfl <;> rfl
          case c3 => unfold maxLen; omega
          case c4 => omega
          case c5 => have := (unhide HB2).size; simp; omega
          intro v' w3 hown' hgrow _
          obtain ⟨hown3, hB3⟩ := rw_step (unhide HRC) (unhide HO2) (unhide HB2) hown' hgrow
          have HO3 := hide hown3
          have HB3 := hide hB3
          clear hown' hgrow HLN hown3 hB3 HO2 HB2
          go_wp2_with fail
          go_roundw
          case rel => exact ⟨f', q, x', ws ++ [y], HR2, hle1, rfl, HO3, HB3⟩
          case measure => have := unhide HN1; simp [intOf]; omega
end Go.Proofs.YtcnhkhjkeemafaaGreatDoor
/- How many words a text can have. -/
namespace Go.Proofs.YtcnhkhjkeemafaaGreatDoor
open Go.RowKit Go.Shelf
set_option linter.unusedVariables false
theorem cut_count (s : ByteArray) : ∀ f b x ws, b ≤ s.size → ws.length ≤ b → (cutGo s f b x ws).ws.length ≤ s.size
  | 0, b, x, ws, hb, h => Nat.le_trans h hb
  | f + 1, b, x, ws, hb, h => by
    have hg := gB_le s b hb
    unfold cutGo
    split
    · exact Nat.le_trans h hb
    · split
      · exact Nat.le_trans h hb
      · rename_i hz
        rw [rst_size] at hz
        have hp : 0 < (rst s (gB s b)).size := by rw [rst_size]; omega
        have hle := wordV_le (rst s (gB s b)) hp
        rw [rst_size] at hle
        split
        · exact Nat.le_trans h hb
        · rename_i ho
          have ho2 : (wordV (rst s (gB s b))).ok = true := Bool.eq_false_or_eq_true _ |>.resolve_right ho
          have hn := hle.2 ho2
          exact cut_count s f _ _ _ (by omega) (by rw [List.length_append, List.length_singleton]; omega)
theorem words_count (s : ByteArray) : (wordsV s).ws.length ≤ s.size := cut_count s _ 0 (1, 1) [] (Nat.zero_le _) (Nat.le_refl _)
end Go.Proofs.YtcnhkhjkeemafaaGreatDoor
/- A text, cut off. -/
namespace Go.Proofs.YtcnhkhjkeemafaaGreatDoor
open Go.RowKit Go.Shelf
set_option linter.unusedVariables false
/-- A text, cut off. -/
def fewV (s : ByteArray) (n : Nat) : ByteArray := if n < s.size then s.extract 0 n else s
theorem fewV_size (s : ByteArray) (n : Nat) : (fewV s n).size ≤ n := by
  unfold fewV
  split
  · rw [ByteArray.size_extract]; omega
  · omega
set_option maxRecDepth 100000 in
theorem few_any (s : ByteArray) (hs : s.size ≤ maxLen) (n : Nat) (hn : n ≤ 1099511627776) (w : World) : Calls Tryz.prog 5 #[.string s, .int .i64 n] w fun e w' => e = .returned (.string (fewV s n)) ∧ w' = w := by
  unfold maxLen at hs
  unfold fewV
  by_cases h : n < s.size
  · rw [if_pos h]
    have h1 : (n : Int) < (s.size : Int) := by omega
    have h2 : (n : Int) ≤ (s.size : Int) := by omega
    go_enter Tryz.func5, Tryz.ntmps5
    go_wp2_with fail
    go_ret
    exact ⟨rfl, rfl⟩
  · rw [if_neg h]
    have h1 : ¬ (n : Int) < (s.size : Int) := by omega
    go_enter Tryz.func5, Tryz.ntmps5
    go_wp2_with fail
    go_ret
    exact ⟨rfl, rfl⟩
end Go.Proofs.YtcnhkhjkeemafaaGreatDoor
/- Within of the books, told for all numbers within the reach. -/
namespace Go.Proofs.YtcnhkhjkeemafaaGreatDoor
open Go.RowKit Go.Shelf
set_option linter.unusedVariables false

theorem within_any (n lo hi : Int) (hl : -4 ≤ lo) (hlh : lo ≤ hi) (hh : hi ≤ 1099511627776) (w : World) : Calls Tryz.prog 7 #[.int .i64 n, .int .i64 lo, .int .i64 hi] w fun e w' => e = .returned (.int .i64 (lo + n % (hi - lo + 1))) ∧ w' = w := by
  have hm : (hi - lo + 1 == 0) = false := by rw [beq_eq_false_iff_ne]; omega
  have ht := Int.tmod_eq_emod (a := n) (b := hi - lo + 1)
  have h1 := Int.emod_nonneg n (show hi - lo + 1 ≠ 0 by omega)
  have h2 := Int.emod_lt_of_pos n (show 0 < hi - lo + 1 by omega)
  have hab : ((hi - lo + 1).natAbs : Int) = hi - lo + 1 := by omega
  have HE : Hz ((n.tmod (hi - lo + 1) = n % (hi - lo + 1)) ∨ (n.tmod (hi - lo + 1) = n % (hi - lo + 1) - (hi - lo + 1))) := hide <| by
    rw [ht]
    split
    · exact .inl (by omega)
    · exact .inr (by omega)
  have H1 := hide h1
  have H2 := hide h2
  clear ht h1 h2 hab
  generalize n % (hi - lo + 1) = q at *
  go_enter Tryz.func7, Tryz.ntmps7
  go_wp2
  all_goals rename_i hc
  all_goals go_ret
  all_goals refine ⟨?_, rfl⟩
  all_goals have he := unhide HE
  all_goals have h1 := unhide H1
  all_goals have h2 := unhide H2
  all_goals generalize n.tmod (hi - lo + 1) = r at *
  all_goals first
    | (show Ending.returned (Value.int .i64 (wrap64 (lo + wrap64 (wrap64 (wrap64 (r + hi) - lo) + 1)))) = _; rw [show wrap64 (lo + wrap64 (wrap64 (wrap64 (r + hi) - lo) + 1)) = lo + q by unfold wrap64; omega])
    | (show Ending.returned (Value.int .i64 (wrap64 (lo + r))) = _; rw [show wrap64 (lo + r) = lo + q by unfold wrap64; omega])
end Go.Proofs.YtcnhkhjkeemafaaGreatDoor
/- ScanWords: the words of any text. -/
namespace Go.Proofs.YtcnhkhjkeemafaaGreatDoor
open Go.RowKit Go.Shelf
set_option linter.unusedVariables false
theorem flatN {α : Type} (f : α → List Value) (n : Nat) (hf : ∀ x, (f x).length = n) : ∀ (l : List α) (k j : Nat) (x : α), l[k]? = some x → j < n → (l.flatMap f)[k * n + j]? = (f x)[j]?
  | [], k, j, x, h, _ => by simp at h
  | y :: l, 0, j, x, h, hj => by
    obtain rfl : y = x := by simpa using h
    rw [List.flatMap_cons, Nat.zero_mul, Nat.zero_add, List.getElem?_append_left (by rw [hf]; exact hj)]
  | y :: l, k + 1, j, x, h, hj => by
    have h' : l[k]? = some x := by simpa using h
    rw [List.flatMap_cons, List.getElem?_append_right (by rw [hf, Nat.succ_mul]; omega), hf, show (k + 1) * n + j - n = k * n + j by rw [Nat.succ_mul]; omega]
    exact flatN f n hf l k j x h' hj
/-- The cells of a word, in both lists. -/
theorem told_cells {W : World} {lo lo2 : Nat} {v v2 : Value} {ws : List Wd} (h : W.ownsRow lo 45 8 v ws.length (encWs ws)) (h2 : W.ownsRow lo2 43 6 v2 ws.length (encR ws)) (hn : 0 < ws.length) :
    ∃ g c g2 c2, v = .slice (some ⟨g, 0, none⟩) ws.length c ∧ v2 = .slice (some ⟨g2, 0, none⟩) ws.length c2 ∧ g < W.heap.size ∧ g2 < W.heap.size ∧ ∀ (k : Nat) (x : Wd), ws[k]? = some x → (∀ j u, (wdCells x)[j]? = some u → W.cell? ⟨g, k * 8 + j, none⟩ = some u) ∧ (∀ j u, (rdCells x)[j]? = some u → W.cell? ⟨g2, k * 6 + j, none⟩ = some u) := by
  obtain ⟨g, c, e, hg, hc⟩ := own_words h hn
  obtain ⟨g2, c2, e2, hg2, hc2⟩ := own_words h2 hn
  refine ⟨g, c, g2, c2, e, e2, hg, hg2, fun k x hx => ⟨fun j u hj => hc _ _ ?_, fun j u hj => hc2 _ _ ?_⟩⟩
  · have hl : j < 8 := by have := (List.getElem?_eq_some_iff.1 hj).1; exact this
    unfold encWs
    rw [flatN wdCells 8 (fun _ => rfl) ws k j x hx hl]
    exact hj
  · have hl : j < 6 := by have := (List.getElem?_eq_some_iff.1 hj).1; exact this
    unfold encR
    rw [flatN rdCells 6 (fun _ => rfl) ws k j x hx hl]
    exact hj
set_option maxRecDepth 100000 in
set_option maxHeartbeats 8000000 in
theorem told_no (s : ByteArray) (hs : s.size ≤ 262144) (hok : (wordsV s).ok = false) (m : Int) (w : World) (hE : Env m w) : Calls Tryz.prog 6 #[.string s] w fun e w' => e = .returned (.bool true) ∧ Below w.heap.size w w' := by
  have hb := (words_places s).2
  have hW := words_no s hs hok hb m w hE.max (cell_lt hE.max)
  have hR := fun w => refWords_any s hs w
  have hwh := fun w => refWhere_in s (by omega) (wordsV s).b hb ((wordsV s).b : Int) (by omega) w
  simp only [rwsPost, hok] at hR
  obtain ⟨b, hbe⟩ : ∃ b, b = (wordsV s).b := ⟨_, rfl⟩
  rw [← hbe] at hW hb
  simp only [← hbe] at hR hwh
  obtain ⟨x1, x2, hx⟩ : ∃ x1 x2, whL s b = (x1, x2) := ⟨_, _, rfl⟩
  rw [hx] at hW
  simp only [hx] at hwh
  obtain ⟨c, hc, hc0⟩ : ∃ c : Int, (if b < s.size then (20 : Int) else 21) = c ∧ (c = 20 ∨ c = 21) := ⟨_, rfl, by split <;> simp⟩
  rw [hc] at hW
  simp only [hc] at hR
  have HW := hide hW
  have HR := hide hR
  have HWH := hide hwh
  clear hW hR hwh hx hc hbe hok
  rcases hc0 with rfl | rfl
  all_goals
    go_enter Tryz.func6, Tryz.ntmps6
    go_wp2_with fail
    refine (unhide HW).mono ?_
    rintro e w1 ⟨rfl, hb1⟩
    have HB1 := hide (hb1.alloc hb1.size (.cells #[.int .i64 b, .int .i64 x1, .int .i64 x2] 35))
    have HA1 := hide (Blk.new w1 #[.int .i64 b, .int .i64 x1, .int .i64 x2] 35)
    clear hb1
    go_wp2_with fail
    refine (unhide HR _).mono ?_
    rintro e w2 ⟨_, he, hb2⟩
    obtain rfl := he trivial
    have HB2 := hide (((unhide HB1).trans (hb2.mono (unhide HB1).size)).alloc ((unhide HB1).trans (hb2.mono (unhide HB1).size)).size (.cells #[.int .i64 0, .int .i64 0, .int .i64 0] 35))
    have HA2 := hide (((unhide HA1).below hb2 (unhide HA1).lt).alloc (.cells #[.int .i64 0, .int .i64 0, .int .i64 0] 35))
    have HW2 := hide (Blk.new w2 #[.int .i64 0, .int .i64 0, .int .i64 0] 35)
    have HNE := hide (show w1.heap.size ≠ w2.heap.size by have h1 := hb2.size; rw [World.size_alloc] at h1; omega)
    have HLE2 := hide (show w.heap.size ≤ w2.heap.size from ((unhide HB1).trans (hb2.mono (unhide HB1).size)).size)
    clear he hb2 HB1 HA1
    go_wp2_with fail
    refine (unhide HWH _).mono ?_
    rintro e w3 ⟨rfl, hb3⟩
    have hA3 := (unhide HA2).below hb3 (unhide HA2).lt
    have hW3 := (unhide HW2).below hb3 (unhide HW2).lt
    have hB3 := (unhide HB2).trans (hb3.mono (unhide HB2).size)
    have k0 := hW3.cell 0
    have k1 := hW3.cell 1
    have k2 := hW3.cell 2
    have f0 := hW3.frozen 0
    have f1 := hW3.frozen 1
    have f2 := hW3.frozen 2
    have hA4 : Blk (((w3.setCell ⟨w2.heap.size, 0, none⟩ (.int .i64 b)).setCell ⟨w2.heap.size, 1, none⟩ (.int .i64 x1)).setCell ⟨w2.heap.size, 2, none⟩ (.int .i64 x2)) w1.heap.size #[.int .i64 b, .int .i64 x1, .int .i64 x2] 35 := ((hA3.other (unhide HNE) _).other (unhide HNE) _).other (unhide HNE) _
    have hW4 : Blk (((w3.setCell ⟨w2.heap.size, 0, none⟩ (.int .i64 b)).setCell ⟨w2.heap.size, 1, none⟩ (.int .i64 x1)).setCell ⟨w2.heap.size, 2, none⟩ (.int .i64 x2)) w2.heap.size #[.int .i64 b, .int .i64 x1, .int .i64 x2] 35 := ((hW3.set 0 _).set 1 _).set 2 _
    have a0 := hA4.cell 0
    have a1 := hA4.cell 1
    have a2 := hA4.cell 2
    have b0 := hW4.cell 0
    have b1 := hW4.cell 1
    have b2 := hW4.cell 2
    have e0 : ((b : Int) == (b : Int)) = true := by simp
    have e1 : ((x1 : Int) == (x1 : Int)) = true := by simp
    have e2 : ((x2 : Int) == (x2 : Int)) = true := by simp
    have HB4 := hide (((hB3.setCell (p := ⟨w2.heap.size, 0, none⟩) (unhide HLE2) (.int .i64 b)).setCell (p := ⟨w2.heap.size, 1, none⟩) (unhide HLE2) (.int .i64 x1)).setCell (p := ⟨w2.heap.size, 2, none⟩) (unhide HLE2) (.int .i64 x2))
    clear hA3 hW3 hB3 hb3 hA4 hW4 HA2 HW2 HB2
    go_wp2_with fail
    go_loopw [10, 11] (fun i _ wr => i = .int .i64 0 ∧ Hz (Below w.heap.size w wr)) (fun _ _ _ => 0)
    case atStart => exact ⟨rfl, HB4⟩
    case round =>
      obtain ⟨rfl, HB⟩ := hrel
      go_wp2_with fail
      go_ret
      exact ⟨rfl, unhide HB⟩
set_option maxRecDepth 100000 in
set_option maxHeartbeats 8000000 in
theorem told_yes (s : ByteArray) (hs : s.size ≤ 262144) (hok : (wordsV s).ok = true) (m : Int) (w : World) (hE : Env m w) : Calls Tryz.prog 6 #[.string s] w fun e w' => e = .returned (.bool true) ∧ Below w.heap.size w w' := by
  have hW := words_yes s hs hok m w hE.max (cell_lt hE.max)
  have hR := fun w => refWords_any s hs w
  simp only [rwsPost, hok] at hR
  have hpl := (words_places s).1
  have hwh := fun (k : Nat) (hk : k ≤ s.size) w => refWhere_in s (by omega) k hk (k : Int) (by omega) w
  have hcnt : (wordsV s).ws.length ≤ 262144 := Nat.le_trans (words_count s) hs
  generalize (wordsV s).ws = ws at *
  have hne : (((ws.length : Nat) : Int) != ((ws.length : Nat) : Int)) = false := by simp
  have HW := hide hW
  have HR := hide hR
  have HWH := hide hwh
  have HPL := hide hpl
  clear hW hR hwh hpl hok
  go_enter Tryz.func6, Tryz.ntmps6
  go_wp2_with fail
  refine (unhide HW).mono ?_
  rintro e w1 ⟨v, rfl, hown, hb1⟩
  obtain ⟨va, vc, rfl⟩ : ∃ a c, v = .slice a ws.length c := by
    rcases hown.2 with ⟨rfl, h0⟩ | ⟨g, cap, cur, rfl, _⟩
    · exact ⟨none, 0, by rw [h0]⟩
    · exact ⟨_, cap, rfl⟩
  have HO1 := hide (hown.alloc (.cells #[.int .i64 0, .int .i64 0, .int .i64 0] 35))
  have HB1 := hide (hb1.alloc hb1.size (.cells #[.int .i64 0, .int .i64 0, .int .i64 0] 35))
  have HA1 := hide (Blk.new w1 #[.int .i64 0, .int .i64 0, .int .i64 0] 35)
  clear hb1 hown
  go_wp2_with fail
  refine (unhide HR _).mono ?_
  rintro e w2 ⟨he, _, hb2⟩
  obtain ⟨v2, rfl, hown2⟩ := he trivial
  obtain ⟨ma, mc, rfl⟩ : ∃ a c, v2 = .slice a ws.length c := by
    rcases hown2.2 with ⟨rfl, h0⟩ | ⟨g, cap, cur, rfl, _⟩
    · exact ⟨none, 0, by rw [h0]⟩
    · exact ⟨_, cap, rfl⟩
  have hB2 := ((unhide HB1).trans (hb2.mono (unhide HB1).size))
  have HB2 := hide (hB2.alloc hB2.size (.cells #[.int .i64 0, .int .i64 0, .int .i64 0] 35))
  have hA2 := ((unhide HA1).below hb2 (unhide HA1).lt).alloc (.cells #[.int .i64 0, .int .i64 0, .int .i64 0] 35)
  have hW2 := Blk.new w2 #[.int .i64 0, .int .i64 0, .int .i64 0] 35
  have HO2 := hide ((own_belowW (unhide HO1) hb2).alloc (.cells #[.int .i64 0, .int .i64 0, .int .i64 0] 35))
  have HM2 := hide (hown2.alloc (.cells #[.int .i64 0, .int .i64 0, .int .i64 0] 35))
  have a0 := hA2.cell 0
  have a1 := hA2.cell 1
  have a2 := hA2.cell 2
  have b0 := hW2.cell 0
  have b1 := hW2.cell 1
  have b2 := hW2.cell 2
  clear he hb2 HB1 HA1 hB2 hown2 hA2 hW2 HO1
  go_wp2_with fail
  clear a0 a1 a2 b0 b1 b2
  generalize w2.alloc (.cells #[.int .i64 0, .int .i64 0, .int .i64 0] 35) = W3 at *
  go_loopw [10, 11] (fun i _ wr => ∃ k : Nat, k ≤ ws.length ∧ i = .int .i64 k ∧ Hz (Below W3.heap.size W3 wr)) (fun i _ _ => ws.length - (intOf i).toNat)
  case atStart => exact ⟨0, by omega, rfl, hide (Below.refl _ _)⟩
  case round =>
    obtain ⟨k, hk, rfl, HB⟩ := hrel
    by_cases hkn : k < ws.length
    · have hk1 : (k : Int) < (ws.length : Int) := by omega
      have hk2 : ((k : Nat) : Int).toNat = k := by omega
      obtain ⟨x, hx⟩ : ∃ x, ws[k]? = some x := ⟨_, List.getElem?_eq_getElem hkn⟩
      obtain ⟨g, c, g2, c2, e1, e2, hg, hg2, hc⟩ := told_cells (unhide HO2) (unhide HM2) (by omega)
      cases e1
      cases e2
      have hp := unhide HPL x (List.mem_of_getElem? hx)
      have HC := hide (unhide HWH x.b (by have := hp.lt; omega))
      have hlc := hp.lc
      have hcx := hc k x hx
      obtain ⟨⟨K, S, R, N, n, o⟩, b, l, cc, e9⟩ := x
      have hal := (Below.refl wr.heap.size wr).alloc (Nat.le_refl _) (.cells #[.int .i64 K, .string S, .int .i32 R, .int .i64 N, .int .i64 b, .int .i64 e9] 43)
      have HB5 := hide ((unhide HB).trans (hal.mono (unhide HB).size))
      have q0 := (unhide HB5).cell (p := ⟨g, k * 8 + 0, none⟩) hg |>.trans (hcx.1 0 (.int .i64 K) rfl)
      have q1 := (unhide HB5).cell (p := ⟨g, k * 8 + 1, none⟩) hg |>.trans (hcx.1 1 (.string S) rfl)
      have q2 := (unhide HB5).cell (p := ⟨g, k * 8 + 2, none⟩) hg |>.trans (hcx.1 2 (.int .i32 R) rfl)
      have q3 := (unhide HB5).cell (p := ⟨g, k * 8 + 3, none⟩) hg |>.trans (hcx.1 3 (.int .i64 N) rfl)
      have q4 := (unhide HB5).cell (p := ⟨g, k * 8 + 4, none⟩) hg |>.trans (hcx.1 4 (.int .i64 b) rfl)
      have q5 := (unhide HB5).cell (p := ⟨g, k * 8 + 5, none⟩) hg |>.trans (hcx.1 5 (.int .i64 l) rfl)
      have q6 := (unhide HB5).cell (p := ⟨g, k * 8 + 6, none⟩) hg |>.trans (hcx.1 6 (.int .i64 cc) rfl)
      have q7 := (unhide HB5).cell (p := ⟨g, k * 8 + 7, none⟩) hg |>.trans (hcx.1 7 (.int .i64 e9) rfl)
      have r0 := (unhide HB).cell (p := ⟨g2, k * 6 + 0, none⟩) hg2 |>.trans (hcx.2 0 (.int .i64 K) rfl)
      have r1 := (unhide HB).cell (p := ⟨g2, k * 6 + 1, none⟩) hg2 |>.trans (hcx.2 1 (.string S) rfl)
      have r2 := (unhide HB).cell (p := ⟨g2, k * 6 + 2, none⟩) hg2 |>.trans (hcx.2 2 (.int .i32 R) rfl)
      have r3 := (unhide HB).cell (p := ⟨g2, k * 6 + 3, none⟩) hg2 |>.trans (hcx.2 3 (.int .i64 N) rfl)
      have r4 := (unhide HB).cell (p := ⟨g2, k * 6 + 4, none⟩) hg2 |>.trans (hcx.2 4 (.int .i64 b) rfl)
      have r5 := (unhide HB).cell (p := ⟨g2, k * 6 + 5, none⟩) hg2 |>.trans (hcx.2 5 (.int .i64 e9) rfl)
      rw [Nat.add_zero] at q0 r0
      have n0 : ((K : Int) != (K : Int)) = false := by simp
      have n1 : (S.toList != S.toList) = false := by simp
      have n2 : ((R : Int) != (R : Int)) = false := by simp
      have n3 : ((N : Int) != (N : Int)) = false := by simp
      have n5 : ((e9 : Int) != (e9 : Int)) = false := by simp
      have m0 : ((b : Int) == (b : Int)) = true := by simp
      have m1 : ((l : Int) == (l : Int)) = true := by simp
      have m2 : ((cc : Int) == (cc : Int)) = true := by simp
      simp only [] at hlc HC
      rw [← hlc] at HC
      have hW4 := Blk.new wr #[.int .i64 K, .string S, .int .i32 R, .int .i64 N, .int .i64 b, .int .i64 e9] 43
      have v0 := hW4.cell 0
      have v1 := hW4.cell 1
      have v2 := hW4.cell 2
      have v3 := hW4.cell 3
      have v4 := hW4.cell 4
      have v5 := hW4.cell 5
      have HQ := hide (And.intro q0 (And.intro q1 (And.intro q2 (And.intro q3 (And.intro q4 (And.intro q5 (And.intro q6 q7)))))))
      have HV := hide (And.intro v0 (And.intro v1 (And.intro v2 (And.intro v3 (And.intro v4 v5)))))
      clear hc hx hp hlc hcx hal hW4 q0 q1 q2 q3 q4 q5 q6 q7 v0 v1 v2 v3 v4 v5
      go_wp2_with fail
      clear r0 r1 r2 r3 r4 r5
      generalize wr.alloc (.cells #[.int .i64 K, .string S, .int .i32 R, .int .i64 N, .int .i64 b, .int .i64 e9] 43) = W5 at *
      obtain ⟨q0, q1, q2, q3, q4, q5, q6, q7⟩ := unhide HQ
      obtain ⟨v0, v1, v2, v3, v4, v5⟩ := unhide HV
      have kq0 := cell_regrown (show W5.cell? _ = some _ from q0)
      have kq1 := cell_regrown (show W5.cell? _ = some _ from q1)
      have kq2 := cell_regrown (show W5.cell? _ = some _ from q2)
      have kq3 := cell_regrown (show W5.cell? _ = some _ from q3)
      have kq4 := cell_regrown (show W5.cell? _ = some _ from q4)
      have kq5 := cell_regrown (show W5.cell? _ = some _ from q5)
      have kq6 := cell_regrown (show W5.cell? _ = some _ from q6)
      have kq7 := cell_regrown (show W5.cell? _ = some _ from q7)
      have kv0 := cell_regrown (show W5.cell? _ = some (.int .i64 K) from v0)
      have kv1 := cell_regrown (show W5.cell? _ = some (.string S) from v1)
      have kv2 := cell_regrown (show W5.cell? _ = some (.int .i32 R) from v2)
      have kv3 := cell_regrown (show W5.cell? _ = some (.int .i64 N) from v3)
      have kv4 := cell_regrown (show W5.cell? _ = some (.int .i64 b) from v4)
      have kv5 := cell_regrown (show W5.cell? _ = some (.int .i64 e9) from v5)
      clear q0 q1 q2 q3 q4 q5 q6 q7 v0 v1 v2 v3 v4 v5 HQ HV
      refine wp_region_quiet_below (by kernel_rfl) (by kernel_rfl) ?_
      repeat (go_big_quiet_step (exact Calls.regrown_of (unhide HC _)))
      refine wpQuiet_nil ?_
      intro _ hw'
      obtain ⟨⟨dq, osq⟩, hw''⟩ := hw'
      subst hw''
      have HB6 := hide ((unhide HB5).trans ((below_regrown W5 dq osq).mono (unhide HB5).size))
      clear kq0 kq1 kq2 kq3 kq4 kq5 kq6 kq7 kv0 kv1 kv2 kv3 kv4 kv5
      generalize Go.Sort.grow (redrawn W5 dq) osq = W6 at *
      go_wp2_with fail
      go_roundw
      case rel => exact ⟨k + 1, by omega, by go_num, HB6⟩
      case measure => simp [intOf]; omega
    · have hk1 : ¬ (k : Int) < (ws.length : Int) := by omega
      go_wp2_with fail
      go_ret
      exact ⟨rfl, (unhide HB2).trans ((unhide HB).mono (unhide HB2).size)⟩
theorem told_any (s : ByteArray) (hs : s.size ≤ 262144) (m : Int) (w : World) (hE : Env m w) : Calls Tryz.prog 6 #[.string s] w fun e w' => e = .returned (.bool true) ∧ Below w.heap.size w w' := by
  cases ho : (wordsV s).ok
  · exact told_no s hs ho m w hE
  · exact told_yes s hs ho m w hE
set_option maxRecDepth 100000 in
set_option maxHeartbeats 4000000 in
theorem law_scanwords (src : ByteArray) (hsrc : src.size ≤ maxLen) (z : Int) (m : Int) (w : World) (hE : Env m w) : Calls Tryz.prog 3 #[.string src, .int .i64 z] w fun e w' => e = .returned (.bool true) ∧ Below w.heap.size w w' := by
  have hfew := few_any src hsrc 3000 (by decide) w
  have hz := fewV_size src 3000
  generalize fewV src 3000 = s at *
  have hwi := within_any z 0 s.size (by omega) (by omega) (by omega)
  obtain ⟨q, hq⟩ : ∃ q : Nat, (0 : Int) + z % ((s.size : Int) - 0 + 1) = q := ⟨(0 + z % ((s.size : Int) - 0 + 1)).toNat, by have := Int.emod_nonneg z (show (s.size : Int) - 0 + 1 ≠ 0 by omega); omega⟩
  have hq2 : q ≤ s.size := by have := Int.emod_lt_of_pos z (show 0 < (s.size : Int) - 0 + 1 by omega); omega
  rw [hq] at hwi
  have hq3 : (q : Int) ≤ (s.size : Int) := by omega
  have hT1 := fun w hE => told_any s (by omega) m w hE
  have hT2 := fun w hE => told_any (s.extract 0 q) (by rw [ByteArray.size_extract]; omega) m w hE
  have H0 := hide hfew
  have H1 := hide hT1
  have H2 := hide hT2
  have H5 := hide hwi
  have HE := hide hE
  clear hfew hT1 hT2 hwi hE hq hq2 hsrc
  go_enter Tryz.func3, Tryz.ntmps3
  go_wp2_with fail
  refine (unhide H0).mono ?_
  rintro e w1 ⟨rfl, rfl⟩
  go_wp2_with fail
  refine (unhide H1 _ (unhide HE)).mono ?_
  rintro e w2 ⟨rfl, hb2⟩
  have HB2 := hide hb2
  clear hb2
  go_wp2_with fail
  refine (unhide H5 _).mono ?_
  rintro e w3 ⟨rfl, rfl⟩
  go_wp2_with fail
  refine (unhide H2 _ ((unhide HE).below (unhide HB2) (Nat.le_refl _))).mono ?_
  rintro e w4 ⟨rfl, hb4⟩
  have HB4 := hide ((unhide HB2).trans (hb4.mono (unhide HB2).size))
  clear hb4
  go_wp2_with fail
  refine (unhide H1 _ ((unhide HE).below (unhide HB4) (Nat.le_refl _))).mono ?_
  rintro e w5 ⟨rfl, hb5⟩
  have HB5 := hide ((unhide HB4).trans (hb5.mono (unhide HB4).size))
  clear hb5
  go_wp2_with fail
  refine (known_any m _ ((unhide HE).below (unhide HB5) (Nat.le_refl _))).mono ?_
  rintro e w6 ⟨rfl, hb6⟩
  have HB6 := hide ((unhide HB5).trans (hb6.mono (unhide HB5).size))
  clear hb6
  go_wp2_with fail
  go_ret
  exact ⟨rfl, unhide HB6⟩
end Go.Proofs.YtcnhkhjkeemafaaGreatDoor
