/- Texts of this claim, one behind the other. -/
import Derived.Test.YtgchlilpjkndlaaGreatDoorM28
import Derived.Test.YtgchlilpjkndlaaGreatDoorScRWdB
import Derived.Test.YtgchlilpjkndlaaGreatDoorScRWdC
import Derived.Test.YtgchlilpjkndlaaGreatDoorM26
import Derived.Deep.AppendLies
/- The reference's word, part D. -/
namespace Go.Proofs.YtgchlilpjkndlaaGreatDoor
open Go.RowKit Go.Shelf
set_option linter.unusedVariables false
theorem sgn_dot (t : ByteArray) (h : bt t 0 = 46) : sgnV t = if dotsB t = true then (9, 2, true) else (0, 1, false) := by
  unfold sgnV
  rw [h, if_neg (by decide), if_neg (by decide), if_neg (by decide), if_neg (by decide), if_neg (by decide), if_pos rfl]
theorem dots_yes (t : ByteArray) (h : 2 ≤ t.size) (h0 : bt t 0 = 46) (h1 : bt t 1 = 46) : dotsB t = true := by
  have e : t.data.toList = t.get! 0 :: t.get! 1 :: t.data.toList.drop 2 := by
    have a := drop_bt t 0 (by omega)
    have b := drop_bt t 1 (by omega)
    rw [List.drop_zero] at a
    exact a.trans (congrArg (List.cons _) b)
  have g0 : t.get! 0 = 46 := by rw [← UInt8.toNat_inj]; exact h0
  have g1 : t.get! 1 = 46 := by rw [← UInt8.toNat_inj]; exact h1
  unfold dotsB
  rw [e, g0, g1]
  rfl
theorem dots_no (t : ByteArray) (h : ¬ (2 ≤ t.size ∧ bt t 1 = 46)) : dotsB t = false := by
  cases q : dotsB t with
  | false => rfl
  | true =>
    have h2 := dotsB_iff t q
    have e : t.data.toList = t.get! 0 :: t.get! 1 :: t.data.toList.drop 2 := by
      have a := drop_bt t 0 (by omega)
      have b := drop_bt t 1 (by omega)
      rw [List.drop_zero] at a
      exact a.trans (congrArg (List.cons _) b)
    have hp : [46, 46] <+: t.data.toList := List.isPrefixOf_iff_prefix.1 q
    rw [e] at hp
    obtain ⟨r, hr⟩ := hp
    have : t.get! 1 = 46 := by
      have := congrArg (fun l => l[1]?) hr
      simpa using this.symm
    exact absurd ⟨h2, by unfold bt; rw [this]; rfl⟩ h
set_option maxRecDepth 100000 in
set_option maxHeartbeats 8000000 in
theorem word_dot (s : ByteArray) (hs : s.size ≤ 1099511627776) (a : Nat) (ha : a < s.size) (hc : bt s a = 46) (w : World) : Calls Tryz.prog 94 #[.string s, .int .i64 a] w fun e w' => ∃ V, e = .returned (.tuple #[V, .int .i64 ((a + (wordV (rst s a)).n : Nat) : Int), .bool (wordV (rst s a)).ok]) ∧ ((wordV (rst s a)).ok = true → V = wordA (wordV (rst s a)) a) ∧ IsW V ∧ Below w.heap.size w w' := by
  have hb0 : bt (rst s a) 0 = bt s a := rst_at s a 0 (by omega)
  have hb1 : bt (rst s a) 1 = bt s (a + 1) := rst_at s a 1 (by omega)
  have hz := rst_size s a
  have hv : wordV (rst s a) = if dotsB (rst s a) = true then ⟨9, ByteArray.empty, 0, 0, 2, true⟩ else ⟨0, ByteArray.empty, 0, 0, 1, false⟩ := by
    unfold wordV
    rw [hb0, hc, if_neg (by decide), if_neg (by decide), if_neg (by decide), if_neg (by decide), sgn_dot _ (by rw [hb0]; exact hc)]
    by_cases q : dotsB (rst s a) = true
    · rw [if_pos q, if_pos q]
    · rw [if_neg q, if_neg q]
  have hgb := bt_get s a ha
  rw [hc] at hgb
  have hl : (a : Int) < (s.size : Int) := by omega
  have hgb' : (s[a]'ha).toNat = 46 := hgb.symm
  by_cases hl1 : a + 1 < s.size
  · have hl1' : (a : Int) + 1 < (s.size : Int) := by omega
    have hg1 := bt_get s (a + 1) hl1
    obtain ⟨d, ed⟩ : ∃ d, (s[a + 1]'hl1).toNat = d := ⟨_, rfl⟩
    rw [ed] at hg1
    by_cases hd : d = 46
    · subst hd
      rw [dots_yes _ (by omega) (by rw [hb0]; exact hc) (by rw [hb1]; exact hg1), if_pos rfl] at hv
      rw [hv]
      have hei : (a : Int) + 1 + 1 - 1 = (a : Int) + 1 := by omega
      clear hv hb0 hb1 hc hgb hg1 hz
      go_enter Tryz.func94, Tryz.ntmps94
      go_wp2_with fail
      have hst0 := wdC_new w a
      generalize (w.alloc (.cells (wz (.int .i64 0)) 140)).alloc (.cells (wz (.int .i64 a)) 140) = W0 at *
      have HST := hide hst0
      clear hst0
      refine (small_int 46 46 rfl (by decide) false (by decide) _).mono ?_
      rintro e w1 ⟨rfl, rfl⟩
      go_wp2_with fail
      refine (digit_int 46 46 rfl (by decide) false (by decide) _).mono ?_
      rintro e w1 ⟨rfl, rfl⟩
      have hcu := (unhide HST).cur
      have k0 := hcu.cell 0
      have f0 := hcu.frozen 0
      clear hcu
      go_wp2_with fail
      refine (close_int 46 46 rfl (by decide) false (by decide) _).mono ?_
      rintro e w1 ⟨rfl, rfl⟩
      have h2 := ((unhide HST).set 0 (.int .i64 9))
      have r0 := h2.res.cell 0
      have r1 := h2.res.cell 1
      have r2 := h2.res.cell 2
      have r3 := h2.res.cell 3
      have r4 := h2.res.cell 4
      have r5 := h2.res.cell 5
      have rf0 := h2.res.frozen 0
      have rf1 := h2.res.frozen 1
      have rf2 := h2.res.frozen 2
      have rf3 := h2.res.frozen 3
      have rf4 := h2.res.frozen 4
      have rf5 := h2.res.frozen 5
      have c5 := h2.cur.cell 5
      have cf5 := h2.cur.frozen 5
      have h3 := h2.set 5 (.int .i64 ((a : Int) + 1 + 1))
      have g0 := h3.cur.cell 0
      have g1 := h3.cur.cell 1
      have g2 := h3.cur.cell 2
      have g3 := h3.cur.cell 3
      have g4 := h3.cur.cell 4
      have g5 := h3.cur.cell 5
      have hfin := h3.fin (.int .i64 9) (.string (⟨#[]⟩ : ByteArray)) (.int .i32 0) (.int .i64 0) (.int .i64 a) (.int .i64 ((a : Int) + 1 + 1))
      have HFIN := hide hfin
      clear hfin h2 h3
      go_wp2_with fail
      have hfin := unhide HFIN
      have e0 := hfin.1.cell 0
      have e1 := hfin.1.cell 1
      have e2 := hfin.1.cell 2
      have e3 := hfin.1.cell 3
      have e4 := hfin.1.cell 4
      have e5 := hfin.1.cell 5
      have HB := hide hfin.2
      exact bodyPost_ret (v := .tuple #[wordA ⟨9, ByteArray.empty, 0, 0, 2, true⟩ a, .int .i64 ((a : Int) + 1 + 1), .bool true]) (by simp [results, Tryz.results94, go_sem, e0, e1, e2, e3, e4, e5]; first | rfl | exact ⟨rfl, by omega⟩) rfl ⟨_, rfl, by first | exact fun _ => rfl | rfl, ⟨_, _, _, _, _, _, rfl⟩, unhide HB⟩
    · rw [dots_no _ (by rw [hb1, hg1]; exact fun q => hd q.2), if_neg (by decide)] at hv
      rw [hv]
      have hd' : ((d : Int) == 46) = false := by simp; omega
      clear hv hb0 hb1 hc hgb hg1 hz hd
      go_enter Tryz.func94, Tryz.ntmps94
      go_wp2_with fail
      have hst0 := wdC_new w a
      generalize (w.alloc (.cells (wz (.int .i64 0)) 140)).alloc (.cells (wz (.int .i64 a)) 140) = W0 at *
      have HST := hide hst0
      clear hst0
      refine (small_int 46 46 rfl (by decide) false (by decide) _).mono ?_
      rintro e w1 ⟨rfl, rfl⟩
      go_wp2_with fail
      refine (digit_int 46 46 rfl (by decide) false (by decide) _).mono ?_
      rintro e w1 ⟨rfl, rfl⟩
      have hcu := (unhide HST).cur
      have k0 := hcu.cell 0
      have f0 := hcu.frozen 0
      clear hcu
      have h2 := ((unhide HST).set 0 (.int .i64 9))
      have r0 := (unhide HST).res.cell 0
      have r1 := (unhide HST).res.cell 1
      have r2 := (unhide HST).res.cell 2
      have r3 := (unhide HST).res.cell 3
      have r4 := (unhide HST).res.cell 4
      have r5 := (unhide HST).res.cell 5
      have rf0 := (unhide HST).res.frozen 0
      have rf1 := (unhide HST).res.frozen 1
      have rf2 := (unhide HST).res.frozen 2
      have rf3 := (unhide HST).res.frozen 3
      have rf4 := (unhide HST).res.frozen 4
      have rf5 := (unhide HST).res.frozen 5
      have hfin := h2.fin (.int .i64 0) (.string ⟨#[]⟩) (.int .i32 0) (.int .i64 0) (.int .i64 0) (.int .i64 0)
      have HFIN := hide hfin
      clear hfin h2
      go_wp2_with fail
      have hfin := unhide HFIN
      have e0 := hfin.1.cell 0
      have e1 := hfin.1.cell 1
      have e2 := hfin.1.cell 2
      have e3 := hfin.1.cell 3
      have e4 := hfin.1.cell 4
      have e5 := hfin.1.cell 5
      have HB := hide hfin.2
      exact bodyPost_ret (v := .tuple #[.agg (wz (.int .i64 0)), .int .i64 ((a : Int) + (1 : Int)), .bool false]) (by simp [results, Tryz.results94, go_sem, e0, e1, e2, e3, e4, e5]) rfl ⟨_, rfl, (fun q => by cases q), ⟨_, _, _, _, _, _, rfl⟩, unhide HB⟩
  · have hl1' : ¬ (a : Int) + 1 < (s.size : Int) := by omega
    rw [dots_no _ (by omega), if_neg (by decide)] at hv
    rw [hv]
    have hsz : (s.size : Int) = (a : Int) + 1 := by omega
    clear hv hb0 hb1 hc hgb hz hl1' hl1
    go_enter Tryz.func94, Tryz.ntmps94
    go_wp2_with fail
    have hst0 := wdC_new w a
    generalize (w.alloc (.cells (wz (.int .i64 0)) 140)).alloc (.cells (wz (.int .i64 a)) 140) = W0 at *
    have HST := hide hst0
    clear hst0
    refine (small_int 46 46 rfl (by decide) false (by decide) _).mono ?_
    rintro e w1 ⟨rfl, rfl⟩
    go_wp2_with fail
    refine (digit_int 46 46 rfl (by decide) false (by decide) _).mono ?_
    rintro e w1 ⟨rfl, rfl⟩
    have hcu := (unhide HST).cur
    have k0 := hcu.cell 0
    have f0 := hcu.frozen 0
    clear hcu
    have h2 := ((unhide HST).set 0 (.int .i64 9))
    have r0 := (unhide HST).res.cell 0
    have r1 := (unhide HST).res.cell 1
    have r2 := (unhide HST).res.cell 2
    have r3 := (unhide HST).res.cell 3
    have r4 := (unhide HST).res.cell 4
    have r5 := (unhide HST).res.cell 5
    have rf0 := (unhide HST).res.frozen 0
    have rf1 := (unhide HST).res.frozen 1
    have rf2 := (unhide HST).res.frozen 2
    have rf3 := (unhide HST).res.frozen 3
    have rf4 := (unhide HST).res.frozen 4
    have rf5 := (unhide HST).res.frozen 5
    have hfin := h2.fin (.int .i64 0) (.string ⟨#[]⟩) (.int .i32 0) (.int .i64 0) (.int .i64 0) (.int .i64 0)
    have HFIN := hide hfin
    clear hfin h2
    go_wp2_with fail
    have hfin := unhide HFIN
    have e0 := hfin.1.cell 0
    have e1 := hfin.1.cell 1
    have e2 := hfin.1.cell 2
    have e3 := hfin.1.cell 3
    have e4 := hfin.1.cell 4
    have e5 := hfin.1.cell 5
    have HB := hide hfin.2
    exact bodyPost_ret (v := .tuple #[.agg (wz (.int .i64 0)), .int .i64 ((a : Int) + (1 : Int)), .bool false]) (by simp [results, Tryz.results94, go_sem, e0, e1, e2, e3, e4, e5]) rfl ⟨_, rfl, (fun q => by cases q), ⟨_, _, _, _, _, _, rfl⟩, unhide HB⟩
set_option maxRecDepth 100000 in
set_option maxHeartbeats 8000000 in
theorem word_other (s : ByteArray) (hs : s.size ≤ 1099511627776) (a : Nat) (ha : a < s.size) (h1 : smallB (bt s a) = false) (h2 : digB (bt s a) = false) (hn : bt s a ≠ 85 ∧ bt s a ≠ 39 ∧ bt s a ≠ 46 ∧ bt s a ≠ 123 ∧ bt s a ≠ 125 ∧ bt s a ≠ 59 ∧ bt s a ≠ 61 ∧ bt s a ≠ 43) (w : World) : Calls Tryz.prog 94 #[.string s, .int .i64 a] w fun e w' => ∃ V, e = .returned (.tuple #[V, .int .i64 ((a + (wordV (rst s a)).n : Nat) : Int), .bool (wordV (rst s a)).ok]) ∧ ((wordV (rst s a)).ok = true → V = wordA (wordV (rst s a)) a) ∧ IsW V ∧ Below w.heap.size w w' := by
  have hb0 : bt (rst s a) 0 = bt s a := rst_at s a 0 (by omega)
  have hv : wordV (rst s a) = ⟨0, ByteArray.empty, 0, 0, 0, false⟩ := by
    unfold wordV sgnV
    rw [hb0, if_neg (by rw [h1]; decide), if_neg (by rw [h2]; decide), if_neg hn.1, if_neg hn.2.1, if_neg hn.2.2.2.1, if_neg hn.2.2.2.2.1, if_neg hn.2.2.2.2.2.1, if_neg hn.2.2.2.2.2.2.1, if_neg hn.2.2.2.2.2.2.2, if_neg hn.2.2.1]
  rw [hv]
  have hcl := bt_lt s a
  have hgb := bt_get s a ha
  obtain ⟨c, ec⟩ : ∃ c, (s[a]'ha).toNat = c := ⟨_, rfl⟩
  rw [ec] at hgb
  rw [hgb] at h1 h2 hn hcl
  have hl : (a : Int) < (s.size : Int) := by omega
  obtain ⟨n1, n2, n3, n4, n5, n6, n7, n8⟩ := hn
  have d1 : ((c : Int) == 85) = false := by simp; omega
  have d2 : ((c : Int) == 39) = false := by simp; omega
  have d3 : ((c : Int) == 46) = false := by simp; omega
  have d4 : ((123 : Int) == (c : Int)) = false := by simp; omega
  have d5 : ((125 : Int) == (c : Int)) = false := by simp; omega
  have d6 : ((59 : Int) == (c : Int)) = false := by simp; omega
  have d7 : ((61 : Int) == (c : Int)) = false := by simp; omega
  have d8 : ((43 : Int) == (c : Int)) = false := by simp; omega
  have s0 : ((⟨#[123, 125, 59, 61, 43]⟩ : ByteArray)[0]'(by decide)).toNat = 123 := rfl
  have s1 : ((⟨#[123, 125, 59, 61, 43]⟩ : ByteArray)[1]'(by decide)).toNat = 125 := rfl
  have s2 : ((⟨#[123, 125, 59, 61, 43]⟩ : ByteArray)[2]'(by decide)).toNat = 59 := rfl
  have s3 : ((⟨#[123, 125, 59, 61, 43]⟩ : ByteArray)[3]'(by decide)).toNat = 61 := rfl
  have s4 : ((⟨#[123, 125, 59, 61, 43]⟩ : ByteArray)[4]'(by decide)).toNat = 43 := rfl
  have HS := hide (small_ref c hcl)
  have HD := hide (digit_ref c hcl)
  rw [h1] at HS
  rw [h2] at HD
  clear hv hb0 hgb h1 h2 n1 n2 n3 n4 n5 n6 n7 n8
  go_enter Tryz.func94, Tryz.ntmps94
  go_wp2_with fail
  have hst0 := wdC_new w a
  generalize (w.alloc (.cells (wz (.int .i64 0)) 140)).alloc (.cells (wz (.int .i64 a)) 140) = W0 at *
  have HST := hide hst0
  clear hst0
  refine (unhide HS _).mono ?_
  rintro e w1 ⟨rfl, rfl⟩
  go_wp2_with fail
  refine (unhide HD _).mono ?_
  rintro e w1 ⟨rfl, rfl⟩
  have h2 := (unhide HST)
  have r0 := h2.res.cell 0
  have r1 := h2.res.cell 1
  have r2 := h2.res.cell 2
  have r3 := h2.res.cell 3
  have r4 := h2.res.cell 4
  have r5 := h2.res.cell 5
  have rf0 := h2.res.frozen 0
  have rf1 := h2.res.frozen 1
  have rf2 := h2.res.frozen 2
  have rf3 := h2.res.frozen 3
  have rf4 := h2.res.frozen 4
  have rf5 := h2.res.frozen 5
  have g0 := h2.cur.cell 0
  have g1 := h2.cur.cell 1
  have g2 := h2.cur.cell 2
  have g3 := h2.cur.cell 3
  have g4 := h2.cur.cell 4
  have g5 := h2.cur.cell 5
  have hfin := h2.fin (.int .i64 0) (.string ⟨#[]⟩) (.int .i32 0) (.int .i64 0) (.int .i64 a) (.int .i64 0)
  have HFIN := hide hfin
  clear hfin h2
  go_wp2_with fail
  refine wp_loop_rounds 6 ?_
  iterate 6
    rw [rounds_succ]
    go_wp2_with fail
  have hfin := unhide HFIN
  have e0 := hfin.1.cell 0
  have e1 := hfin.1.cell 1
  have e2 := hfin.1.cell 2
  have e3 := hfin.1.cell 3
  have e4 := hfin.1.cell 4
  have e5 := hfin.1.cell 5
  have HB := hide hfin.2
  exact bodyPost_ret (v := .tuple #[.agg (wz (.int .i64 a)), .int .i64 (a : Int), .bool false]) (by simp [results, Tryz.results94, go_sem, e0, e1, e2, e3, e4, e5]) rfl ⟨_, rfl, (fun q => by cases q), ⟨_, _, _, _, _, _, rfl⟩, unhide HB⟩
theorem word_any (s : ByteArray) (hs : s.size ≤ 1099511627776) (a : Nat) (ha : a < s.size) (w : World) : Calls Tryz.prog 94 #[.string s, .int .i64 a] w fun e w' => ∃ V, e = .returned (.tuple #[V, .int .i64 ((a + (wordV (rst s a)).n : Nat) : Int), .bool (wordV (rst s a)).ok]) ∧ ((wordV (rst s a)).ok = true → V = wordA (wordV (rst s a)) a) ∧ IsW V ∧ Below w.heap.size w w' := by
  cases h1 : smallB (bt s a)
  · cases h2 : digB (bt s a)
    · by_cases q1 : bt s a = 85
      · exact word_u s hs a ha q1 w
      by_cases q2 : bt s a = 39
      · exact word_quo s hs a ha q2 w
      by_cases q3 : bt s a = 46
      · exact word_dot s hs a ha q3 w
      by_cases q4 : bt s a = 123
      · exact word_open s hs a ha q4 w
      by_cases q5 : bt s a = 125
      · exact word_shut s hs a ha q5 w
      by_cases q6 : bt s a = 59
      · exact word_semi s hs a ha q6 w
      by_cases q7 : bt s a = 61
      · exact word_asg s hs a ha q7 w
      by_cases q8 : bt s a = 43
      · exact word_plus s hs a ha q8 w
      exact word_other s hs a ha h1 h2 ⟨q1, q2, q3, q4, q5, q6, q7, q8⟩ w
    · exact word_num s hs a ha h2 w
  · exact word_name s hs a ha h1 w
def rdCells (x : Wd) : List Value := [.int .i64 x.v.kind, .string x.v.S, .int .i32 x.v.R, .int .i64 x.v.N, .int .i64 x.b, .int .i64 x.e]
def encR (ws : List Wd) : List Value := ws.flatMap rdCells
theorem encR_snoc (ws : List Wd) (x : Wd) : encR (ws ++ [x]) = encR ws ++ rdCells x := by simp [encR]
theorem infoRW : (Tryz.prog.info? 140).map (fun i => (i.zero, i.size, i.bytes)) = some (some (.agg #[.int .i64 0, .string ⟨#[]⟩, .int .i32 0, .int .i64 0, .int .i64 0, .int .i64 0]), 6, 56) := by kernel_rfl
theorem new_cells6 (W : World) (c0 c1 c2 c3 c4 c5 : Value) (t : TypeId) : ∀ j u, [c0, c1, c2, c3, c4, c5][j]? = some u → (W.alloc (.cells #[c0, c1, c2, c3, c4, c5] t)).cell? ((⟨W.heap.size, 0, none⟩ : Addr).add j) = some u := by
  intro j u hj
  have := (Blk.new W #[c0, c1, c2, c3, c4, c5] t).cell j
  rw [show (⟨W.heap.size, 0, none⟩ : Addr).add j = ⟨W.heap.size, j, none⟩ by unfold Addr.add; split <;> simp_all, this, ← hj]
  simp
theorem own_belowW {W W' : World} {base e size n : Nat} {v : Value} {xs : List Value} (h : W.ownsRow base e size v n xs) (hb : Below W.heap.size W W') : W'.ownsRow base e size v n xs :=
  h.kept (row := none) ⟨hb.os, hb.tape, hb.output, hb.size, fun j hj _ => hb.block j hj⟩ (by cases v.ownBlock <;> simp)
structure RwSt (s : ByteArray) (f b : Nat) (x : Nat × Nat) (ws : List Wd) : Prop where
  eq : wordsV s = cutGo s f b x ws
  fu : s.size < b + f
  le : b ≤ s.size
  len : ws.length ≤ b
theorem gapA_gB (s : ByteArray) (b : Nat) : gapA s b = (gB s b, (gapV (rst s b)).2) := rfl
theorem RwSt.bad {s : ByteArray} {f b : Nat} {x : Nat × Nat} {ws : List Wd} (h : RwSt s f b x ws) (hg : (gapV (rst s b)).2 = false) : (wordsV s).ok = false ∧ (wordsV s).b = gB s b := by
  obtain ⟨g, rfl⟩ : ∃ g, f = g + 1 := ⟨f - 1, by have := h.fu; have := h.le; omega⟩
  have e := h.eq
  unfold cutGo at e
  rw [if_pos hg] at e
  rw [e]
  exact ⟨rfl, rfl⟩
theorem RwSt.done {s : ByteArray} {f b : Nat} {x : Nat × Nat} {ws : List Wd} (h : RwSt s f b x ws) (hg : (gapV (rst s b)).2 = true) (he : gB s b = s.size) : (wordsV s).ok = true ∧ (wordsV s).ws = ws := by
  obtain ⟨g, rfl⟩ : ∃ g, f = g + 1 := ⟨f - 1, by have := h.fu; have := h.le; omega⟩
  have e := h.eq
  unfold cutGo at e
  rw [if_neg (by rw [hg]; decide), if_pos (by rw [rst_size]; omega)] at e
  rw [e]
  exact ⟨rfl, rfl⟩
theorem RwSt.no {s : ByteArray} {f b : Nat} {x : Nat × Nat} {ws : List Wd} (h : RwSt s f b x ws) (hg : (gapV (rst s b)).2 = true) (he : gB s b ≠ s.size) (ho : (wordV (rst s (gB s b))).ok = false) : (wordsV s).ok = false ∧ (wordsV s).b = gB s b + (wordV (rst s (gB s b))).n := by
  obtain ⟨g, rfl⟩ : ∃ g, f = g + 1 := ⟨f - 1, by have := h.fu; have := h.le; omega⟩
  have hb := gB_le s b h.le
  have e := h.eq
  unfold cutGo at e
  rw [if_neg (by rw [hg]; decide), if_neg (by rw [rst_size]; omega), if_pos ho] at e
  rw [e]
  exact ⟨rfl, rfl⟩
theorem RwSt.yes {s : ByteArray} {f b : Nat} {x : Nat × Nat} {ws : List Wd} (h : RwSt s f b x ws) (hg : (gapV (rst s b)).2 = true) (he : gB s b ≠ s.size) (ho : (wordV (rst s (gB s b))).ok = true) :
    ∃ f' x' y, RwSt s f' (gB s b + (wordV (rst s (gB s b))).n) x' (ws ++ [y]) ∧ rdCells y = [.int .i64 (wordV (rst s (gB s b))).kind, .string (wordV (rst s (gB s b))).S, .int .i32 (wordV (rst s (gB s b))).R, .int .i64 (wordV (rst s (gB s b))).N, .int .i64 (gB s b), .int .i64 ((gB s b + (wordV (rst s (gB s b))).n : Nat) : Int)] ∧ 1 ≤ (wordV (rst s (gB s b))).n := by
  obtain ⟨g, rfl⟩ : ∃ g, f = g + 1 := ⟨f - 1, by have := h.fu; have := h.le; omega⟩
  have hb := gB_le s b h.le
  have e := h.eq
  unfold cutGo at e
  rw [if_neg (by rw [hg]; decide), if_neg (by rw [rst_size]; omega), if_neg (by rw [ho]; decide)] at e
  have hp : 0 < (rst s (gB s b)).size := by rw [rst_size]; omega
  have hle := wordV_le (rst s (gB s b)) hp
  rw [rst_size] at hle
  have h1 := hle.2 ho
  have h2 := h.fu
  have h3 := h.len
  exact ⟨g, _, _, ⟨e, by omega, by omega, by rw [List.length_append, List.length_singleton]; omega⟩, rfl, h1⟩
theorem rw_step {w w1 w2 : World} {v v' : Value} {ws : List Wd} {y : Wd} {c0 c1 c2 c3 c4 c5 : Value} (hrc : rdCells y = [c0, c1, c2, c3, c4, c5])
    (hown : w1.ownsRow w.heap.size 140 6 v ws.length (encR ws)) (hB : Below w.heap.size w w1)
    (hown' : w2.ownsRow w.heap.size 140 6 v' (ws.length + 1) (encR ws ++ [c0, c1, c2, c3, c4, c5]))
    (hgrow : ((w1.alloc (.cells #[c0, c1, c2, c3, c4, c5] 140)).alloc (.cells #[c0, c1, c2, c3, c4, c5] 140)).grownBy w2 v.ownBlock) :
    w2.ownsRow w.heap.size 140 6 v' (ws ++ [y]).length (encR (ws ++ [y])) ∧ Below w.heap.size w w2 := by
  have hl := own_lt hown
  refine ⟨?_, ?_⟩
  · rw [encR_snoc, List.length_append, hrc]; exact hown'
  · exact ((hB.alloc hB.size _).alloc (by have := hB.size; simp; omega) _).grown hgrow (by have := hB.size; simp; omega) (fun k hk => (hl k hk).1)
def rwsPost (s : ByteArray) (w : World) (e : Ending) (w' : World) : Prop :=
  ((wordsV s).ok = true → ∃ v, e = .returned (.tuple #[v, .int .i64 (-1), .int .i64 0]) ∧ w'.ownsRow w.heap.size 140 6 v (wordsV s).ws.length (encR (wordsV s).ws)) ∧
  ((wordsV s).ok = false → e = .returned (.tuple #[.slice none 0 0, .int .i64 (wordsV s).b, .int .i64 (if (wordsV s).b < s.size then 20 else 21)])) ∧ Below w.heap.size w w'
theorem rwsPost_no {s : ByteArray} {w w' : World} {n : Nat} (h : (wordsV s).ok = false ∧ (wordsV s).b = n) (c : Int) (hc : c = if n < s.size then 20 else 21) (hb : Below w.heap.size w w') : rwsPost s w (.returned (.tuple #[.slice none 0 0, .int .i64 n, .int .i64 c])) w' :=
  ⟨(fun q => by rw [h.1] at q; cases q), (fun _ => by rw [h.2, hc]), hb⟩
set_option maxRecDepth 100000 in
set_option maxHeartbeats 8000000 in
theorem refWords_any (s : ByteArray) (hs : s.size ≤ 262144) (w : World) : Calls Tryz.prog 62 #[.string s] w fun e w' => rwsPost s w e w' := by
  obtain ⟨i0, hi, hz0, hz1, hz2⟩ := info_parts infoRW
  have HI := hide hi
  have HZ0 := hide hz0
  have HZ1 := hide hz1
  have HZ2 := hide hz2
  clear hi hz0 hz1 hz2
  have hl : ¬ (262144 : Int) < (s.size : Int) := by omega
  have HS1 := hide (show s.size ≤ 1099511627776 by omega)
  go_enter Tryz.func62, Tryz.ntmps62
  go_wp2_with fail
  go_loopw [5, 6, 7, 8, 9, 10, 11] (fun v i _ _ _ _ _ wr => ∃ (f b : Nat) (x : Nat × Nat) (ws : List Wd), Hz (RwSt s f b x ws) ∧ b ≤ s.size ∧ i = .int .i64 b ∧ Hz (wr.ownsRow w.heap.size 140 6 v ws.length (encR ws)) ∧ Hz (Below w.heap.size w wr))
    (fun _ i _ _ _ _ _ _ => s.size - (intOf i).toNat)
  case atStart => exact ⟨s.size + 1, 0, (1, 1), [], hide ⟨rfl, by omega, by omega, by simp⟩, by omega, rfl, hide (World.ownsRow_nil _ _ _ _), hide (Below.refl _ _)⟩
  case round =>
    obtain ⟨f, b, x, ws, HR, hb, rfl, HOWN, HB⟩ := hrel
    have hgb := gB_le s b hb
    have hbl := blank_any s (unhide HS1) b hb
    rw [gapA_gB] at hbl
    have hno := fun h => (unhide HR).bad h
    have hdo := fun h1 h2 => (unhide HR).done h1 h2
    have hwn := fun h1 h2 h3 => (unhide HR).no h1 h2 h3
    have hwy := fun h1 h2 h3 => (unhide HR).yes h1 h2 h3
    have hwd := fun (h : gB s b < s.size) => word_any s (unhide HS1) (gB s b) h
    have hwle := fun (h : gB s b < s.size) => wordV_le (rst s (gB s b)) (by rw [rst_size]; omega)
    rw [rst_size] at hwle
    have hlen : ws.length ≤ 262144 := by have := (unhide HR).len; omega
    generalize (gapV (rst s b)).2 = o at *
    generalize gB s b = g at *
    generalize wordV (rst s g) = V at *
    cases o
    · have HNO := hide (hno rfl)
      have HBL := hide hbl
      clear hno hdo hwn hwy hwd hwle hbl
      by_cases he : g = s.size
      · have he' : ((g : Int) == (s.size : Int)) = true := by simp; omega
        have HC := hide (show (21 : Int) = if g < s.size then 20 else 21 by rw [if_neg (by omega)])
        clear he
        go_wp2_with fail
        refine (unhide HBL _).mono ?_
        rintro e w1 ⟨rfl, rfl⟩
        go_wp2_with fail
        exact bodyPost_ret (v := .tuple #[.slice none 0 0, .int .i64 g, .int .i64 21]) (by simp [results, Tryz.results62, go_sem]) rfl (rwsPost_no (unhide HNO) 21 (unhide HC) (unhide HB))
      · have he' : ((g : Int) == (s.size : Int)) = false := by simp; omega
        have HC := hide (show (20 : Int) = if g < s.size then 20 else 21 by rw [if_pos (by omega)])
        clear he
        go_wp2_with fail
        refine (unhide HBL _).mono ?_
        rintro e w1 ⟨rfl, rfl⟩
        go_wp2_with fail
        exact bodyPost_ret (v := .tuple #[.slice none 0 0, .int .i64 g, .int .i64 20]) (by simp [results, Tryz.results62, go_sem]) rfl (rwsPost_no (unhide HNO) 20 (unhide HC) (unhide HB))
    · have HBL := hide hbl
      clear hno hbl
      by_cases he : g = s.size
      · have he' : ((g : Int) == (s.size : Int)) = true := by simp; omega
        have HDO := hide (hdo rfl he)
        clear he hdo hwn hwy hwd hwle
        go_wp2_with fail
        refine (unhide HBL _).mono ?_
        rintro e w1 ⟨rfl, rfl⟩
        go_wp2_with fail
        exact bodyPost_ret (v := .tuple #[u5, .int .i64 (-1), .int .i64 0]) (by simp [results, Tryz.results62, go_sem]) rfl ⟨fun _ => ⟨_, rfl, by rw [(unhide HDO).2]; exact unhide HOWN⟩, (fun q => by rw [(unhide HDO).1] at q; cases q), unhide HB⟩
      · have he' : ((g : Int) == (s.size : Int)) = false := by simp; omega
        have hlt : g < s.size := by omega
        have hle := hwle hlt
        have hwc := hwd hlt
        have hn := hwn rfl he
        have hy := hwy rfl he
        clear hdo hwn hwy hwd hwle he
        obtain ⟨K, S, R, N, n, o⟩ := V
        have hle1 : g + n ≤ s.size := by have : n ≤ s.size - g := hle.1; omega
        obtain ⟨q, hq⟩ : ∃ q, q = g + n := ⟨_, rfl⟩
        have HWC : Hz (∀ w, Calls Tryz.prog 94 #[.string s, .int .i64 g] w fun e w' => ∃ X, e = .returned (.tuple #[X, .int .i64 (q : Int), .bool o]) ∧ (o = true → X = .agg #[.int .i64 K, .string S, .int .i32 R, .int .i64 N, .int .i64 g, .int .i64 (q : Int)]) ∧ IsW X ∧ Below w.heap.size w w') := hide (by intro w; rw [hq]; exact hwc w)
        have hn' : o = false → (wordsV s).ok = false ∧ (wordsV s).b = q := by rw [hq]; exact hn
        have hy' : o = true → ∃ f' x' y, RwSt s f' q x' (ws ++ [y]) ∧ rdCells y = [.int .i64 K, .string S, .int .i32 R, .int .i64 N, .int .i64 g, .int .i64 (q : Int)] ∧ b < q := by
          intro h
          obtain ⟨f', x', y, h1, h2, h3⟩ := hy h
          refine ⟨f', x', y, by rw [hq]; exact h1, by rw [hq]; exact h2, ?_⟩
          have : 1 ≤ n := h3
          omega
        rw [← hq] at hle1
        clear hwc hn hy hle hq
        cases o
        · have HNO := hide (hn' rfl)
          clear hn' hy'
          by_cases he2 : q = s.size
          · have he3 : ((q : Int) == (s.size : Int)) = true := by simp; omega
            have HC := hide (show (21 : Int) = if q < s.size then 20 else 21 by rw [if_neg (by omega)])
            clear he2
            go_wp2_with fail
            refine (unhide HBL _).mono ?_
            rintro e w1 ⟨rfl, rfl⟩
            go_wp2_with fail
            refine (unhide HWC _).mono ?_
            rintro e w2 ⟨X, rfl, _, ⟨z0, z1, z2, z3, z4, z5, rfl⟩, hb2⟩
            have HB2 := hide ((unhide HB).trans (hb2.mono (unhide HB).size))
            clear hb2
            go_wp2_with fail
            exact bodyPost_ret (v := .tuple #[.slice none 0 0, .int .i64 (q : Int), .int .i64 21]) (by simp [results, Tryz.results62, go_sem]) rfl (rwsPost_no (unhide HNO) 21 (unhide HC) ((unhide HB2).alloc (unhide HB2).size _))
          · have he3 : ((q : Int) == (s.size : Int)) = false := by simp; omega
            have HC := hide (show (20 : Int) = if q < s.size then 20 else 21 by rw [if_pos (by omega)])
            clear he2
            go_wp2_with fail
            refine (unhide HBL _).mono ?_
            rintro e w1 ⟨rfl, rfl⟩
            go_wp2_with fail
            refine (unhide HWC _).mono ?_
            rintro e w2 ⟨X, rfl, _, ⟨z0, z1, z2, z3, z4, z5, rfl⟩, hb2⟩
            have HB2 := hide ((unhide HB).trans (hb2.mono (unhide HB).size))
            clear hb2
            go_wp2_with fail
            exact bodyPost_ret (v := .tuple #[.slice none 0 0, .int .i64 (q : Int), .int .i64 20]) (by simp [results, Tryz.results62, go_sem]) rfl (rwsPost_no (unhide HNO) 20 (unhide HC) ((unhide HB2).alloc (unhide HB2).size _))
        · obtain ⟨f', x', y, hr', hrc, hn1⟩ := hy' rfl
          have HR2 := hide hr'
          have HRC := hide hrc
          have HN1 := hide hn1
          clear hy' hn' hr' hrc hn1
          go_wp2_with fail
          refine (unhide HBL _).mono ?_
          rintro e w1 ⟨rfl, rfl⟩
          go_wp2_with fail
          refine (unhide HWC _).mono ?_
          rintro e w2 ⟨X, rfl, hX, _, hb2⟩
          obtain rfl := hX trivial
          have hB2 := (unhide HB).trans (hb2.mono (unhide HB).size)
          have hO2 := own_belowW (unhide HOWN) hb2
          have HB2 := hide hB2
          have HO2 := hide hO2
          have HLN := hide (new_cells6 (w2.alloc (.cells #[.int .i64 K, .string S, .int .i32 R, .int .i64 N, .int .i64 g, .int .i64 (q : Int)] 140)) (.int .i64 K) (.string S) (.int .i32 R) (.int .i64 N) (.int .i64 g) (.int .i64 (q : Int)) 140)
          clear hb2 hB2 hO2
          go_wp2_with (at_builtin; refine wpList_append_own _ rfl _ _ 133 rfl w.heap.size 140 i0 (.agg #[.int .i64 0, .string ⟨#[]⟩, .int .i32 0, .int .i64 0, .int .i64 0, .int .i64 0]) 6 56 Tryz.underlying133 (unhide HI) (unhide HZ0) (unhide HZ1) (unhide HZ2) rfl (by decide) _ _ _ rfl (((unhide HO2).alloc _).alloc _) ⟨w2.heap.size + 1, 0, none⟩ 1 1 [.int .i64 K, .string S, .int .i32 R, .int .i64 N, .int .i64 g, .int .i64 (q : Int)] rfl rfl ?c1 ?c2 ?c3 ?c4 ?c5 ?_)
          case c1 => have := unhide HLN; simpa using this
          case c2 => intro u hu; simp at hu; rcases hu with rfl | rfl | rfl | rfl | rfl | rfl <;> rfl
          case c3 => unfold maxLen; omega
          case c4 => omega
          case c5 => have := (unhide HB2).size; simp; omega
          intro v' w3 hown' hgrow _
          obtain ⟨hown3, hB3⟩ := rw_step (unhide HRC) (unhide HO2) (unhide HB2) hown' hgrow
          have HO3 := hide hown3
          have HB3 := hide hB3
          clear hown' hgrow HLN hown3 hB3 HO2 HB2
          go_wp2_with fail
          go_roundw
          case rel => exact ⟨f', q, x', ws ++ [y], HR2, hle1, rfl, HO3, HB3⟩
          case measure => have := unhide HN1; simp [intOf]; omega
end Go.Proofs.YtgchlilpjkndlaaGreatDoor
