/- The reference's pen (guiseref5): maps. -/
import Derived.Test.YtgchlilpjkndlaaGreatDoorM30
import Derived.Test.YtgchlilpjkndlaaGreatDoorRuB
namespace Go.Proofs.YtgchlilpjkndlaaGreatDoor
open Go.RowKit Go.Shelf
set_option linter.unusedVariables false
theorem Pe.start {W0 w : World} {P : Nat} {s : ByteArray} {b : Bool} (h : Pe W0 w P s b) : Pe w w P s b := ⟨h.blk, ⟨rfl, rfl, rfl, Nat.le_refl _, fun _ _ _ => rfl⟩⟩
theorem Pe.trans {W0 w w' : World} {P : Nat} {s s' : ByteArray} {b b' : Bool} (h : Pe W0 w P s b) (h' : Pe w w' P s' b') : Pe W0 w' P s' b' := ⟨h'.blk, grown_trans' h.f h'.f⟩
def pnR (q : ByteArray × Bool) (r : Int) : ByteArray × Bool := pn1 (pnS q ⟨#[32]⟩) r
def pnTo (q : ByteArray × Bool) (t : ByteArray) : ByteArray × Bool := if okU t = true ∧ (runesL t).length ≠ 0 then (runesL t).foldl pnR q else (q.1, true)
def pnMap (word : ByteArray) (q : ByteArray × Bool) (x : Int × ByteArray) : ByteArray × Bool := pnS (pnTo (pnS (pn1 (pnS (pnS q word) ⟨#[32]⟩) x.1) ⟨#[32, 61]⟩) x.2) ⟨#[32, 59, 10]⟩
theorem pnR_size (q : ByteArray × Bool) (r : Int) : (pnR q r).1.size ≤ q.1.size + 1001 := by
  have e1 : (⟨#[32]⟩ : ByteArray).size = 1 := rfl
  have a := pn1_size (pnS q ⟨#[32]⟩) r
  rw [pnS_size] at a
  show (pn1 (pnS q ⟨#[32]⟩) r).1.size ≤ _
  omega
theorem pnRs_size : ∀ (l : List Int) (q : ByteArray × Bool), (l.foldl pnR q).1.size ≤ q.1.size + 1001 * l.length
  | [], q => by simp
  | r :: l, q => by
    have a := pnRs_size l (pnR q r)
    have b := pnR_size q r
    rw [List.foldl_cons, List.length_cons]
    omega
theorem pnTo_size (q : ByteArray × Bool) (t : ByteArray) (hl : (runesL t).length ≤ t.size) : (pnTo q t).1.size ≤ q.1.size + 1001 * t.size := by
  unfold pnTo
  split
  · have := pnRs_size (runesL t) q
    have : 1001 * (runesL t).length ≤ 1001 * t.size := Nat.mul_le_mul_left _ hl
    omega
  · show q.1.size ≤ _
    omega
theorem pnMap_size (word : ByteArray) (q : ByteArray × Bool) (x : Int × ByteArray) (hl : (runesL x.2).length ≤ x.2.size) : (pnMap word q x).1.size ≤ q.1.size + word.size + 1006 + 1001 * x.2.size := by
  have e1 : (⟨#[32]⟩ : ByteArray).size = 1 := rfl
  have e2 : (⟨#[32, 61]⟩ : ByteArray).size = 2 := rfl
  have e3 : (⟨#[32, 59, 10]⟩ : ByteArray).size = 3 := rfl
  have a := pnTo_size (pnS (pn1 (pnS (pnS q word) ⟨#[32]⟩) x.1) ⟨#[32, 61]⟩) x.2 hl
  have b := pn1_size (pnS (pnS q word) ⟨#[32]⟩) x.1
  unfold pnMap
  rw [pnS_size]
  rw [pnS_size] at a b
  rw [pnS_size] at b
  omega
theorem runesL_le (t : ByteArray) : (runesL t).length ≤ t.size := by
  unfold runesL
  rw [List.length_map]
  exact starts_length t
theorem runesL_32 (t : ByteArray) : ∀ r ∈ runesL t, I32 r := by
  intro r hr
  unfold runesL at hr
  obtain ⟨i, _, rfl⟩ := List.mem_map.1 hr
  have := width_bound _ (rn_rune t i)
  unfold I32
  omega
set_option maxRecDepth 100000 in
set_option maxHeartbeats 8000000 in
theorem pe_maps (P : Nat) (q : ByteArray × Bool) (word : ByteArray) (a : Option Addr) (c : Nat) (l : List (Int × ByteArray)) (hn : l.length ≤ 1000000) (h32 : ∀ x ∈ l, I32 x.1 ∧ x.2.size ≤ 1048576) (hw : word.size ≤ 1000) (hq : q.1.size ≤ 2305843009213693952) (W0 w : World) (h : Pe W0 w P q.1 q.2) (hr : RowC W0 P a (encF2 l)) :
    Calls Tryz.prog 36 #[.pointer (some ⟨P, 0, none⟩), .string word, .slice a l.length c] w fun e w' => (∃ v, e = .returned v) ∧ Pe W0 w' P (l.foldl (pnMap word) q).1 (l.foldl (pnMap word) q).2 := by
  have HST : Hz (∀ k, k ≤ l.length → ((l.take k).foldl (pnMap word) q).1.size ≤ 2305843009213693952 + 1050000000 * k) := hide (by
    intro k
    induction k with
    | zero => intro _; show q.1.size ≤ _; omega
    | succ k ih =>
      intro hk
      obtain ⟨x, hx⟩ : ∃ x, l[k]? = some x := ⟨_, List.getElem?_eq_getElem (by omega)⟩
      rw [fold_take _ _ _ _ _ hx]
      have := pnMap_size word ((l.take k).foldl (pnMap word) q) x (runesL_le _)
      have := (h32 x (List.mem_of_getElem? hx)).2
      have := ih (by omega)
      omega)
  have H1 := hide h
  have HR := hide hr
  have H32 := hide h32
  clear h hr h32 hq
  go_enter Tryz.func36, Tryz.ntmps36
  go_wp2_with fail
  go_loopw [6] (fun iv wr => ∃ k : Nat, k ≤ l.length ∧ iv = .int .i64 k ∧ Hz (Pe W0 wr P ((l.take k).foldl (pnMap word) q).1 ((l.take k).foldl (pnMap word) q).2)) (fun iv _ => l.length - (intOf iv).toNat)
  case atStart => exact ⟨0, Nat.zero_le _, rfl, H1⟩
  case round =>
    obtain ⟨k, hk, rfl, HP⟩ := hrel
    clear H1
    have hz := unhide HST k hk
    by_cases hkn : k < l.length
    · obtain ⟨x, hx⟩ : ∃ x, l[k]? = some x := ⟨_, List.getElem?_eq_getElem hkn⟩
      have HF := hide (fold_take (pnMap word) q l k x hx)
      generalize (l.take k).foldl (pnMap word) q = st at *
      obtain ⟨s, b⟩ := st
      dsimp only at hz HP
      have hlen := encF2_length l
      obtain ⟨g, o, rfl, hgP, hc⟩ := unhide HR (by omega)
      have hxs := encF2_at l k x hx
      have H33 := hide (unhide H32 x (List.mem_of_getElem? hx))
      obtain ⟨fr, tx⟩ := x
      dsimp only at hxs
      have HCL : Hz (∀ w', W0.grownBy w' (some P) → w'.cell? ⟨g, o + k * 2, none⟩ = some (.int .i32 fr) ∧ w'.cell? ⟨g, o + k * 2 + 1, none⟩ = some (.string tx)) := hide (fun w' hw => ⟨hw.cell (a := ⟨g, o + k * 2, none⟩) (hc _ _ hxs.1) (by show some g ≠ some P; intro e; have := Option.some.inj e; omega), hw.cell (a := ⟨g, o + k * 2 + 1, none⟩) (by have := hc _ _ hxs.2; rw [← Nat.add_assoc] at this; exact this) (by show some g ≠ some P; intro e; have := Option.some.inj e; omega)⟩)
      have k1 : ((k : Nat) : Int) < ((l.length : Nat) : Int) := by omega
      have k2 : ((k : Nat) : Int).toNat = k := by omega
      have s1 : ¬ 9223372036854775807 < s.size + word.size := by omega
      have s2 : ¬ 9223372036854775807 < s.size + word.size + 1 := by omega
      have c0 := (unhide HP).blk.cell 0
      have f0 := (unhide HP).blk.frozen 0
      have HP2 := hide ((unhide HP).str (s ++ word ++ ⟨#[32]⟩))
      obtain ⟨d0, d1⟩ := unhide HCL _ (unhide HP2).f
      have hz2 : (s ++ word ++ ⟨#[32]⟩).size = s.size + word.size + 1 := by rw [ByteArray.size_append, ByteArray.size_append]; rfl
      have HRN := hide (pe_rune P (s ++ word ++ ⟨#[32]⟩) b fr (unhide H33).1 (by omega) W0 _ (unhide HP2))
      clear hc hxs hx HP
      go_wp2_with fail
      refine (unhide HRN).mono ?_
      rintro e w2 ⟨⟨v2, rfl⟩, hp3⟩
      obtain ⟨d2, d3⟩ := unhide HCL _ hp3.f
      have hz3 : (pn1 (pnS (pnS (s, b) word) ⟨#[32]⟩) fr).1.size ≤ s.size + word.size + 1 + 1000 := by
        have := pn1_size (pnS (pnS (s, b) word) ⟨#[32]⟩) fr
        rw [pnS_size, pnS_size] at this
        exact this
      have HP3 : Hz (Pe W0 w2 P (pn1 (pnS (pnS (s, b) word) ⟨#[32]⟩) fr).1 (pn1 (pnS (pnS (s, b) word) ⟨#[32]⟩) fr).2) := hide hp3
      have HV : Hz (pnMap word (s, b) (fr, tx) = pnS (pnTo (pnS (pn1 (pnS (pnS (s, b) word) ⟨#[32]⟩) fr) ⟨#[32, 61]⟩) tx) ⟨#[32, 59, 10]⟩) := hide rfl
      generalize pn1 (pnS (pnS (s, b) word) ⟨#[32]⟩) fr = st2 at *
      obtain ⟨s2, b2⟩ := st2
      dsimp only at hz3 HP3
      clear hp3 HRN HP2 c0 f0 d0 d1 s1 hz2
      have s3 : ¬ 9223372036854775807 < s2.size + 2 := by omega
      have c0 := (unhide HP3).blk.cell 0
      have f0 := (unhide HP3).blk.frozen 0
      have HP4 : Hz (Pe W0 (w2.setCell ⟨P, 0, none⟩ (.string (s2 ++ ⟨#[32, 61]⟩))) P (pnS (s2, b2) ⟨#[32, 61]⟩).1 (pnS (s2, b2) ⟨#[32, 61]⟩).2) := hide ((unhide HP3).str (s2 ++ ⟨#[32, 61]⟩))
      obtain ⟨d4, d5⟩ := unhide HCL _ (unhide HP4).f
      have hz4 : (pnS (s2, b2) ⟨#[32, 61]⟩).1.size = s2.size + 2 := pnS_size _ _
      have HRU := hide (runes6_any tx (unhide H33).2 (w2.setCell ⟨P, 0, none⟩ (.string (s2 ++ ⟨#[32, 61]⟩))))
      generalize pnS (s2, b2) ⟨#[32, 61]⟩ = st4 at *
      go_wp2_with fail
      refine (unhide HRU).mono ?_
      rintro e w5 ⟨hok, hno, hb5⟩
      have HP5 := hide ((unhide HP4).call hb5)
      have hlt5 := (unhide HP4).blk.lt
      clear HRU HP3 c0 f0 d2 d3 d4 d5
      cases hu : okU tx with
      | false =>
        have e0 := hno hu
        subst e0
        have HT : Hz (pnTo st4 tx = (st4.1, true)) := hide (by unfold pnTo; rw [if_neg (by rw [hu]; simp)])
        rw [unhide HT] at HV
        clear hok hno hb5 HP4 HT
        obtain ⟨s4, b4⟩ := st4
        dsimp only at hz4 HP5
        have HP6 := hide ((unhide HP5).bad true)
        have f1 := (unhide HP5).blk.frozen 1
        have c1 := (unhide HP5).blk.cell 1
        have c0 := (unhide HP6).blk.cell 0
        have f0 := (unhide HP6).blk.frozen 0
        have s4' : ¬ 9223372036854775807 < s4.size + 3 := by omega
        have HP7 := hide ((unhide HP6).str (s4 ++ ⟨#[32, 59, 10]⟩))
        go_wp2_with fail
        refine wp_loop_rounds 1 ?_
        rw [rounds_succ]
        go_wp2_with fail
        exact ⟨⟨k + 1, by omega, rfl, hide (by rw [unhide HF, unhide HV]; exact unhide HP7)⟩, by simp [intOf]; omega⟩
      | true =>
        obtain ⟨v5, e0, hown⟩ := hok hu
        subst e0
        have hl0 := runesL_le tx
        have h320 := runesL_32 tx
        have hx2 := (unhide H33).2
        have HTO : Hz (pnTo st4 tx = if (runesL tx).length ≠ 0 then (runesL tx).foldl pnR st4 else (st4.1, true)) := hide (by
          unfold pnTo
          rw [hu]
          by_cases hq : (runesL tx).length ≠ 0
          · rw [if_pos ⟨rfl, hq⟩, if_pos hq]
          · rw [if_neg (fun z => hq z.2), if_neg hq])
        generalize runesL tx = zs at *
        rcases Nat.eq_zero_or_pos zs.length with hz0 | hz0
        · obtain ⟨va, vc, rfl⟩ := own_slice hown
          rw [hz0]
          have HT : Hz (pnTo st4 tx = (st4.1, true)) := hide (by rw [unhide HTO, if_neg (by omega)])
          rw [unhide HT] at HV
          clear hok hno hb5 HP4 HT hown HTO h320 hl0
          obtain ⟨s4, b4⟩ := st4
          dsimp only at hz4 HP5
          have HP6 := hide ((unhide HP5).bad true)
          have f1 := (unhide HP5).blk.frozen 1
          have c1 := (unhide HP5).blk.cell 1
          have c0 := (unhide HP6).blk.cell 0
          have f0 := (unhide HP6).blk.frozen 0
          have s4' : ¬ 9223372036854775807 < s4.size + 3 := by omega
          have HP7 := hide ((unhide HP6).str (s4 ++ ⟨#[32, 59, 10]⟩))
          go_wp2_with fail
          refine wp_loop_rounds 1 ?_
          rw [rounds_succ]
          go_wp2_with fail
          exact ⟨⟨k + 1, by omega, rfl, hide (by rw [unhide HF, unhide HV]; exact unhide HP7)⟩, by simp [intOf]; omega⟩
        · have HT : Hz (pnTo st4 tx = zs.foldl pnR st4) := hide (by rw [unhide HTO, if_pos (by omega)])
          rw [unhide HT] at HV
          rcases own_some hown (fun e => by omega) with ⟨_, e, _⟩ | ⟨gt, ct, rfl, _, hgt, _, hcr⟩
          · omega
          · have hgne : gt ≠ P := by
              have : (w2.setCell ⟨P, 0, none⟩ (.string (s2 ++ ⟨#[32, 61]⟩))).heap.size ≤ gt := hgt
              omega
            have HCT : Hz (∀ w', w5.grownBy w' (some P) → ∀ j z, zs[j]? = some z → w'.cell? ⟨gt, j, none⟩ = some (.int .i32 z)) := hide (fun w' hw j z hj => by
              have e1 := hcr j (.int .i32 z) (by unfold encI; rw [List.getElem?_map, hj]; rfl)
              rw [show ((⟨gt, 0, none⟩ : Addr).add j) = ⟨gt, j, none⟩ by cases j <;> simp [Addr.add]] at e1
              exact hw.cell (a := ⟨gt, j, none⟩) e1 (by show some gt ≠ some P; intro e; exact hgne (Option.some.inj e)))
            obtain ⟨N, hN⟩ : ∃ N, N = zs.length := ⟨_, rfl⟩
            rw [← hN]
            have hnz : ((N : Int) == 0) = false := by simp; omega
            have HN := hide hN
            have hN2 : N ≤ 1048576 := by omega
            have HP5b := hide (unhide HP5).start
            have H320 := hide h320
            clear hok hno hb5 HP4 HT hown HTO hcr h320 hN hz0 hl0
            go_wp2_with fail
            go_loopw [9] (fun jv wr => ∃ j : Nat, j ≤ N ∧ jv = .int .i64 j ∧ Hz (Pe w5 wr P ((zs.take j).foldl pnR st4).1 ((zs.take j).foldl pnR st4).2)) (fun jv _ => N - (intOf jv).toNat)
            case atStart => exact ⟨0, Nat.zero_le _, rfl, HP5b⟩
            case round =>
              obtain ⟨j, hj, rfl, HJ⟩ := hrel
              have hzj := pnRs_size (zs.take j) st4
              rw [List.length_take] at hzj
              have hzj2 : ((zs.take j).foldl pnR st4).1.size ≤ 2400000000000000000 + 1001 * 1048576 := by
                have : 1001 * min j zs.length ≤ 1001 * 1048576 := Nat.mul_le_mul_left _ (by have := unhide HN; omega)
                omega
              clear hzj
              by_cases hjn : j < N
              · have j1 : ((j : Nat) : Int) < ((N : Nat) : Int) := by omega
                have j2 : ((j : Nat) : Int).toNat = j := by omega
                obtain ⟨z, hz⟩ : ∃ z, zs[j]? = some z := ⟨_, List.getElem?_eq_getElem (by have := unhide HN; omega)⟩
                have HFJ := hide (fold_take pnR st4 zs j z hz)
                generalize (zs.take j).foldl pnR st4 = stj at *
                obtain ⟨sj, bj⟩ := stj
                dsimp only at hzj2 HJ
                have s5 : ¬ 9223372036854775807 < sj.size + 1 := by omega
                have c0 := (unhide HJ).blk.cell 0
                have f0 := (unhide HJ).blk.frozen 0
                have HJ2 := hide ((unhide HJ).str (sj ++ ⟨#[32]⟩))
                have d0 := unhide HCT _ (unhide HJ2).f j z hz
                have HRN := hide (pe_rune P (sj ++ ⟨#[32]⟩) bj z (unhide H320 z (List.mem_of_getElem? hz)) (by rw [ByteArray.size_append]; show sj.size + 1 ≤ _; omega) w5 _ (unhide HJ2))
                go_wp2_with fail
                refine (unhide HRN).mono ?_
                rintro e w6 ⟨⟨v6, rfl⟩, hp6⟩
                have HJ3 := hide hp6
                clear hp6
                go_wp2_with fail
                go_roundw
                case rel => exact ⟨j + 1, by omega, by go_num, hide (by rw [unhide HFJ]; exact unhide HJ3)⟩
                case measure => simp [intOf]; omega
              · have j1 : ¬ ((j : Nat) : Int) < ((N : Nat) : Int) := by omega
                rw [List.take_of_length_le (by have := unhide HN; omega)] at HJ hzj2
                generalize zs.foldl pnR st4 = stj at *
                obtain ⟨sj, bj⟩ := stj
                dsimp only at hzj2 HJ
                have s5 : ¬ 9223372036854775807 < sj.size + 3 := by omega
                have c0 := (unhide HJ).blk.cell 0
                have f0 := (unhide HJ).blk.frozen 0
                have HP7 := hide ((unhide HP5).trans ((unhide HJ).str (sj ++ ⟨#[32, 59, 10]⟩)))
                go_wp2_with fail
                exact ⟨⟨k + 1, by omega, rfl, hide (by rw [unhide HF, unhide HV]; exact unhide HP7)⟩, by simp [intOf]; omega⟩
    · have k1 : ¬ ((k : Nat) : Int) < ((l.length : Nat) : Int) := by omega
      obtain rfl : k = l.length := by omega
      rw [List.take_length] at HP
      go_wp2_with fail
      go_end0
      exact ⟨⟨_, rfl⟩, unhide HP⟩
end Go.Proofs.YtgchlilpjkndlaaGreatDoor
