/- SetsNames: the chapter's runs. -/
import Derived.Test.YtemmflhofhngbaaSnA
namespace Go.Proofs.Ytemmflhofhngbaa
open Go.RowKit Go.Shelf
attribute [local go_sem] Oper.semAt_some
set_option linter.unusedVariables false
set_option maxRecDepth 100000 in
set_option maxHeartbeats 16000000 in
theorem law_setnames_in (n : Nat) (hn : 8 ≤ n) (w : World) :
    CallsIn Fence.wide n Try.prog 3 #[] w fun e w' => e = .returned (.bool true) ∧ Below w.heap.size w w' := by
  have h1 : 1 ≤ n := by omega
  refine callsIn_of_wp_marks Try.func3 rfl trivial ?_ rfl
  simp only [Try.ntmps3, List.size_toArray, List.length_nil, Nat.reduceSub, Array.replicate_succ, Array.replicate_zero, List.push_toArray, List.append_toArray, List.nil_append, List.cons_append]
  have H0 : Hz (SnSt w (w.alloc (.cells #[.bool false] 4)) [] [(w.heap.size, #[.bool false], 4)]) := hide ((SnSt.mk (Below.refl _ _) (fun p h => by simp at h) (fun p h => by simp at h) : SnSt w w [] []).push #[.bool false] 4)
  gi_wp2_with fail
  refine ⟨trivial, ?_⟩
  refine (callsIn_wide.2 (alive_any _)).mono ?_
  rintro e w1 ⟨rfl, hb⟩
  have H1 := hide (((unhide H0).below hb).push #[.int .i32 55295, .int .i32 55295, .int .i32 57344, .int .i32 57344] 28)
  clear hb H0
  gi_wp2_with fail
  refine ⟨trivial, ?_⟩
  refine (callsIn_wide.2 (of_right (some ⟨w1.heap.size, 0, none⟩) 2 [(55295, 55295), (57344, 57344)] (by decide) (right_two _ _ (by decide) (by decide)) _ (row_two ((unhide H1).has _ (.head _))))).mono ?_
  rintro e w2 ⟨A, lo0, zs, rfl, hlo, hmade, hsp, hzl, hmem, hb⟩
  obtain rfl : zs = [(55295, 57344)] := spread_unique _ _ hsp (spread_one _ (by decide) (by decide)) (fun r => (hmem r).trans (mem_gap r))
  have H2 := hide (((unhide H1).below hb).set (hmade.set hsp (by decide)))
  clear hlo hmade hsp hzl hmem hb H1
  gi_wp2_with fail
  refine ⟨trivial, ?_⟩
  refine (callsIn_wide.2 (of_right none 0 [] (by decide) (fun x h => by simp at h) _ (fun h => by simp at h))).mono ?_
  rintro e w3 ⟨B, lo0, zs, rfl, hlo, hmade, hsp, hzl, hmem, hb⟩
  obtain rfl : zs = [] := List.eq_nil_of_length_eq_zero (by simpa using hzl)
  have H3 := hide (((unhide H2).below hb).set (hmade.set hsp (by decide)))
  clear hlo hmade hsp hzl hmem hb H2
  gi_wp2_with fail
  refine ⟨trivial, ?_⟩
  refine (callsIn_wide.2 (spans_any A [(55295, 57344)] w3 ((unhide H3).sets (A, [(55295, 57344)]) (by simp)))).mono ?_
  rintro e w4 ⟨v, rfl, hown, hb⟩
  obtain ⟨p4, c4, rfl, hrow, _, _⟩ := own_row hown
  have hal := (Below.refl _ w4).alloc (Nat.le_refl _) (.cells #[.int .i32 55295, .int .i32 57344] 28)
  have HR := hide (hrow.below hal)
  have H4 := hide (((unhide H3).below hb).push #[.int .i32 55295, .int .i32 57344] 28)
  clear hown hrow hb hal H3
  gi_wp2_with fail
  refine ⟨trivial, ?_⟩
  refine (callsIn_wide.2 (show Calls Try.prog _ #[.slice p4 1 c4, .slice (some ⟨w4.heap.size, 0, none⟩) 1 1] _ _ from sameP_any p4 (some ⟨w4.heap.size, 0, none⟩) c4 1 [(55295, 57344)] [(55295, 57344)] (by decide) (by decide) _ (unhide HR) (row_one ((unhide H4).has _ (.head _))))).mono ?_
  rintro e w5 ⟨rfl, hb⟩
  rw [sameB_refl]
  have H5 := hide ((unhide H4).below hb)
  clear hb HR H4
  gi_wp2_with fail
  refine ⟨trivial, ?_⟩
  refine (callsIn_wide.2 (size_any A [(55295, 57344)] w5 ((unhide H5).sets (A, [(55295, 57344)]) (by simp)))).mono ?_
  rintro e w6 ⟨rfl, hb⟩
  rw [show total [(55295, 57344)] = 2 by decide]
  have H6 := hide ((unhide H5).below hb)
  clear hb H5
  gi_wp2_with fail
  refine ⟨trivial, ?_⟩
  refine (callsIn_wide.2 (not_any B [] (by decide) w6 ((unhide H6).sets (B, []) (by simp)))).mono ?_
  rintro e w7 ⟨C, lo0, zs, rfl, hlo, hmade, hsp, hzl, hmem, hb⟩
  obtain rfl : zs = [(0, 1114111)] := spread_unique _ _ hsp (spread_one _ (by decide) (by decide)) (fun r => (hmem r).trans (mem_all r))
  have H7 := hide (((unhide H6).below hb).set (hmade.set hsp (by decide)))
  clear hlo hmade hsp hzl hmem hb H6
  gi_wp2_with fail
  refine ⟨trivial, ?_⟩
  refine (callsIn_wide.2 (size_any C [(0, 1114111)] w7 ((unhide H7).sets (C, [(0, 1114111)]) (by simp)))).mono ?_
  rintro e w8 ⟨rfl, hb⟩
  rw [show total [(0, 1114111)] = 1112064 by decide]
  have H8 := hide ((unhide H7).below hb)
  clear hb H7
  gi_wp2_with fail
  refine ⟨trivial, ?_⟩
  refine (callsIn_wide.2 (spans_any C [(0, 1114111)] w8 ((unhide H8).sets (C, [(0, 1114111)]) (by simp)))).mono ?_
  rintro e w9 ⟨v, rfl, hown, hb⟩
  obtain ⟨p9, c9, rfl, hrow, _, _⟩ := own_row hown
  have hal := (Below.refl _ w9).alloc (Nat.le_refl _) (.cells #[.int .i32 0, .int .i32 1114111] 28)
  have HR := hide (hrow.below hal)
  have H9 := hide (((unhide H8).below hb).push #[.int .i32 0, .int .i32 1114111] 28)
  clear hown hrow hb hal H8
  gi_wp2_with fail
  refine ⟨trivial, ?_⟩
  refine (callsIn_wide.2 (show Calls Try.prog _ #[.slice p9 1 c9, .slice (some ⟨w9.heap.size, 0, none⟩) 1 1] _ _ from sameP_any p9 (some ⟨w9.heap.size, 0, none⟩) c9 1 [(0, 1114111)] [(0, 1114111)] (by decide) (by decide) _ (unhide HR) (row_one ((unhide H9).has _ (.head _))))).mono ?_
  rintro e w10 ⟨rfl, hb⟩
  rw [sameB_refl]
  have H10 := hide ((unhide H9).below hb)
  clear hb HR H9
  gi_wp2_with fail
  refine ⟨trivial, ?_⟩
  refine (callsIn_wide.2 (not_any C [(0, 1114111)] (by decide) w10 ((unhide H10).sets (C, [(0, 1114111)]) (by simp)))).mono ?_
  rintro e w11 ⟨D, lo0, zs, rfl, hlo, hmade, hsp, hzl, hmem, hb⟩
  obtain rfl : zs = [] := spread_unique _ _ hsp spread_none (fun r => (hmem r).trans (mem_nothing r))
  have H11 := hide (((unhide H10).below hb).set (hmade.set hsp (by decide)))
  clear hlo hmade hsp hzl hmem hb H10
  gi_wp2_with fail
  refine ⟨trivial, ?_⟩
  refine (callsIn_wide.2 (show Calls Try.prog _ #[.pointer (some ⟨D, 0, none⟩), .pointer (some ⟨B, 0, none⟩)] _ _ from same_any D (some ⟨B, 0, none⟩) [] [] w11 ((unhide H11).sets (D, []) (by simp)) (.inr ⟨B, rfl, (unhide H11).sets (B, []) (by simp)⟩))).mono ?_
  rintro e w12 ⟨rfl, hb⟩
  rw [sameB_refl]
  have H12 := hide (((unhide H11).below hb).push #[.int .i32 98, .int .i32 97, .int .i32 98] 21)
  clear hb H11
  gi_wp2_with fail
  refine ⟨trivial, ?_⟩
  refine (callsIn_wide.2 (from_rune (some ⟨w12.heap.size, 0, none⟩) 3 [98, 97, 98] (by decide) (by decide) _ (fun _ => ⟨w12.heap.size, 0, rfl, ((unhide H12).has _ (.head _)).lt, fun j x hj => (((unhide H12).has _ (.head _)).cell (0 + j)).trans (by match j, hj with | 0, hj => cases hj; rfl | 1, hj => cases hj; rfl | 2, hj => cases hj; rfl | j + 3, hj => simp at hj)⟩))).mono ?_
  intro e w13 hFP
  obtain ⟨E, lo0, zs, rfl, hlo, hmade, hsp, hzl, hmem⟩ := hFP.1 all_ab
  obtain rfl : zs = [(97, 98)] := spread_unique _ _ hsp (spread_one _ (by decide) (by decide)) (fun r => (hmem r).trans (mem_ab r))
  have H13 := hide (((unhide H12).below hFP.2.2).set (hmade.set hsp (by decide)))
  clear hFP hlo hmade hsp hzl hmem H12
  gi_wp2_with fail
  refine ⟨trivial, ?_⟩
  refine (callsIn_wide.2 (size_any E [(97, 98)] w13 ((unhide H13).sets (E, [(97, 98)]) (by simp)))).mono ?_
  rintro e w14 ⟨rfl, hb⟩
  rw [show total [(97, 98)] = 2 by decide]
  have H14 := hide ((unhide H13).below hb)
  clear hb H13
  gi_wp2_with fail
  refine ⟨trivial, ?_⟩
  refine (callsIn_wide.2 (at_any E [(97, 98)] 1 w14 ((unhide H14).sets (E, [(97, 98)]) (by simp)))).mono ?_
  rintro e w15 ⟨rfl, hb⟩
  rw [show atV [(97, 98)] 1 = .tuple #[.int .i32 98, .bool true] by kernel_rfl]
  have H15 := hide ((unhide H14).below hb)
  clear hb H14
  gi_wp2_with fail
  refine ⟨trivial, ?_⟩
  refine (callsIn_wide.2 (next_in E [(97, 98)] 97 (by decide) (by decide) (by decide) w15 ((unhide H15).sets (E, [(97, 98)]) (by simp)))).mono ?_
  rintro e w16 ⟨rfl, hb⟩
  rw [show atV [(97, 98)] (belowOf [(97, 98)] 97 + 1) = .tuple #[.int .i32 98, .bool true] by kernel_rfl]
  have H16 := hide ((unhide H15).below hb)
  clear hb H15
  gi_wp2_with fail
  refine ⟨trivial, ?_⟩
  refine (callsIn_wide.2 (all_call E w16)).mono ?_
  rintro e w17 ⟨rfl, rfl⟩
  have H17 := hide ((unhide H16).push #[.pointer (some ⟨E, 0, none⟩)] 23)
  clear H16
  obtain ⟨Ba, hBa⟩ : ∃ Ba, Ba = w16.heap.size := ⟨_, rfl⟩
  rw [← hBa] at H17
  rw [← hBa]
  clear hBa
  generalize w16.alloc (.cells #[.pointer (some ⟨E, 0, none⟩)] 23) = w17 at *
  gi_wp2_with fail
  refine ⟨trivial, ?_⟩
  refine (callsIn_wide.2 (back_call E w17)).mono ?_
  rintro e w18 ⟨rfl, rfl⟩
  have H18 := hide ((unhide H17).push #[.pointer (some ⟨E, 0, none⟩)] 23)
  clear H17
  obtain ⟨Bb, hBb⟩ : ∃ Bb, Bb = w17.heap.size := ⟨_, rfl⟩
  rw [← hBb] at H18
  rw [← hBb]
  clear hBb
  generalize w17.alloc (.cells #[.pointer (some ⟨E, 0, none⟩)] 23) = w18 at *
  gi_wp2_with fail
  refine ⟨trivial, ?_⟩
  refine (callsIn_wide.2 (belowOf_any E [(97, 98)] 98 (by decide) (by decide) w18 ((unhide H18).sets (E, [(97, 98)]) (by simp)))).mono ?_
  rintro e T ⟨rfl, hb⟩
  rw [show belowOf [(97, 98)] 98 = 1 by decide]
  have HT := hide ((unhide H18).below hb)
  clear hb H18
  have hn1 := eq_nilS 44 (.pointer (some ⟨Ba, 0, none⟩))
  have hn2 := eq_nilS 45 (.pointer (some ⟨Bb, 0, none⟩))
  gi_wp2
  rename_i K1 hK1
  obtain ⟨Bn, hBn⟩ : ∃ Bn, Bn = T.heap.size := ⟨_, rfl⟩
  have hn0 : Blk (T.alloc (.cells #[.int .i64 0] 3)) Bn #[.int .i64 0] 3 := by rw [hBn]; exact Blk.new T _ _
  have ho0 := (Below.refl T.heap.size T).alloc (Nat.le_refl _) (.cells #[.int .i64 0] 3)
  have hz1 : (T.alloc (.cells #[.int .i64 0] 3)).heap.size = T.heap.size + 1 := by simp
  rw [← hBn]
  have hTB : T.heap.size ≤ Bn := by omega
  generalize T.alloc (.cells #[.int .i64 0] 3) = W1 at *
  have hBW : Bn < W1.heap.size := by omega
  have hTW : T.heap.size ≤ W1.heap.size := by omega
  clear hBn hz1 hn1 hn2
  have hSE := (unhide HT).sets (E, [(97, 98)]) (by simp)
  have hcA := (unhide HT).has (Ba, #[.pointer (some ⟨E, 0, none⟩)], 23) (by simp)
  have hcB := (unhide HT).has (Bb, #[.pointer (some ⟨E, 0, none⟩)], 23) (by simp)
  have hK1' := hide hK1
  clear hK1
  refine range_deep rfl h1 (gf := 44) (lb := #[.pointer (some ⟨Ba, 0, none⟩)]) rfl trivial (enters_of Try.func44 (by kernel_rfl) rfl)
    (all_deep (n - 1) Ba E (by omega) [(97, 98)] (by decide) T hSE (hcA.cell 0)) KpB_t (fun W l o hl => KpB_b W l o (by omega)) ho0 (fun _ => rfl)
    (RiN T Bn) (fun _ _ _ => False) (RiN.old hBW hTW) (fun _ _ _ _ h _ => h) ⟨0, rfl, by omega, hn0, ho0⟩ ?round ?done ?stop
  case round =>
    rintro pre x W ⟨m, hpre, hm, hbn, hbT⟩ ⟨hx, hpre2⟩ hge
    obtain rfl : m = x := range_inj' (hpre.symm.trans hpre2)
    subst hpre
    clear hpre2
    rw [tot_ab] at hx
    dsimp only [encsR]
    gi_wp2
    refine ⟨Above.refl _ _, fun _ _ => rfl, ⟨m, rfl, hm, hbn, hbT⟩, ?_⟩
    intro Wr hgr hsr ⟨m2, hpre, _, hbn2, hbT2⟩
    obtain rfl : m = m2 := range_inj' hpre
    rcases show m = 0 ∨ m = 1 by omega with rfl | rfl
    · rw [nth_ab.1]
      have hb3 : Blk Wr Bn #[.int .i64 0] 3 := hbn2
      have n0 := hb3.cell 0
      have nf := hb3.frozen 0
      have c1 : Blk (Wr.setCell ⟨Bn, 0, none⟩ (.int .i64 1)) Bn #[.int .i64 1] 3 := hb3.set 0 _
      have c2 := hbT2.setCell (p := ⟨Bn, 0, none⟩) hTB (.int .i64 1)
      have c4 : Above W1.heap.size Wr (Wr.setCell ⟨Bn, 0, none⟩ (.int .i64 1)) := (Above.refl _ _).set (by omega) _
      have c5 : KpB T.heap.size Wr (Wr.setCell ⟨Bn, 0, none⟩ (.int .i64 1)) := fun k hk => Below.heap_setCell Wr ⟨Bn, 0, none⟩ _ k (by show k ≠ Bn; omega)
      have HC := hide (And.intro c1 (And.intro c2 (And.intro c4 c5)))
      clear c1 c2 c4 c5 hbn hbT hbn2 hbT2 hgr hsr hpre hb3
      gi_wp2
      exact ⟨(unhide HC).2.2.1, (unhide HC).2.2.2, 1, rfl, by omega, (unhide HC).1, (unhide HC).2.1⟩
    · rw [nth_ab.2]
      have hb3 : Blk Wr Bn #[.int .i64 1] 3 := hbn2
      have n0 := hb3.cell 0
      have nf := hb3.frozen 0
      have c1 : Blk (Wr.setCell ⟨Bn, 0, none⟩ (.int .i64 2)) Bn #[.int .i64 2] 3 := hb3.set 0 _
      have c2 := hbT2.setCell (p := ⟨Bn, 0, none⟩) hTB (.int .i64 2)
      have c4 : Above W1.heap.size Wr (Wr.setCell ⟨Bn, 0, none⟩ (.int .i64 2)) := (Above.refl _ _).set (by omega) _
      have c5 : KpB T.heap.size Wr (Wr.setCell ⟨Bn, 0, none⟩ (.int .i64 2)) := fun k hk => Below.heap_setCell Wr ⟨Bn, 0, none⟩ _ k (by show k ≠ Bn; omega)
      have HC := hide (And.intro c1 (And.intro c2 (And.intro c4 c5)))
      clear c1 c2 c4 c5 hbn hbT hbn2 hbT2 hgr hsr hpre hb3
      gi_wp2
      exact ⟨(unhide HC).2.2.1, (unhide HC).2.2.2, 2, rfl, by omega, (unhide HC).1, (unhide HC).2.1⟩
  case done =>
    rintro D xs W2 hD hS ⟨m, hpre, hm, hbn, hbT⟩ hdef
    rw [tot_ab] at hS
    obtain rfl : m = 2 := range_inj' (hpre.symm.trans hS)
    have hb2 : Blk W2 Bn #[.int .i64 2] 3 := hbn
    have hw2 : T.heap.size ≤ W2.heap.size := hbT.size
    have hBW2 := hb2.lt
    have hwT := (unhide HT).old.size
    have hM2 : Marks w.heap.size W2 W2.heap.size [{ target := .collected D, args := #[] }] := Marks.push (W := W2) (lo := w.heap.size) (hi := 0) (ds := []) trivial (Nat.zero_le _) (by omega) hdef
    clear hpre hS hm hbn hdef xs hn0 ho0
    apply unhide hK1'
    gi_wp2
    rename_i K2 hK2
    have hK2' := hide hK2
    clear hK2
    refine range_deep rfl h1 (gf := 45) (lb := #[.pointer (some ⟨Bb, 0, none⟩)]) rfl trivial (enters_of Try.func45 (by kernel_rfl) rfl)
      (back_deep (n - 1) Bb E (by omega) [(97, 98)] (by decide) T hSE (hcB.cell 0)) KpB_t (fun W l o hl => KpB_b W l o (by omega)) hbT (fun _ => rfl)
      (FaN w T Bn W2.heap.size [{ target := .collected D, args := #[] }]) (fun _ _ _ => False) (FaN.old hBW2 hw2 (Nat.le_refl _)) (fun _ _ _ _ h _ => h) ⟨2, (dnL_top _).symm, by omega, hb2, hbT, hM2⟩ ?round2 ?done2 ?stop2
    case round2 =>
      rintro pre x W ⟨j, hpre, hj, hbn, hbT3, hmk⟩ ⟨hx, hpre2⟩ hge
      rw [tot_ab] at hx hpre2
      obtain rfl : j = x + 1 := dnL_inj hj (by omega) (hpre.symm.trans hpre2)
      subst hpre
      clear hpre2
      dsimp only [encsR]
      gi_wp2
      refine ⟨Above.refl _ _, fun _ _ => rfl, ⟨x + 1, rfl, hj, hbn, hbT3, hmk⟩, ?_⟩
      intro Wr hgr hsr ⟨j2, hpre, hj2, hbn2, hbT2, hmk2⟩
      obtain rfl : x + 1 = j2 := dnL_inj hj hj2 hpre
      rcases show x = 0 ∨ x = 1 by omega with rfl | rfl
      · rw [nth_ab.1]
        have hb3 : Blk Wr Bn #[.int .i64 1] 3 := hbn2
        have n0 := hb3.cell 0
        have nf := hb3.frozen 0
        have c1 : Blk (Wr.setCell ⟨Bn, 0, none⟩ (.int .i64 0)) Bn #[.int .i64 0] 3 := hb3.set 0 _
        have n1 := c1.cell 0
        have c2 := hbT2.setCell (p := ⟨Bn, 0, none⟩) hTB (.int .i64 0)
        have c3 : Marks w.heap.size (Wr.setCell ⟨Bn, 0, none⟩ (.int .i64 0)) W2.heap.size [{ target := .collected D, args := #[] }] := hmk2.keep (fun k hk he => (Below.heap_setCell Wr ⟨Bn, 0, none⟩ _ k (by intro e; have e' : k = Bn := e; rw [e', show Wr.heap[Bn]? = _ from hb3] at he; cases he)).trans he)
        have c4 : Above W2.heap.size Wr (Wr.setCell ⟨Bn, 0, none⟩ (.int .i64 0)) := (Above.refl _ _).set (by omega) _
        have c5 : KpB T.heap.size Wr (Wr.setCell ⟨Bn, 0, none⟩ (.int .i64 0)) := fun k hk => Below.heap_setCell Wr ⟨Bn, 0, none⟩ _ k (by show k ≠ Bn; omega)
        have HC := hide (And.intro c1 (And.intro c2 (And.intro c3 (And.intro c4 c5))))
        clear c1 c2 c3 c4 c5 hbn2 hbT2 hmk2 hgr hsr hpre hb3
        gi_wp2
        exact ⟨(unhide HC).2.2.2.1, (unhide HC).2.2.2.2, 0, by decide, by omega, (unhide HC).1, (unhide HC).2.1, (unhide HC).2.2.1⟩
      · rw [nth_ab.2]
        have hb3 : Blk Wr Bn #[.int .i64 2] 3 := hbn2
        have n0 := hb3.cell 0
        have nf := hb3.frozen 0
        have c1 : Blk (Wr.setCell ⟨Bn, 0, none⟩ (.int .i64 1)) Bn #[.int .i64 1] 3 := hb3.set 0 _
        have n1 := c1.cell 0
        have c2 := hbT2.setCell (p := ⟨Bn, 0, none⟩) hTB (.int .i64 1)
        have c3 : Marks w.heap.size (Wr.setCell ⟨Bn, 0, none⟩ (.int .i64 1)) W2.heap.size [{ target := .collected D, args := #[] }] := hmk2.keep (fun k hk he => (Below.heap_setCell Wr ⟨Bn, 0, none⟩ _ k (by intro e; have e' : k = Bn := e; rw [e', show Wr.heap[Bn]? = _ from hb3] at he; cases he)).trans he)
        have c4 : Above W2.heap.size Wr (Wr.setCell ⟨Bn, 0, none⟩ (.int .i64 1)) := (Above.refl _ _).set (by omega) _
        have c5 : KpB T.heap.size Wr (Wr.setCell ⟨Bn, 0, none⟩ (.int .i64 1)) := fun k hk => Below.heap_setCell Wr ⟨Bn, 0, none⟩ _ k (by show k ≠ Bn; omega)
        have HC := hide (And.intro c1 (And.intro c2 (And.intro c3 (And.intro c4 c5))))
        clear c1 c2 c3 c4 c5 hbn2 hbT2 hmk2 hgr hsr hpre hb3
        gi_wp2
        exact ⟨(unhide HC).2.2.2.1, (unhide HC).2.2.2.2, 1, by decide, by omega, (unhide HC).1, (unhide HC).2.1, (unhide HC).2.2.1⟩
    case done2 =>
      rintro D2 xs W4 hD2 hS ⟨j, hpre, hj, hbn, hbT4, hmk⟩ hdef
      rw [tot_ab] at hS
      obtain rfl : j = 0 := dnL_inj hj (Nat.zero_le _) (hpre.symm.trans hS)
      have hb4 : Blk W4 Bn #[.int .i64 0] 3 := hbn
      have S4 : SnSt w W4 [] [(Bn, #[.int .i64 0], 3), (w.heap.size, #[.bool false], 4)] := by
        have k := (unhide HT).below (hbT4.mono (Nat.le_refl _))
        exact ⟨k.old, fun p h => by simp at h, fun p hp => by
          rcases List.mem_cons.1 hp with rfl | hp
          · exact hb4
          · rw [List.mem_singleton.1 hp]; exact k.has (w.heap.size, #[.bool false], 4) (by simp)⟩
      have M4 := hmk.push (D := D2) hD2 (by omega) hdef
      have H4 := hide (And.intro S4 M4)
      clear S4 M4 hpre hS hj hbn hdef hbT4 hmk hb4 hb2 hM2 hbT hcA hcB hSE
      apply unhide hK2'
      gi_wp2_with fail
      refine ⟨trivial, ?_⟩
      refine (callsIn_wide.2 (show Calls Try.prog _ #[.string ⟨#[195, 169, 255]⟩] _ _ from settext_any exS (by decide) W4)).mono ?_
      rintro e w20 ⟨X, lo0, zs, rfl, hlo, hmade, hsp, hzl, hmem, hb⟩
      obtain rfl : zs = [(233, 233), (65533, 65533)] := spread_unique _ _ hsp spread_ex (fun r => (hmem r).trans (mem_ex r))
      have H20 := hide (And.intro ((((unhide H4).1.below hb).set (hmade.set hsp (by decide))).push #[.int .i32 1, .int .i32 5, .int .i32 5, .int .i32 9] 28) (((unhide H4).2.below hb).below ((Below.refl w20.heap.size w20).alloc (Nat.le_refl _) (.cells #[.int .i32 1, .int .i32 5, .int .i32 5, .int .i32 9] 28))))
      clear hlo hmade hsp hzl hmem hb H4
      gi_wp2_with fail
      refine ⟨trivial, ?_⟩
      refine (callsIn_wide.2 (show Calls Try.prog _ #[.slice (some ⟨w20.heap.size, 0, none⟩) 2 2] _ _ from right_any (some ⟨w20.heap.size, 0, none⟩) 2 [(1, 5), (5, 9)] (by decide) _ (row_two ((unhide H20).1.has _ (.head _))))).mono ?_
      rintro e w21 ⟨rfl, hb⟩
      rw [right_ex]
      have H21 := hide (And.intro ((unhide H20).1.below hb) ((unhide H20).2.below hb))
      clear hb H20
      have kn := ((unhide H21).1.has (Bn, #[.int .i64 0], 3) (by simp)).cell 0
      gi_wp2_with fail
      refine ⟨trivial, ?_⟩
      refine (callsIn_wide.2 (size_any X [(233, 233), (65533, 65533)] w21 ((unhide H21).1.sets (X, [(233, 233), (65533, 65533)]) (by simp)))).mono ?_
      rintro e w22 ⟨rfl, hb⟩
      rw [show total [(233, 233), (65533, 65533)] = 2 by decide]
      have H22 := hide (And.intro ((unhide H21).1.below hb) ((unhide H21).2.below hb))
      clear hb H21 kn
      gi_wp2_with fail
      refine ⟨trivial, ?_⟩
      refine (callsIn_wide.2 (in_any X [(233, 233), (65533, 65533)] 65533 w22 ((unhide H22).1.sets (X, [(233, 233), (65533, 65533)]) (by simp)))).mono ?_
      rintro e w23 ⟨rfl, hb⟩
      rw [show memB [(233, 233), (65533, 65533)] 65533 = true by decide]
      have H23 := hide (And.intro ((unhide H22).1.below hb) ((unhide H22).2.below hb))
      clear hb H22
      have hres := (unhide H23).1.has (w.heap.size, #[.bool false], 4) (by simp)
      have k0 := hres.cell 0
      have kf := hres.frozen 0
      have HC := hide (And.intro (hres.set 0 (.bool true)) (And.intro ((unhide H23).1.old.setCell (p := ⟨w.heap.size, 0, none⟩) (Nat.le_refl _) (.bool true)) ((unhide H23).2.others (KeepsOthers.setCell w23 ⟨w.heap.size, 0, none⟩ (.bool true)))))
      clear hres H23
      gi_wp2
      refine leaves_marks _ _ _ (unhide HC).2.2 (unhide HC).1 (unhide HC).2.1 ?_
      intro W' hb' hB'
      have q := hb'.cell 0
      exact ⟨.bool true, by simp [results, Try.f3, go_sem, q], rfl, hB'⟩
    case stop2 => exact fun D c pre W2 hD hSp h hdef => h.elim
  case stop => exact fun D c pre W2 hD hSp h hdef => h.elim
theorem law_setnames (w : World) : Calls Try.prog 3 #[] w fun e w' => e = .returned (.bool true) ∧ Below w.heap.size w w' := callsIn_wide.1 (law_setnames_in 8 (Nat.le_refl _) w)
end Go.Proofs.Ytemmflhofhngbaa
