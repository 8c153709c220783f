/- Words: the words of a text. -/
import Derived.Test.YtncmabmpkdmpfaaDoorScWhere
namespace Go.Proofs.YtncmabmpkdmpfaaDoor
open Go.RowKit Go.Shelf
set_option linter.unusedVariables false
theorem whL_zero (s : ByteArray) : whL s 0 = (1, 1) := by
  have h0 : cutAt s 0 = 0 := Nat.le_zero.1 (cutAt_le s 0)
  have ha : aheadV s 0 = ByteArray.empty := by unfold aheadV; rw [h0]; exact toList_nil _ (by rw [ByteArray.size_extract]; omega)
  unfold whL
  rw [ha]
  have h1 : (ByteArray.empty.extract (lastL ByteArray.empty) ByteArray.empty.size) = ByteArray.empty := toList_nil _ (by rw [ByteArray.size_extract]; have h9 : ByteArray.empty.size = 0 := rfl; omega)
  rw [h1]
  rfl
theorem own_lower {W : World} {lo lo' E sz n : Nat} {v : Value} {xs : List Value} (h : W.ownsRow lo E sz v n xs) (hl : lo' ≤ lo) : W.ownsRow lo' E sz v n xs := by
  refine ⟨h.1, ?_⟩
  rcases h.2 with h2 | ⟨g, cap, cur, e, hb, h3⟩
  · exact .inl h2
  · exact .inr ⟨g, cap, cur, e, by omega, h3⟩
/-- What the cutter makes of a text. -/
def wordsV (s : ByteArray) : CutV := cutGo s (s.size + 1) 0 (1, 1) []
set_option maxRecDepth 100000 in
set_option maxHeartbeats 4000000 in
theorem words_yes (s : ByteArray) (hs : s.size ≤ 262144) (hok : (wordsV s).ok = true) (m : Int) (w : World) (hm : w.cell? ⟨0, 0, none⟩ = some (.int .i64 m)) (hg : 0 < w.heap.size) :
    Calls Tryd.prog 13 #[.string s] w fun e w' => ∃ v, e = .returned (.tuple #[v, .agg #[.int .i64 0, .int .i64 0, .int .i64 0], .int .i64 0]) ∧ w'.ownsRow w.heap.size 36 8 v (wordsV s).ws.length (encWs (wordsV s).ws) ∧ Below w.heap.size w w' := by
  have hl : ¬ (262144 : Int) < (s.size : Int) := by omega
  have hwh := fun w => where_in s (by omega) 0 (Nat.zero_le _) w
  simp only [whL_zero] at hwh
  have b0 := Blk.new w #[.int .i64 0, .int .i64 0, .int .i64 0] 26
  have hB0 := (Below.refl w.heap.size w).alloc (Nat.le_refl _) (.cells #[.int .i64 0, .int .i64 0, .int .i64 0] 26)
  have Hb0 := hide b0
  have HB0 := hide hB0
  have HWH := hide hwh
  have HM := hide hm
  have HOK := hide hok
  clear hwh b0 hB0 hm hok
  go_enter Tryd.func13, Tryd.ntmps13
  go_wp2_with fail
  refine (show Calls Tryd.prog 10 #[.string s, .int .i64 0] _ _ from unhide HWH _).mono ?_
  rintro e w1 ⟨rfl, hb⟩
  have Hb1 := hide ((unhide Hb0).below hb (unhide Hb0).lt)
  have HB1 := hide ((unhide HB0).trans (hb.mono (unhide HB0).size))
  clear hb Hb0 HB0 HWH
  go_wp2_with fail
  have hal := (Below.refl w1.heap.size w1).alloc (Nat.le_refl _) (.cells #[.string s, .int .i64 0, .int .i64 1, .int .i64 1, .slice none 0 0] 53)
  have bC : Blk (w1.alloc (.cells #[.string s, .int .i64 0, .int .i64 1, .int .i64 1, .slice none 0 0] 53)) w1.heap.size (ctrC s (0 : Nat) (1 : Nat) (1 : Nat) (.slice none 0 0)) 53 := Blk.new w1 _ _
  have Hb2 := hide ((unhide Hb1).below hal (unhide Hb1).lt)
  have HB2 := hide ((unhide HB1).trans (hal.mono (unhide HB1).size))
  have hw1 := (unhide HB1).size
  have hM2 : (w1.alloc (.cells #[.string s, .int .i64 0, .int .i64 1, .int .i64 1, .slice none 0 0] 53)).cell? ⟨0, 0, none⟩ = some (.int .i64 m) := ((unhide HB2).cell (p := ⟨0, 0, none⟩) hg).trans (unhide HM)
  refine (cutter_any w1.heap.size s hs m _ bC hM2 (by omega) (wordsV s) rfl).mono ?_
  rintro e w3 ⟨rfl, v, cs, hst⟩
  rw [unhide HOK]
  have hgr := hst.gr
  have HB3 : Hz (Below w.heap.size w w3) := hide ((unhide HB2).grown hgr (unhide HB2).size (fun k hk => by cases hk; exact hw1))
  have hbl := hst.blk
  have hb3 : Blk w3 w.heap.size #[.int .i64 0, .int .i64 0, .int .i64 0] 26 := (unhide Hb2).kept hgr (fun e => by have := Option.some.inj e; have := (unhide Hb1).lt; omega)
  have c4 := hbl.cell 4
  have f0 := hb3.frozen 0
  have f1 := hb3.frozen 1
  have f2 := hb3.frozen 2
  have k0 := hb3.cell 0
  have k1 := hb3.cell 1
  have k2 := hb3.cell 2
  have hown := hst.own
  have HOWN := hide hown
  have hE : Blk (((w3.setCell ⟨w.heap.size, 0, none⟩ (.int .i64 0)).setCell ⟨w.heap.size, 1, none⟩ (.int .i64 0)).setCell ⟨w.heap.size, 2, none⟩ (.int .i64 0)) w.heap.size #[.int .i64 0, .int .i64 0, .int .i64 0] 26 := ((hb3.set 0 (.int .i64 0)).set 1 (.int .i64 0)).set 2 (.int .i64 0)
  have r0 := hE.cell 0
  have r1 := hE.cell 1
  have r2 := hE.cell 2
  clear hst hbl hb3 hown hgr bC hM2 hal Hb1 Hb2 HB1 HB2 hE
  go_wp2_with fail
  have hO : (((w3.setCell ⟨w.heap.size, 0, none⟩ (.int .i64 0)).setCell ⟨w.heap.size, 1, none⟩ (.int .i64 0)).setCell ⟨w.heap.size, 2, none⟩ (.int .i64 0)).ownsRow w.heap.size 36 8 v (wordsV s).ws.length (encWs (wordsV s).ws) := by
    have hlo : w.heap.size < (w1.alloc (.cells #[.string s, .int .i64 0, .int .i64 1, .int .i64 1, .slice none 0 0] 53)).heap.size + 1 := by rw [World.size_alloc]; omega
    exact own_lower (own_keep (own_keep (own_keep (unhide HOWN) (grown_setCell' _ ⟨w.heap.size, 0, none⟩ _) hlo) (grown_setCell' _ ⟨w.heap.size, 1, none⟩ _) hlo) (grown_setCell' _ ⟨w.heap.size, 2, none⟩ _) hlo) (by omega)
  have hBE := (((unhide HB3).setCell (p := ⟨w.heap.size, 0, none⟩) (Nat.le_refl _) (.int .i64 0)).setCell (p := ⟨w.heap.size, 1, none⟩) (Nat.le_refl _) (.int .i64 0)).setCell (p := ⟨w.heap.size, 2, none⟩) (Nat.le_refl _) (.int .i64 0)
  exact bodyPost_ret (v := .tuple #[v, .agg #[.int .i64 0, .int .i64 0, .int .i64 0], .int .i64 0]) (by simp [results, Tryd.results13, go_sem, r0, r1, r2]) rfl ⟨v, rfl, hO, hBE⟩
set_option maxRecDepth 100000 in
set_option maxHeartbeats 4000000 in
theorem words_no (s : ByteArray) (hs : s.size ≤ 262144) (hok : (wordsV s).ok = false) (hb : (wordsV s).b ≤ s.size) (m : Int) (w : World) (hm : w.cell? ⟨0, 0, none⟩ = some (.int .i64 m)) (hg : 0 < w.heap.size) :
    Calls Tryd.prog 13 #[.string s] w fun e w' => e = .returned (.tuple #[.slice none 0 0, .agg (atA (wordsV s).b (whL s (wordsV s).b)), .int .i64 (if (wordsV s).b < s.size then 20 else 21)]) ∧ Below w.heap.size w w' := by
  have hl : ¬ (262144 : Int) < (s.size : Int) := by omega
  have hwh := fun w => where_in s (by omega) 0 (Nat.zero_le _) w
  simp only [whL_zero] at hwh
  have hwb := fun w => where_in s (by omega) (wordsV s).b hb w
  obtain ⟨n, hn⟩ : ∃ n, n = (wordsV s).b := ⟨_, rfl⟩
  obtain ⟨p1, p2, hp⟩ : ∃ p1 p2, whL s (wordsV s).b = (p1, p2) := ⟨_, _, rfl⟩
  simp only [hp] at hwb
  simp only [← hn] at hwb
  rw [hp, ← hn]
  have b0 := Blk.new w #[.int .i64 0, .int .i64 0, .int .i64 0] 26
  have hB0 := (Below.refl w.heap.size w).alloc (Nat.le_refl _) (.cells #[.int .i64 0, .int .i64 0, .int .i64 0] 26)
  have Hb0 := hide b0
  have HB0 := hide hB0
  have HWH := hide hwh
  have HWB := hide hwb
  have HM := hide hm
  have HOK := hide hok
  have HN := hide hn
  clear hwh b0 hB0 hm hok hwb hp hb hn
  go_enter Tryd.func13, Tryd.ntmps13
  go_wp2_with fail
  refine (show Calls Tryd.prog 10 #[.string s, .int .i64 0] _ _ from unhide HWH _).mono ?_
  rintro e w1 ⟨rfl, hb⟩
  have Hb1 := hide ((unhide Hb0).below hb (unhide Hb0).lt)
  have HB1 := hide ((unhide HB0).trans (hb.mono (unhide HB0).size))
  clear hb Hb0 HB0 HWH
  go_wp2_with fail
  have hal := (Below.refl w1.heap.size w1).alloc (Nat.le_refl _) (.cells #[.string s, .int .i64 0, .int .i64 1, .int .i64 1, .slice none 0 0] 53)
  have bC : Blk (w1.alloc (.cells #[.string s, .int .i64 0, .int .i64 1, .int .i64 1, .slice none 0 0] 53)) w1.heap.size (ctrC s (0 : Nat) (1 : Nat) (1 : Nat) (.slice none 0 0)) 53 := Blk.new w1 _ _
  have Hb2 := hide ((unhide Hb1).below hal (unhide Hb1).lt)
  have HB2 := hide ((unhide HB1).trans (hal.mono (unhide HB1).size))
  have hw1 := (unhide HB1).size
  have hM2 : (w1.alloc (.cells #[.string s, .int .i64 0, .int .i64 1, .int .i64 1, .slice none 0 0] 53)).cell? ⟨0, 0, none⟩ = some (.int .i64 m) := ((unhide HB2).cell (p := ⟨0, 0, none⟩) hg).trans (unhide HM)
  refine (cutter_any w1.heap.size s hs m _ bC hM2 (by omega) (wordsV s) rfl).mono ?_
  rintro e w3 ⟨rfl, v, cs, hst⟩
  rw [unhide HOK]
  have hgr := hst.gr
  have HB3 : Hz (Below w.heap.size w w3) := hide ((unhide HB2).grown hgr (unhide HB2).size (fun k hk => by cases hk; exact hw1))
  have hbl := hst.blk
  rw [← unhide HN] at hbl
  have hb3 : Blk w3 w.heap.size #[.int .i64 0, .int .i64 0, .int .i64 0] 26 := (unhide Hb2).kept hgr (fun e => by have := Option.some.inj e; have := (unhide Hb1).lt; omega)
  have c1 := hbl.cell 1
  have Hb3 := hide hb3
  clear hst hbl hb3 hgr bC hM2 hal Hb1 Hb2 HB1 HB2
  go_wp2_with fail
  refine (unhide HWB _).mono ?_
  rintro e w4 ⟨rfl, hb⟩
  have hb4 := (unhide Hb3).below hb (unhide Hb3).lt
  have hB4 := (unhide HB3).trans (hb.mono (unhide HB3).size)
  have s0 := Blk.new w4 #[.int .i64 n, .int .i64 p1, .int .i64 p2] 26
  have hb5 := hb4.alloc (.cells #[.int .i64 n, .int .i64 p1, .int .i64 p2] 26)
  have hB5 := hB4.alloc hB4.size (.cells #[.int .i64 n, .int .i64 p1, .int .i64 p2] 26)
  have x0 := s0.cell 0
  have x1 := s0.cell 1
  have x2 := s0.cell 2
  have f0 := hb5.frozen 0
  have f1 := hb5.frozen 1
  have f2 := hb5.frozen 2
  have k0 := hb5.cell 0
  have k1 := hb5.cell 1
  have k2 := hb5.cell 2
  have Hb5 := hide hb5
  have HB5 := hide hB5
  clear c1 hb hb4 hB4 s0 hb5 hB5 Hb3 HB3
  have hfin : ∀ (W : World) (B5 : Below w.heap.size w W) (hbk : Blk W w.heap.size #[.int .i64 0, .int .i64 0, .int .i64 0] 26), Blk (((W.setCell ⟨w.heap.size, 0, none⟩ (.int .i64 n)).setCell ⟨w.heap.size, 1, none⟩ (.int .i64 p1)).setCell ⟨w.heap.size, 2, none⟩ (.int .i64 p2)) w.heap.size #[.int .i64 n, .int .i64 p1, .int .i64 p2] 26 ∧ Below w.heap.size w (((W.setCell ⟨w.heap.size, 0, none⟩ (.int .i64 n)).setCell ⟨w.heap.size, 1, none⟩ (.int .i64 p1)).setCell ⟨w.heap.size, 2, none⟩ (.int .i64 p2)) := fun W B5 hbk =>
    ⟨((hbk.set 0 _).set 1 _).set 2 _, ((B5.setCell (p := ⟨w.heap.size, 0, none⟩) (Nat.le_refl _) _).setCell (p := ⟨w.heap.size, 1, none⟩) (Nat.le_refl _) _).setCell (p := ⟨w.heap.size, 2, none⟩) (Nat.le_refl _) _⟩
  have HFIN := hide hfin
  clear hfin
  by_cases hlt : n < s.size
  · have hlt' : (n : Int) < (s.size : Int) := by omega
    have hc : (if n < s.size then (20 : Int) else 21) = 20 := if_pos hlt
    have HCC := hide hc
    clear hc hlt
    go_wp2_with fail
    go_region_with (fail)
    all_goals
      obtain ⟨q1, q2⟩ := unhide HFIN _ (unhide HB5) (unhide Hb5)
      have q1' : Blk ((((w4.alloc (.cells #[.int .i64 n, .int .i64 p1, .int .i64 p2] 26)).setCell ⟨w.heap.size, 0, none⟩ (.int .i64 n)).setCell ⟨w.heap.size, 1, none⟩ (.int .i64 p1)).setCell ⟨w.heap.size, 2, none⟩ (.int .i64 p2)).drew w.heap.size #[.int .i64 n, .int .i64 p1, .int .i64 p2] 26 := q1
      have q2' := q2.drew
      have r0 := q1'.cell 0
      have r1 := q1'.cell 1
      have r2 := q1'.cell 2
      have HQ := hide q2'
      clear q1 q2 q1' q2' x0 x1 x2 f0 f1 f2 k0 k1 k2
      generalize ((((w4.alloc (.cells #[.int .i64 n, .int .i64 p1, .int .i64 p2] 26)).setCell ⟨w.heap.size, 0, none⟩ (.int .i64 n)).setCell ⟨w.heap.size, 1, none⟩ (.int .i64 p1)).setCell ⟨w.heap.size, 2, none⟩ (.int .i64 p2)).drew = W9 at *
      go_wp2_with fail
      exact bodyPost_ret (v := .tuple #[.slice none 0 0, .agg #[.int .i64 n, .int .i64 p1, .int .i64 p2], .int .i64 20]) (by simp [results, Tryd.results13, go_sem, r0, r1, r2]) rfl ⟨by first | rfl | rw [unhide HCC], unhide HQ⟩
  · have hlt' : ¬ (n : Int) < (s.size : Int) := by omega
    have hc : (if n < s.size then (20 : Int) else 21) = 21 := if_neg hlt
    have HCC := hide hc
    clear hc hlt
    go_wp2_with fail
    go_region_with (fail)
    all_goals
      obtain ⟨q1, q2⟩ := unhide HFIN _ (unhide HB5) (unhide Hb5)
      have q1' : Blk ((((w4.alloc (.cells #[.int .i64 n, .int .i64 p1, .int .i64 p2] 26)).setCell ⟨w.heap.size, 0, none⟩ (.int .i64 n)).setCell ⟨w.heap.size, 1, none⟩ (.int .i64 p1)).setCell ⟨w.heap.size, 2, none⟩ (.int .i64 p2)).drew w.heap.size #[.int .i64 n, .int .i64 p1, .int .i64 p2] 26 := q1
      have q2' := q2.drew
      have r0 := q1'.cell 0
      have r1 := q1'.cell 1
      have r2 := q1'.cell 2
      have HQ := hide q2'
      clear q1 q2 q1' q2' x0 x1 x2 f0 f1 f2 k0 k1 k2
      generalize ((((w4.alloc (.cells #[.int .i64 n, .int .i64 p1, .int .i64 p2] 26)).setCell ⟨w.heap.size, 0, none⟩ (.int .i64 n)).setCell ⟨w.heap.size, 1, none⟩ (.int .i64 p1)).setCell ⟨w.heap.size, 2, none⟩ (.int .i64 p2)).drew = W9 at *
      go_wp2_with fail
      exact bodyPost_ret (v := .tuple #[.slice none 0 0, .agg #[.int .i64 n, .int .i64 p1, .int .i64 p2], .int .i64 21]) (by simp [results, Tryd.results13, go_sem, r0, r1, r2]) rfl ⟨by first | rfl | rw [unhide HCC], unhide HQ⟩
end Go.Proofs.YtncmabmpkdmpfaaDoor
