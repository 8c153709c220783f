/- Texts of this claim, one behind the other. -/
import Derived.Test.YtjgfmobmilgapaaGreatDoorScCut2
import Derived.Test.YtjgfmobmilgapaaGreatDoorM9
import Derived.Test.YtjgfmobmilgapaaGreatDoorShC
/- Where: the place of a byte of a text. -/
namespace Go.Proofs.YtjgfmobmilgapaaGreatDoor
open Go.RowKit Go.Shelf
set_option linter.unusedVariables false
theorem countNl_sh (s : ByteArray) (w : World) : Calls Tryz.prog 41 #[.string s, .string ⟨#[10]⟩] w fun e w' => e = .returned (.int .i64 (Lib.countByte s.data.toList 10)) ∧ w' = w := Any.strings_Count_one lay138 s 10 w
theorem lastNl_sh (s : ByteArray) (hs : s.size < 4611686018427387904) (w : World) : Calls Tryz.prog 40 #[.string s, .int .u8 10] w fun e w' => e = .returned (.int .i64 (Lib.lastIndexByte s 10)) ∧ w' = w := Any.strings_LastIndexByte lay149 s 10 hs w
def aheadV (s : ByteArray) (k : Nat) : ByteArray := s.extract 0 (cutAt s k)
def lastL (t : ByteArray) : Nat := (Lib.lastIndexByte t 10 + 1).toNat
def whL (s : ByteArray) (k : Nat) : Nat × Nat := (1 + Lib.countByte (aheadV s k).data.toList 10, 1 + (starts ((aheadV s k).extract (lastL (aheadV s k)) (aheadV s k).size)).length)
theorem lastL_le (t : ByteArray) : (Lib.lastIndexByte t 10 + 1) = (lastL t : Int) ∧ lastL t ≤ t.size := by
  unfold lastL
  rcases Lib.lastIndexByte_spec t 10 with ⟨h, _⟩ | ⟨i, hi, h, _⟩
  · rw [h]; exact ⟨rfl, Nat.zero_le _⟩
  · rw [h]; omega
abbrev atA (k : Nat) (x : Nat × Nat) : Array Value := #[.int .i64 k, .int .i64 x.1, .int .i64 x.2]
set_option maxRecDepth 100000 in
set_option maxHeartbeats 4000000 in
theorem where_in (s : ByteArray) (hs : s.size ≤ 262145) (k : Nat) (hk : k ≤ s.size) (w : World) : Calls Tryz.prog 14 #[.string s, .int .i64 k] w fun e w' => e = .returned (.agg (atA k (whL s k))) ∧ Below w.heap.size w w' := by
  have hkc : clampV s (k : Int) = k := by unfold clampV; omega
  have hcut := cut_any s (by unfold maxLen; omega) (k : Int)
  rw [hkc] at hcut
  obtain ⟨t, ht⟩ : ∃ t, t = aheadV s k := ⟨_, rfl⟩
  have hts : t.size ≤ s.size := by rw [ht]; unfold aheadV; rw [ByteArray.size_extract]; omega
  have hcut2 : ∀ w, Calls Tryz.prog 39 #[.string s, .int .i64 k] w fun e w' => e = .returned (.tuple #[.string t, .string (s.extract (cutAt s k) s.size)]) ∧ Below w.heap.size w w' := fun w => by rw [ht]; exact hcut w
  obtain ⟨hl1, hl2⟩ := lastL_le t
  obtain ⟨n, hn⟩ : ∃ n, n = lastL t := ⟨_, rfl⟩
  obtain ⟨j, hj⟩ : ∃ j, j = Lib.countByte t.data.toList 10 := ⟨_, rfl⟩
  have hjs : j ≤ t.size := by rw [hj]; have := List.count_le_length (a := (10 : UInt8)) (l := t.data.toList); rw [Array.length_toList] at this; exact this
  have hlast := lastNl_sh t (by omega)
  have hcnt := countNl_sh t
  rw [← hn] at hl1 hl2
  rw [← hj] at hcnt
  have hw : whL s k = (1 + j, 1 + (starts (t.extract n t.size)).length) := by unfold whL; rw [← ht, ← hj, ← hn]
  have hus : (t.extract n t.size).size ≤ t.size := by rw [ByteArray.size_extract]; omega
  have hsl := starts_length (t.extract n t.size)
  obtain ⟨u, hu⟩ : ∃ u, u = t.extract n t.size := ⟨_, rfl⟩
  rw [← hu] at hw hus hsl
  have hcu := count_any u (by unfold maxLen; omega)
  obtain ⟨z, hz⟩ : ∃ z, z = (starts u).length := ⟨_, rfl⟩
  rw [← hz] at hw hsl hcu
  have hue : t.extract n t.size = u := hu.symm
  have hks : (k : Int) ≤ (s.size : Int) := by omega
  have hk0 : (0 : Int) ≤ (k : Int) := by omega
  have hn1 : (n : Int) ≤ (t.size : Int) := by omega
  have hn2 : ((n : Nat) : Int).toNat = n := by omega
  have hjb : (j : Int) ≤ 262145 := by omega
  have hzb : (z : Int) ≤ 262145 := by omega
  have HC := hide hcut2
  have HL := hide hlast
  have HN := hide hcnt
  have HU := hide hcu
  have HW := hide hw
  have HL1 := hide hl1
  have hB0 := (Below.refl w.heap.size w).alloc (Nat.le_refl _) (.cells #[.int .i64 0, .int .i64 0, .int .i64 0] 49)
  have b0 := Blk.new w #[.int .i64 0, .int .i64 0, .int .i64 0] 49
  have Hb0 := hide b0
  have HB0 := hide hB0
  clear hcut hcut2 hlast hcnt hcu hw hl1 hu hz hn hj ht hkc hB0 b0
  go_enter Tryz.func14, Tryz.ntmps14
  go_wp2_with fail
  rw [show min (k : Int) (s.size : Int) = k by omega]
  refine (unhide HC _).mono ?_
  rintro e w1 ⟨rfl, hb⟩
  have Hb1 := hide ((unhide Hb0).below hb (unhide Hb0).lt)
  have HB1 := hide ((unhide HB0).trans (hb.mono (unhide HB0).size))
  clear hb Hb0 HB0 HC
  go_wp2_with fail
  refine (unhide HL _).mono ?_
  rintro e w2 ⟨rfl, rfl⟩
  rw [show Lib.lastIndexByte t 10 = (n : Int) - 1 by have := unhide HL1; omega]
  have hnb : (n : Int) ≤ 262145 := by omega
  have HBZ : Hz (w2.frozen? ⟨w.heap.size, 0, none⟩ = false ∧ w2.frozen? ⟨w.heap.size, 1, none⟩ = false ∧ w2.frozen? ⟨w.heap.size, 2, none⟩ = false) := hide ⟨(unhide Hb1).frozen 0, (unhide Hb1).frozen 1, (unhide Hb1).frozen 2⟩
  go_wp2_with fail
  have hB2 : ∀ w' : World, Below w2.drew.heap.size w2.drew w' → Blk w' w.heap.size #[.int .i64 0, .int .i64 0, .int .i64 0] 49 := fun w' hb => (show Blk w2.drew w.heap.size #[.int .i64 0, .int .i64 0, .int .i64 0] 49 from unhide Hb1).below hb (unhide Hb1).lt
  have HB2 := hide hB2
  clear hB2
  go_region_with ((first | (go_at_call 41; refine (unhide HN _).mono ?_; rintro e w' ⟨rfl, rfl⟩) | (go_at_call 42; refine (unhide HU _).mono ?_; rintro e w' ⟨rfl, hb⟩; have c0 := (unhide HB2 w' hb).cell 0; have c1 := (unhide HB2 w' hb).cell 1; have c2 := (unhide HB2 w' hb).cell 2; have f0 := (unhide HB2 w' hb).frozen 0; have f1 := (unhide HB2 w' hb).frozen 1; have f2 := (unhide HB2 w' hb).frozen 2)))
  rw [wrap_i64 (n := 1 + (j : Int)) (by omega) (by omega), wrap_i64 (n := 1 + (z : Int)) (by omega) (by omega)]
  have hE : Blk (((w'.setCell ⟨w.heap.size, 0, none⟩ (.int .i64 k)).setCell ⟨w.heap.size, 1, none⟩ (.int .i64 (1 + (j : Int)))).setCell ⟨w.heap.size, 2, none⟩ (.int .i64 (1 + (z : Int)))) w.heap.size #[.int .i64 k, .int .i64 (1 + (j : Int)), .int .i64 (1 + (z : Int))] 49 := (((unhide HB2 w' hb).set 0 (.int .i64 k)).set 1 (.int .i64 (1 + (j : Int)))).set 2 (.int .i64 (1 + (z : Int)))
  have hBB : Below w.heap.size w w' := (show Below w.heap.size w w2.drew from (unhide HB1).drew).trans (hb.mono (unhide HB1).size)
  have hBE := ((hBB.setCell (p := ⟨w.heap.size, 0, none⟩) (Nat.le_refl _) (.int .i64 k)).setCell (p := ⟨w.heap.size, 1, none⟩) (Nat.le_refl _) (.int .i64 (1 + (j : Int)))).setCell (p := ⟨w.heap.size, 2, none⟩) (Nat.le_refl _) (.int .i64 (1 + (z : Int)))
  have r0 := hE.cell 0
  have r1 := hE.cell 1
  have r2 := hE.cell 2
  have HBE := hide hBE
  clear hE hBB hBE hb c0 c1 c2 f0 f1 f2
  generalize (((w'.setCell ⟨w.heap.size, 0, none⟩ (.int .i64 k)).setCell ⟨w.heap.size, 1, none⟩ (.int .i64 (1 + (j : Int)))).setCell ⟨w.heap.size, 2, none⟩ (.int .i64 (1 + (z : Int)))) = W9 at *
  go_wp2_with fail
  refine bodyPost_ret (v := .agg #[.int .i64 k, .int .i64 (1 + (j : Int)), .int .i64 (1 + (z : Int))]) (by simp [results, Tryz.results14, go_sem, r0, r1, r2]) rfl ⟨?_, unhide HBE⟩
  rw [unhide HW]
  simp [atA, Int.natCast_add]
theorem whL_zero (s : ByteArray) : whL s 0 = (1, 1) := by
  have h0 : cutAt s 0 = 0 := Nat.le_zero.1 (cutAt_le s 0)
  have ha : aheadV s 0 = ByteArray.empty := by unfold aheadV; rw [h0]; exact toList_nil _ (by rw [ByteArray.size_extract]; omega)
  unfold whL
  rw [ha]
  have h1 : (ByteArray.empty.extract (lastL ByteArray.empty) ByteArray.empty.size) = ByteArray.empty := toList_nil _ (by rw [ByteArray.size_extract]; have h9 : ByteArray.empty.size = 0 := rfl; omega)
  rw [h1]
  rfl
theorem own_lower {W : World} {lo lo' E sz n : Nat} {v : Value} {xs : List Value} (h : W.ownsRow lo E sz v n xs) (hl : lo' ≤ lo) : W.ownsRow lo' E sz v n xs := by
  refine ⟨h.1, ?_⟩
  rcases h.2 with h2 | ⟨g, cap, cur, e, hb, h3⟩
  · exact .inl h2
  · exact .inr ⟨g, cap, cur, e, by omega, h3⟩
def wordsV (s : ByteArray) : CutV := cutGo s (s.size + 1) 0 (1, 1) []
set_option maxRecDepth 100000 in
set_option maxHeartbeats 4000000 in
theorem words_yes (s : ByteArray) (hs : s.size ≤ 262144) (hok : (wordsV s).ok = true) (m : Int) (w : World) (hm : w.cell? ⟨7, 0, none⟩ = some (.int .i64 m)) (hg : 7 < w.heap.size) :
    Calls Tryz.prog 13 #[.string s] w fun e w' => ∃ v, e = .returned (.tuple #[v, .agg #[.int .i64 0, .int .i64 0, .int .i64 0], .int .i64 0]) ∧ w'.ownsRow w.heap.size 115 8 v (wordsV s).ws.length (encWs (wordsV s).ws) ∧ Below w.heap.size w w' := by
  have hl : ¬ (262144 : Int) < (s.size : Int) := by omega
  have hwh := fun w => where_in s (by omega) 0 (Nat.zero_le _) w
  simp only [whL_zero] at hwh
  have b0 := Blk.new w #[.int .i64 0, .int .i64 0, .int .i64 0] 49
  have hB0 := (Below.refl w.heap.size w).alloc (Nat.le_refl _) (.cells #[.int .i64 0, .int .i64 0, .int .i64 0] 49)
  have Hb0 := hide b0
  have HB0 := hide hB0
  have HWH := hide hwh
  have HM := hide hm
  have HOK := hide hok
  clear hwh b0 hB0 hm hok
  go_enter Tryz.func13, Tryz.ntmps13
  go_wp2_with fail
  refine (show Calls Tryz.prog 14 #[.string s, .int .i64 0] _ _ from unhide HWH _).mono ?_
  rintro e w1 ⟨rfl, hb⟩
  have Hb1 := hide ((unhide Hb0).below hb (unhide Hb0).lt)
  have HB1 := hide ((unhide HB0).trans (hb.mono (unhide HB0).size))
  clear hb Hb0 HB0 HWH
  go_wp2_with fail
  have hal := (Below.refl w1.heap.size w1).alloc (Nat.le_refl _) (.cells #[.string s, .int .i64 0, .int .i64 1, .int .i64 1, .slice none 0 0] 103)
  have bC : Blk (w1.alloc (.cells #[.string s, .int .i64 0, .int .i64 1, .int .i64 1, .slice none 0 0] 103)) w1.heap.size (ctrC s (0 : Nat) (1 : Nat) (1 : Nat) (.slice none 0 0)) 103 := Blk.new w1 _ _
  have Hb2 := hide ((unhide Hb1).below hal (unhide Hb1).lt)
  have HB2 := hide ((unhide HB1).trans (hal.mono (unhide HB1).size))
  have hw1 := (unhide HB1).size
  have hM2 : (w1.alloc (.cells #[.string s, .int .i64 0, .int .i64 1, .int .i64 1, .slice none 0 0] 103)).cell? ⟨7, 0, none⟩ = some (.int .i64 m) := ((unhide HB2).cell (p := ⟨7, 0, none⟩) hg).trans (unhide HM)
  refine (cutter_any w1.heap.size s hs m _ bC hM2 (by omega) (wordsV s) rfl).mono ?_
  rintro e w3 ⟨rfl, v, cs, hst⟩
  rw [unhide HOK]
  have hgr := hst.gr
  have HB3 : Hz (Below w.heap.size w w3) := hide ((unhide HB2).grown hgr (unhide HB2).size (fun k hk => by cases hk; exact hw1))
  have hbl := hst.blk
  have hb3 : Blk w3 w.heap.size #[.int .i64 0, .int .i64 0, .int .i64 0] 49 := (unhide Hb2).kept hgr (fun e => by have := Option.some.inj e; have := (unhide Hb1).lt; omega)
  have c4 := hbl.cell 4
  have f0 := hb3.frozen 0
  have f1 := hb3.frozen 1
  have f2 := hb3.frozen 2
  have k0 := hb3.cell 0
  have k1 := hb3.cell 1
  have k2 := hb3.cell 2
  have hown := hst.own
  have HOWN := hide hown
  have hE : Blk (((w3.setCell ⟨w.heap.size, 0, none⟩ (.int .i64 0)).setCell ⟨w.heap.size, 1, none⟩ (.int .i64 0)).setCell ⟨w.heap.size, 2, none⟩ (.int .i64 0)) w.heap.size #[.int .i64 0, .int .i64 0, .int .i64 0] 49 := ((hb3.set 0 (.int .i64 0)).set 1 (.int .i64 0)).set 2 (.int .i64 0)
  have r0 := hE.cell 0
  have r1 := hE.cell 1
  have r2 := hE.cell 2
  clear hst hbl hb3 hown hgr bC hM2 hal Hb1 Hb2 HB1 HB2 hE
  go_wp2_with fail
  have hO : (((w3.setCell ⟨w.heap.size, 0, none⟩ (.int .i64 0)).setCell ⟨w.heap.size, 1, none⟩ (.int .i64 0)).setCell ⟨w.heap.size, 2, none⟩ (.int .i64 0)).ownsRow w.heap.size 115 8 v (wordsV s).ws.length (encWs (wordsV s).ws) := by
    have hlo : w.heap.size < (w1.alloc (.cells #[.string s, .int .i64 0, .int .i64 1, .int .i64 1, .slice none 0 0] 103)).heap.size + 1 := by rw [World.size_alloc]; omega
    exact own_lower (own_keep (own_keep (own_keep (unhide HOWN) (grown_setCell' _ ⟨w.heap.size, 0, none⟩ _) hlo) (grown_setCell' _ ⟨w.heap.size, 1, none⟩ _) hlo) (grown_setCell' _ ⟨w.heap.size, 2, none⟩ _) hlo) (by omega)
  have hBE := (((unhide HB3).setCell (p := ⟨w.heap.size, 0, none⟩) (Nat.le_refl _) (.int .i64 0)).setCell (p := ⟨w.heap.size, 1, none⟩) (Nat.le_refl _) (.int .i64 0)).setCell (p := ⟨w.heap.size, 2, none⟩) (Nat.le_refl _) (.int .i64 0)
  exact bodyPost_ret (v := .tuple #[v, .agg #[.int .i64 0, .int .i64 0, .int .i64 0], .int .i64 0]) (by simp [results, Tryz.results13, go_sem, r0, r1, r2]) rfl ⟨v, rfl, hO, hBE⟩
set_option maxRecDepth 100000 in
set_option maxHeartbeats 4000000 in
theorem words_no (s : ByteArray) (hs : s.size ≤ 262144) (hok : (wordsV s).ok = false) (hb : (wordsV s).b ≤ s.size) (m : Int) (w : World) (hm : w.cell? ⟨7, 0, none⟩ = some (.int .i64 m)) (hg : 7 < w.heap.size) :
    Calls Tryz.prog 13 #[.string s] w fun e w' => e = .returned (.tuple #[.slice none 0 0, .agg (atA (wordsV s).b (whL s (wordsV s).b)), .int .i64 (if (wordsV s).b < s.size then 20 else 21)]) ∧ Below w.heap.size w w' := by
  have hl : ¬ (262144 : Int) < (s.size : Int) := by omega
  have hwh := fun w => where_in s (by omega) 0 (Nat.zero_le _) w
  simp only [whL_zero] at hwh
  have hwb := fun w => where_in s (by omega) (wordsV s).b hb w
  obtain ⟨n, hn⟩ : ∃ n, n = (wordsV s).b := ⟨_, rfl⟩
  obtain ⟨p1, p2, hp⟩ : ∃ p1 p2, whL s (wordsV s).b = (p1, p2) := ⟨_, _, rfl⟩
  simp only [hp] at hwb
  simp only [← hn] at hwb
  rw [hp, ← hn]
  have b0 := Blk.new w #[.int .i64 0, .int .i64 0, .int .i64 0] 49
  have hB0 := (Below.refl w.heap.size w).alloc (Nat.le_refl _) (.cells #[.int .i64 0, .int .i64 0, .int .i64 0] 49)
  have Hb0 := hide b0
  have HB0 := hide hB0
  have HWH := hide hwh
  have HWB := hide hwb
  have HM := hide hm
  have HOK := hide hok
  have HN := hide hn
  clear hwh b0 hB0 hm hok hwb hp hb hn
  go_enter Tryz.func13, Tryz.ntmps13
  go_wp2_with fail
  refine (show Calls Tryz.prog 14 #[.string s, .int .i64 0] _ _ from unhide HWH _).mono ?_
  rintro e w1 ⟨rfl, hb⟩
  have Hb1 := hide ((unhide Hb0).below hb (unhide Hb0).lt)
  have HB1 := hide ((unhide HB0).trans (hb.mono (unhide HB0).size))
  clear hb Hb0 HB0 HWH
  go_wp2_with fail
  have hal := (Below.refl w1.heap.size w1).alloc (Nat.le_refl _) (.cells #[.string s, .int .i64 0, .int .i64 1, .int .i64 1, .slice none 0 0] 103)
  have bC : Blk (w1.alloc (.cells #[.string s, .int .i64 0, .int .i64 1, .int .i64 1, .slice none 0 0] 103)) w1.heap.size (ctrC s (0 : Nat) (1 : Nat) (1 : Nat) (.slice none 0 0)) 103 := Blk.new w1 _ _
  have Hb2 := hide ((unhide Hb1).below hal (unhide Hb1).lt)
  have HB2 := hide ((unhide HB1).trans (hal.mono (unhide HB1).size))
  have hw1 := (unhide HB1).size
  have hM2 : (w1.alloc (.cells #[.string s, .int .i64 0, .int .i64 1, .int .i64 1, .slice none 0 0] 103)).cell? ⟨7, 0, none⟩ = some (.int .i64 m) := ((unhide HB2).cell (p := ⟨7, 0, none⟩) hg).trans (unhide HM)
  refine (cutter_any w1.heap.size s hs m _ bC hM2 (by omega) (wordsV s) rfl).mono ?_
  rintro e w3 ⟨rfl, v, cs, hst⟩
  rw [unhide HOK]
  have hgr := hst.gr
  have HB3 : Hz (Below w.heap.size w w3) := hide ((unhide HB2).grown hgr (unhide HB2).size (fun k hk => by cases hk; exact hw1))
  have hbl := hst.blk
  rw [← unhide HN] at hbl
  have hb3 : Blk w3 w.heap.size #[.int .i64 0, .int .i64 0, .int .i64 0] 49 := (unhide Hb2).kept hgr (fun e => by have := Option.some.inj e; have := (unhide Hb1).lt; omega)
  have c1 := hbl.cell 1
  have Hb3 := hide hb3
  clear hst hbl hb3 hgr bC hM2 hal Hb1 Hb2 HB1 HB2
  go_wp2_with fail
  refine (unhide HWB _).mono ?_
  rintro e w4 ⟨rfl, hb⟩
  have hb4 := (unhide Hb3).below hb (unhide Hb3).lt
  have hB4 := (unhide HB3).trans (hb.mono (unhide HB3).size)
  have s0 := Blk.new w4 #[.int .i64 n, .int .i64 p1, .int .i64 p2] 49
  have hb5 := hb4.alloc (.cells #[.int .i64 n, .int .i64 p1, .int .i64 p2] 49)
  have hB5 := hB4.alloc hB4.size (.cells #[.int .i64 n, .int .i64 p1, .int .i64 p2] 49)
  have x0 := s0.cell 0
  have x1 := s0.cell 1
  have x2 := s0.cell 2
  have f0 := hb5.frozen 0
  have f1 := hb5.frozen 1
  have f2 := hb5.frozen 2
  have k0 := hb5.cell 0
  have k1 := hb5.cell 1
  have k2 := hb5.cell 2
  have Hb5 := hide hb5
  have HB5 := hide hB5
  clear c1 hb hb4 hB4 s0 hb5 hB5 Hb3 HB3
  have hfin : ∀ (W : World) (B5 : Below w.heap.size w W) (hbk : Blk W w.heap.size #[.int .i64 0, .int .i64 0, .int .i64 0] 49), Blk (((W.setCell ⟨w.heap.size, 0, none⟩ (.int .i64 n)).setCell ⟨w.heap.size, 1, none⟩ (.int .i64 p1)).setCell ⟨w.heap.size, 2, none⟩ (.int .i64 p2)) w.heap.size #[.int .i64 n, .int .i64 p1, .int .i64 p2] 49 ∧ Below w.heap.size w (((W.setCell ⟨w.heap.size, 0, none⟩ (.int .i64 n)).setCell ⟨w.heap.size, 1, none⟩ (.int .i64 p1)).setCell ⟨w.heap.size, 2, none⟩ (.int .i64 p2)) := fun W B5 hbk =>
    ⟨((hbk.set 0 _).set 1 _).set 2 _, ((B5.setCell (p := ⟨w.heap.size, 0, none⟩) (Nat.le_refl _) _).setCell (p := ⟨w.heap.size, 1, none⟩) (Nat.le_refl _) _).setCell (p := ⟨w.heap.size, 2, none⟩) (Nat.le_refl _) _⟩
  have HFIN := hide hfin
  clear hfin
  by_cases hlt : n < s.size
  · have hlt' : (n : Int) < (s.size : Int) := by omega
    have hc : (if n < s.size then (20 : Int) else 21) = 20 := if_pos hlt
    have HCC := hide hc
    clear hc hlt
    go_wp2_with fail
    go_region_with (fail)
    all_goals
      obtain ⟨q1, q2⟩ := unhide HFIN _ (unhide HB5) (unhide Hb5)
      have q1' : Blk ((((w4.alloc (.cells #[.int .i64 n, .int .i64 p1, .int .i64 p2] 49)).setCell ⟨w.heap.size, 0, none⟩ (.int .i64 n)).setCell ⟨w.heap.size, 1, none⟩ (.int .i64 p1)).setCell ⟨w.heap.size, 2, none⟩ (.int .i64 p2)).drew w.heap.size #[.int .i64 n, .int .i64 p1, .int .i64 p2] 49 := q1
      have q2' := q2.drew
      have r0 := q1'.cell 0
      have r1 := q1'.cell 1
      have r2 := q1'.cell 2
      have HQ := hide q2'
      clear q1 q2 q1' q2' x0 x1 x2 f0 f1 f2 k0 k1 k2
      generalize ((((w4.alloc (.cells #[.int .i64 n, .int .i64 p1, .int .i64 p2] 49)).setCell ⟨w.heap.size, 0, none⟩ (.int .i64 n)).setCell ⟨w.heap.size, 1, none⟩ (.int .i64 p1)).setCell ⟨w.heap.size, 2, none⟩ (.int .i64 p2)).drew = W9 at *
      go_wp2_with fail
      exact bodyPost_ret (v := .tuple #[.slice none 0 0, .agg #[.int .i64 n, .int .i64 p1, .int .i64 p2], .int .i64 20]) (by simp [results, Tryz.results13, go_sem, r0, r1, r2]) rfl ⟨by first | rfl | rw [unhide HCC], unhide HQ⟩
  · have hlt' : ¬ (n : Int) < (s.size : Int) := by omega
    have hc : (if n < s.size then (20 : Int) else 21) = 21 := if_neg hlt
    have HCC := hide hc
    clear hc hlt
    go_wp2_with fail
    go_region_with (fail)
    all_goals
      obtain ⟨q1, q2⟩ := unhide HFIN _ (unhide HB5) (unhide Hb5)
      have q1' : Blk ((((w4.alloc (.cells #[.int .i64 n, .int .i64 p1, .int .i64 p2] 49)).setCell ⟨w.heap.size, 0, none⟩ (.int .i64 n)).setCell ⟨w.heap.size, 1, none⟩ (.int .i64 p1)).setCell ⟨w.heap.size, 2, none⟩ (.int .i64 p2)).drew w.heap.size #[.int .i64 n, .int .i64 p1, .int .i64 p2] 49 := q1
      have q2' := q2.drew
      have r0 := q1'.cell 0
      have r1 := q1'.cell 1
      have r2 := q1'.cell 2
      have HQ := hide q2'
      clear q1 q2 q1' q2' x0 x1 x2 f0 f1 f2 k0 k1 k2
      generalize ((((w4.alloc (.cells #[.int .i64 n, .int .i64 p1, .int .i64 p2] 49)).setCell ⟨w.heap.size, 0, none⟩ (.int .i64 n)).setCell ⟨w.heap.size, 1, none⟩ (.int .i64 p1)).setCell ⟨w.heap.size, 2, none⟩ (.int .i64 p2)).drew = W9 at *
      go_wp2_with fail
      exact bodyPost_ret (v := .tuple #[.slice none 0 0, .agg #[.int .i64 n, .int .i64 p1, .int .i64 p2], .int .i64 21]) (by simp [results, Tryz.results13, go_sem, r0, r1, r2]) rfl ⟨by first | rfl | rw [unhide HCC], unhide HQ⟩
theorem clone_any (s : ByteArray) (w : World) (hs : s.size ≤ 262144) : Calls Tryz.prog 112 #[.string s] w fun e w' => e = .returned (.string s) ∧ Below w.heap.size w w' := by
  have hc := Any.stringslite_Clone layM316 s w (by omega)
  go_enter Tryz.func112, Tryz.ntmps112
  go_wp2_with fail
  refine (show Calls Tryz.prog 132 #[.string s] w _ from hc).mono ?_
  rintro e w' ⟨rfl, hb⟩
  go_wp2_with fail
  go_ret
  exact ⟨rfl, hb⟩
theorem below_grown {W W' : World} {row : Option Nat} (h : Below W.heap.size W W') : W.grownBy W' row := ⟨h.os, h.tape, h.output, h.size, fun i hi _ => h.block i hi⟩
theorem RdE.none {W W' : World} {R Tx g : Nat} {ws : List W8} {k : Nat} {bad : Option Rf} {eb el ec : Int} (h : RdE W R Tx g ws k bad eb el ec) (hg : W.grownBy W' none) : RdE W' R Tx g ws k bad eb el ec := by
  obtain ⟨a, c, v, hb, ha, hc, hv⟩ := h.rd.blk
  exact ⟨h.rd.upd (grown_none hg) h.rd.kn a c v (hb.kept hg (by simp)) ha hc (hv.kept hg (fun F x _ => by simp)), h.en.kept hg (by simp), h.ne⟩
theorem RuSt.more {W0 W W' : World} {R Tx g lo : Nat} {ws : List W8} {k k2 : Nat} {bad bad2 : Option Rf} {eb el ec : Int} {vs : List Value} {ls : List Ln} {sv sp : Value} {ss : List (Int × Int)} {ps : List (Int × Int × Int)} (h : RuSt W0 W R Tx g lo ws k bad eb el ec vs ls) (hs : SpSt W W' R Tx g ws k2 bad2 eb el ec sv sp ss ps) :
    RuSt W0 W' R Tx g lo ws k2 bad2 eb el ec (vs ++ [sv]) (ls ++ [Ln.mk 68 2 ss.length (encS2 ss)]) := by
  have h2 := h.call hs.rd hs.gr
  refine ⟨h2.rd, h2.tb.more (own_lower hs.os h.low) (fun j x hx => ?_), h2.fr, h2.low, h2.hR, h2.hgT, h2.hgl⟩
  obtain ⟨m, hm⟩ : ∃ m, ls[j]? = some m := ⟨_, List.getElem?_eq_getElem (by have := (List.getElem?_eq_some_iff.1 hx).1; have := h.tb.ll; omega)⟩
  cases hb : sv.ownBlock with
  | none => exact .inl rfl
  | some b =>
    refine .inr fun e => ?_
    have h3 := rd_from hs.os b hb
    have h4 := own_ltW (h.tb.own j x m hx hm) b e.symm
    omega
theorem infoScript : (Tryz.prog.info? 64).map (fun i => (i.zero, i.size, i.bytes)) = some (some (.agg #[.string ⟨#[]⟩, .slice none 0 0]), 2, 40) := by kernel_rfl
theorem field_s (a : Int) (b : ByteArray) (c d e f g h : Int) (w : World) : (Instr.field 115 (.agg #[.int .i64 a, .string b, .int .i32 c, .int .i64 d, .int .i64 e, .int .i64 f, .int .i64 g, .int .i64 h]) 1).run Tryz.prog w = .ok (.string b) w := by kernel_rfl
structure Sr where
  nm : ByteArray
  sp : Sps
def scriptV (ws : List W8) (k : Nat) (bad : Option Rf) (eb el ec : Int) : Sr :=
  let a := takeV ws k bad eb el ec 1
  ⟨a.x.S, spansV ws a.k a.bad eb el ec⟩
set_option maxRecDepth 100000 in
set_option maxHeartbeats 4000000 in
theorem script_any (R Tx g lo : Nat) (ws : List W8) (k : Nat) (bad : Option Rf) (eb el ec fb fl fc : Int) (vs : List Value) (ls : List Ln) (n1 n2 : Nat) (xs1 xs2 : List Value) (hl1 : ls[0]? = some ⟨64, 2, n1, xs1⟩) (hl2 : ls[9]? = some ⟨49, 3, n2, xs2⟩) (hn1 : n1 ≤ 1000000) (hn2 : n2 ≤ 1000000) (hS : (scriptV ws k bad eb el ec).nm.size ≤ 262144) (W0 W : World) (h : RuSt W0 W R Tx g lo ws k bad eb el ec vs ls) :
    Calls Tryz.prog 80 #[.pointer (some ⟨R, 0, none⟩), .agg #[.int .i64 fb, .int .i64 fl, .int .i64 fc]] W fun e w' => (∃ r, e = .returned r) ∧ ∃ sv va vb, RuSt W0 w' R Tx g lo ws (scriptV ws k bad eb el ec).sp.k (scriptV ws k bad eb el ec).sp.bad eb el ec (((vs ++ [sv]).set 0 va).set 9 vb) (((ls ++ [Ln.mk 68 2 (scriptV ws k bad eb el ec).sp.ss.length (encS2 (scriptV ws k bad eb el ec).sp.ss)]).set 0 (Ln.mk 64 2 (n1 + 1) (xs1 ++ [.string (scriptV ws k bad eb el ec).nm, sv]))).set 9 (Ln.mk 49 3 (n2 + 1) (xs2 ++ [.int .i64 fb, .int .i64 fl, .int .i64 fc]))) := by
  have hNR : R < W.heap.size := Nat.lt_of_lt_of_le h.hR h.low
  have HLo := hide h.low
  have HV : Hz (scriptV ws k bad eb el ec = ⟨(takeV ws k bad eb el ec 1).x.S, spansV ws (takeV ws k bad eb el ec 1).k (takeV ws k bad eb el ec 1).bad eb el ec⟩) := hide rfl
  have HS := hide hS
  clear hS
  generalize scriptV ws k bad eb el ec = V at *
  obtain ⟨nm, V⟩ := V
  obtain ⟨im, him, hm0, hm1, hm2⟩ := info_parts infoScript
  have HIM := hide (And.intro him (And.intro hm0 (And.intro hm1 hm2)))
  clear him hm0 hm1 hm2
  have hmx : Tryz.prog.follows .mixedOrders = true := by kernel_rfl
  have H := hide (h.alloc (.cells #[.int .i64 fb, .int .i64 fl, .int .i64 fc] 49))
  have HX := hide (Blk.new W #[.int .i64 fb, .int .i64 fl, .int .i64 fc] 49)
  clear h
  go_enter Tryz.func80, Tryz.ntmps80
  go_wp2_with fail
  generalize W.alloc (.cells #[.int .i64 fb, .int .i64 fl, .int .i64 fc] 49) = WA at *
  generalize W.heap.size = N at *
  refine (take_e R Tx g ws k bad eb el ec 1 WA (unhide H).rd).mono ?_
  rintro e w1 ⟨rfl, hR1, hg1⟩
  have H1 := hide ((unhide H).call hR1 hg1)
  have HX1 := hide ((unhide HX).kept hg1 (fun e => by have := Option.some.inj e; omega))
  clear hR1 hg1 H HX
  generalize takeV ws k bad eb el ec 1 = A at *
  obtain ⟨⟨ak, aS, ar, an, ab, al, ac, ae⟩, k1, bad1⟩ := A
  dsimp only at H1 HV
  obtain ⟨rfl, hV2⟩ : nm = aS ∧ V = spansV ws k1 bad1 eb el ec := by have := unhide HV; injection this with a b; exact ⟨a, b⟩
  have HSP := hide (fun (w : World) => spans_e R Tx g ws k1 bad1 eb el ec V hV2.symm w)
  have HSZ : Hz (nm.size ≤ 262144) := HS
  clear hV2 HV HS
  unfold wV
  dsimp only
  have hf := field_s ak nm ar an ab al ac ae
  have HC := hide (clone_any nm w1 (unhide HSZ))
  go_wp2_with fail
  refine (unhide HC).mono ?_
  rintro e w2 ⟨rfl, hb2⟩
  have hg2 : w1.grownBy w2 none := below_grown hb2
  have H2 := hide ((unhide H1).call ((unhide H1).rd.none hg2) (grown_none hg2))
  have HX2 := hide ((unhide HX1).kept hg2 (by simp))
  clear hb2 hg2 H1 HX1 hf HC
  go_wp2_with fail
  refine (unhide HSP w2 (unhide H2).rd).mono ?_
  rintro e w3 ⟨sv, sp, rfl, hst⟩
  obtain ⟨ss, ps, k3, bad3⟩ := V
  dsimp only at hst
  dsimp only
  have H3 := hide ((unhide H2).more hst)
  have HX3 := hide ((unhide HX2).kept hst.gr (fun e => by have := Option.some.inj e; omega))
  obtain ⟨sa, sc, rfl⟩ := own_slice hst.os
  clear hst H2 HX2 HSP
  have hl1' : (ls ++ [Ln.mk 68 2 ss.length (encS2 ss)])[0]? = some ⟨64, 2, n1, xs1⟩ := by rw [List.getElem?_append_left (List.getElem?_eq_some_iff.1 hl1).1]; exact hl1
  have hl2' : (ls ++ [Ln.mk 68 2 ss.length (encS2 ss)])[9]? = some ⟨49, 3, n2, xs2⟩ := by rw [List.getElem?_append_left (List.getElem?_eq_some_iff.1 hl2).1]; exact hl2
  obtain ⟨lt, hlt0⟩ : ∃ lt, lt = ls ++ [Ln.mk 68 2 ss.length (encS2 ss)] := ⟨_, rfl⟩
  rw [← hlt0] at H3 hl1' hl2'
  have HLT := hide hlt0
  clear hlt0
  obtain ⟨vt, hvt⟩ : ∃ vt, vt = vs ++ [Value.slice sa ss.length sc] := ⟨_, rfl⟩
  rw [← hvt] at H3
  have HVT := hide hvt
  clear hvt
  go_wp2_with fail
  obtain ⟨v, hv⟩ : ∃ v, vt[0]? = some v := ⟨_, List.getElem?_eq_getElem (by have := (unhide H3).tb.lv; omega)⟩
  have how := (unhide H3).tb.own _ _ _ hv hl1'
  obtain ⟨va, vc, rfl⟩ := own_slice how
  have hg0 : ∀ b, Value.ownBlock (.slice va n1 vc) = some b → lo ≤ b := rd_from how
  obtain ⟨ra, rc, rv, hrb, _, _, _⟩ := (unhide H3).rd.rd.blk
  have c1 : w3.cell? ⟨R, 1, none⟩ = some (.pointer (some ⟨Tx, 0, none⟩)) := hrb.cell 1
  have t0 := (unhide H3).tb.cell (by omega) hv
  have hTl := (unhide H3).tb.lt
  have hRl := (unhide H3).hR
  have hl3 := (unhide H3).low
  have hltR : R < w3.heap.size := by omega
  have hltT : Tx < w3.heap.size := by omega
  have ca1 := (hrb.alloc (.cells #[.string nm, .slice sa ss.length sc] 64)).cell 1
  have ta := ((unhide H3).tb.kept (R := R) hRl (unhide H3).rd.ne (World.grownBy_alloc w3 (.cells #[.string nm, .slice sa ss.length sc] 64) _))
  have t1 := ta.cell (by omega) hv
  have hNx : some N ≠ Value.ownBlock (.slice va n1 vc) := blk_row (unhide HX3) how (show (64 : Nat) ≠ 49 by decide)
  clear hrb
  go_region_law (refine step_append_lies _ (by rfl) _ _ _ (by rfl) lo 64 im (.agg #[.string ⟨#[]⟩, .slice none 0 0]) 2 40 Tryz.underlying22 (unhide HIM).1 (unhide HIM).2.1 (unhide HIM).2.2.1 (unhide HIM).2.2.2 rfl (by omega) _ n1 xs1 (by rfl) (how.alloc _).drew ⟨w3.heap.size, 0, none⟩ 1 1 [.string nm, .slice sa ss.length sc] (by rfl) (by rfl) (World.news_of_block (cs := #[.string nm, .slice sa ss.length sc]) (t := 64) (fr := (0, 0)) (heap_alloc_new w3 _)) (by simp [Value.oneCell']) (by omega) (by unfold maxLen; omega) (by omega) (by simp; omega) (w3.heap.size + 1) (by simp) ?_; intro gg cap w4 hown1 hgrow hatt hlt; have q1 : w4.cell? ⟨Tx, 0, none⟩ = some (.slice va n1 vc) := hgrow.cell (a := ⟨Tx, 0, none⟩) t1 (by show some Tx ≠ Value.ownBlock (.slice va n1 vc); intro e; have := hg0 Tx e.symm; omega); have q2 : w4.frozen? ⟨Tx, 0, none⟩ = false := (Blk.kept (W := (w3.alloc _).drew) ta.blk hgrow (fun e => by have := hg0 Tx e.symm; omega)).frozen 0; have q3 : w4.cell? ⟨R, 1, none⟩ = some (.pointer (some ⟨Tx, 0, none⟩)) := hgrow.cell (a := ⟨R, 1, none⟩) ca1 (by show some R ≠ Value.ownBlock (.slice va n1 vc); intro e; have := hg0 R e.symm; omega))
  all_goals
    have H4 := hide (((unhide H3).alloc (.cells #[.string nm, .slice sa ss.length sc] 64)).put (W1 := w4) (by omega) hv hl1' (show (64 : Nat) ≠ 54 by decide) hown1 ⟨hgrow.os, hgrow.tape, hgrow.output, hgrow.size, hgrow.block⟩ (by rcases hatt with e | e; exact .inl e.symm; exact .inr (by rw [e]; simp [Value.ownBlock])))
    have hx5 := (Blk.kept (W := (w3.alloc (.cells #[.string nm, .slice sa ss.length sc] 64)).drew) ((unhide HX3).alloc _) hgrow hNx).kept (grown_set' w4 Tx 0 (.slice (some ⟨gg, 0, none⟩) (n1 + 1) cap)) (fun e => by have := Option.some.inj e; have := unhide HLo; omega)
    clear hgrow hown1 hatt hlt q1 q2 q3 H3 HX3 how c1 t0 ca1 ta t1
    generalize w4.setCell ⟨Tx, 0, none⟩ (.slice (some ⟨gg, 0, none⟩) (n1 + 1) cap) = w5 at *
    have x0 := hx5.cell 0
    have x1 := hx5.cell 1
    have x2 := hx5.cell 2
    clear hx5
    have HP := hide (Blk.new w5 #[.int .i64 fb, .int .i64 fl, .int .i64 fc] 49)
    go_wp2_with fail
    refine (rows_ru W0 R Tx g lo ws k3 bad3 eb el ec _ _ 1 (by omega) n2 xs2 (by rw [List.getElem?_set_ne (by decide)]; exact hl2') _ 1 1 [.int .i64 fb, .int .i64 fl, .int .i64 fc] (by omega) _ ((unhide H4).alloc _) (.inr ⟨_, rfl, by decide, rfl, World.news_of_block (cs := #[.int .i64 fb, .int .i64 fl, .int .i64 fc]) (t := 49) (fr := (0, 0)) (heap_alloc_new w5 _), by simp [Value.oneCell']⟩)).mono ?_
    rintro e w6 ⟨⟨r, rfl⟩, vb, hfin⟩
    go_wp2_with fail
    go_end0
    exact ⟨⟨_, rfl⟩, .slice sa ss.length sc, _, vb, by rw [← unhide HVT, ← unhide HLT]; exact hfin⟩
end Go.Proofs.YtjgfmobmilgapaaGreatDoor
