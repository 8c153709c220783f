/- Texts of this claim, one behind the other. -/
import Derived.Test.YtbbnppcpjpdpaaaGreatDoorScCut2
/- Where: the place of a byte of a text. -/
namespace Go.Proofs.YtbbnppcpjpdpaaaGreatDoor
open Go.RowKit Go.Shelf
set_option linter.unusedVariables false
theorem countNl_sh (s : ByteArray) (w : World) : Calls Tryz.prog 48 #[.string s, .string ⟨#[10]⟩] w fun e w' => e = .returned (.int .i64 (Lib.countByte s.data.toList 10)) ∧ w' = w := Any.strings_Count_one lay138 s 10 w
theorem lastNl_sh (s : ByteArray) (hs : s.size < 4611686018427387904) (w : World) : Calls Tryz.prog 47 #[.string s, .int .u8 10] w fun e w' => e = .returned (.int .i64 (Lib.lastIndexByte s 10)) ∧ w' = w := Any.strings_LastIndexByte lay149 s 10 hs w
/-- What stands ahead of a place, up to a spot's beginning. -/
def aheadV (s : ByteArray) (k : Nat) : ByteArray := s.extract 0 (cutAt s k)
/-- Where the last line of a text begins. -/
def lastL (t : ByteArray) : Nat := (Lib.lastIndexByte t 10 + 1).toNat
/-- Line and column. -/
def whL (s : ByteArray) (k : Nat) : Nat × Nat := (1 + Lib.countByte (aheadV s k).data.toList 10, 1 + (starts ((aheadV s k).extract (lastL (aheadV s k)) (aheadV s k).size)).length)
theorem lastL_le (t : ByteArray) : (Lib.lastIndexByte t 10 + 1) = (lastL t : Int) ∧ lastL t ≤ t.size := by
  unfold lastL
  rcases Lib.lastIndexByte_spec t 10 with ⟨h, _⟩ | ⟨i, hi, h, _⟩
  · rw [h]; exact ⟨rfl, Nat.zero_le _⟩
  · rw [h]; omega
abbrev atA (k : Nat) (x : Nat × Nat) : Array Value := #[.int .i64 k, .int .i64 x.1, .int .i64 x.2]
set_option maxRecDepth 100000 in
set_option maxHeartbeats 4000000 in
theorem where_in (s : ByteArray) (hs : s.size ≤ 262145) (k : Nat) (hk : k ≤ s.size) (w : World) : Calls Tryz.prog 28 #[.string s, .int .i64 k] w fun e w' => e = .returned (.agg (atA k (whL s k))) ∧ Below w.heap.size w w' := by
  have hkc : clampV s (k : Int) = k := by unfold clampV; omega
  have hcut := cut_any s (by unfold maxLen; omega) (k : Int)
  rw [hkc] at hcut
  obtain ⟨t, ht⟩ : ∃ t, t = aheadV s k := ⟨_, rfl⟩
  have hts : t.size ≤ s.size := by rw [ht]; unfold aheadV; rw [ByteArray.size_extract]; omega
  have hcut2 : ∀ w, Calls Tryz.prog 46 #[.string s, .int .i64 k] w fun e w' => e = .returned (.tuple #[.string t, .string (s.extract (cutAt s k) s.size)]) ∧ Below w.heap.size w w' := fun w => by rw [ht]; exact hcut w
  obtain ⟨hl1, hl2⟩ := lastL_le t
  obtain ⟨n, hn⟩ : ∃ n, n = lastL t := ⟨_, rfl⟩
  obtain ⟨j, hj⟩ : ∃ j, j = Lib.countByte t.data.toList 10 := ⟨_, rfl⟩
  have hjs : j ≤ t.size := by rw [hj]; have := List.count_le_length (a := (10 : UInt8)) (l := t.data.toList); rw [Array.length_toList] at this; exact this
  have hlast := lastNl_sh t (by omega)
  have hcnt := countNl_sh t
  rw [← hn] at hl1 hl2
  rw [← hj] at hcnt
  have hw : whL s k = (1 + j, 1 + (starts (t.extract n t.size)).length) := by unfold whL; rw [← ht, ← hj, ← hn]
  have hus : (t.extract n t.size).size ≤ t.size := by rw [ByteArray.size_extract]; omega
  have hsl := starts_length (t.extract n t.size)
  obtain ⟨u, hu⟩ : ∃ u, u = t.extract n t.size := ⟨_, rfl⟩
  rw [← hu] at hw hus hsl
  have hcu := count_any u (by unfold maxLen; omega)
  obtain ⟨z, hz⟩ : ∃ z, z = (starts u).length := ⟨_, rfl⟩
  rw [← hz] at hw hsl hcu
  have hue : t.extract n t.size = u := hu.symm
  have hks : (k : Int) ≤ (s.size : Int) := by omega
  have hk0 : (0 : Int) ≤ (k : Int) := by omega
  have hn1 : (n : Int) ≤ (t.size : Int) := by omega
  have hn2 : ((n : Nat) : Int).toNat = n := by omega
  have hjb : (j : Int) ≤ 262145 := by omega
  have hzb : (z : Int) ≤ 262145 := by omega
  have HC := hide hcut2
  have HL := hide hlast
  have HN := hide hcnt
  have HU := hide hcu
  have HW := hide hw
  have HL1 := hide hl1
  have hB0 := (Below.refl w.heap.size w).alloc (Nat.le_refl _) (.cells #[.int .i64 0, .int .i64 0, .int .i64 0] 61)
  have b0 := Blk.new w #[.int .i64 0, .int .i64 0, .int .i64 0] 61
  have Hb0 := hide b0
  have HB0 := hide hB0
  clear hcut hcut2 hlast hcnt hcu hw hl1 hu hz hn hj ht hkc hB0 b0
  go_enter Tryz.func28, Tryz.ntmps28
  go_wp2_with fail
  rw [show min (k : Int) (s.size : Int) = k by omega]
  refine (unhide HC _).mono ?_
  rintro e w1 ⟨rfl, hb⟩
  have Hb1 := hide ((unhide Hb0).below hb (unhide Hb0).lt)
  have HB1 := hide ((unhide HB0).trans (hb.mono (unhide HB0).size))
  clear hb Hb0 HB0 HC
  go_wp2_with fail
  refine (unhide HL _).mono ?_
  rintro e w2 ⟨rfl, rfl⟩
  rw [show Lib.lastIndexByte t 10 = (n : Int) - 1 by have := unhide HL1; omega]
  have hnb : (n : Int) ≤ 262145 := by omega
  have HBZ : Hz (w2.frozen? ⟨w.heap.size, 0, none⟩ = false ∧ w2.frozen? ⟨w.heap.size, 1, none⟩ = false ∧ w2.frozen? ⟨w.heap.size, 2, none⟩ = false) := hide ⟨(unhide Hb1).frozen 0, (unhide Hb1).frozen 1, (unhide Hb1).frozen 2⟩
  go_wp2_with fail
  have hB2 : ∀ w' : World, Below w2.drew.heap.size w2.drew w' → Blk w' w.heap.size #[.int .i64 0, .int .i64 0, .int .i64 0] 61 := fun w' hb => (show Blk w2.drew w.heap.size #[.int .i64 0, .int .i64 0, .int .i64 0] 61 from unhide Hb1).below hb (unhide Hb1).lt
  have HB2 := hide hB2
  clear hB2
  go_region_with ((first | (go_at_call 48; refine (unhide HN _).mono ?_; rintro e w' ⟨rfl, rfl⟩) | (go_at_call 49; refine (unhide HU _).mono ?_; rintro e w' ⟨rfl, hb⟩; have c0 := (unhide HB2 w' hb).cell 0; have c1 := (unhide HB2 w' hb).cell 1; have c2 := (unhide HB2 w' hb).cell 2; have f0 := (unhide HB2 w' hb).frozen 0; have f1 := (unhide HB2 w' hb).frozen 1; have f2 := (unhide HB2 w' hb).frozen 2)))
  rw [wrap_i64 (n := 1 + (j : Int)) (by omega) (by omega), wrap_i64 (n := 1 + (z : Int)) (by omega) (by omega)]
  have hE : Blk (((w'.setCell ⟨w.heap.size, 0, none⟩ (.int .i64 k)).setCell ⟨w.heap.size, 1, none⟩ (.int .i64 (1 + (j : Int)))).setCell ⟨w.heap.size, 2, none⟩ (.int .i64 (1 + (z : Int)))) w.heap.size #[.int .i64 k, .int .i64 (1 + (j : Int)), .int .i64 (1 + (z : Int))] 61 := (((unhide HB2 w' hb).set 0 (.int .i64 k)).set 1 (.int .i64 (1 + (j : Int)))).set 2 (.int .i64 (1 + (z : Int)))
  have hBB : Below w.heap.size w w' := (show Below w.heap.size w w2.drew from (unhide HB1).drew).trans (hb.mono (unhide HB1).size)
  have hBE := ((hBB.setCell (p := ⟨w.heap.size, 0, none⟩) (Nat.le_refl _) (.int .i64 k)).setCell (p := ⟨w.heap.size, 1, none⟩) (Nat.le_refl _) (.int .i64 (1 + (j : Int)))).setCell (p := ⟨w.heap.size, 2, none⟩) (Nat.le_refl _) (.int .i64 (1 + (z : Int)))
  have r0 := hE.cell 0
  have r1 := hE.cell 1
  have r2 := hE.cell 2
  have HBE := hide hBE
  clear hE hBB hBE hb c0 c1 c2 f0 f1 f2
  generalize (((w'.setCell ⟨w.heap.size, 0, none⟩ (.int .i64 k)).setCell ⟨w.heap.size, 1, none⟩ (.int .i64 (1 + (j : Int)))).setCell ⟨w.heap.size, 2, none⟩ (.int .i64 (1 + (z : Int)))) = W9 at *
  go_wp2_with fail
  refine bodyPost_ret (v := .agg #[.int .i64 k, .int .i64 (1 + (j : Int)), .int .i64 (1 + (z : Int))]) (by simp [results, Tryz.results28, go_sem, r0, r1, r2]) rfl ⟨?_, unhide HBE⟩
  rw [unhide HW]
  simp [atA, Int.natCast_add]
end Go.Proofs.YtbbnppcpjpdpaaaGreatDoor
/- Words: the words of a text. -/
namespace Go.Proofs.YtbbnppcpjpdpaaaGreatDoor
open Go.RowKit Go.Shelf
set_option linter.unusedVariables false
theorem whL_zero (s : ByteArray) : whL s 0 = (1, 1) := by
  have h0 : cutAt s 0 = 0 := Nat.le_zero.1 (cutAt_le s 0)
  have ha : aheadV s 0 = ByteArray.empty := by unfold aheadV; rw [h0]; exact toList_nil _ (by rw [ByteArray.size_extract]; omega)
  unfold whL
  rw [ha]
  have h1 : (ByteArray.empty.extract (lastL ByteArray.empty) ByteArray.empty.size) = ByteArray.empty := toList_nil _ (by rw [ByteArray.size_extract]; have h9 : ByteArray.empty.size = 0 := rfl; omega)
  rw [h1]
  rfl
theorem own_lower {W : World} {lo lo' E sz n : Nat} {v : Value} {xs : List Value} (h : W.ownsRow lo E sz v n xs) (hl : lo' ≤ lo) : W.ownsRow lo' E sz v n xs := by
  refine ⟨h.1, ?_⟩
  rcases h.2 with h2 | ⟨g, cap, cur, e, hb, h3⟩
  · exact .inl h2
  · exact .inr ⟨g, cap, cur, e, by omega, h3⟩
/-- What the cutter makes of a text. -/
def wordsV (s : ByteArray) : CutV := cutGo s (s.size + 1) 0 (1, 1) []
set_option maxRecDepth 100000 in
set_option maxHeartbeats 4000000 in
theorem words_yes (s : ByteArray) (hs : s.size ≤ 262144) (hok : (wordsV s).ok = true) (m : Int) (w : World) (hm : w.cell? ⟨3, 0, none⟩ = some (.int .i64 m)) (hg : 3 < w.heap.size) :
    Calls Tryz.prog 27 #[.string s] w fun e w' => ∃ v, e = .returned (.tuple #[v, .agg #[.int .i64 0, .int .i64 0, .int .i64 0], .int .i64 0]) ∧ w'.ownsRow w.heap.size 124 8 v (wordsV s).ws.length (encWs (wordsV s).ws) ∧ Below w.heap.size w w' := by
  have hl : ¬ (262144 : Int) < (s.size : Int) := by omega
  have hwh := fun w => where_in s (by omega) 0 (Nat.zero_le _) w
  simp only [whL_zero] at hwh
  have b0 := Blk.new w #[.int .i64 0, .int .i64 0, .int .i64 0] 61
  have hB0 := (Below.refl w.heap.size w).alloc (Nat.le_refl _) (.cells #[.int .i64 0, .int .i64 0, .int .i64 0] 61)
  have Hb0 := hide b0
  have HB0 := hide hB0
  have HWH := hide hwh
  have HM := hide hm
  have HOK := hide hok
  clear hwh b0 hB0 hm hok
  go_enter Tryz.func27, Tryz.ntmps27
  go_wp2_with fail
  refine (show Calls Tryz.prog 28 #[.string s, .int .i64 0] _ _ from unhide HWH _).mono ?_
  rintro e w1 ⟨rfl, hb⟩
  have Hb1 := hide ((unhide Hb0).below hb (unhide Hb0).lt)
  have HB1 := hide ((unhide HB0).trans (hb.mono (unhide HB0).size))
  clear hb Hb0 HB0 HWH
  go_wp2_with fail
  have hal := (Below.refl w1.heap.size w1).alloc (Nat.le_refl _) (.cells #[.string s, .int .i64 0, .int .i64 1, .int .i64 1, .slice none 0 0] 113)
  have bC : Blk (w1.alloc (.cells #[.string s, .int .i64 0, .int .i64 1, .int .i64 1, .slice none 0 0] 113)) w1.heap.size (ctrC s (0 : Nat) (1 : Nat) (1 : Nat) (.slice none 0 0)) 113 := Blk.new w1 _ _
  have Hb2 := hide ((unhide Hb1).below hal (unhide Hb1).lt)
  have HB2 := hide ((unhide HB1).trans (hal.mono (unhide HB1).size))
  have hw1 := (unhide HB1).size
  have hM2 : (w1.alloc (.cells #[.string s, .int .i64 0, .int .i64 1, .int .i64 1, .slice none 0 0] 113)).cell? ⟨3, 0, none⟩ = some (.int .i64 m) := ((unhide HB2).cell (p := ⟨3, 0, none⟩) hg).trans (unhide HM)
  refine (cutter_any w1.heap.size s hs m _ bC hM2 (by omega) (wordsV s) rfl).mono ?_
  rintro e w3 ⟨rfl, v, cs, hst⟩
  rw [unhide HOK]
  have hgr := hst.gr
  have HB3 : Hz (Below w.heap.size w w3) := hide ((unhide HB2).grown hgr (unhide HB2).size (fun k hk => by cases hk; exact hw1))
  have hbl := hst.blk
  have hb3 : Blk w3 w.heap.size #[.int .i64 0, .int .i64 0, .int .i64 0] 61 := (unhide Hb2).kept hgr (fun e => by have := Option.some.inj e; have := (unhide Hb1).lt; omega)
  have c4 := hbl.cell 4
  have f0 := hb3.frozen 0
  have f1 := hb3.frozen 1
  have f2 := hb3.frozen 2
  have k0 := hb3.cell 0
  have k1 := hb3.cell 1
  have k2 := hb3.cell 2
  have hown := hst.own
  have HOWN := hide hown
  have hE : Blk (((w3.setCell ⟨w.heap.size, 0, none⟩ (.int .i64 0)).setCell ⟨w.heap.size, 1, none⟩ (.int .i64 0)).setCell ⟨w.heap.size, 2, none⟩ (.int .i64 0)) w.heap.size #[.int .i64 0, .int .i64 0, .int .i64 0] 61 := ((hb3.set 0 (.int .i64 0)).set 1 (.int .i64 0)).set 2 (.int .i64 0)
  have r0 := hE.cell 0
  have r1 := hE.cell 1
  have r2 := hE.cell 2
  clear hst hbl hb3 hown hgr bC hM2 hal Hb1 Hb2 HB1 HB2 hE
  go_wp2_with fail
  have hO : (((w3.setCell ⟨w.heap.size, 0, none⟩ (.int .i64 0)).setCell ⟨w.heap.size, 1, none⟩ (.int .i64 0)).setCell ⟨w.heap.size, 2, none⟩ (.int .i64 0)).ownsRow w.heap.size 124 8 v (wordsV s).ws.length (encWs (wordsV s).ws) := by
    have hlo : w.heap.size < (w1.alloc (.cells #[.string s, .int .i64 0, .int .i64 1, .int .i64 1, .slice none 0 0] 113)).heap.size + 1 := by rw [World.size_alloc]; omega
    exact own_lower (own_keep (own_keep (own_keep (unhide HOWN) (grown_setCell' _ ⟨w.heap.size, 0, none⟩ _) hlo) (grown_setCell' _ ⟨w.heap.size, 1, none⟩ _) hlo) (grown_setCell' _ ⟨w.heap.size, 2, none⟩ _) hlo) (by omega)
  have hBE := (((unhide HB3).setCell (p := ⟨w.heap.size, 0, none⟩) (Nat.le_refl _) (.int .i64 0)).setCell (p := ⟨w.heap.size, 1, none⟩) (Nat.le_refl _) (.int .i64 0)).setCell (p := ⟨w.heap.size, 2, none⟩) (Nat.le_refl _) (.int .i64 0)
  exact bodyPost_ret (v := .tuple #[v, .agg #[.int .i64 0, .int .i64 0, .int .i64 0], .int .i64 0]) (by simp [results, Tryz.results27, go_sem, r0, r1, r2]) rfl ⟨v, rfl, hO, hBE⟩
set_option maxRecDepth 100000 in
set_option maxHeartbeats 4000000 in
theorem words_no (s : ByteArray) (hs : s.size ≤ 262144) (hok : (wordsV s).ok = false) (hb : (wordsV s).b ≤ s.size) (m : Int) (w : World) (hm : w.cell? ⟨3, 0, none⟩ = some (.int .i64 m)) (hg : 3 < w.heap.size) :
    Calls Tryz.prog 27 #[.string s] w fun e w' => e = .returned (.tuple #[.slice none 0 0, .agg (atA (wordsV s).b (whL s (wordsV s).b)), .int .i64 (if (wordsV s).b < s.size then 20 else 21)]) ∧ Below w.heap.size w w' := by
  have hl : ¬ (262144 : Int) < (s.size : Int) := by omega
  have hwh := fun w => where_in s (by omega) 0 (Nat.zero_le _) w
  simp only [whL_zero] at hwh
  have hwb := fun w => where_in s (by omega) (wordsV s).b hb w
  obtain ⟨n, hn⟩ : ∃ n, n = (wordsV s).b := ⟨_, rfl⟩
  obtain ⟨p1, p2, hp⟩ : ∃ p1 p2, whL s (wordsV s).b = (p1, p2) := ⟨_, _, rfl⟩
  simp only [hp] at hwb
  simp only [← hn] at hwb
  rw [hp, ← hn]
  have b0 := Blk.new w #[.int .i64 0, .int .i64 0, .int .i64 0] 61
  have hB0 := (Below.refl w.heap.size w).alloc (Nat.le_refl _) (.cells #[.int .i64 0, .int .i64 0, .int .i64 0] 61)
  have Hb0 := hide b0
  have HB0 := hide hB0
  have HWH := hide hwh
  have HWB := hide hwb
  have HM := hide hm
  have HOK := hide hok
  have HN := hide hn
  clear hwh b0 hB0 hm hok hwb hp hb hn
  go_enter Tryz.func27, Tryz.ntmps27
  go_wp2_with fail
  refine (show Calls Tryz.prog 28 #[.string s, .int .i64 0] _ _ from unhide HWH _).mono ?_
  rintro e w1 ⟨rfl, hb⟩
  have Hb1 := hide ((unhide Hb0).below hb (unhide Hb0).lt)
  have HB1 := hide ((unhide HB0).trans (hb.mono (unhide HB0).size))
  clear hb Hb0 HB0 HWH
  go_wp2_with fail
  have hal := (Below.refl w1.heap.size w1).alloc (Nat.le_refl _) (.cells #[.string s, .int .i64 0, .int .i64 1, .int .i64 1, .slice none 0 0] 113)
  have bC : Blk (w1.alloc (.cells #[.string s, .int .i64 0, .int .i64 1, .int .i64 1, .slice none 0 0] 113)) w1.heap.size (ctrC s (0 : Nat) (1 : Nat) (1 : Nat) (.slice none 0 0)) 113 := Blk.new w1 _ _
  have Hb2 := hide ((unhide Hb1).below hal (unhide Hb1).lt)
  have HB2 := hide ((unhide HB1).trans (hal.mono (unhide HB1).size))
  have hw1 := (unhide HB1).size
  have hM2 : (w1.alloc (.cells #[.string s, .int .i64 0, .int .i64 1, .int .i64 1, .slice none 0 0] 113)).cell? ⟨3, 0, none⟩ = some (.int .i64 m) := ((unhide HB2).cell (p := ⟨3, 0, none⟩) hg).trans (unhide HM)
  refine (cutter_any w1.heap.size s hs m _ bC hM2 (by omega) (wordsV s) rfl).mono ?_
  rintro e w3 ⟨rfl, v, cs, hst⟩
  rw [unhide HOK]
  have hgr := hst.gr
  have HB3 : Hz (Below w.heap.size w w3) := hide ((unhide HB2).grown hgr (unhide HB2).size (fun k hk => by cases hk; exact hw1))
  have hbl := hst.blk
  rw [← unhide HN] at hbl
  have hb3 : Blk w3 w.heap.size #[.int .i64 0, .int .i64 0, .int .i64 0] 61 := (unhide Hb2).kept hgr (fun e => by have := Option.some.inj e; have := (unhide Hb1).lt; omega)
  have c1 := hbl.cell 1
  have Hb3 := hide hb3
  clear hst hbl hb3 hgr bC hM2 hal Hb1 Hb2 HB1 HB2
  go_wp2_with fail
  refine (unhide HWB _).mono ?_
  rintro e w4 ⟨rfl, hb⟩
  have hb4 := (unhide Hb3).below hb (unhide Hb3).lt
  have hB4 := (unhide HB3).trans (hb.mono (unhide HB3).size)
  have s0 := Blk.new w4 #[.int .i64 n, .int .i64 p1, .int .i64 p2] 61
  have hb5 := hb4.alloc (.cells #[.int .i64 n, .int .i64 p1, .int .i64 p2] 61)
  have hB5 := hB4.alloc hB4.size (.cells #[.int .i64 n, .int .i64 p1, .int .i64 p2] 61)
  have x0 := s0.cell 0
  have x1 := s0.cell 1
  have x2 := s0.cell 2
  have f0 := hb5.frozen 0
  have f1 := hb5.frozen 1
  have f2 := hb5.frozen 2
  have k0 := hb5.cell 0
  have k1 := hb5.cell 1
  have k2 := hb5.cell 2
  have Hb5 := hide hb5
  have HB5 := hide hB5
  clear c1 hb hb4 hB4 s0 hb5 hB5 Hb3 HB3
  have hfin : ∀ (W : World) (B5 : Below w.heap.size w W) (hbk : Blk W w.heap.size #[.int .i64 0, .int .i64 0, .int .i64 0] 61), Blk (((W.setCell ⟨w.heap.size, 0, none⟩ (.int .i64 n)).setCell ⟨w.heap.size, 1, none⟩ (.int .i64 p1)).setCell ⟨w.heap.size, 2, none⟩ (.int .i64 p2)) w.heap.size #[.int .i64 n, .int .i64 p1, .int .i64 p2] 61 ∧ Below w.heap.size w (((W.setCell ⟨w.heap.size, 0, none⟩ (.int .i64 n)).setCell ⟨w.heap.size, 1, none⟩ (.int .i64 p1)).setCell ⟨w.heap.size, 2, none⟩ (.int .i64 p2)) := fun W B5 hbk =>
    ⟨((hbk.set 0 _).set 1 _).set 2 _, ((B5.setCell (p := ⟨w.heap.size, 0, none⟩) (Nat.le_refl _) _).setCell (p := ⟨w.heap.size, 1, none⟩) (Nat.le_refl _) _).setCell (p := ⟨w.heap.size, 2, none⟩) (Nat.le_refl _) _⟩
  have HFIN := hide hfin
  clear hfin
  by_cases hlt : n < s.size
  · have hlt' : (n : Int) < (s.size : Int) := by omega
    have hc : (if n < s.size then (20 : Int) else 21) = 20 := if_pos hlt
    have HCC := hide hc
    clear hc hlt
    go_wp2_with fail
    go_region_with (fail)
    all_goals
      obtain ⟨q1, q2⟩ := unhide HFIN _ (unhide HB5) (unhide Hb5)
      have q1' : Blk ((((w4.alloc (.cells #[.int .i64 n, .int .i64 p1, .int .i64 p2] 61)).setCell ⟨w.heap.size, 0, none⟩ (.int .i64 n)).setCell ⟨w.heap.size, 1, none⟩ (.int .i64 p1)).setCell ⟨w.heap.size, 2, none⟩ (.int .i64 p2)).drew w.heap.size #[.int .i64 n, .int .i64 p1, .int .i64 p2] 61 := q1
      have q2' := q2.drew
      have r0 := q1'.cell 0
      have r1 := q1'.cell 1
      have r2 := q1'.cell 2
      have HQ := hide q2'
      clear q1 q2 q1' q2' x0 x1 x2 f0 f1 f2 k0 k1 k2
      generalize ((((w4.alloc (.cells #[.int .i64 n, .int .i64 p1, .int .i64 p2] 61)).setCell ⟨w.heap.size, 0, none⟩ (.int .i64 n)).setCell ⟨w.heap.size, 1, none⟩ (.int .i64 p1)).setCell ⟨w.heap.size, 2, none⟩ (.int .i64 p2)).drew = W9 at *
      go_wp2_with fail
      exact bodyPost_ret (v := .tuple #[.slice none 0 0, .agg #[.int .i64 n, .int .i64 p1, .int .i64 p2], .int .i64 20]) (by simp [results, Tryz.results27, go_sem, r0, r1, r2]) rfl ⟨by first | rfl | rw [unhide HCC], unhide HQ⟩
  · have hlt' : ¬ (n : Int) < (s.size : Int) := by omega
    have hc : (if n < s.size then (20 : Int) else 21) = 21 := if_neg hlt
    have HCC := hide hc
    clear hc hlt
    go_wp2_with fail
    go_region_with (fail)
    all_goals
      obtain ⟨q1, q2⟩ := unhide HFIN _ (unhide HB5) (unhide Hb5)
      have q1' : Blk ((((w4.alloc (.cells #[.int .i64 n, .int .i64 p1, .int .i64 p2] 61)).setCell ⟨w.heap.size, 0, none⟩ (.int .i64 n)).setCell ⟨w.heap.size, 1, none⟩ (.int .i64 p1)).setCell ⟨w.heap.size, 2, none⟩ (.int .i64 p2)).drew w.heap.size #[.int .i64 n, .int .i64 p1, .int .i64 p2] 61 := q1
      have q2' := q2.drew
      have r0 := q1'.cell 0
      have r1 := q1'.cell 1
      have r2 := q1'.cell 2
      have HQ := hide q2'
      clear q1 q2 q1' q2' x0 x1 x2 f0 f1 f2 k0 k1 k2
      generalize ((((w4.alloc (.cells #[.int .i64 n, .int .i64 p1, .int .i64 p2] 61)).setCell ⟨w.heap.size, 0, none⟩ (.int .i64 n)).setCell ⟨w.heap.size, 1, none⟩ (.int .i64 p1)).setCell ⟨w.heap.size, 2, none⟩ (.int .i64 p2)).drew = W9 at *
      go_wp2_with fail
      exact bodyPost_ret (v := .tuple #[.slice none 0 0, .agg #[.int .i64 n, .int .i64 p1, .int .i64 p2], .int .i64 21]) (by simp [results, Tryz.results27, go_sem, r0, r1, r2]) rfl ⟨by first | rfl | rw [unhide HCC], unhide HQ⟩
end Go.Proofs.YtbbnppcpjpdpaaaGreatDoor
