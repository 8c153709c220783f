/- ScanLimits: around the greatest length. -/
import Derived.Test.YtncmabmpkdmpfaaDoorScKn
import Derived.Test.YtncmabmpkdmpfaaDoorScLimM
import Derived.Test.YtncmabmpkdmpfaaDoorWithin
import Derived.Test.YtncmabmpkdmpfaaDoorScHex
import Derived.Laws.MakeOwn
import Derived.Laws.OwnMore
namespace Go.Proofs.YtncmabmpkdmpfaaDoor
open Go.RowKit Go.Shelf
set_option linter.unusedVariables false
set_option maxRecDepth 100000 in
set_option maxHeartbeats 4000000 in
theorem words_long (s : ByteArray) (hs : s.size = 262145) (w : World) :
    Calls Tryd.prog 13 #[.string s] w fun e w' => e = .returned (.tuple #[.slice none 0 0, .agg #[.int .i64 0, .int .i64 1, .int .i64 1], .int .i64 3]) ∧ Below w.heap.size w w' := by
  have hl : (262144 : Int) < (s.size : Int) := by omega
  have hwh := fun w => where_in s (by omega) 0 (Nat.zero_le _) w
  simp only [whL_zero] at hwh
  have b0 := Blk.new w #[.int .i64 0, .int .i64 0, .int .i64 0] 26
  have hB0 := (Below.refl w.heap.size w).alloc (Nat.le_refl _) (.cells #[.int .i64 0, .int .i64 0, .int .i64 0] 26)
  have Hb0 := hide b0
  have HB0 := hide hB0
  have HWH := hide hwh
  clear hwh b0 hB0
  go_enter Tryd.func13, Tryd.ntmps13
  go_wp2_with fail
  refine (show Calls Tryd.prog 10 #[.string s, .int .i64 0] _ _ from unhide HWH _).mono ?_
  rintro e w1 ⟨rfl, hb⟩
  have hb1 := (unhide Hb0).below hb (unhide Hb0).lt
  have hB1 := (unhide HB0).trans (hb.mono (unhide HB0).size)
  have f0 := hb1.frozen 0
  have f1 := hb1.frozen 1
  have f2 := hb1.frozen 2
  have k0 := hb1.cell 0
  have k1 := hb1.cell 1
  have k2 := hb1.cell 2
  have hE := ((hb1.set 0 (.int .i64 0)).set 1 (.int .i64 1)).set 2 (.int .i64 1)
  have hBE := ((hB1.setCell (p := ⟨w.heap.size, 0, none⟩) (Nat.le_refl _) (.int .i64 0)).setCell (p := ⟨w.heap.size, 1, none⟩) (Nat.le_refl _) (.int .i64 1)).setCell (p := ⟨w.heap.size, 2, none⟩) (Nat.le_refl _) (.int .i64 1)
  have r0 := hE.cell 0
  have r1 := hE.cell 1
  have r2 := hE.cell 2
  have HBE := hide hBE
  clear hb hb1 hB1 hE hBE Hb0 HB0 HWH
  go_wp2_with fail
  exact bodyPost_ret (v := .tuple #[.slice none 0 0, .agg #[.int .i64 0, .int .i64 1, .int .i64 1], .int .i64 3]) (by simp [results, Tryd.results13, go_sem, r0, r1, r2]) rfl ⟨rfl, unhide HBE⟩
/-- A block of bytes whose first i are c. -/
def FillAt (W : World) (B N : Nat) (c : UInt8) (i : Nat) : Prop := ∃ cur : Array Value, Blk W B cur 5 ∧ cur.size = N ∧ ∀ j, j < i → cur[j]? = some (.int .u8 (c.toNat : Int))
theorem FillAt.push {W : World} {B N : Nat} {c : UInt8} {i : Nat} (h : FillAt W B N c i) (hi : i < N) : FillAt (W.setCell ⟨B, i, none⟩ (.int .u8 (c.toNat : Int))) B N c (i + 1) := by
  obtain ⟨cur, hb, hs, hj⟩ := h
  refine ⟨_, hb.set i _, by simp [hs], fun j h1 => ?_⟩
  rw [Array.getElem?_setIfInBounds]
  by_cases e : i = j
  · subst e; rw [if_pos rfl, if_pos (by omega)]
  · rw [if_neg e]; exact hj j (by omega)
theorem FillAt.has {W : World} {B N : Nat} {c : UInt8} {i : Nat} (h : FillAt W B N c i) (j : Nat) (hj : j < N) : ∃ v, W.cell? ⟨B, j, none⟩ = some v := by
  obtain ⟨cur, hb, hs, _⟩ := h
  exact ⟨_, (hb.cell j).trans (Array.getElem?_eq_getElem (by omega))⟩
theorem FillAt.frozen {W : World} {B N : Nat} {c : UInt8} {i : Nat} (h : FillAt W B N c i) (j : Nat) : W.frozen? ⟨B, j, none⟩ = false := by
  obtain ⟨cur, hb, _⟩ := h
  exact hb.frozen j
theorem FillAt.text {W : World} {B N : Nat} {c : UInt8} (h : FillAt W B N c N) : (convert 39 9 (.slice (some ⟨B, 0, none⟩) N N)).run Tryd.prog W = .ok (.string (repB N c)) W := by
  obtain ⟨cur, hb, hs, hj⟩ := h
  have hl : (List.replicate N c).length = N := List.length_replicate
  have := run_convert_bytes_back W 39 9 5 ⟨B, 0, none⟩ N (List.replicate N c) Tryd.underlying39 Tryd.underlying5 Tryd.underlying9 (fun j h1 => by
    rw [show (⟨B, 0, none⟩ : Addr).add j = ⟨B, j, none⟩ by unfold Addr.add; split <;> simp_all]
    rw [List.getElem_replicate]
    exact (hb.cell j).trans (hj j (by omega)))
  rw [hl] at this
  rw [this]
  congr 2
theorem infoBy : (Tryd.prog.info? 5).map (fun i => (i.zero, i.size, i.bytes)) = some (some (.int .u8 0), 1, 1) := by kernel_rfl
set_option maxRecDepth 100000 in
theorem make_bytes (N : Nat) (x : Int) (hx : x = N) (hN : N ≤ 1048576) (w : World) : (Instr.makeSlice 39 (.int .i64 x) (.int .i64 x)).run Tryd.prog w = .ok (.slice (some ⟨w.heap.size, 0, none⟩) N N) (w.alloc (.cells (List.replicate N (Value.int .u8 0)).toArray 5)) := by
  subst hx
  obtain ⟨i0, hi, hz0, hz1, hz2⟩ := info_parts infoBy
  have := run_make (P := Tryd.prog) w 39 5 i0 (.int .u8 0) Tryd.underlying39 hi hz0 .i64 .i64 (N : Int) (N : Int) (by omega) (by omega) (by rw [hz2]; omega) (by omega)
  rw [hz1, show ((N : Int)).toNat = N by omega, Nat.mul_one] at this
  rw [this]
  congr 3
  apply Array.ext'
  exact toList_madeCells_one _ _
theorem own_none {W : World} {lo E sz : Nat} {v : Value} {xs : List Value} (h : W.ownsRow lo E sz v 0 xs) : ∃ a cap, v = .slice a 0 cap := by
  rcases h.2 with ⟨rfl, _⟩ | ⟨g, cap, cur, rfl, _⟩
  · exact ⟨none, 0, rfl⟩
  · exact ⟨_, _, rfl⟩
set_option maxRecDepth 100000 in
set_option maxHeartbeats 8000000 in
theorem lim_A0 (n kind : Int) (hq : (0 : Int) + kind % (3 - 0 + 1) = 0) (d : Int) (hd : -1 + n % (1 - -1 + 1) = d) (N : Nat) (hN : 262144 + d = N) (hd1 : 0 < d) (hd2 : d ≤ 1) (m : Int) (w : World) (hE : Env m w) : Calls Tryd.prog 6 #[.int .i64 n, .int .i64 kind] w fun e w' => e = .returned (.bool true) ∧ Below w.heap.size w w' := by
  have hw1 := within_any n (-1) 1 (by omega) (by omega) (by omega)
  have hw2 := within_any kind 0 3 (by omega) (by omega) (by omega)
  have hdb : -1 ≤ d := by
    have := Int.emod_nonneg n (show (1 : Int) - -1 + 1 ≠ 0 by omega)
    omega
  rw [hd] at hw1
  rw [hq] at hw2
  have hN3 : 262143 ≤ N ∧ N ≤ 262145 := by omega
  have hmk := fun w => make_bytes N (262144 + d) hN (by omega) w
  have H1 := hide hw1
  have H2 := hide hw2
  have HE := hide hE
  have hNb : (N : Int) ≤ 262145 := by omega
  have HD : Hz (262144 + d = N ∧ -1 ≤ d) := hide ⟨hN, hdb⟩
  clear hw1 hw2 hd hq hE hN
  go_enter Tryd.func6, Tryd.ntmps6
  go_wp2_with fail
  refine (unhide H1 _).mono ?_
  rintro e w1 ⟨rfl, rfl⟩
  go_wp2_with fail
  refine (unhide H2 _).mono ?_
  rintro e w2 ⟨rfl, rfl⟩
  go_wp2_with fail
  obtain ⟨W0, hW0⟩ : ∃ W0, W0 = w1.alloc (.cells #[.string ⟨#[32]⟩, .string ⟨#[59]⟩, .string ⟨#[35]⟩, .string ⟨#[10]⟩] 9) := ⟨_, rfl⟩
  have hs0 : W0.heap.size = w1.heap.size + 1 := by rw [hW0, World.size_alloc]
  have hb0 : Below w1.heap.size w1 W0 := by rw [hW0]; exact (Below.refl _ _).alloc (Nat.le_refl _) _
  have hfl : FillAt (W0.alloc (.cells (List.replicate N (Value.int .u8 0)).toArray 5)) W0.heap.size N 32 0 := ⟨_, Blk.new W0 _ _, by simp, fun j h => by omega⟩
  have hb1 := hb0.alloc hb0.size (.cells (List.replicate N (Value.int .u8 0)).toArray 5)
  rw [← hW0]
  rw [List.toArray_replicate] at hfl hb1
  rw [hs0] at hfl
  have HI := hide hfl
  have HB := hide hb1
  generalize W0.alloc (.cells (Array.replicate N (Value.int .u8 0)) 5) = W1 at *
  clear hfl hb1 hb0 hs0 hW0 hmk
  go_loopw [8] (fun i wr => ∃ I : Nat, I ≤ N ∧ i = .int .i64 I ∧ Hz (FillAt wr (w1.heap.size + 1) N 32 I) ∧ Hz (Below w1.heap.size w1 wr)) (fun i _ => N - (intOf i).toNat)
  case atStart => exact ⟨0, by omega, rfl, HI, HB⟩
  case round =>
    obtain ⟨I, hI, rfl, HF, HW⟩ := hrel
    by_cases hIN : I < N
    · have hIN' : (I : Int) < (N : Int) := by omega
      obtain ⟨v0, hv0⟩ := (unhide HF).has I hIN
      have hf0 := (unhide HF).frozen I
      have HP := hide ((unhide HF).push hIN)
      have HP2 := hide ((unhide HW).setCell (p := ⟨w1.heap.size + 1, I, none⟩) (by simp) (.int .u8 (((32 : UInt8).toNat : Nat) : Int)))
      go_wp2_with fail
      go_roundw
      case rel => exact ⟨I + 1, by omega, by go_num, HP, HP2⟩
      case measure => simp [intOf]; omega
    · have hIN' : ¬ (I : Int) < (N : Int) := by omega
      have hIe : I = N := by omega
      have hFN := unhide HF
      rw [hIe] at hFN
      have hcv := hFN.text
      have HE2 := hide ((unhide HE).below (unhide HW) (Nat.le_refl _))
      clear hIe hFN
      go_wp2_with fail
      refine (words_long (repB N 32) (by rw [repB_size]; have := unhide HD; omega) _).mono ?_
      rintro e w4 ⟨rfl, hb⟩
      have hbb := hb.alloc hb.size (.cells #[.int .i64 0, .int .i64 1, .int .i64 1] 26)
      have HB4 := hide ((unhide HW).trans (hbb.mono (unhide HW).size))
      have HE4 := hide ((unhide HE2).below hbb (Nat.le_refl _))
      have hbk := Blk.new w4 #[.int .i64 0, .int .i64 1, .int .i64 1] 26
      have a0 := hbk.cell 0
      have a1 := hbk.cell 1
      have a2 := hbk.cell 2
      clear hb hbb hbk
      go_wp2_with fail
      refine (known_any m _ (unhide HE4)).mono ?_
      rintro e w5 ⟨rfl, hb⟩
      have HB5 := hide ((unhide HB4).trans (hb.mono (unhide HB4).size))
      clear hb
      go_wp2_with fail
      go_ret
      exact ⟨rfl, unhide HB5⟩
set_option maxRecDepth 100000 in
set_option maxHeartbeats 8000000 in
theorem lim_A1 (n kind : Int) (hq : (0 : Int) + kind % (3 - 0 + 1) = 1) (d : Int) (hd : -1 + n % (1 - -1 + 1) = d) (N : Nat) (hN : 262144 + d = N) (hd1 : 0 < d) (hd2 : d ≤ 1) (m : Int) (w : World) (hE : Env m w) : Calls Tryd.prog 6 #[.int .i64 n, .int .i64 kind] w fun e w' => e = .returned (.bool true) ∧ Below w.heap.size w w' := by
  have hw1 := within_any n (-1) 1 (by omega) (by omega) (by omega)
  have hw2 := within_any kind 0 3 (by omega) (by omega) (by omega)
  have hdb : -1 ≤ d := by
    have := Int.emod_nonneg n (show (1 : Int) - -1 + 1 ≠ 0 by omega)
    omega
  rw [hd] at hw1
  rw [hq] at hw2
  have hN3 : 262143 ≤ N ∧ N ≤ 262145 := by omega
  have hmk := fun w => make_bytes N (262144 + d) hN (by omega) w
  have H1 := hide hw1
  have H2 := hide hw2
  have HE := hide hE
  have hNb : (N : Int) ≤ 262145 := by omega
  have HD : Hz (262144 + d = N ∧ -1 ≤ d) := hide ⟨hN, hdb⟩
  clear hw1 hw2 hd hq hE hN
  go_enter Tryd.func6, Tryd.ntmps6
  go_wp2_with fail
  refine (unhide H1 _).mono ?_
  rintro e w1 ⟨rfl, rfl⟩
  go_wp2_with fail
  refine (unhide H2 _).mono ?_
  rintro e w2 ⟨rfl, rfl⟩
  go_wp2_with fail
  obtain ⟨W0, hW0⟩ : ∃ W0, W0 = w1.alloc (.cells #[.string ⟨#[32]⟩, .string ⟨#[59]⟩, .string ⟨#[35]⟩, .string ⟨#[10]⟩] 9) := ⟨_, rfl⟩
  have hs0 : W0.heap.size = w1.heap.size + 1 := by rw [hW0, World.size_alloc]
  have hb0 : Below w1.heap.size w1 W0 := by rw [hW0]; exact (Below.refl _ _).alloc (Nat.le_refl _) _
  have hfl : FillAt (W0.alloc (.cells (List.replicate N (Value.int .u8 0)).toArray 5)) W0.heap.size N 59 0 := ⟨_, Blk.new W0 _ _, by simp, fun j h => by omega⟩
  have hb1 := hb0.alloc hb0.size (.cells (List.replicate N (Value.int .u8 0)).toArray 5)
  rw [← hW0]
  rw [List.toArray_replicate] at hfl hb1
  rw [hs0] at hfl
  have HI := hide hfl
  have HB := hide hb1
  generalize W0.alloc (.cells (Array.replicate N (Value.int .u8 0)) 5) = W1 at *
  clear hfl hb1 hb0 hs0 hW0 hmk
  go_loopw [8] (fun i wr => ∃ I : Nat, I ≤ N ∧ i = .int .i64 I ∧ Hz (FillAt wr (w1.heap.size + 1) N 59 I) ∧ Hz (Below w1.heap.size w1 wr)) (fun i _ => N - (intOf i).toNat)
  case atStart => exact ⟨0, by omega, rfl, HI, HB⟩
  case round =>
    obtain ⟨I, hI, rfl, HF, HW⟩ := hrel
    by_cases hIN : I < N
    · have hIN' : (I : Int) < (N : Int) := by omega
      obtain ⟨v0, hv0⟩ := (unhide HF).has I hIN
      have hf0 := (unhide HF).frozen I
      have HP := hide ((unhide HF).push hIN)
      have HP2 := hide ((unhide HW).setCell (p := ⟨w1.heap.size + 1, I, none⟩) (by simp) (.int .u8 (((59 : UInt8).toNat : Nat) : Int)))
      go_wp2_with fail
      go_roundw
      case rel => exact ⟨I + 1, by omega, by go_num, HP, HP2⟩
      case measure => simp [intOf]; omega
    · have hIN' : ¬ (I : Int) < (N : Int) := by omega
      have hIe : I = N := by omega
      have hFN := unhide HF
      rw [hIe] at hFN
      have hcv := hFN.text
      have HE2 := hide ((unhide HE).below (unhide HW) (Nat.le_refl _))
      clear hIe hFN
      go_wp2_with fail
      refine (words_long (repB N 59) (by rw [repB_size]; have := unhide HD; omega) _).mono ?_
      rintro e w4 ⟨rfl, hb⟩
      have hbb := hb.alloc hb.size (.cells #[.int .i64 0, .int .i64 1, .int .i64 1] 26)
      have HB4 := hide ((unhide HW).trans (hbb.mono (unhide HW).size))
      have HE4 := hide ((unhide HE2).below hbb (Nat.le_refl _))
      have hbk := Blk.new w4 #[.int .i64 0, .int .i64 1, .int .i64 1] 26
      have a0 := hbk.cell 0
      have a1 := hbk.cell 1
      have a2 := hbk.cell 2
      clear hb hbb hbk
      go_wp2_with fail
      refine (known_any m _ (unhide HE4)).mono ?_
      rintro e w5 ⟨rfl, hb⟩
      have HB5 := hide ((unhide HB4).trans (hb.mono (unhide HB4).size))
      clear hb
      go_wp2_with fail
      go_ret
      exact ⟨rfl, unhide HB5⟩
set_option maxRecDepth 100000 in
set_option maxHeartbeats 8000000 in
theorem lim_A2 (n kind : Int) (hq : (0 : Int) + kind % (3 - 0 + 1) = 2) (d : Int) (hd : -1 + n % (1 - -1 + 1) = d) (N : Nat) (hN : 262144 + d = N) (hd1 : 0 < d) (hd2 : d ≤ 1) (m : Int) (w : World) (hE : Env m w) : Calls Tryd.prog 6 #[.int .i64 n, .int .i64 kind] w fun e w' => e = .returned (.bool true) ∧ Below w.heap.size w w' := by
  have hw1 := within_any n (-1) 1 (by omega) (by omega) (by omega)
  have hw2 := within_any kind 0 3 (by omega) (by omega) (by omega)
  have hdb : -1 ≤ d := by
    have := Int.emod_nonneg n (show (1 : Int) - -1 + 1 ≠ 0 by omega)
    omega
  rw [hd] at hw1
  rw [hq] at hw2
  have hN3 : 262143 ≤ N ∧ N ≤ 262145 := by omega
  have hmk := fun w => make_bytes N (262144 + d) hN (by omega) w
  have H1 := hide hw1
  have H2 := hide hw2
  have HE := hide hE
  have hNb : (N : Int) ≤ 262145 := by omega
  have HD : Hz (262144 + d = N ∧ -1 ≤ d) := hide ⟨hN, hdb⟩
  clear hw1 hw2 hd hq hE hN
  go_enter Tryd.func6, Tryd.ntmps6
  go_wp2_with fail
  refine (unhide H1 _).mono ?_
  rintro e w1 ⟨rfl, rfl⟩
  go_wp2_with fail
  refine (unhide H2 _).mono ?_
  rintro e w2 ⟨rfl, rfl⟩
  go_wp2_with fail
  obtain ⟨W0, hW0⟩ : ∃ W0, W0 = w1.alloc (.cells #[.string ⟨#[32]⟩, .string ⟨#[59]⟩, .string ⟨#[35]⟩, .string ⟨#[10]⟩] 9) := ⟨_, rfl⟩
  have hs0 : W0.heap.size = w1.heap.size + 1 := by rw [hW0, World.size_alloc]
  have hb0 : Below w1.heap.size w1 W0 := by rw [hW0]; exact (Below.refl _ _).alloc (Nat.le_refl _) _
  have hfl : FillAt (W0.alloc (.cells (List.replicate N (Value.int .u8 0)).toArray 5)) W0.heap.size N 35 0 := ⟨_, Blk.new W0 _ _, by simp, fun j h => by omega⟩
  have hb1 := hb0.alloc hb0.size (.cells (List.replicate N (Value.int .u8 0)).toArray 5)
  rw [← hW0]
  rw [List.toArray_replicate] at hfl hb1
  rw [hs0] at hfl
  have HI := hide hfl
  have HB := hide hb1
  generalize W0.alloc (.cells (Array.replicate N (Value.int .u8 0)) 5) = W1 at *
  clear hfl hb1 hb0 hs0 hW0 hmk
  go_loopw [8] (fun i wr => ∃ I : Nat, I ≤ N ∧ i = .int .i64 I ∧ Hz (FillAt wr (w1.heap.size + 1) N 35 I) ∧ Hz (Below w1.heap.size w1 wr)) (fun i _ => N - (intOf i).toNat)
  case atStart => exact ⟨0, by omega, rfl, HI, HB⟩
  case round =>
    obtain ⟨I, hI, rfl, HF, HW⟩ := hrel
    by_cases hIN : I < N
    · have hIN' : (I : Int) < (N : Int) := by omega
      obtain ⟨v0, hv0⟩ := (unhide HF).has I hIN
      have hf0 := (unhide HF).frozen I
      have HP := hide ((unhide HF).push hIN)
      have HP2 := hide ((unhide HW).setCell (p := ⟨w1.heap.size + 1, I, none⟩) (by simp) (.int .u8 (((35 : UInt8).toNat : Nat) : Int)))
      go_wp2_with fail
      go_roundw
      case rel => exact ⟨I + 1, by omega, by go_num, HP, HP2⟩
      case measure => simp [intOf]; omega
    · have hIN' : ¬ (I : Int) < (N : Int) := by omega
      have hIe : I = N := by omega
      have hFN := unhide HF
      rw [hIe] at hFN
      have hcv := hFN.text
      have HE2 := hide ((unhide HE).below (unhide HW) (Nat.le_refl _))
      clear hIe hFN
      go_wp2_with fail
      refine (words_long (repB N 35) (by rw [repB_size]; have := unhide HD; omega) _).mono ?_
      rintro e w4 ⟨rfl, hb⟩
      have hbb := hb.alloc hb.size (.cells #[.int .i64 0, .int .i64 1, .int .i64 1] 26)
      have HB4 := hide ((unhide HW).trans (hbb.mono (unhide HW).size))
      have HE4 := hide ((unhide HE2).below hbb (Nat.le_refl _))
      have hbk := Blk.new w4 #[.int .i64 0, .int .i64 1, .int .i64 1] 26
      have a0 := hbk.cell 0
      have a1 := hbk.cell 1
      have a2 := hbk.cell 2
      clear hb hbb hbk
      go_wp2_with fail
      refine (known_any m _ (unhide HE4)).mono ?_
      rintro e w5 ⟨rfl, hb⟩
      have HB5 := hide ((unhide HB4).trans (hb.mono (unhide HB4).size))
      clear hb
      go_wp2_with fail
      go_ret
      exact ⟨rfl, unhide HB5⟩
set_option maxRecDepth 100000 in
set_option maxHeartbeats 8000000 in
theorem lim_A3 (n kind : Int) (hq : (0 : Int) + kind % (3 - 0 + 1) = 3) (d : Int) (hd : -1 + n % (1 - -1 + 1) = d) (N : Nat) (hN : 262144 + d = N) (hd1 : 0 < d) (hd2 : d ≤ 1) (m : Int) (w : World) (hE : Env m w) : Calls Tryd.prog 6 #[.int .i64 n, .int .i64 kind] w fun e w' => e = .returned (.bool true) ∧ Below w.heap.size w w' := by
  have hw1 := within_any n (-1) 1 (by omega) (by omega) (by omega)
  have hw2 := within_any kind 0 3 (by omega) (by omega) (by omega)
  have hdb : -1 ≤ d := by
    have := Int.emod_nonneg n (show (1 : Int) - -1 + 1 ≠ 0 by omega)
    omega
  rw [hd] at hw1
  rw [hq] at hw2
  have hN3 : 262143 ≤ N ∧ N ≤ 262145 := by omega
  have hmk := fun w => make_bytes N (262144 + d) hN (by omega) w
  have H1 := hide hw1
  have H2 := hide hw2
  have HE := hide hE
  have hNb : (N : Int) ≤ 262145 := by omega
  have HD : Hz (262144 + d = N ∧ -1 ≤ d) := hide ⟨hN, hdb⟩
  clear hw1 hw2 hd hq hE hN
  go_enter Tryd.func6, Tryd.ntmps6
  go_wp2_with fail
  refine (unhide H1 _).mono ?_
  rintro e w1 ⟨rfl, rfl⟩
  go_wp2_with fail
  refine (unhide H2 _).mono ?_
  rintro e w2 ⟨rfl, rfl⟩
  go_wp2_with fail
  obtain ⟨W0, hW0⟩ : ∃ W0, W0 = w1.alloc (.cells #[.string ⟨#[32]⟩, .string ⟨#[59]⟩, .string ⟨#[35]⟩, .string ⟨#[10]⟩] 9) := ⟨_, rfl⟩
  have hs0 : W0.heap.size = w1.heap.size + 1 := by rw [hW0, World.size_alloc]
  have hb0 : Below w1.heap.size w1 W0 := by rw [hW0]; exact (Below.refl _ _).alloc (Nat.le_refl _) _
  have hfl : FillAt (W0.alloc (.cells (List.replicate N (Value.int .u8 0)).toArray 5)) W0.heap.size N 10 0 := ⟨_, Blk.new W0 _ _, by simp, fun j h => by omega⟩
  have hb1 := hb0.alloc hb0.size (.cells (List.replicate N (Value.int .u8 0)).toArray 5)
  rw [← hW0]
  rw [List.toArray_replicate] at hfl hb1
  rw [hs0] at hfl
  have HI := hide hfl
  have HB := hide hb1
  generalize W0.alloc (.cells (Array.replicate N (Value.int .u8 0)) 5) = W1 at *
  clear hfl hb1 hb0 hs0 hW0 hmk
  go_loopw [8] (fun i wr => ∃ I : Nat, I ≤ N ∧ i = .int .i64 I ∧ Hz (FillAt wr (w1.heap.size + 1) N 10 I) ∧ Hz (Below w1.heap.size w1 wr)) (fun i _ => N - (intOf i).toNat)
  case atStart => exact ⟨0, by omega, rfl, HI, HB⟩
  case round =>
    obtain ⟨I, hI, rfl, HF, HW⟩ := hrel
    by_cases hIN : I < N
    · have hIN' : (I : Int) < (N : Int) := by omega
      obtain ⟨v0, hv0⟩ := (unhide HF).has I hIN
      have hf0 := (unhide HF).frozen I
      have HP := hide ((unhide HF).push hIN)
      have HP2 := hide ((unhide HW).setCell (p := ⟨w1.heap.size + 1, I, none⟩) (by simp) (.int .u8 (((10 : UInt8).toNat : Nat) : Int)))
      go_wp2_with fail
      go_roundw
      case rel => exact ⟨I + 1, by omega, by go_num, HP, HP2⟩
      case measure => simp [intOf]; omega
    · have hIN' : ¬ (I : Int) < (N : Int) := by omega
      have hIe : I = N := by omega
      have hFN := unhide HF
      rw [hIe] at hFN
      have hcv := hFN.text
      have HE2 := hide ((unhide HE).below (unhide HW) (Nat.le_refl _))
      clear hIe hFN
      go_wp2_with fail
      refine (words_long (repB N 10) (by rw [repB_size]; have := unhide HD; omega) _).mono ?_
      rintro e w4 ⟨rfl, hb⟩
      have hbb := hb.alloc hb.size (.cells #[.int .i64 0, .int .i64 1, .int .i64 1] 26)
      have HB4 := hide ((unhide HW).trans (hbb.mono (unhide HW).size))
      have HE4 := hide ((unhide HE2).below hbb (Nat.le_refl _))
      have hbk := Blk.new w4 #[.int .i64 0, .int .i64 1, .int .i64 1] 26
      have a0 := hbk.cell 0
      have a1 := hbk.cell 1
      have a2 := hbk.cell 2
      clear hb hbb hbk
      go_wp2_with fail
      refine (known_any m _ (unhide HE4)).mono ?_
      rintro e w5 ⟨rfl, hb⟩
      have HB5 := hide ((unhide HB4).trans (hb.mono (unhide HB4).size))
      clear hb
      go_wp2_with fail
      go_ret
      exact ⟨rfl, unhide HB5⟩
set_option maxRecDepth 100000 in
set_option maxHeartbeats 8000000 in
theorem lim_B0 (n kind : Int) (hq : (0 : Int) + kind % (3 - 0 + 1) = 0) (d : Int) (hd : -1 + n % (1 - -1 + 1) = d) (N : Nat) (hN : 262144 + d = N) (hd1 : d ≤ 0) (m : Int) (w : World) (hE : Env m w) : Calls Tryd.prog 6 #[.int .i64 n, .int .i64 kind] w fun e w' => e = .returned (.bool true) ∧ Below w.heap.size w w' := by
  have hw1 := within_any n (-1) 1 (by omega) (by omega) (by omega)
  have hw2 := within_any kind 0 3 (by omega) (by omega) (by omega)
  have hdb : -1 ≤ d := by
    have := Int.emod_nonneg n (show (1 : Int) - -1 + 1 ≠ 0 by omega)
    omega
  rw [hd] at hw1
  rw [hq] at hw2
  have hN3 : 262143 ≤ N ∧ N ≤ 262145 := by omega
  have hmk := fun w => make_bytes N (262144 + d) hN (by omega) w
  have H1 := hide hw1
  have H2 := hide hw2
  have HE := hide hE
  have hNb : (N : Int) ≤ 262145 := by omega
  have HD : Hz (262144 + d = N ∧ -1 ≤ d) := hide ⟨hN, hdb⟩
  clear hw1 hw2 hd hq hE hN
  go_enter Tryd.func6, Tryd.ntmps6
  go_wp2_with fail
  refine (unhide H1 _).mono ?_
  rintro e w1 ⟨rfl, rfl⟩
  go_wp2_with fail
  refine (unhide H2 _).mono ?_
  rintro e w2 ⟨rfl, rfl⟩
  go_wp2_with fail
  obtain ⟨W0, hW0⟩ : ∃ W0, W0 = w1.alloc (.cells #[.string ⟨#[32]⟩, .string ⟨#[59]⟩, .string ⟨#[35]⟩, .string ⟨#[10]⟩] 9) := ⟨_, rfl⟩
  have hs0 : W0.heap.size = w1.heap.size + 1 := by rw [hW0, World.size_alloc]
  have hb0 : Below w1.heap.size w1 W0 := by rw [hW0]; exact (Below.refl _ _).alloc (Nat.le_refl _) _
  have hfl : FillAt (W0.alloc (.cells (List.replicate N (Value.int .u8 0)).toArray 5)) W0.heap.size N 32 0 := ⟨_, Blk.new W0 _ _, by simp, fun j h => by omega⟩
  have hb1 := hb0.alloc hb0.size (.cells (List.replicate N (Value.int .u8 0)).toArray 5)
  rw [← hW0]
  rw [List.toArray_replicate] at hfl hb1
  rw [hs0] at hfl
  have HI := hide hfl
  have HB := hide hb1
  generalize W0.alloc (.cells (Array.replicate N (Value.int .u8 0)) 5) = W1 at *
  clear hfl hb1 hb0 hs0 hW0 hmk
  go_loopw [8] (fun i wr => ∃ I : Nat, I ≤ N ∧ i = .int .i64 I ∧ Hz (FillAt wr (w1.heap.size + 1) N 32 I) ∧ Hz (Below w1.heap.size w1 wr)) (fun i _ => N - (intOf i).toNat)
  case atStart => exact ⟨0, by omega, rfl, HI, HB⟩
  case round =>
    obtain ⟨I, hI, rfl, HF, HW⟩ := hrel
    by_cases hIN : I < N
    · have hIN' : (I : Int) < (N : Int) := by omega
      obtain ⟨v0, hv0⟩ := (unhide HF).has I hIN
      have hf0 := (unhide HF).frozen I
      have HP := hide ((unhide HF).push hIN)
      have HP2 := hide ((unhide HW).setCell (p := ⟨w1.heap.size + 1, I, none⟩) (by simp) (.int .u8 (((32 : UInt8).toNat : Nat) : Int)))
      go_wp2_with fail
      go_roundw
      case rel => exact ⟨I + 1, by omega, by go_num, HP, HP2⟩
      case measure => simp [intOf]; omega
    · have hIN' : ¬ (I : Int) < (N : Int) := by omega
      have hIe : I = N := by omega
      have hFN := unhide HF
      rw [hIe] at hFN
      have hcv := hFN.text
      have HE2 := hide ((unhide HE).below (unhide HW) (Nat.le_refl _))
      clear hIe hFN
      go_wp2_with fail
      obtain ⟨hok, hws⟩ := words_gap (s := repB N 32) (by rw [repB_size]; exact gap_blank N 32 (by decide))
      refine (words_yes (repB N 32) (by rw [repB_size]; have := unhide HD; omega) hok m _ (unhide HE2).max (cell_lt (unhide HE2).max)).mono ?_
      rintro e w4 ⟨v, rfl, hown, hb⟩
      rw [hws] at hown
      obtain ⟨a, cap, rfl⟩ := own_none hown
      have hbb := hb.alloc hb.size (.cells #[.int .i64 0, .int .i64 0, .int .i64 0] 26)
      have HB4 := hide ((unhide HW).trans (hbb.mono (unhide HW).size))
      have HE4 := hide ((unhide HE2).below hbb (Nat.le_refl _))
      have hdn : ¬ (0 : Int) < d := by omega
      clear hb hbb hok hws hown
      go_wp2_with fail
      refine (known_any m _ (unhide HE4)).mono ?_
      rintro e w5 ⟨rfl, hb⟩
      have HB5 := hide ((unhide HB4).trans (hb.mono (unhide HB4).size))
      clear hb
      go_wp2_with fail
      go_ret
      exact ⟨rfl, unhide HB5⟩
set_option maxRecDepth 100000 in
set_option maxHeartbeats 8000000 in
theorem lim_B2 (n kind : Int) (hq : (0 : Int) + kind % (3 - 0 + 1) = 2) (d : Int) (hd : -1 + n % (1 - -1 + 1) = d) (N : Nat) (hN : 262144 + d = N) (hd1 : d ≤ 0) (m : Int) (w : World) (hE : Env m w) : Calls Tryd.prog 6 #[.int .i64 n, .int .i64 kind] w fun e w' => e = .returned (.bool true) ∧ Below w.heap.size w w' := by
  have hw1 := within_any n (-1) 1 (by omega) (by omega) (by omega)
  have hw2 := within_any kind 0 3 (by omega) (by omega) (by omega)
  have hdb : -1 ≤ d := by
    have := Int.emod_nonneg n (show (1 : Int) - -1 + 1 ≠ 0 by omega)
    omega
  rw [hd] at hw1
  rw [hq] at hw2
  have hN3 : 262143 ≤ N ∧ N ≤ 262145 := by omega
  have hmk := fun w => make_bytes N (262144 + d) hN (by omega) w
  have H1 := hide hw1
  have H2 := hide hw2
  have HE := hide hE
  have hNb : (N : Int) ≤ 262145 := by omega
  have HD : Hz (262144 + d = N ∧ -1 ≤ d) := hide ⟨hN, hdb⟩
  clear hw1 hw2 hd hq hE hN
  go_enter Tryd.func6, Tryd.ntmps6
  go_wp2_with fail
  refine (unhide H1 _).mono ?_
  rintro e w1 ⟨rfl, rfl⟩
  go_wp2_with fail
  refine (unhide H2 _).mono ?_
  rintro e w2 ⟨rfl, rfl⟩
  go_wp2_with fail
  obtain ⟨W0, hW0⟩ : ∃ W0, W0 = w1.alloc (.cells #[.string ⟨#[32]⟩, .string ⟨#[59]⟩, .string ⟨#[35]⟩, .string ⟨#[10]⟩] 9) := ⟨_, rfl⟩
  have hs0 : W0.heap.size = w1.heap.size + 1 := by rw [hW0, World.size_alloc]
  have hb0 : Below w1.heap.size w1 W0 := by rw [hW0]; exact (Below.refl _ _).alloc (Nat.le_refl _) _
  have hfl : FillAt (W0.alloc (.cells (List.replicate N (Value.int .u8 0)).toArray 5)) W0.heap.size N 35 0 := ⟨_, Blk.new W0 _ _, by simp, fun j h => by omega⟩
  have hb1 := hb0.alloc hb0.size (.cells (List.replicate N (Value.int .u8 0)).toArray 5)
  rw [← hW0]
  rw [List.toArray_replicate] at hfl hb1
  rw [hs0] at hfl
  have HI := hide hfl
  have HB := hide hb1
  generalize W0.alloc (.cells (Array.replicate N (Value.int .u8 0)) 5) = W1 at *
  clear hfl hb1 hb0 hs0 hW0 hmk
  go_loopw [8] (fun i wr => ∃ I : Nat, I ≤ N ∧ i = .int .i64 I ∧ Hz (FillAt wr (w1.heap.size + 1) N 35 I) ∧ Hz (Below w1.heap.size w1 wr)) (fun i _ => N - (intOf i).toNat)
  case atStart => exact ⟨0, by omega, rfl, HI, HB⟩
  case round =>
    obtain ⟨I, hI, rfl, HF, HW⟩ := hrel
    by_cases hIN : I < N
    · have hIN' : (I : Int) < (N : Int) := by omega
      obtain ⟨v0, hv0⟩ := (unhide HF).has I hIN
      have hf0 := (unhide HF).frozen I
      have HP := hide ((unhide HF).push hIN)
      have HP2 := hide ((unhide HW).setCell (p := ⟨w1.heap.size + 1, I, none⟩) (by simp) (.int .u8 (((35 : UInt8).toNat : Nat) : Int)))
      go_wp2_with fail
      go_roundw
      case rel => exact ⟨I + 1, by omega, by go_num, HP, HP2⟩
      case measure => simp [intOf]; omega
    · have hIN' : ¬ (I : Int) < (N : Int) := by omega
      have hIe : I = N := by omega
      have hFN := unhide HF
      rw [hIe] at hFN
      have hcv := hFN.text
      have HE2 := hide ((unhide HE).below (unhide HW) (Nat.le_refl _))
      clear hIe hFN
      go_wp2_with fail
      obtain ⟨hok, hws⟩ := words_gap (s := repB N 35) (by rw [repB_size]; exact gap_remark N)
      refine (words_yes (repB N 35) (by rw [repB_size]; have := unhide HD; omega) hok m _ (unhide HE2).max (cell_lt (unhide HE2).max)).mono ?_
      rintro e w4 ⟨v, rfl, hown, hb⟩
      rw [hws] at hown
      obtain ⟨a, cap, rfl⟩ := own_none hown
      have hbb := hb.alloc hb.size (.cells #[.int .i64 0, .int .i64 0, .int .i64 0] 26)
      have HB4 := hide ((unhide HW).trans (hbb.mono (unhide HW).size))
      have HE4 := hide ((unhide HE2).below hbb (Nat.le_refl _))
      have hdn : ¬ (0 : Int) < d := by omega
      clear hb hbb hok hws hown
      go_wp2_with fail
      refine (known_any m _ (unhide HE4)).mono ?_
      rintro e w5 ⟨rfl, hb⟩
      have HB5 := hide ((unhide HB4).trans (hb.mono (unhide HB4).size))
      clear hb
      go_wp2_with fail
      go_ret
      exact ⟨rfl, unhide HB5⟩
set_option maxRecDepth 100000 in
set_option maxHeartbeats 8000000 in
theorem lim_B3 (n kind : Int) (hq : (0 : Int) + kind % (3 - 0 + 1) = 3) (d : Int) (hd : -1 + n % (1 - -1 + 1) = d) (N : Nat) (hN : 262144 + d = N) (hd1 : d ≤ 0) (m : Int) (w : World) (hE : Env m w) : Calls Tryd.prog 6 #[.int .i64 n, .int .i64 kind] w fun e w' => e = .returned (.bool true) ∧ Below w.heap.size w w' := by
  have hw1 := within_any n (-1) 1 (by omega) (by omega) (by omega)
  have hw2 := within_any kind 0 3 (by omega) (by omega) (by omega)
  have hdb : -1 ≤ d := by
    have := Int.emod_nonneg n (show (1 : Int) - -1 + 1 ≠ 0 by omega)
    omega
  rw [hd] at hw1
  rw [hq] at hw2
  have hN3 : 262143 ≤ N ∧ N ≤ 262145 := by omega
  have hmk := fun w => make_bytes N (262144 + d) hN (by omega) w
  have H1 := hide hw1
  have H2 := hide hw2
  have HE := hide hE
  have hNb : (N : Int) ≤ 262145 := by omega
  have HD : Hz (262144 + d = N ∧ -1 ≤ d) := hide ⟨hN, hdb⟩
  clear hw1 hw2 hd hq hE hN
  go_enter Tryd.func6, Tryd.ntmps6
  go_wp2_with fail
  refine (unhide H1 _).mono ?_
  rintro e w1 ⟨rfl, rfl⟩
  go_wp2_with fail
  refine (unhide H2 _).mono ?_
  rintro e w2 ⟨rfl, rfl⟩
  go_wp2_with fail
  obtain ⟨W0, hW0⟩ : ∃ W0, W0 = w1.alloc (.cells #[.string ⟨#[32]⟩, .string ⟨#[59]⟩, .string ⟨#[35]⟩, .string ⟨#[10]⟩] 9) := ⟨_, rfl⟩
  have hs0 : W0.heap.size = w1.heap.size + 1 := by rw [hW0, World.size_alloc]
  have hb0 : Below w1.heap.size w1 W0 := by rw [hW0]; exact (Below.refl _ _).alloc (Nat.le_refl _) _
  have hfl : FillAt (W0.alloc (.cells (List.replicate N (Value.int .u8 0)).toArray 5)) W0.heap.size N 10 0 := ⟨_, Blk.new W0 _ _, by simp, fun j h => by omega⟩
  have hb1 := hb0.alloc hb0.size (.cells (List.replicate N (Value.int .u8 0)).toArray 5)
  rw [← hW0]
  rw [List.toArray_replicate] at hfl hb1
  rw [hs0] at hfl
  have HI := hide hfl
  have HB := hide hb1
  generalize W0.alloc (.cells (Array.replicate N (Value.int .u8 0)) 5) = W1 at *
  clear hfl hb1 hb0 hs0 hW0 hmk
  go_loopw [8] (fun i wr => ∃ I : Nat, I ≤ N ∧ i = .int .i64 I ∧ Hz (FillAt wr (w1.heap.size + 1) N 10 I) ∧ Hz (Below w1.heap.size w1 wr)) (fun i _ => N - (intOf i).toNat)
  case atStart => exact ⟨0, by omega, rfl, HI, HB⟩
  case round =>
    obtain ⟨I, hI, rfl, HF, HW⟩ := hrel
    by_cases hIN : I < N
    · have hIN' : (I : Int) < (N : Int) := by omega
      obtain ⟨v0, hv0⟩ := (unhide HF).has I hIN
      have hf0 := (unhide HF).frozen I
      have HP := hide ((unhide HF).push hIN)
      have HP2 := hide ((unhide HW).setCell (p := ⟨w1.heap.size + 1, I, none⟩) (by simp) (.int .u8 (((10 : UInt8).toNat : Nat) : Int)))
      go_wp2_with fail
      go_roundw
      case rel => exact ⟨I + 1, by omega, by go_num, HP, HP2⟩
      case measure => simp [intOf]; omega
    · have hIN' : ¬ (I : Int) < (N : Int) := by omega
      have hIe : I = N := by omega
      have hFN := unhide HF
      rw [hIe] at hFN
      have hcv := hFN.text
      have HE2 := hide ((unhide HE).below (unhide HW) (Nat.le_refl _))
      clear hIe hFN
      go_wp2_with fail
      obtain ⟨hok, hws⟩ := words_gap (s := repB N 10) (by rw [repB_size]; exact gap_blank N 10 (by decide))
      refine (words_yes (repB N 10) (by rw [repB_size]; have := unhide HD; omega) hok m _ (unhide HE2).max (cell_lt (unhide HE2).max)).mono ?_
      rintro e w4 ⟨v, rfl, hown, hb⟩
      rw [hws] at hown
      obtain ⟨a, cap, rfl⟩ := own_none hown
      have hbb := hb.alloc hb.size (.cells #[.int .i64 0, .int .i64 0, .int .i64 0] 26)
      have HB4 := hide ((unhide HW).trans (hbb.mono (unhide HW).size))
      have HE4 := hide ((unhide HE2).below hbb (Nat.le_refl _))
      have hdn : ¬ (0 : Int) < d := by omega
      clear hb hbb hok hws hown
      go_wp2_with fail
      refine (known_any m _ (unhide HE4)).mono ?_
      rintro e w5 ⟨rfl, hb⟩
      have HB5 := hide ((unhide HB4).trans (hb.mono (unhide HB4).size))
      clear hb
      go_wp2_with fail
      go_ret
      exact ⟨rfl, unhide HB5⟩
set_option maxRecDepth 100000 in
set_option maxHeartbeats 8000000 in
theorem lim_C1 (n kind : Int) (hq : (0 : Int) + kind % (3 - 0 + 1) = 1) (d : Int) (hd : -1 + n % (1 - -1 + 1) = d) (N : Nat) (hN : 262144 + d = N) (hd1 : d ≤ 0) (m : Int) (w : World) (hE : Env m w) : Calls Tryd.prog 6 #[.int .i64 n, .int .i64 kind] w fun e w' => e = .returned (.bool true) ∧ Below w.heap.size w w' := by
  have hw1 := within_any n (-1) 1 (by omega) (by omega) (by omega)
  have hw2 := within_any kind 0 3 (by omega) (by omega) (by omega)
  have hdb : -1 ≤ d := by
    have := Int.emod_nonneg n (show (1 : Int) - -1 + 1 ≠ 0 by omega)
    omega
  rw [hd] at hw1
  rw [hq] at hw2
  have hN3 : 262143 ≤ N ∧ N ≤ 262145 := by omega
  have hmk := fun w => make_bytes N (262144 + d) hN (by omega) w
  have H1 := hide hw1
  have H2 := hide hw2
  have HE := hide hE
  have hNb : (N : Int) ≤ 262145 := by omega
  have HD : Hz (262144 + d = N ∧ -1 ≤ d) := hide ⟨hN, hdb⟩
  clear hw1 hw2 hd hq hE hN
  go_enter Tryd.func6, Tryd.ntmps6
  go_wp2_with fail
  refine (unhide H1 _).mono ?_
  rintro e w1 ⟨rfl, rfl⟩
  go_wp2_with fail
  refine (unhide H2 _).mono ?_
  rintro e w2 ⟨rfl, rfl⟩
  go_wp2_with fail
  obtain ⟨W0, hW0⟩ : ∃ W0, W0 = w1.alloc (.cells #[.string ⟨#[32]⟩, .string ⟨#[59]⟩, .string ⟨#[35]⟩, .string ⟨#[10]⟩] 9) := ⟨_, rfl⟩
  have hs0 : W0.heap.size = w1.heap.size + 1 := by rw [hW0, World.size_alloc]
  have hb0 : Below w1.heap.size w1 W0 := by rw [hW0]; exact (Below.refl _ _).alloc (Nat.le_refl _) _
  have hfl : FillAt (W0.alloc (.cells (List.replicate N (Value.int .u8 0)).toArray 5)) W0.heap.size N 59 0 := ⟨_, Blk.new W0 _ _, by simp, fun j h => by omega⟩
  have hb1 := hb0.alloc hb0.size (.cells (List.replicate N (Value.int .u8 0)).toArray 5)
  rw [← hW0]
  rw [List.toArray_replicate] at hfl hb1
  rw [hs0] at hfl
  have HI := hide hfl
  have HB := hide hb1
  generalize W0.alloc (.cells (Array.replicate N (Value.int .u8 0)) 5) = W1 at *
  clear hfl hb1 hb0 hs0 hW0 hmk
  go_loopw [8] (fun i wr => ∃ I : Nat, I ≤ N ∧ i = .int .i64 I ∧ Hz (FillAt wr (w1.heap.size + 1) N 59 I) ∧ Hz (Below w1.heap.size w1 wr)) (fun i _ => N - (intOf i).toNat)
  case atStart => exact ⟨0, by omega, rfl, HI, HB⟩
  case round =>
    obtain ⟨I, hI, rfl, HF, HW⟩ := hrel
    by_cases hIN : I < N
    · have hIN' : (I : Int) < (N : Int) := by omega
      obtain ⟨v0, hv0⟩ := (unhide HF).has I hIN
      have hf0 := (unhide HF).frozen I
      have HP := hide ((unhide HF).push hIN)
      have HP2 := hide ((unhide HW).setCell (p := ⟨w1.heap.size + 1, I, none⟩) (by simp) (.int .u8 (((59 : UInt8).toNat : Nat) : Int)))
      go_wp2_with fail
      go_roundw
      case rel => exact ⟨I + 1, by omega, by go_num, HP, HP2⟩
      case measure => simp [intOf]; omega
    · have hIN' : ¬ (I : Int) < (N : Int) := by omega
      have hIe : I = N := by omega
      have hFN := unhide HF
      rw [hIe] at hFN
      have hcv := hFN.text
      have HE2 := hide ((unhide HE).below (unhide HW) (Nat.le_refl _))
      clear hIe hFN
      go_wp2_with fail
      obtain ⟨hok, hws⟩ := words_semi N
      refine (words_yes (repB N 59) (by rw [repB_size]; have := unhide HD; omega) hok m _ (unhide HE2).max (cell_lt (unhide HE2).max)).mono ?_
      rintro e w4 ⟨v, rfl, hown, hb⟩
      rw [hws, List.length_map, List.length_range'] at hown
      obtain ⟨g, cap, rfl, hg, hcell⟩ := own_words hown (by omega)
      have hlast : ((List.range' 0 N).map semiW)[N - 1]? = some (semiW (N - 1)) := by rw [List.getElem?_map, List.getElem?_range' (by omega)]; simp
      have k4 := hcell (8 * (N - 1) + 4) _ ((encWs_at _ _ 4 _ hlast (by decide)).trans rfl)
      have k5 := hcell (8 * (N - 1) + 5) _ ((encWs_at _ _ 5 _ hlast (by decide)).trans rfl)
      have k6 := hcell (8 * (N - 1) + 6) _ ((encWs_at _ _ 6 _ hlast (by decide)).trans rfl)
      have hkk : ∀ j, (w4.alloc (.cells #[.int .i64 0, .int .i64 0, .int .i64 0] 26)).cell? ⟨g, j, none⟩ = w4.cell? ⟨g, j, none⟩ := fun j => Below.cell (p := ⟨g, j, none⟩) ((Below.refl w4.heap.size w4).alloc (Nat.le_refl _) _) hg
      rw [← hkk, show 8 * (N - 1) + 4 = (N - 1) * 8 + 4 by omega, show (((semiW (N - 1)).b : Nat) : Int) = (N : Int) - 1 by show ((N - 1 : Nat) : Int) = _; omega] at k4
      rw [← hkk, show 8 * (N - 1) + 5 = (N - 1) * 8 + 4 + 1 by omega] at k5
      rw [← hkk, show 8 * (N - 1) + 6 = (N - 1) * 8 + 4 + 2 by omega, show (((semiW (N - 1)).c : Nat) : Int) = (N : Int) by show ((N - 1 + 1 : Nat) : Int) = _; omega] at k6
      have hal := fun o => (Below.refl w4.heap.size w4).alloc (Nat.le_refl _) o
      have hbb := hb.alloc hb.size (.cells #[.int .i64 0, .int .i64 0, .int .i64 0] 26)
      have HB4 := hide ((unhide HW).trans (hbb.mono (unhide HW).size))
      have HE4 := hide ((unhide HE2).below hbb (Nat.le_refl _))
      have hdn : ¬ (0 : Int) < d := by omega
      clear hb hbb hok hws hown hcell hal hkk hlast
      go_wp2_with fail
      refine (known_any m _ (unhide HE4)).mono ?_
      rintro e w5 ⟨rfl, hb⟩
      have HB5 := hide ((unhide HB4).trans (hb.mono (unhide HB4).size))
      clear hb
      go_wp2_with fail
      go_ret
      exact ⟨rfl, unhide HB5⟩
theorem law_scanlimits (n kind : Int) (m : Int) (w : World) (hE : Env m w) : Calls Tryd.prog 6 #[.int .i64 n, .int .i64 kind] w fun e w' => e = .returned (.bool true) ∧ Below w.heap.size w w' := by
  have h1 := Int.emod_nonneg n (show (1 : Int) - -1 + 1 ≠ 0 by omega)
  have h2 := Int.emod_lt_of_pos n (show 0 < (1 : Int) - -1 + 1 by omega)
  have h3 := Int.emod_nonneg kind (show (3 : Int) - 0 + 1 ≠ 0 by omega)
  have h4 := Int.emod_lt_of_pos kind (show 0 < (3 : Int) - 0 + 1 by omega)
  obtain ⟨d, hd⟩ : ∃ d, -1 + n % (1 - -1 + 1) = d := ⟨_, rfl⟩
  obtain ⟨q, hq⟩ : ∃ q, (0 : Int) + kind % (3 - 0 + 1) = q := ⟨_, rfl⟩
  have hN : 262144 + d = ((262144 + d).toNat : Nat) := by omega
  have hq4 : q = 0 ∨ q = 1 ∨ q = 2 ∨ q = 3 := by omega
  by_cases hp : 0 < d
  · rcases hq4 with rfl | rfl | rfl | rfl
    · exact lim_A0 n kind hq d hd _ hN hp (by omega) m w hE
    · exact lim_A1 n kind hq d hd _ hN hp (by omega) m w hE
    · exact lim_A2 n kind hq d hd _ hN hp (by omega) m w hE
    · exact lim_A3 n kind hq d hd _ hN hp (by omega) m w hE
  · rcases hq4 with rfl | rfl | rfl | rfl
    · exact lim_B0 n kind hq d hd _ hN (by omega) m w hE
    · exact lim_C1 n kind hq d hd _ hN (by omega) m w hE
    · exact lim_B2 n kind hq d hd _ hN (by omega) m w hE
    · exact lim_B3 n kind hq d hd _ hN (by omega) m w hE
end Go.Proofs.YtncmabmpkdmpfaaDoor
