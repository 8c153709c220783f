/- Same, Roomy and Intact of the books of memory, at lists of numbers (byte). -/
import Derived.Test.YtinhmhkdofoneaaArg
import Derived.Laws.CopyOwn
import Derived.Laws.MakeOwn
import Derived.Laws.OwnMore
namespace Go.Proofs.Ytinhmhkdofoneaa
open Go.RowKit Go.Shelf
set_option linter.unusedVariables false

/-- A list of numbers as it lies in a world: where it is not empty. -/
def RowB (W : World) (a : Option Addr) (zs : List Int) : Prop := 0 < zs.length → ∃ g o, a = some ⟨g, o, none⟩ ∧ g < W.heap.size ∧ ∀ j, j < zs.length → W.cell? ⟨g, o + j, none⟩ = some (.int .u8 (zs.getD j 0))
theorem RowB.below {W W' : World} {N : Nat} {a : Option Addr} {zs : List Int} (h : RowB W a zs) (hb : Below N W W') (hN : W.heap.size ≤ N) : RowB W' a zs := fun h0 => by
  obtain ⟨g, o, ha, hg, hc⟩ := h h0
  have := hb.size
  exact ⟨g, o, ha, Nat.lt_of_lt_of_le hg (by have := hb.size; omega), fun j hj => (hb.cell (p := ⟨g, o + j, none⟩) (by show g < N; omega)).trans (hc j hj)⟩
theorem ArgRow.rowB {W : World} {a : Option Addr} {len cap : Nat} {zs : List Int} (h : ArgRow .u8 W a len cap zs) : RowB W a (zs.take len) := fun hn => by
  obtain ⟨hl, hz, hw, hc⟩ := h
  rw [List.length_take] at hn
  obtain ⟨g, o, ha, hg, hcell⟩ := hc (by omega)
  refine ⟨g, o, ha, hg, fun j hj => ?_⟩
  rw [List.length_take] at hj
  rw [hcell j (by omega)]
  simp only [List.getD, List.getElem?_take]
  rw [if_pos (by omega)]
/-- A whole block of numbers. -/
abbrev NumsB (W : World) (g : Nat) (L : List Int) : Prop := Blk W g (L.map (Value.int .u8)).toArray 5
theorem NumsB.cell {W : World} {g : Nat} {L : List Int} (h : NumsB W g L) (j : Nat) (hj : j < L.length) : W.cell? ⟨g, j, none⟩ = some (.int .u8 (L.getD j 0)) := by
  rw [Blk.cell h j]
  simp [List.getD, List.getElem?_eq_getElem hj]
theorem NumsB.set {W : World} {g : Nat} {L : List Int} (h : NumsB W g L) (j : Nat) (v : Int) : NumsB (W.setCell ⟨g, j, none⟩ (.int .u8 v)) g (L.set j v) := by
  have := Blk.set h j (.int .u8 v)
  rw [List.setIfInBounds_toArray, ← List.map_set] at this
  exact this
theorem NumsB.row {W : World} {g : Nat} {L : List Int} (h : NumsB W g L) (n : Nat) (hn : n ≤ L.length) : RowB W (some ⟨g, 0, none⟩) (L.take n) := fun h0 => by
  refine ⟨g, 0, rfl, Blk.lt h, fun j hj => ?_⟩
  rw [List.length_take] at hj
  rw [Nat.zero_add, NumsB.cell h j (by omega)]
  simp only [List.getD, List.getElem?_take]
  rw [if_pos (by omega)]

set_option maxRecDepth 100000 in
set_option maxHeartbeats 2000000 in
theorem sameB_row (a b : Option Addr) (ca cb : Nat) (zs : List Int) (hz : zs.length ≤ 9223372036854775807) (w : World) (ha : RowB w a zs) (hb : RowB w b zs) :
    Calls Try.prog 26 #[.slice a zs.length ca, .slice b zs.length cb] w fun e w' => e = .returned (.bool true) ∧ Below w.heap.size w w' := by
  have HA := hide ha
  have HB := hide hb
  clear ha hb
  have hne : (((zs.length : Nat) : Int) != ((zs.length : Nat) : Int)) = false := by simp
  go_enter Try.func26, Try.ntmps26
  go_wp2
  go_loopw [5] (fun i wr => ∃ k : Nat, k ≤ zs.length ∧ i = .int .i64 k ∧ ∃ q, wr = w.drewN q) (fun i _ => zs.length - (intOf i).toNat)
  case atStart => exact ⟨0, by omega, rfl, 0, rfl⟩
  case round =>
    obtain ⟨k, hk, rfl, q, rfl⟩ := hrel
    by_cases hkn : k < zs.length
    · obtain ⟨g, o, rfl, _, hc⟩ := unhide HA (by omega)
      obtain ⟨h, p, rfl, _, hd⟩ := unhide HB (by omega)
      have c0 := hc k hkn
      have c1 := hd k hkn
      have hk1 : (k : Int) < (zs.length : Int) := by omega
      have hk2 : ((k : Nat) : Int).toNat = k := by omega
      generalize zs.getD k 0 = z at c0 c1
      have hzz : (z != z) = false := by simp
      clear hc hd
      go_wp2
      go_quiet (fail)
      go_wp2
      go_roundw
      case rel => exact ⟨k + 1, by omega, by go_num, _, rfl⟩
      case measure => simp [intOf]; omega
    · have hk1 : ¬ (k : Int) < (zs.length : Int) := by omega
      go_wp2
      go_ret
      exact ⟨rfl, below_drewN (Below.refl _ _) _⟩

theorem infoB : (Try.prog.info? 5).map (fun i => (i.zero, i.size, i.bytes)) = some (some (.int .u8 0), 1, 1) := by kernel_rfl
theorem sizeB : (Try.prog.info? 5).map (·.size) = some 1 := by kernel_rfl

/-- A list with eighty marks behind it. -/
def roomy (zs : List Int) (m : Int) : List Int := zs ++ List.replicate 80 m
theorem roomy_length (zs : List Int) (m : Int) : (roomy zs m).length = zs.length + 80 := by simp [roomy]
theorem roomy_take (zs : List Int) (m : Int) : (roomy zs m).take zs.length = zs := by simp [roomy]
theorem roomy_behind (zs : List Int) (m : Int) (j : Nat) (h1 : zs.length ≤ j) (h2 : j < zs.length + 80) : (roomy zs m).getD j 0 = m := by
  simp only [roomy, List.getD]
  rw [List.getElem?_append_right h1, List.getElem?_replicate, if_pos (by omega)]
  rfl
theorem roomy_of (zs L : List Int) (m : Int) (hl : L.length = zs.length + 80) (h1 : ∀ j, j < zs.length → L[j]? = zs[j]?) (h2 : ∀ j, zs.length ≤ j → j < zs.length + 80 → L[j]? = some m) : L = roomy zs m := by
  apply List.ext_getElem?
  intro j
  by_cases hj : j < zs.length
  · rw [h1 j hj, roomy, List.getElem?_append_left hj]
  · by_cases hk : j < zs.length + 80
    · rw [h2 j (by omega) hk, roomy, List.getElem?_append_right (by omega), List.getElem?_replicate, if_pos (by omega)]
    · rw [List.getElem?_eq_none (by omega), List.getElem?_eq_none (by rw [roomy_length]; omega)]

set_option maxRecDepth 100000 in
set_option maxHeartbeats 4000000 in
theorem roomyB_any (a : Option Addr) (cap : Nat) (zs : List Int) (hz : zs.length ≤ 1073741824) (m : Int) (w : World) (hr : RowB w a zs) :
    Calls Try.prog 24 #[.slice a zs.length cap, .int .u8 m] w fun e w' => e = .returned (.slice (some ⟨w.heap.size, 0, none⟩) (zs.length + 80) (zs.length + 80)) ∧ NumsB w' w.heap.size (roomy zs m) ∧ Below w.heap.size w w' := by
  obtain ⟨i0, hi, hz0, hz1, hz2⟩ := info_parts infoB
  have hmk : (Instr.makeSlice 47 (.int .i64 ((zs.length : Int) + 80)) (.int .i64 ((zs.length : Int) + 80))).run Try.prog w = .ok (.slice (some ⟨w.heap.size, 0, none⟩) (zs.length + 80) (zs.length + 80)) (w.alloc (.cells (List.replicate (zs.length + 80) (Value.int .u8 0)).toArray 5)) := by
    have := run_make (P := Try.prog) w 47 5 i0 (.int .u8 0) Try.underlying47 hi hz0 .i64 .i64 ((zs.length : Int) + 80) ((zs.length : Int) + 80) (by omega) (by omega) (by rw [hz2]; omega) (by omega)
    rw [hz1, show ((zs.length : Int) + 80).toNat = zs.length + 80 by omega, Nat.mul_one] at this
    rw [this]
    congr 3
    apply Array.ext'
    exact toList_madeCells_one _ _
  have HR := hide hr
  have HL : Hid ((List.replicate (zs.length + 80) (Value.int .u8 0)).length = zs.length + 80) := by simp [Hid]
  have hB0 : Below w.heap.size w (w.alloc (.cells (List.replicate (zs.length + 80) (Value.int .u8 0)).toArray 5)) := (Below.refl _ _).alloc (Nat.le_refl _) _
  have hb0 := Blk.new w (List.replicate (zs.length + 80) (Value.int .u8 0)).toArray 5
  have HR1 := hide (hr.below hB0 (Nat.le_refl _))
  have hsp : splice (List.replicate (zs.length + 80) (Value.int .u8 0)) 0 (zs.map (Value.int .u8)) = (zs ++ List.replicate 80 0).map (Value.int .u8) := by
    simp only [splice, List.take_zero, List.nil_append, List.length_map, Nat.zero_add, List.drop_replicate, List.map_append, List.map_replicate]
    congr 2
    omega
  have HSP := hide hsp
  have HB0 := hide hB0
  have Hb0 := hide hb0
  generalize List.replicate (zs.length + 80) (Value.int .u8 0) = C at hmk HL HB0 Hb0 HSP HR1
  clear hi hz0 hz1 hz2 hr hB0 hb0 hsp
  obtain ⟨w1, hcp, hb1, hB1⟩ : ∃ w1, (Builtin.copy_ #[47, 47] 3 #[.slice (some ⟨w.heap.size, 0, none⟩) (zs.length + 80) (zs.length + 80), .slice a zs.length cap]).run Try.prog (w.alloc (.cells C.toArray 5)) = .ok (.int .i64 zs.length) w1 ∧
      NumsB w1 w.heap.size (zs ++ List.replicate 80 0) ∧ Below w.heap.size w w1 := by
    unfold NumsB
    rw [← unhide HSP]
    by_cases h0 : zs.length = 0
    · obtain rfl : zs = [] := List.eq_nil_of_length_eq_zero h0
      refine ⟨_, run_copy_none (P := Try.prog) _ _ _ 3 5 _ a _ _ _ cap Try.underlying47 sizeB rfl, ?_, unhide HB0⟩
      have := unhide Hb0
      simpa [splice] using this
    · obtain ⟨g, o, rfl, _, hc⟩ := unhide HR1 (by omega)
      have hl : (zs.map (Value.int .u8)).length = Nat.min zs.length (zs.length + 80) := by rw [List.length_map]; exact (Nat.min_eq_left (by omega)).symm
      have hr := run_copy_row (P := Try.prog) (w.alloc (.cells C.toArray 5)) 47 47 3 5 w.heap.size 0 (zs.length + 80) (zs.length + 80) ⟨g, o, none⟩ zs.length cap C.toArray 5 (zs.map (Value.int .u8)) Try.underlying47 sizeB (unhide Hb0) hl
        (fun j v hj => by
          have hjl : j < zs.length := by have := (List.getElem?_eq_some_iff.1 hj).1; simpa using this
          rw [show (⟨g, o, none⟩ : Addr).add j = ⟨g, o + j, none⟩ by unfold Addr.add; split <;> simp_all, hc j hjl, ← hj]
          simp [List.getD, List.getElem?_eq_getElem hjl])
        (by have := unhide HL; simp; omega) (fun v hv => by obtain ⟨x, _, rfl⟩ := List.mem_map.1 hv; rfl)
      rw [List.length_map] at hr
      refine ⟨_, hr, ?_, below_setRow (unhide HB0) (Nat.le_refl _) _⟩
      have := setRow_heap (w.alloc (.cells C.toArray 5)) w.heap.size _ (C.take 0 ++ zs.map (Value.int .u8) ++ C.drop (0 + zs.length)).toArray 5 _ (unhide Hb0)
      unfold Blk
      simpa [splice] using this
  have HB1 := hide hB1
  have Hb1 := hide hb1
  clear hB1 hb1
  obtain ⟨n, hn⟩ : ∃ n, n = zs.length := ⟨_, rfl⟩
  go_enter Try.func24, Try.ntmps24
  go_wp2
  go_loopw [6] (fun i wr => ∃ (k : Nat) (L : List Int), k ≤ 80 ∧ i = .int .i64 ((zs.length + k : Nat) : Int) ∧ Hid (NumsB wr w.heap.size L) ∧ Hid (L.length = zs.length + 80) ∧ Hid (∀ j, j < zs.length → L[j]? = zs[j]?) ∧ Hid (∀ j, zs.length ≤ j → j < zs.length + k → L[j]? = some m) ∧ Hid (Below w.heap.size w wr)) (fun i _ => zs.length + 80 - (intOf i).toNat)
  case atStart => exact ⟨0, _, by omega, rfl, Hb1, hide (by simp), hide (fun j hj => by rw [List.getElem?_append_left hj]), hide (fun j h1 h2 => by omega), HB1⟩
  case round =>
    obtain ⟨k, L, hk, rfl, HN, HLL, H1, H2, HB⟩ := hrel
    by_cases hk8 : k < 80
    · have hk1 : ((zs.length + k : Nat) : Int) < ((zs.length + 80 : Nat) : Int) := by omega
      have hk2 : (((zs.length + k : Nat) : Int)).toNat = zs.length + k := by omega
      have c0 := NumsB.cell (unhide HN) (zs.length + k) (by have := unhide HLL; omega)
      have f0 := Blk.frozen (unhide HN) (zs.length + k)
      have hst := NumsB.set (unhide HN) (zs.length + k) m
      have HST := hide hst
      have HB2 := hide ((unhide HB).setCell (p := ⟨w.heap.size, zs.length + k, none⟩) (Nat.le_refl _) (.int .u8 m))
      clear hst
      go_wp2
      go_roundw
      case rel =>
        refine ⟨k + 1, L.set (zs.length + k) m, by omega, by go_num, HST, hide (by rw [List.length_set]; exact unhide HLL), hide (fun j hj => ?_), hide (fun j h1 h2 => ?_), HB2⟩
        · rw [List.getElem?_set_ne (by omega)]
          exact unhide H1 j hj
        · by_cases e : j = zs.length + k
          · subst e
            rw [List.getElem?_set_self (by have := unhide HLL; omega)]
          · rw [List.getElem?_set_ne (by omega)]
            exact unhide H2 j h1 (by omega)
      case measure => simp [intOf]; omega
    · have hk1 : ¬ ((zs.length + k : Nat) : Int) < ((zs.length + 80 : Nat) : Int) := by omega
      obtain rfl : k = 80 := by omega
      have hL := roomy_of zs L m (unhide HLL) (unhide H1) (unhide H2)
      subst hL
      go_wp2
      go_ret
      exact ⟨rfl, unhide HN, unhide HB⟩

set_option maxRecDepth 100000 in
set_option maxHeartbeats 4000000 in
theorem intactB_any (g : Nat) (a : Option Addr) (cap : Nat) (zs : List Int) (hz : zs.length ≤ 1073741824) (m : Int) (w : World) (hn : NumsB w g (roomy zs m)) (hr : RowB w a zs) :
    Calls Try.prog 29 #[.slice (some ⟨g, 0, none⟩) (zs.length + 80) (zs.length + 80), .slice a zs.length cap, .int .u8 m] w fun e w' => e = .returned (.bool true) ∧ Below w.heap.size w w' := by
  have hrow := NumsB.row hn zs.length (by rw [roomy_length]; omega)
  rw [roomy_take] at hrow
  have HN := hide hn
  have HR := hide hr
  have HROW := hide hrow
  have hne : ((((zs.length + 80 : Nat)) : Int) != (zs.length : Int) + 80) = false := by simp
  have hg := Blk.lt hn
  clear hn hr hrow
  go_enter Try.func29, Try.ntmps29
  go_wp2_with fail
  refine (sameB_row _ a _ cap zs (by omega) _ (unhide HROW) (unhide HR)).mono ?_
  rintro e w1 ⟨rfl, hb⟩
  have HB := hide hb
  have HN1 := hide (Blk.below (unhide HN) hb hg)
  clear hb
  go_wp2
  go_loop [7] (fun i => ∃ k : Nat, k ≤ 80 ∧ i = .int .i64 ((zs.length + k : Nat) : Int)) (fun i => zs.length + 80 - (intOf i).toNat)
  case atStart => exact ⟨0, by omega, rfl⟩
  case round =>
    obtain ⟨k, hk, rfl⟩ := hrel
    by_cases hk8 : k < 80
    · have hk1 : ((zs.length + k : Nat) : Int) < ((zs.length + 80 : Nat) : Int) := by omega
      have hk2 : (((zs.length + k : Nat) : Int)).toNat = zs.length + k := by omega
      have c0 := NumsB.cell (unhide HN1) (zs.length + k) (by rw [roomy_length]; omega)
      rw [roomy_behind zs m _ (by omega) (by omega)] at c0
      have hmm : (m != m) = false := by simp
      go_wp2
      go_round
      case rel => exact ⟨k + 1, by omega, by go_num⟩
      case measure => simp [intOf]; omega
    · have hk1 : ¬ ((zs.length + k : Nat) : Int) < ((zs.length + 80 : Nat) : Int) := by omega
      go_wp2
      go_ret
      exact ⟨rfl, unhide HB⟩
end Go.Proofs.Ytinhmhkdofoneaa
