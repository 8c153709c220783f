/- Roomy and Intact of the books at lists of spans (two cells an element). -/
import Derived.Test.YthbaheneikifiaaSetSame
import Derived.Laws.CopyOwn
import Derived.Laws.CopyRow
import Derived.Laws.IdiomCopy
namespace Go.Proofs.Ythbaheneikifiaa
open Go.RowKit Go.Shelf
set_option linter.unusedVariables false

/-- A whole block of spans. -/
abbrev NumsP (W : World) (g : Nat) (L : List (Int × Int)) : Prop := Blk W g (encP L).toArray 63
theorem NumsP.cell {W : World} {g : Nat} {L : List (Int × Int)} (h : NumsP W g L) (j : Nat) (x : Int × Int) (hj : L[j]? = some x) : W.cell? ⟨g, j * 2, none⟩ = some (.int .i32 x.1) ∧ W.cell? ⟨g, j * 2 + 1, none⟩ = some (.int .i32 x.2) := by
  rw [Blk.cell h (j * 2), Blk.cell h (j * 2 + 1)]
  simpa using encP_at L j x hj
theorem encP_set (L : List (Int × Int)) (j : Nat) (x : Int × Int) : encP (L.set j x) = ((encP L).set (j * 2) (.int .i32 x.1)).set (j * 2 + 1) (.int .i32 x.2) := by
  induction L generalizing j with
  | nil => simp [encP]
  | cons y L ih =>
    cases j with
    | zero => simp [encP]
    | succ j =>
      rw [show (j + 1) * 2 = j * 2 + 1 + 1 by omega, show j * 2 + 1 + 1 + 1 = (j * 2 + 1) + 1 + 1 by omega]
      simp [encP, ih]
theorem NumsP.set {W : World} {g : Nat} {L : List (Int × Int)} (h : NumsP W g L) (j : Nat) (x : Int × Int) : NumsP ((W.setCell ⟨g, j * 2, none⟩ (.int .i32 x.1)).setCell ⟨g, j * 2 + 1, none⟩ (.int .i32 x.2)) g (L.set j x) := by
  have := Blk.set (Blk.set h (j * 2) (.int .i32 x.1)) (j * 2 + 1) (.int .i32 x.2)
  rw [List.setIfInBounds_toArray, List.setIfInBounds_toArray, ← encP_set] at this
  exact this
theorem NumsP.row {W : World} {g : Nat} {L : List (Int × Int)} (h : NumsP W g L) (n : Nat) (hn : n ≤ L.length) : RowP W (some ⟨g, 0, none⟩) (L.take n) := fun h0 => by
  refine ⟨g, 0, rfl, Blk.lt h, fun j x hj => ?_⟩
  have hjl := (List.getElem?_eq_some_iff.1 hj).1
  rw [List.length_take] at hjl
  rw [List.getElem?_take, if_pos (by omega)] at hj
  rw [Nat.zero_add]
  exact NumsP.cell h j x hj
theorem encP_replicate (n : Nat) (x : Int × Int) : encP (List.replicate n x) = (List.range (n * 2)).map (fun j => #[Value.int .i32 x.1, .int .i32 x.2][j % 2]!) := by
  induction n with
  | zero => rfl
  | succ n ih =>
    rw [List.replicate_succ', encP_append, ih, show (n + 1) * 2 = n * 2 + 1 + 1 by omega, List.range_succ, List.range_succ]
    simp [encP, show n * 2 % 2 = 0 by omega, show (n * 2 + 1) % 2 = 1 by omega]
theorem made_encP (n : Nat) : madeCells #[Value.int .i32 0, .int .i32 0] (n * 2) = (encP (List.replicate n (0, 0))).toArray := by
  apply Array.ext'
  rw [encP_replicate]
  simp [madeCells, Array.toList_map, Array.toList_range]
theorem sizeP : (Try.prog.info? 63).map (·.size) = some 2 := by kernel_rfl

theorem run_copy_two {P : Program} (w : World) (dT sT ty elem : TypeId) (g dLen dCap : Nat) (a : Addr) (sLen sCap : Nat) (cur : Array Value) (t : TypeId) (cs : List Value)
    (hu : P.underlying dT = some (.slice elem)) (hs : (P.info? elem).map (·.size) = some 2)
    (hg : w.heap[g]? = some (.cells cur t (0, 0))) (hle : sLen ≤ dLen) (hn : cs.length = sLen * 2)
    (hsrc : ∀ j v, cs[j]? = some v → w.cell? (a.add j) = some v) (hfit : cs.length ≤ cur.size) (h1 : ∀ v ∈ cs, v.oneCell' = true) :
    (Builtin.copy_ #[dT, sT] ty #[.slice (some ⟨g, 0, none⟩) dLen dCap, .slice (some a) sLen sCap]).run P w =
      .ok (goInt sLen) (w.setRow g (cs ++ cur.toList.drop cs.length).toArray) := by
  have hl := run_loadCells_list (P := P) w a cs hsrc
  have hst := run_storeCells_at P g 0 t cs 0 cur w hg (by simpa using hfit) h1
  have hm : Nat.min sLen dLen = sLen := Nat.min_eq_left hle
  cases hq : P.info? elem with
  | none => simp [hq] at hs
  | some i =>
    simp [hq] at hs
    simp only [Nat.zero_add, List.take_zero, List.nil_append] at hst
    rw [hn] at hl
    simp [Builtin.copy_, run_underlying hu, Builtin.lenOf, Builtin.firstCells, sizeOf, typeInfo, hq, hs, hm, hl]
    rw [hst]
    rfl

theorem run_copy_zero {P : Program} (w : World) (dT sT ty elem : TypeId) (d : Addr) (a : Option Addr) (dLen dCap sCap : Nat) (hu : P.underlying dT = some (.slice elem)) (hs : (P.info? elem).map (·.size) = some 2) :
    (Builtin.copy_ #[dT, sT] ty #[.slice (some d) dLen dCap, .slice a 0 sCap]).run P w = .ok (goInt 0) w := by
  cases hq : P.info? elem with
  | none => simp [hq] at hs
  | some i =>
    have hl : ∀ (x : Addr), (loadCells x 0).run P w = .ok #[] w := fun x => by simpa using run_loadCells_list (P := P) w x [] (by simp)
    cases a <;> simp [Builtin.copy_, run_underlying hu, Builtin.lenOf, Builtin.firstCells, sizeOf, typeInfo, hq, storeCells, hl]
/-- A list with eighty marks behind it. -/
def roomyP (zs : List (Int × Int)) (m : Int × Int) : List (Int × Int) := zs ++ List.replicate 80 m
theorem roomyP_length (zs : List (Int × Int)) (m : Int × Int) : (roomyP zs m).length = zs.length + 80 := by simp [roomyP]
theorem roomyP_take (zs : List (Int × Int)) (m : Int × Int) : (roomyP zs m).take zs.length = zs := by simp [roomyP]
theorem roomyP_behind (zs : List (Int × Int)) (m : Int × Int) (j : Nat) (h1 : zs.length ≤ j) (h2 : j < zs.length + 80) : (roomyP zs m)[j]? = some m := by
  simp only [roomyP]
  rw [List.getElem?_append_right h1, List.getElem?_replicate, if_pos (by omega)]
theorem roomyP_of (zs L : List (Int × Int)) (m : Int × Int) (hl : L.length = zs.length + 80) (h1 : ∀ j, j < zs.length → L[j]? = zs[j]?) (h2 : ∀ j, zs.length ≤ j → j < zs.length + 80 → L[j]? = some m) : L = roomyP zs m := by
  apply List.ext_getElem?
  intro j
  by_cases hj : j < zs.length
  · rw [h1 j hj, roomyP, List.getElem?_append_left hj]
  · by_cases hk : j < zs.length + 80
    · rw [h2 j (by omega) hk, roomyP, List.getElem?_append_right (by omega), List.getElem?_replicate, if_pos (by omega)]
    · rw [List.getElem?_eq_none (by omega), List.getElem?_eq_none (by rw [roomyP_length]; omega)]
theorem RowP.below' {W W' : World} {N : Nat} {a : Option Addr} {zs : List (Int × Int)} (h : RowP W a zs) (hb : Below N W W') (hN : W.heap.size ≤ N) : RowP W' a zs := fun h0 => by
  obtain ⟨g, o, ha, hg, hc⟩ := h h0
  have := hb.size
  exact ⟨g, o, ha, by omega, fun j x hj => ⟨(hb.cell (p := ⟨g, o + j * 2, none⟩) (by show g < N; omega)).trans (hc j x hj).1, (hb.cell (p := ⟨g, o + j * 2 + 1, none⟩) (by show g < N; omega)).trans (hc j x hj).2⟩⟩

theorem makeP (zs : List (Int × Int)) (hz : zs.length ≤ 1073741824) (w : World) : (Instr.makeSlice 65 (.int .i64 ((zs.length : Int) + 80)) (.int .i64 ((zs.length : Int) + 80))).run Try.prog w = .ok (.slice (some ⟨w.heap.size, 0, none⟩) (zs.length + 80) (zs.length + 80)) (w.alloc (.cells (encP (List.replicate (zs.length + 80) (0, 0))).toArray 63)) := by
  obtain ⟨i0, hi, hz0, hz1, hz2⟩ := info_parts infoP
  have := run_make (P := Try.prog) w 65 63 i0 (.agg #[.int .i32 0, .int .i32 0]) Try.underlying65 hi hz0 .i64 .i64 ((zs.length : Int) + 80) ((zs.length : Int) + 80) (by omega) (by omega) (by rw [hz2]; omega) (by omega)
  rw [hz1, show ((zs.length : Int) + 80).toNat = zs.length + 80 by omega] at this
  rw [this, ← made_encP]
  rfl
theorem copyP (w : World) (a : Option Addr) (cap : Nat) (zs : List (Int × Int)) (hr : RowP w a zs) : ∃ w1, (Builtin.copy_ #[65, 65] 3 #[.slice (some ⟨w.heap.size, 0, none⟩) (zs.length + 80) (zs.length + 80), .slice a zs.length cap]).run Try.prog (w.alloc (.cells (encP (List.replicate (zs.length + 80) (0, 0))).toArray 63)) = .ok (.int .i64 zs.length) w1 ∧
      NumsP w1 w.heap.size (zs ++ List.replicate 80 (0, 0)) ∧ Below w.heap.size w w1 := by
  have hB0 : Below w.heap.size w (w.alloc (.cells (encP (List.replicate (zs.length + 80) (0, 0))).toArray 63)) := (Below.refl _ _).alloc (Nat.le_refl _) _
  have hb0 := Blk.new w (encP (List.replicate (zs.length + 80) (0, 0))).toArray 63
  have hr1 := hr.below' hB0 (Nat.le_refl _)
  have hsp : encP zs ++ (encP (List.replicate (zs.length + 80) (0, 0))).drop (encP zs).length = encP (zs ++ List.replicate 80 (0, 0)) := by
    rw [encP_append, ← List.replicate_append_replicate, encP_append, List.drop_left' (by rw [encP_length, encP_length, List.length_replicate])]
  have hcl : (encP (List.replicate (zs.length + 80) (0, 0))).length = (zs.length + 80) * 2 := by rw [encP_length, List.length_replicate]
  generalize encP (List.replicate (zs.length + 80) (0, 0)) = C at *
  by_cases h0 : zs.length = 0
  · obtain rfl : zs = [] := List.eq_nil_of_length_eq_zero h0
    refine ⟨_, run_copy_zero (P := Try.prog) _ _ _ 3 63 _ a _ _ cap Try.underlying65 sizeP, ?_, hB0⟩
    have h2 : C = encP (([] : List (Int × Int)) ++ List.replicate 80 (0, 0)) := hsp
    unfold NumsP
    rw [← h2]
    exact hb0
  · obtain ⟨g, o, rfl, _, hc⟩ := hr1 (by omega)
    have hr := run_copy_two (P := Try.prog) (w.alloc (.cells C.toArray 63)) 65 65 3 63 w.heap.size (zs.length + 80) (zs.length + 80) ⟨g, o, none⟩ zs.length cap C.toArray 63 (encP zs) Try.underlying65 sizeP hb0 (by omega) (encP_length zs)
      (fun j v hj => by rw [add_none']; exact encP_cells hc j v hj) (by rw [encP_length]; simp; omega) (encP_one zs)
    refine ⟨_, hr, ?_, below_setRow hB0 (Nat.le_refl _) _⟩
    have := setRow_heap (w.alloc (.cells C.toArray 63)) w.heap.size _ (encP zs ++ C.toArray.toList.drop (encP zs).length).toArray 63 _ hb0
    unfold NumsP Blk
    rw [← hsp]
    simpa using this

set_option maxRecDepth 100000 in
set_option maxHeartbeats 4000000 in
theorem roomyP_any (a : Option Addr) (cap : Nat) (zs : List (Int × Int)) (hz : zs.length ≤ 1073741824) (m : Int × Int) (w : World) (hr : RowP w a zs) :
    Calls Try.prog 40 #[.slice a zs.length cap, spanV m] w fun e w' => ∃ g, e = .returned (.slice (some ⟨g, 0, none⟩) (zs.length + 80) (zs.length + 80)) ∧ w.heap.size ≤ g ∧ NumsP w' g (roomyP zs m) ∧ Below w.heap.size w w' := by
  have HMK := hide (fun w => makeP zs hz w)
  have HCP := hide (fun w h => copyP w a cap zs h)
  have HR := hide hr
  clear hr
  obtain ⟨lo, hi⟩ := m
  have b0 := Blk.new w #[.int .i32 lo, .int .i32 hi] 63
  have hB := (Below.refl w.heap.size w).alloc (Nat.le_refl _) (.cells #[.int .i32 lo, .int .i32 hi] 63)
  have hRm := (unhide HR).below' hB (Nat.le_refl _)
  have hsz : (w.alloc (.cells #[.int .i32 lo, .int .i32 hi] 63)).heap.size = w.heap.size + 1 := by simp
  have HB0 := hide b0
  have HBm := hide hB
  have HRm := hide hRm
  have HSZ := hide hsz
  clear b0 hB hRm hsz
  go_enter Try.func40, Try.ntmps40
  go_wp2
  generalize w.alloc (.cells #[.int .i32 lo, .int .i32 hi] 63) = wm at *
  have hmk := unhide HMK wm
  obtain ⟨w1, hcp, hN1, hB1⟩ := unhide HCP wm (unhide HRm)
  have HN1 := hide hN1
  have HB1 := hide hB1
  generalize encP (List.replicate (zs.length + 80) (0, 0)) = C at hmk hcp
  clear hN1 hB1 HCP HMK
  rw [hmk]
  have HBx := hide ((unhide HB0).below (unhide HB1) (unhide HB0).lt)
  have hwz := unhide HSZ
  have HBw := hide ((unhide HBm).trans ((unhide HB1).mono (by omega)))
  clear HBm HB1 HR HRm HSZ
  rw [hwz] at hcp HN1 ⊢
  clear hmk hwz
  go_wp2
  go_loopw [6] (fun i wr => ∃ (k : Nat) (L : List (Int × Int)), k ≤ 80 ∧ i = .int .i64 ((zs.length + k : Nat) : Int) ∧ Hid (NumsP wr (w.heap.size + 1) L) ∧ Hid (L.length = zs.length + 80) ∧ Hid (∀ j, j < zs.length → L[j]? = zs[j]?) ∧ Hid (∀ j, zs.length ≤ j → j < zs.length + k → L[j]? = some (lo, hi)) ∧ Hid (Blk wr w.heap.size #[.int .i32 lo, .int .i32 hi] 63) ∧ Hid (Below w.heap.size w wr)) (fun i _ => zs.length + 80 - (intOf i).toNat)
  case atStart => exact ⟨0, _, by omega, rfl, HN1, hide (by simp), hide (fun j hj => by rw [List.getElem?_append_left hj]), hide (fun j h1 h2 => by omega), HBx, HBw⟩
  case round =>
    obtain ⟨k, L, hk, rfl, HN, HLL, H1, H2, HX, HB⟩ := hrel
    by_cases hk8 : k < 80
    · have hk1 : ((zs.length + k : Nat) : Int) < ((zs.length + 80 : Nat) : Int) := by omega
      have hk2 : (((zs.length + k : Nat) : Int)).toNat = zs.length + k := by omega
      obtain ⟨y, hy⟩ : ∃ y, L[zs.length + k]? = some y := ⟨_, List.getElem?_eq_getElem (by have := unhide HLL; omega)⟩
      have c0 := (NumsP.cell (unhide HN) (zs.length + k) y hy).1
      have c1 := (NumsP.cell (unhide HN) (zs.length + k) y hy).2
      have f0 := Blk.frozen (unhide HN) ((zs.length + k) * 2)
      have f1 := Blk.frozen (unhide HN) ((zs.length + k) * 2 + 1)
      have m0 := (unhide HX).cell 0
      have m1 := (unhide HX).cell 1
      have HST := hide (NumsP.set (unhide HN) (zs.length + k) (lo, hi))
      have hnx : w.heap.size ≠ (w.heap.size + 1) := by omega
      have HX2 := hide (((unhide HX).other (i := (zs.length + k) * 2) (B' := w.heap.size + 1) hnx (.int .i32 lo)).other (i := (zs.length + k) * 2 + 1) hnx (.int .i32 hi))
      have HB2 := hide (((unhide HB).setCell (p := ⟨(w.heap.size + 1), (zs.length + k) * 2, none⟩) (by show _ ≤ (w.heap.size + 1); omega) (.int .i32 lo)).setCell (p := ⟨(w.heap.size + 1), (zs.length + k) * 2 + 1, none⟩) (by show _ ≤ (w.heap.size + 1); omega) (.int .i32 hi))
      clear hy hcp
      go_wp2
      refine ⟨⟨k + 1, L.set (zs.length + k) (lo, hi), by omega, by go_num, HST, hide (by rw [List.length_set]; exact unhide HLL), hide (fun j hj => ?_), hide (fun j h1 h2 => ?_), HX2, HB2⟩, ?_⟩
      · rw [List.getElem?_set_ne (by omega)]
        exact unhide H1 j hj
      · by_cases e : j = zs.length + k
        · subst e
          rw [List.getElem?_set_self (by have := unhide HLL; omega)]
        · rw [List.getElem?_set_ne (by omega)]
          exact unhide H2 j h1 (by omega)
      · simp [intOf]; omega
    · have hk1 : ¬ ((zs.length + k : Nat) : Int) < ((zs.length + 80 : Nat) : Int) := by omega
      obtain rfl : k = 80 := by omega
      have hL := roomyP_of zs L (lo, hi) (unhide HLL) (unhide H1) (unhide H2)
      subst hL
      go_wp2
      go_ret
      exact ⟨w.heap.size + 1, rfl, by omega, unhide HN, unhide HB⟩

set_option maxRecDepth 100000 in
set_option maxHeartbeats 4000000 in
theorem intactP_any (g : Nat) (a : Option Addr) (cap : Nat) (zs : List (Int × Int)) (hz : zs.length ≤ 1073741824) (m : Int × Int) (w : World) (hn : NumsP w g (roomyP zs m)) (hr : RowP w a zs) :
    Calls Try.prog 45 #[.slice (some ⟨g, 0, none⟩) (zs.length + 80) (zs.length + 80), .slice a zs.length cap, spanV m] w fun e w' => e = .returned (.bool true) ∧ Below w.heap.size w w' := by
  have hrow := NumsP.row hn zs.length (by rw [roomyP_length]; omega)
  rw [roomyP_take] at hrow
  obtain ⟨lo, hi⟩ := m
  have hB := (Below.refl w.heap.size w).alloc (Nat.le_refl _) (.cells #[.int .i32 lo, .int .i32 hi] 63)
  have HX := hide (Blk.new w #[.int .i32 lo, .int .i32 hi] 63)
  have HN := hide (Blk.below hn hB (Blk.lt hn))
  have HR := hide (hr.below' hB (Nat.le_refl _))
  have HROW := hide (hrow.below' hB (Nat.le_refl _))
  have HBm := hide hB
  have hne : ((((zs.length + 80 : Nat)) : Int) != (zs.length : Int) + 80) = false := by simp
  clear hn hr hrow hB
  go_enter Try.func45, Try.ntmps45
  go_wp2_with fail
  refine (sameP_row _ a _ cap zs (by omega) _ (unhide HROW) (unhide HR)).mono ?_
  rintro e w1 ⟨rfl, hb⟩
  have HB := hide ((unhide HBm).trans (hb.mono (unhide HBm).size))
  have HN1 := hide (Blk.below (unhide HN) hb (Blk.lt (unhide HN)))
  have HX1 := hide (Blk.below (unhide HX) hb (Blk.lt (unhide HX)))
  clear hb
  have m0 := (unhide HX1).cell 0
  have m1 := (unhide HX1).cell 1
  go_wp2
  go_loopw [7] (fun i wr => ∃ k : Nat, k ≤ 80 ∧ i = .int .i64 ((zs.length + k : Nat) : Int) ∧ ∃ q, wr = w1.drewN q) (fun i _ => zs.length + 80 - (intOf i).toNat)
  case atStart => exact ⟨0, by omega, rfl, 0, rfl⟩
  case round =>
    obtain ⟨k, hk, rfl, q, rfl⟩ := hrel
    by_cases hk8 : k < 80
    · have hk1 : ((zs.length + k : Nat) : Int) < ((zs.length + 80 : Nat) : Int) := by omega
      have hk2 : (((zs.length + k : Nat) : Int)).toNat = zs.length + k := by omega
      have c0 := (NumsP.cell (unhide HN1) (zs.length + k) (lo, hi) (roomyP_behind zs (lo, hi) _ (by omega) (by omega))).1
      have c1 := (NumsP.cell (unhide HN1) (zs.length + k) (lo, hi) (roomyP_behind zs (lo, hi) _ (by omega) (by omega))).2
      have h1 : (lo == lo) = true := by simp
      have h2 : (hi == hi) = true := by simp
      simp only at c0 c1
      go_wp2
      go_quiet (fail)
      go_wp2
      go_roundw
      case rel => exact ⟨k + 1, by omega, by go_num, _, rfl⟩
      case measure => simp [intOf]; omega
    · have hk1 : ¬ ((zs.length + k : Nat) : Int) < ((zs.length + 80 : Nat) : Int) := by omega
      go_wp2
      go_ret
      exact ⟨rfl, below_drewN (unhide HB) _⟩
end Go.Proofs.Ythbaheneikifiaa
