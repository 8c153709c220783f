/- SpotsLong, for every byte and every number: a text of just so many bytes has its places, one of one byte more is refused. -/
import Derived.Test.YtaafecaclkagiacSp
import Derived.Test.YtaafecaclkagiacWithin
import Derived.Laws.BytesArg
import Derived.Laws.MakeOwn
import Derived.Laws.OwnMore
import Derived.Deep.RegionWith
namespace Go.Proofs.Ytaafecaclkagiac
open Go.RowKit Go.Shelf
set_option linter.unusedVariables false

/-- A whole block of bytes. -/
abbrev NumsU (W : World) (g : Nat) (L : List Int) : Prop := Blk W g (L.map (Value.int .u8)).toArray 5
theorem NumsU.cell {W : World} {g : Nat} {L : List Int} (h : NumsU W g L) (j : Nat) (hj : j < L.length) : W.cell? ⟨g, j, none⟩ = some (.int .u8 (L.getD j 0)) := by
  rw [Blk.cell h j]
  simp [List.getD, List.getElem?_eq_getElem hj]
theorem NumsU.set {W : World} {g : Nat} {L : List Int} (h : NumsU W g L) (j : Nat) (v : Int) : NumsU (W.setCell ⟨g, j, none⟩ (.int .u8 v)) g (L.set j v) := by
  have := Blk.set h j (.int .u8 v)
  rw [List.setIfInBounds_toArray, ← List.map_set] at this
  exact this
theorem NumsU.string {W : World} {g : Nat} {L : List Int} (h : NumsU W g L) (cap : Nat) : (convert 22 9 (.slice (some ⟨g, 0, none⟩) L.length cap)).run Try.prog W = .ok (.string (strOfNums L)) W :=
  run_convert_bytes_arg W 22 5 Try.underlying22 Try.underlying5 g 0 L.length cap L rfl (fun i hi => by rw [Nat.zero_add]; exact NumsU.cell h i hi) 9 Try.underlying9
theorem infoByte : (Try.prog.info? 5).map (fun i => (i.zero, i.size, i.bytes)) = some (some (.int .u8 0), 1, 1) := by kernel_rfl
theorem row_form {W : World} {base : Nat} {e : TypeId} {v : Value} {n : Nat} {xs : List Value} {size : Nat} (h : W.ownsRow base e size v n xs) : ∃ a cap, v = .slice a n cap := by
  rcases h.2 with ⟨rfl, h0⟩ | ⟨g, cap, cur, rfl, _⟩
  · exact ⟨none, 0, by rw [h0]⟩
  · exact ⟨_, cap, rfl⟩

theorem within3 (n : Int) (w : World) : Calls Try.prog 7 #[.int .i64 n, .int .i64 (-1), .int .i64 1] w fun e w' => e = .returned (.int .i64 (-1 + n % 3)) ∧ w' = w := within_any n (-1) 1 (by omega) (by omega) (by omega) w

set_option maxRecDepth 100000 in
set_option maxHeartbeats 8000000 in
theorem llong_any (c : Int) (hc : (Lit.int .u8 c).wf = true) (more : Int) (w : World) : Calls Try.prog 3 #[.int .u8 c, .int .i64 more] w fun e w' => e = .returned (.bool true) ∧ Below w.heap.size w w' := by
  clear hc
  obtain ⟨n, hn⟩ : ∃ n : Nat, 65536 + (-1 + more % 3) = (n : Int) := ⟨(65536 + (-1 + more % 3)).toNat, by omega⟩
  have hn1 : 65535 ≤ n ∧ n ≤ 65537 := by omega
  obtain ⟨i0, hi, hz0, hz1, hz2⟩ := info_parts infoByte
  have hmk : (Instr.makeSlice 22 (.int .i64 (n : Int)) (.int .i64 (n : Int))).run Try.prog w = .ok (.slice (some ⟨w.heap.size, 0, none⟩) n n) (w.alloc (.cells ((List.replicate n (0 : Int)).map (Value.int .u8)).toArray 5)) := by
    have := run_make (P := Try.prog) w 22 5 i0 (.int .u8 0) Try.underlying22 hi hz0 .i64 .i64 (n : Int) (n : Int) (by omega) (by omega) (by rw [hz2]; omega) (by omega)
    rw [hz1, Int.toNat_natCast, Nat.mul_one] at this
    rw [this]
    congr 3
    apply Array.ext'
    rw [List.map_replicate]
    exact toList_madeCells_one _ _
  have Hb0 := hide (Blk.new w ((List.replicate n (0 : Int)).map (Value.int .u8)).toArray 5)
  have HB0 := hide ((Below.refl w.heap.size w).alloc (Nat.le_refl _) (.cells ((List.replicate n (0 : Int)).map (Value.int .u8)).toArray 5))
  obtain ⟨L0, hL0⟩ : ∃ L0 : List Int, L0 = List.replicate n 0 := ⟨_, rfl⟩
  have HL0 : Hid (L0.length = n) := hide (by rw [hL0, List.length_replicate])
  rw [← hL0] at hmk
  have Hb1 := unhide Hb0
  have HB1 := unhide HB0
  rw [← hL0] at Hb1 HB1
  have Hb2 := hide Hb1
  have HB2 := hide HB1
  have hq : 0 ≤ more % 3 ∧ more % 3 < 3 := by omega
  clear hL0 Hb0 HB0 Hb1 HB1
  clear hi hz0 hz1 hz2
  go_enter Try.func3, Try.ntmps3
  go_wp2_with fail
  refine (within3 more _).mono ?_
  rintro e w1 ⟨rfl, rfl⟩
  go_wp2
  clear hmk hn hq
  go_loopw [6] (fun i wr => ∃ (k : Nat) (L : List Int), k ≤ n ∧ i = .int .i64 k ∧ Hid (NumsU wr w1.heap.size L) ∧ Hid (L.length = n) ∧ Hid (Below w1.heap.size w1 wr)) (fun i _ => n - (intOf i).toNat)
  case atStart => exact ⟨0, L0, by omega, rfl, Hb2, HL0, HB2⟩
  case round =>
    obtain ⟨k, L, hk, rfl, HN, HL, HB⟩ := hrel
    by_cases hkn : k < n
    · have hk1 : (k : Int) < (n : Int) := by omega
      have hk2 : ((k : Nat) : Int).toNat = k := by omega
      have c0 := NumsU.cell (unhide HN) k (by have := unhide HL; omega)
      have f0 := Blk.frozen (unhide HN) k
      have HST := hide (NumsU.set (unhide HN) k c)
      have HB2 := hide ((unhide HB).setCell (p := ⟨w1.heap.size, k, none⟩) (Nat.le_refl _) (.int .u8 c))
      go_wp2
      go_roundw
      case rel => exact ⟨k + 1, L.set k c, by omega, by go_num, HST, hide (by rw [List.length_set]; exact unhide HL), HB2⟩
      case measure => simp [intOf]; omega
    · have hk1 : ¬ (k : Int) < (n : Int) := by omega
      have hsz : (strOfNums L).size = n := by rw [strOfNums_size]; exact unhide HL
      have kc := NumsU.string (unhide HN) n
      rw [unhide HL] at kc
      have HN2 := hide (And.intro (unhide HN) (unhide HL))
      generalize hS : strOfNums L = S at *
      have HS := hide hS
      clear hS hk
      by_cases hlong : 65536 < n
      · have hl1 : (65536 : Int) < (n : Int) := by omega
        go_wp2_with fail
        refine (begun_long S (by omega) (by unfold maxLen; omega) _).mono ?_
        rintro e w2 ⟨rfl, hb⟩
        have HB2 := hide ((unhide HB).trans (hb.mono (unhide HB).size))
        clear hb kc
        go_wp2
        go_ret
        exact ⟨rfl, unhide HB2⟩
      · go_wp2_with fail
        refine (begun_any S (by omega) _).mono ?_
        rintro e w2 ⟨B, rfl, hT, hb⟩
        have HB2 := hide ((unhide HB).trans (hb.mono (unhide HB).size))
        have HT2 := hide hT
        have hF : w1.heap.size < wr.heap.size := Blk.lt (unhide HN2).1
        have hNb := (unhide HN2).1.below hb hF
        have HN3 := hide hNb
        clear hT hb kc hNb
        go_wp2_with fail
        refine (count_text B S (by omega) _ (unhide HT2)).mono ?_
        rintro e w3 ⟨rfl, rfl⟩
        go_wp2_with fail
        refine (place_in B S (by omega) (starts S).length (Nat.le_refl _) _ (unhide HT2)).mono ?_
        rintro e w4 ⟨rfl, hb⟩
        rw [pl_end, hsz]
        have HB4 := hide ((unhide HB2).trans (hb.mono (unhide HB2).size))
        have HT4 := hide ((unhide HT2).below hb (Nat.le_refl _))
        have HN4 := hide ((unhide HN3).below hb (Blk.lt (unhide HN3)))
        clear hb
        go_wp2
        have b5 := Blk.new w4 #[.int .i64 n, .int .i64 (starts S).length] 28
        have hal := (Below.refl w4.heap.size w4).alloc (Nat.le_refl _) (.cells #[.int .i64 n, .int .i64 (starts S).length] 28)
        have HT5 := hide ((unhide HT4).below hal (Nat.le_refl _))
        have HB5 := hide ((unhide HB4).trans (hal.mono (unhide HB4).size))
        have HN5 := hide ((unhide HN4).below hal (Blk.lt (unhide HN4)))
        generalize hW5 : w4.alloc (.cells #[.int .i64 n, .int .i64 (starts S).length] 28) = W5 at *
        have kc5 := NumsU.string (W := W5.drew) (unhide HN5) n
        rw [(unhide HN2).2, unhide HS] at kc5
        have c0 := b5.cell 0
        have c1 := b5.cell 1
        have hmx : Try.prog.follows .mixedOrders = true := by kernel_rfl
        have hsz5 : S.size ≤ 65536 := by omega
        clear hW5 b5 hal
        go_region_with (first
          | (go_at_call 10; refine (count_text B S hsz5 _ ?_).mono ?_; (first | exact (unhide HT5) | exact (unhide HT5).below hb6 (Nat.le_refl _)); rintro e w' ⟨rfl, rfl⟩)
          | (go_at_call 11; refine (refSpots_any S (by omega) _).mono ?_; rintro e w6 ⟨v6, rfl, hown6, hb6⟩; obtain ⟨a6, cap6, rfl⟩ := row_form hown6))
        all_goals have HB6 := hide ((unhide HB5).trans (Below.mono (B := W5.heap.size) (w := W5) (w' := w6) ⟨hb6.os, hb6.tape, hb6.output, hb6.size, hb6.block⟩ (unhide HB5).size))
        all_goals clear hb6 hown6
        all_goals go_wp2
        all_goals go_ret
        all_goals exact ⟨rfl, unhide HB6⟩
end Go.Proofs.Ytaafecaclkagiac
