/- quoted: the rune between two quotes. -/
import Derived.Test.YtncmabmpkdmpfaaDoorScBegun
import Derived.Test.YtncmabmpkdmpfaaDoorDeep
namespace Go.Proofs.YtncmabmpkdmpfaaDoor
open Go.RowKit Go.Shelf
set_option linter.unusedVariables false
/-- The text behind its first byte. -/
def tl1 (t : ByteArray) : ByteArray := t.extract 1 t.size
/-- The rune, its bytes with both quotes, whether it is one. -/
def quoV (t : ByteArray) : Nat × Nat × Bool :=
  if (tl1 t).size = 0 then (0, t.size, false) else if rn (tl1 t) 0 < 32 ∨ rn (tl1 t) 0 = 39 ∨ rn (tl1 t) 0 = 127 then (0, 1, false) else if wholeB (tl1 t) = false then (0, 1 + begLen (tl1 t), false)
  else if ¬ wd (tl1 t) 0 < (tl1 t).size then (0, t.size, false) else if rn (tl1 t) (wd (tl1 t) 0) = 39 then (rn (tl1 t) 0, wd (tl1 t) 0 + 2, true) else (0, 1 + wd (tl1 t) 0, false)
theorem tl1_size (t : ByteArray) : (tl1 t).size = t.size - 1 := by unfold tl1; rw [ByteArray.size_extract]; omega
theorem tupR_mk {a n : Nat} {i : Int} {b : Bool} (h : i = n) : Ending.returned (.tuple #[.int .i32 (a : Int), .int .i64 i, .bool b]) = .returned (tupR (a, n, b)) := by subst h; rfl
set_option maxRecDepth 100000 in
set_option maxHeartbeats 4000000 in
theorem quoted_any (t : ByteArray) (ht : t.size ≤ 4611686018427387904) (hp : 0 < t.size) (w : World) : Calls Tryd.prog 50 #[.string t] w fun e w' => e = .returned (tupR (quoV t)) ∧ Below w.heap.size w w' := by
  have hz := tl1_size t
  have h1t : (1 : Int) ≤ (t.size : Int) := by omega
  obtain ⟨u, hu⟩ : ∃ u, u = tl1 t := ⟨_, rfl⟩
  have hue : t.extract 1 t.size = u := by rw [hu]; rfl
  have hq : quoV t = if u.size = 0 then (0, t.size, false) else if rn u 0 < 32 ∨ rn u 0 = 39 ∨ rn u 0 = 127 then (0, 1, false) else if wholeB u = false then (0, 1 + begLen u, false) else if ¬ wd u 0 < u.size then (0, t.size, false) else if rn u (wd u 0) = 39 then (rn u 0, wd u 0 + 2, true) else (0, 1 + wd u 0, false) := by unfold quoV; rw [hu]
  rw [← hu] at hz
  clear hu
  have HQ := hide hq
  have HZ := hide hz
  clear hq hz
  go_enter Tryd.func50, Tryd.ntmps50
  go_wp2_with fail
  refine wp_loop_rounds 3 ?_
  rw [rounds_succ]
  by_cases h0 : 0 < u.size
  · have hnx : ∀ ty, (Instr.next (.pointer (some ⟨w.heap.size, 0, none⟩)) true ty).run Tryd.prog (w.iter u 0) = _ := fun ty => run_next_any w u 0 ty h0
    have hr := (at_told u 0)
    obtain ⟨x, hx⟩ : ∃ x, x = rn u 0 := ⟨_, rfl⟩
    obtain ⟨d, hd⟩ : ∃ d, d = wd u 0 := ⟨_, rfl⟩
    have hdr := wd_room u 0 h0
    have hdp := wd_pos u 0
    rw [← hd] at hdr hdp
    rw [show (Utf8.decode u 0).1 = x from hx.symm, show 0 + (Utf8.decode u 0).2 = d by rw [Nat.zero_add]; exact hd.symm] at hnx
    have hq := unhide HQ
    rw [← hx, ← hd, if_neg (by omega)] at hq
    clear HQ
    by_cases hlow : x < 32 ∨ x = 39 ∨ x = 127
    · rw [if_pos hlow] at hq
      have HQ := hide hq
      clear hq hr hd hx
      have hb : Below w.heap.size w (w.iter u d) := (Below.refl _ w).alloc (Nat.le_refl _) _
      have HB := hide hb
      clear hb
      rcases hlow with h | h | h
      · have h' : (x : Int) < 32 := by omega
        clear h
        go_wp2_with fail
        go_ret3
        exact ⟨by rw [unhide HQ]; rfl, unhide HB⟩
      · have h' : ¬ (x : Int) < 32 := by omega
        have h'' : ((x : Int) == 39) = true := by rw [beq_iff_eq]; omega
        clear h
        go_wp2_with fail
        go_ret3
        exact ⟨by rw [unhide HQ]; rfl, unhide HB⟩
      · have h' : ¬ (x : Int) < 32 := by omega
        have h'' : ((x : Int) == 39) = false := by rw [beq_eq_false_iff_ne]; omega
        have h3 : ((x : Int) == 127) = true := by rw [beq_iff_eq]; omega
        clear h
        go_wp2_with fail
        go_ret3
        exact ⟨by rw [unhide HQ]; rfl, unhide HB⟩
    · rw [if_neg hlow] at hq
      have h1 : ¬ (x : Int) < 32 := by omega
      have h2 : ((x : Int) == 39) = false := by rw [beq_eq_false_iff_ne]; omega
      have h3 : ((x : Int) == 127) = false := by rw [beq_eq_false_iff_ne]; omega
      clear hlow
      have HQ := hide hq
      clear hq hr
      have hu1 : u.size ≤ maxLen := by have := unhide HZ; unfold maxLen; omega
      have hu2 : u.size ≤ 4611686018427387904 := by have := unhide HZ; omega
      have hb : Below w.heap.size w (w.iter u d) := (Below.refl _ w).alloc (Nat.le_refl _) _
      have hit : (w.iter u d).heap[w.heap.size]? = some (.stringIter u d) := World.alloc_heap_new w _
      have hsz : (w.iter u d).heap.size = w.heap.size + 1 := World.size_alloc w _
      have HB := hide hb
      have HIT := hide hit
      have HSZ := hide hsz
      have HX := hide hx
      have HD := hide hd
      clear hb hit hsz hx hd
      go_wp2_with fail
      refine (whole_any u hu1 _).mono ?_
      rintro e w1 ⟨rfl, hb1⟩
      have HB1 := hide ((unhide HB).trans (hb1.mono (unhide HB).size))
      have HIT1 : Hz (w1.heap[w.heap.size]? = some (.stringIter u d)) := hide ((hb1.block _ (by rw [unhide HSZ]; omega)).trans (unhide HIT))
      clear hb1 HB HIT HSZ hnx
      cases hwh : wholeB u with
      | false =>
        have hq := unhide HQ
        rw [if_pos hwh] at hq
        have HQ2 := hide hq
        clear hq HQ hwh
        go_wp2_with fail
        refine (begun_text u hu2 _).mono ?_
        rintro e w2 ⟨rfl, hb2⟩
        have HB2 := hide ((unhide HB1).trans (hb2.mono (unhide HB1).size))
        have hbl : begLen u ≤ u.size := (scanTo_le _ (Nat.zero_le _)).2
        have hbl' : (begLen u : Int) ≤ 4611686018427387904 := by omega
        clear hb2
        go_wp2_with fail
        go_ret3
        exact ⟨by rw [unhide HQ2]; go_num, unhide HB2⟩
      | true =>
        have hq := unhide HQ
        rw [if_neg (by rw [hwh]; decide)] at hq
        clear HQ hwh
        have HQ := hide hq
        clear hq
        go_wp2_with fail
        rw [rounds_succ]
        by_cases hdu : d < u.size
        · have hnx : ∀ ty, (Instr.next (.pointer (some ⟨w.heap.size, 0, none⟩)) true ty).run Tryd.prog w1 = _ := fun ty => Lib.run_next_any_at w1 w.heap.size u d ty (unhide HIT1) hdu
          obtain ⟨y, hy⟩ : ∃ y, y = rn u d := ⟨_, rfl⟩
          rw [show (Utf8.decode u d).1 = y from hy.symm] at hnx
          have hq := unhide HQ
          rw [if_neg (by omega), ← hy] at hq
          have hB2 : Below w.heap.size w (w1.iterAt w.heap.size u (d + (Utf8.decode u d).2)) := (unhide HB1).trans (below_put w1 (Nat.le_refl _) _)
          have HB2 := hide hB2
          have hd0 : (0 : Int) < (d : Int) := by omega
          have hdb : (d : Int) ≤ 4611686018427387904 := by omega
          clear HQ hy hB2
          by_cases h39 : y = 39
          · rw [if_pos h39] at hq
            have HQ2 := hide hq
            have h' : ((y : Int) == 39) = true := by rw [beq_iff_eq]; omega
            clear hq h39
            go_wp2_with fail
            go_ret3
            exact ⟨by rw [unhide HQ2]; exact tupR_mk (by omega), unhide HB2⟩
          · rw [if_neg h39] at hq
            have HQ2 := hide hq
            have h' : ((y : Int) == 39) = false := by rw [beq_eq_false_iff_ne]; omega
            clear hq h39
            go_wp2_with fail
            go_ret3
            exact ⟨by rw [unhide HQ2]; exact tupR_mk (a := 0) (by omega), unhide HB2⟩
        · have hnx : ∀ ty, (Instr.next (.pointer (some ⟨w.heap.size, 0, none⟩)) true ty).run Tryd.prog w1 = _ := fun ty => Lib.run_next_end_at w1 w.heap.size u d ty (unhide HIT1) hdu
          have hq := unhide HQ
          rw [if_pos (by omega)] at hq
          have HQ2 := hide hq
          clear hq HQ
          go_wp2_with fail
          go_ret3
          exact ⟨by rw [unhide HQ2]; rfl, unhide HB1⟩
  · have hu0 : u.size = 0 := by omega
    have hnx : ∀ ty, (Instr.next (.pointer (some ⟨w.heap.size, 0, none⟩)) true ty).run Tryd.prog (w.iter u 0) = _ := fun ty => run_next_end w u 0 ty h0
    have hq := unhide HQ
    rw [if_pos hu0] at hq
    have HQ2 := hide hq
    have hb : Below w.heap.size w (w.iter u 0) := (Below.refl _ w).alloc (Nat.le_refl _) _
    have HB := hide hb
    clear hq hb HQ hu0
    go_wp2_with fail
    go_ret3
    exact ⟨by rw [unhide HQ2]; rfl, unhide HB⟩
end Go.Proofs.YtncmabmpkdmpfaaDoor
