/- The reference's own list of spots, told for every text that is not too great: a new list, spot by spot, the decoding's. -/
import Derived.Test.YthjndkjbjflmfaaSeqAll
namespace Go.Proofs.Ythjndkjbjflmfaa
open Go.RowKit Go.Shelf
set_option linter.unusedVariables false

/-- The cells of the reference's spot at i. -/
def refCells (s : ByteArray) (i : Nat) : List Value := [.int .i32 (rn s i), .int .i64 i, .int .i64 (wd s i), .bool (decide (rn s i = 65533 ∧ wd s i = 1))]
theorem infoSpot : (Try.prog.info? 67).map (fun i => (i.zero, i.size, i.bytes)) = some (some (.agg #[.int .i32 0, .int .i64 0, .int .i64 0, .bool false]), 4, 32) := by kernel_rfl

theorem seqV_at (s : ByteArray) (i : Nat) (h : i < s.size) : seqV (s.extract i s.size) = if rn s i = 65533 ∧ wd s i = 1 then (0, 0) else ((wd s i : Int), (rn s i : Int)) := by
  unfold seqV
  have e : (s.extract i s.size).size ≠ 0 := by rw [ByteArray.size_extract]; omega
  simp only [rn, wd, decode_suffix s i 0 (Nat.le_of_lt h), Nat.add_zero, e, false_or]

theorem own_lt {W : World} {base : Nat} {e : TypeId} {size : Nat} {v : Value} {n : Nat} {xs : List Value} (h : W.ownsRow base e size v n xs) : ∀ g, v.ownBlock = some g → base ≤ g ∧ g < W.heap.size := by
  intro g hg
  rcases h.2 with ⟨rfl, _⟩ | ⟨g', cap, cur, rfl, hb, hh, _⟩
  · cases hg
  · cases hg
    exact ⟨hb, (Array.getElem?_eq_some_iff.1 hh).1⟩
theorem new_cells (W : World) (c0 c1 c2 c3 : Value) (t : TypeId) : ∀ j u, [c0, c1, c2, c3][j]? = some u → (W.alloc (.cells #[c0, c1, c2, c3] t)).cell? ((⟨W.heap.size, 0, none⟩ : Addr).add j) = some u := by
  intro j u hj
  have := (Blk.new W #[c0, c1, c2, c3] t).cell j
  rw [show (⟨W.heap.size, 0, none⟩ : Addr).add j = ⟨W.heap.size, j, none⟩ by unfold Addr.add; split <;> simp_all, this, ← hj]
  simp

/-- What one round does to the list and to the box of the spot. -/
theorem rs_step {s : ByteArray} {w w1 w2 : World} {v v' : Value} {pre : List Nat} {pos : Nat} {c0 c1 c2 c3 : Value} (hrc : refCells s pos = [c0, c1, c2, c3])
    (hown : w1.ownsRow w.heap.size 67 4 v pre.length (pre.flatMap (refCells s))) (hB : Below w.heap.size w w1)
    (hown' : w2.ownsRow w.heap.size 67 4 v' (pre.length + 1) (pre.flatMap (refCells s) ++ [c0, c1, c2, c3]))
    (hgrow : ((w1.alloc (.cells #[c0, c1, c2, c3] 67)).alloc (.cells #[c0, c1, c2, c3] 67)).grownBy w2 v.ownBlock) :
    w2.ownsRow w.heap.size 67 4 v' (pre ++ [pos]).length ((pre ++ [pos]).flatMap (refCells s)) ∧ Below w.heap.size w w2 ∧ Blk w2 w1.heap.size #[c0, c1, c2, c3] 67 := by
  have e : (pre ++ [pos]).flatMap (refCells s) = pre.flatMap (refCells s) ++ [c0, c1, c2, c3] := by rw [List.flatMap_append]; simp [hrc]
  have hl := own_lt hown
  refine ⟨?_, ?_, ?_⟩
  · rw [e, List.length_append]; exact hown'
  · refine ((hB.alloc hB.size _).alloc (by have := hB.size; simp; omega) _).grown hgrow (by have := hB.size; simp; omega) (fun k hk => (hl k hk).1)
  · exact ((Blk.new w1 #[c0, c1, c2, c3] 67).alloc _).kept hgrow (fun e => by have := (hl _ e.symm).2; omega)

set_option maxRecDepth 100000 in
set_option maxHeartbeats 4000000 in
theorem refSpots_any (s : ByteArray) (hs : s.size ≤ 1099511627776) (w : World) :
    Calls Try.prog 33 #[.string s] w fun e w' => ∃ v, e = .returned v ∧ w'.ownsRow w.heap.size 67 4 v (starts s).length ((starts s).flatMap (refCells s)) ∧ Below w.heap.size w w' := by
  obtain ⟨i0, hi, hz0, hz1, hz2⟩ := info_parts infoSpot
  have HI := hide hi
  have HZ0 := hide hz0
  have HZ1 := hide hz1
  have HZ2 := hide hz2
  clear hi hz0 hz1 hz2
  go_enter Try.func33, Try.ntmps33
  go_wp2
  go_loopw [3, 4] (fun v i wr => ∃ (pre : List Nat) (pos f : Nat), Hz (starts s = pre ++ startsFrom s f pos) ∧ s.size ≤ pos + f ∧ i = .int .i64 pos ∧ wr.ownsRow w.heap.size 67 4 v pre.length (pre.flatMap (refCells s)) ∧ Below w.heap.size w wr)
    (fun _ i _ => s.size - (intOf i).toNat)
  case atStart => exact ⟨[], 0, s.size, hide rfl, by omega, rfl, World.ownsRow_nil _ _ _ _, Below.refl _ _⟩
  case round =>
    obtain ⟨pre, pos, f, HS, hf, rfl, hown, hB⟩ := hrel
    by_cases hp : pos < s.size
    · have hp' : (pos : Int) < s.size := by omega
      have hpl : pre.length < s.size := by
        have h1 := starts_length s
        rw [unhide HS, List.length_append] at h1
        obtain ⟨g, rfl⟩ : ∃ g, f = g + 1 := ⟨f - 1, by omega⟩
        rw [startsFrom_cons s g pos hp] at h1
        simp at h1
        omega
      have hsv := seqV_at s pos hp
      have hroom := wd_room s pos hp
      have hpos := wd_pos s pos
      have hrc : refCells s pos = [.int .i32 (rn s pos), .int .i64 pos, .int .i64 (wd s pos), .bool (decide (rn s pos = 65533 ∧ wd s pos = 1))] := rfl
      by_cases hbad : rn s pos = 65533 ∧ wd s pos = 1
      · rw [if_pos hbad] at hsv
        rw [decide_eq_true hbad, hbad.1, hbad.2] at hrc
        have HV := hide hsv
        have HRC := hide hrc
        have HBD := hide hbad
        clear hsv hrc hbad hroom hpos
        go_wp2_with fail
        refine (seq_any _ (by rw [ByteArray.size_extract]; unfold maxLen; omega) _).mono ?_
        rintro e w1 ⟨rfl, rfl⟩
        rw [unhide HV]
        have hln := new_cells (w1.alloc (.cells #[.int .i32 65533, .int .i64 pos, .int .i64 1, .bool true] 67)) (.int .i32 65533) (.int .i64 pos) (.int .i64 1) (.bool true) 67
        have HLN := hide hln
        clear hln
        go_wp2_with (at_builtin; refine wpList_append_own _ rfl _ _ 64 rfl w.heap.size 67 i0 (.agg #[.int .i32 0, .int .i64 0, .int .i64 0, .bool false]) 4 32 Try.underlying64 (unhide HI) (unhide HZ0) (unhide HZ1) (unhide HZ2) rfl (by decide) _ _ _ rfl ((hown.alloc _).alloc _) ⟨w1.heap.size + 1, 0, none⟩ 1 1 [.int .i32 65533, .int .i64 pos, .int .i64 1, .bool true] rfl rfl ?c1 ?c2 ?c3 ?c4 ?c5 ?_)
        case c1 => have := unhide HLN; simpa using this
        case c2 => intro u hu; simp at hu; rcases hu with rfl | rfl | rfl | rfl <;> rfl
        case c3 => unfold maxLen; omega
        case c4 => omega
        case c5 => have := hB.size; simp; omega
        intro v' w2 hown' hgrow _
        obtain ⟨hown2, hB2, bX⟩ := rs_step (unhide HRC) hown hB hown' hgrow
        have x2 := bX.cell 2
        clear hown' hgrow hown hB HLN bX
        go_wp2
        go_roundw
        case rel => exact ⟨pre ++ [pos], pos + 1, f - 1, hide (by
          obtain ⟨g, rfl⟩ : ∃ g, f = g + 1 := ⟨f - 1, by omega⟩
          rw [unhide HS, startsFrom_cons s g pos hp, (unhide HBD).2]; simp), by omega, by go_num, hown2, hB2⟩
        case measure => simp [intOf]; omega
      · rw [if_neg hbad] at hsv
        rw [decide_eq_false hbad] at hrc
        have hcons : ∀ g, startsFrom s (g + 1) pos = pos :: startsFrom s g (pos + wd s pos) := fun g => startsFrom_cons s g pos hp
        generalize rn s pos = r at hsv hrc
        generalize wd s pos = d at hsv hrc hroom hpos hcons
        have HV := hide hsv
        have HRC := hide hrc
        have HCO := hide hcons
        have hd0 : ((d : Int) == 0) = false := beq_eq_false_iff_ne.2 (by omega)
        have hd1 : (1 : Int) ≤ d := by omega
        have hd2 : (pos : Int) + d ≤ s.size := by omega
        clear hsv hrc hbad hcons
        go_wp2_with fail
        refine (seq_any _ (by rw [ByteArray.size_extract]; unfold maxLen; omega) _).mono ?_
        rintro e w1 ⟨rfl, rfl⟩
        rw [unhide HV]
        have hln := new_cells (w1.alloc (.cells #[.int .i32 r, .int .i64 pos, .int .i64 d, .bool false] 67)) (.int .i32 r) (.int .i64 pos) (.int .i64 d) (.bool false) 67
        have HLN := hide hln
        clear hln
        go_wp2_with (at_builtin; refine wpList_append_own _ rfl _ _ 64 rfl w.heap.size 67 i0 (.agg #[.int .i32 0, .int .i64 0, .int .i64 0, .bool false]) 4 32 Try.underlying64 (unhide HI) (unhide HZ0) (unhide HZ1) (unhide HZ2) rfl (by decide) _ _ _ rfl ((hown.alloc _).alloc _) ⟨w1.heap.size + 1, 0, none⟩ 1 1 [.int .i32 r, .int .i64 pos, .int .i64 d, .bool false] rfl rfl ?c1 ?c2 ?c3 ?c4 ?c5 ?_)
        case c1 => have := unhide HLN; simpa using this
        case c2 => intro u hu; simp at hu; rcases hu with rfl | rfl | rfl | rfl <;> rfl
        case c3 => unfold maxLen; omega
        case c4 => omega
        case c5 => have := hB.size; simp; omega
        intro v' w2 hown' hgrow _
        obtain ⟨hown2, hB2, bX⟩ := rs_step (unhide HRC) hown hB hown' hgrow
        have x2 := bX.cell 2
        clear hown' hgrow hown hB HLN bX
        go_wp2
        go_roundw
        case rel => exact ⟨pre ++ [pos], pos + d, f - 1, hide (by
          obtain ⟨g, rfl⟩ : ∃ g, f = g + 1 := ⟨f - 1, by omega⟩
          rw [unhide HS, unhide HCO g]; simp), by omega, by go_num, hown2, hB2⟩
        case measure => simp [intOf]; omega
    · have hp' : ¬ (pos : Int) < s.size := by omega
      have hst := unhide HS
      rw [startsFrom_end s f pos hp, List.append_nil] at hst
      have HST := hide hst
      clear hst HS
      go_wp2
      go_ret
      exact ⟨_, rfl, by rw [unhide HST]; exact hown, hB⟩
end Go.Proofs.Ythjndkjbjflmfaa
