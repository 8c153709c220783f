/- Parts of a text, told for every text and every list of numbers. -/
import Derived.Test.YtnphbjhikapoeaaLRoundMath
import Derived.Test.YtnphbjhikapoeaaArg
import Derived.Laws.MakeOwn
namespace Go.Proofs.Ytnphbjhikapoeaa
open Go.RowKit Go.Shelf
set_option linter.unusedVariables false

/-- Where the piece number j begins, in spots, of c spots cut by zs. -/
def cpStep (c f : Nat) (z : Int) : Nat := f + min z.toNat (c - f)
def cp (c : Nat) (zs : List Int) (j : Nat) : Nat := (zs.take j).foldl (cpStep c) 0
theorem cp_zero (c : Nat) (zs : List Int) : cp c zs 0 = 0 := rfl
theorem cp_succ (c : Nat) (zs : List Int) (j : Nat) (h : j < zs.length) : cp c zs (j + 1) = cpStep c (cp c zs j) (zs.getD j 0) := by
  unfold cp
  rw [List.take_add_one, List.foldl_append, List.getElem?_eq_getElem h, List.getD, List.getElem?_eq_getElem h]
  rfl
theorem cp_le (c : Nat) (zs : List Int) : ∀ j, j ≤ zs.length → cp c zs j ≤ c
  | 0, _ => Nat.zero_le _
  | j + 1, h => by
    rw [cp_succ c zs j (by omega)]
    have := cp_le c zs j (by omega)
    unfold cpStep
    omega
theorem cp_mono (c : Nat) (zs : List Int) (j : Nat) (h : j < zs.length) : cp c zs j ≤ cp c zs (j + 1) := by
  rw [cp_succ c zs j h]
  unfold cpStep
  omega
/-- The piece number j. -/
def pc (s : ByteArray) (zs : List Int) (j : Nat) : ByteArray := s.extract (pl s (cp (starts s).length zs j)) (pl s (if j < zs.length then cp (starts s).length zs (j + 1) else (starts s).length))
/-- The first pieces, as cells. -/
def pcs (s : ByteArray) (zs : List Int) (n : Nat) : List Value := (List.range n).map (fun j => Value.string (pc s zs j))
theorem pcs_succ (s : ByteArray) (zs : List Int) (n : Nat) : pcs s zs (n + 1) = pcs s zs n ++ [.string (pc s zs n)] := by
  unfold pcs
  rw [List.range_succ, List.map_append]
  rfl
theorem infoStr : (Try.prog.info? 9).map (fun i => (i.zero, i.size, i.bytes)) = some (some (.string ⟨#[]⟩), 1, 16) := by kernel_rfl

theorem own_belowN {W W' : World} {base e size n : Nat} {v : Value} {xs : List Value} (h : W.ownsRow base e size v n xs) (hb : Below W.heap.size W W') : W'.ownsRow base e size v n xs :=
  h.kept (row := none) ⟨hb.os, hb.tape, hb.output, hb.size, fun j hj _ => hb.block j hj⟩ (by cases v.ownBlock <;> simp)
theorem own_range {W : World} {base e size n : Nat} {v : Value} {xs : List Value} (h : W.ownsRow base e size v n xs) : ∀ k, v.ownBlock = some k → base ≤ k := fun k hk => (h.lt k hk).1

/-- A list of numbers as it lies in a world. -/
def RowN (W : World) (a : Option Addr) (zs : List Int) : Prop := 0 < zs.length → ∃ g o, a = some ⟨g, o, none⟩ ∧ g < W.heap.size ∧ ∀ j, j < zs.length → W.cell? ⟨g, o + j, none⟩ = some (.int .i64 (zs.getD j 0))
theorem RowN.below {W W' : World} {N : Nat} {a : Option Addr} {zs : List Int} (h : RowN W a zs) (hb : Below N W W') (hN : W.heap.size ≤ N) : RowN W' a zs := fun h0 => by
  obtain ⟨g, o, ha, hg, hc⟩ := h h0
  have := hb.size
  exact ⟨g, o, ha, by omega, fun j hj => (hb.cell (p := ⟨g, o + j, none⟩) (by show g < N; omega)).trans (hc j hj)⟩
theorem ArgRow.rowN {W : World} {a : Option Addr} {len cap : Nat} {zs : List Int} (h : ArgRow .i64 W a len cap zs) : RowN W a (zs.take len) := fun hn => by
  obtain ⟨hl, hz, hw, hc⟩ := h
  rw [List.length_take] at hn
  obtain ⟨g, o, ha, hg, hcell⟩ := hc (by omega)
  refine ⟨g, o, ha, hg, fun j hj => ?_⟩
  rw [List.length_take] at hj
  rw [hcell j (by omega)]
  simp only [List.getD, List.getElem?_take]
  rw [if_pos (by omega)]

set_option maxRecDepth 100000 in
set_option maxHeartbeats 4000000 in
theorem parts_text (B : Nat) (s : ByteArray) (hs : s.size ≤ 65536) (a : Option Addr) (cap : Nat) (zs : List Int) (hz : zs.length ≤ 1048576) (W : World) (h : TextAt W B s) (hr : RowN W a zs) :
    Calls Try.prog 14 #[.pointer (some ⟨B, 0, none⟩), .slice a zs.length cap] W fun e w' => ∃ v, e = .returned v ∧ w'.ownsRow W.heap.size 9 1 v (zs.length + 1) (pcs s zs (zs.length + 1)) ∧ Below W.heap.size W w' := by
  obtain ⟨i0, hi, hz0, hz1, hz2⟩ := info_parts infoStr
  obtain ⟨wm, hmk0, hown0, hg0⟩ := run_make_own (P := Try.prog) W W.heap.size 44 9 i0 (.string ⟨#[]⟩) 1 Try.underlying44 hi hz0 hz1 .i64 .i64 (zs.length + 1) (by rw [hz2]; omega) (by unfold maxLen; omega) (Nat.le_refl _)
  have hmk : (Instr.makeSlice 44 (.int .i64 0) (.int .i64 ((zs.length : Int) + 1))).run Try.prog W = .ok (.slice (some ⟨W.heap.size, 0, none⟩) 0 (zs.length + 1)) wm := by
    rw [show (zs.length : Int) + 1 = ((zs.length + 1 : Nat) : Int) by omega]; exact hmk0
  have HI := hide (And.intro hi (And.intro hz0 (And.intro hz1 hz2)))
  have hbm : Below W.heap.size W wm := ⟨hg0.os, hg0.tape, hg0.output, hg0.size, fun k hk => hg0.block k hk (by simp)⟩
  have HTW := hide h
  have HRW := hide hr
  have HBM := hide hbm
  have HO0 := hide hown0
  have hnl := starts_length s
  have hzi : (zs.length : Int) ≤ 1048576 := by omega
  clear hi hz0 hz1 hz2 hmk0 hown0 hg0 hbm h hr
  obtain ⟨c, hc⟩ : ∃ c, c = (starts s).length := ⟨_, rfl⟩
  have HCC := hide hc
  go_enter Try.func14, Try.ntmps14
  go_wp2
  clear hmk
  go_loopw [5, 6, 20] (fun v f i wr => ∃ j : Nat, j ≤ zs.length ∧ i = .int .i64 j ∧ f = .int .i64 (cp (starts s).length zs j) ∧ Hid (wr.ownsRow W.heap.size 9 1 v j (pcs s zs j)) ∧ Hid (Below W.heap.size W wr)) (fun _ _ i _ => zs.length - (intOf i).toNat)
  case atStart => exact ⟨0, by omega, rfl, rfl, HO0, HBM⟩
  case round =>
    obtain ⟨j, hj, rfl, rfl, HO, HB⟩ := hrel
    have HT := hide ((unhide HTW).below (unhide HB) (Nat.le_refl _))
    have HR := hide ((unhide HRW).below (unhide HB) (Nat.le_refl _))
    have hcl := cp_le (starts s).length zs j hj
    by_cases hjn : j < zs.length
    · obtain ⟨g, o, rfl, hg, hcell⟩ := unhide HR (by omega)
      have ck := hcell j hjn
      have hj1 : (j : Int) < (zs.length : Int) := by omega
      have hj2 : ((j : Nat) : Int).toNat = j := by omega
      have hst := cp_succ (starts s).length zs j hjn
      have hcl2 := cp_le (starts s).length zs (j + 1) (by omega)
      have hmo := cp_mono (starts s).length zs j hjn
      have HPC := hide (show pc s zs j = s.extract (pl s (cp (starts s).length zs j)) (pl s (cp (starts s).length zs (j + 1))) by unfold pc; rw [if_pos hjn])
      generalize hzj : zs.getD j 0 = z at *
      generalize hf : cp (starts s).length zs j = f at *
      generalize hf2 : cp (starts s).length zs (j + 1) = f2 at *
      have HF2 := hide hf2
      have hfi : (f : Int) ≤ ((starts s).length : Int) := by omega
      have hci : ((starts s).length : Int) ≤ 65536 := by omega
      have hfb : (f : Int) ≤ 65536 := by omega
      have hcf : (0 : Int) ≤ ((starts s).length : Int) - (f : Int) := by omega
      have HCL2 := hide hcl2
      have HMO := hide hmo
      unfold cpStep at hst
      clear hzj hf hf2 hcell hcl2 hmo hcl
      by_cases hz0 : z < 0
      · obtain rfl : f = f2 := by omega
        clear hst
        go_wp2_with fail
        refine (count_text B s hs _ (unhide HT)).mono ?_
        rintro e w1 ⟨rfl, rfl⟩
        go_wp2_with fail
        refine (slice_in B s hs f f (unhide HMO) (unhide HCL2) _ (unhide HT)).mono ?_
        rintro e w2 ⟨rfl, hb⟩
        rw [← unhide HPC]
        have HB2 := hide ((unhide HB).trans (hb.mono (unhide HB).size))
        have HO2 := hide (own_belowN (unhide HO) hb)
        clear hb
        go_wp2_with (at_builtin; refine wpList_append_own _ rfl _ _ 44 rfl W.heap.size 9 i0 (.string ⟨#[]⟩) 1 16 Try.underlying44 (unhide HI).1 (unhide HI).2.1 (unhide HI).2.2.1 (unhide HI).2.2.2 rfl (by decide) _ _ _ rfl ((unhide HO2).alloc _) ⟨w2.heap.size, 0, none⟩ 1 1 [.string (pc s zs j)] rfl rfl (one_new _ _ _) ?c0 ?c1 ?c2 ?c3 ?_)
        case c0 => intro u hu; simp at hu; rw [hu]; rfl
        case c1 => unfold maxLen; omega
        case c2 => omega
        case c3 => have := (unhide HB2).size; simp; omega
        intro v' w3 hown' hgrow _
        have hB2a := (unhide HB2).alloc (unhide HB2).size (.cells #[.string (pc s zs j)] 9)
        have HB3 := hide (hB2a.grown hgrow (by have := (unhide HB2).size; simp; omega) (own_range (unhide HO2)))
        have HO3 := hide hown'
        clear hown' hgrow hB2a
        go_wp2
        go_roundw
        case rel =>
          refine ⟨j + 1, by omega, by go_num, by rw [unhide HF2], hide ?_, HB3⟩
          rw [pcs_succ]; exact unhide HO3
        case measure => simp [intOf]; omega
      · by_cases hz1 : z ≤ ((starts s).length : Int) - (f : Int)
        · have hsum : (f : Int) + z = (f2 : Int) := by omega
          have hz2 : (0 : Int) ≤ z := by omega
          have hz3 : z ≤ 65536 := by omega
          clear hst hz0
          go_wp2_with fail
          refine (count_text B s hs _ (unhide HT)).mono ?_
          rintro e w1 ⟨rfl, rfl⟩
          go_wp2_with fail
          refine (slice_in B s hs f f2 (unhide HMO) (unhide HCL2) _ (unhide HT)).mono ?_
          rintro e w2 ⟨rfl, hb⟩
          rw [← unhide HPC]
          have HB2 := hide ((unhide HB).trans (hb.mono (unhide HB).size))
          have HO2 := hide (own_belowN (unhide HO) hb)
          clear hb
          go_wp2_with (at_builtin; refine wpList_append_own _ rfl _ _ 44 rfl W.heap.size 9 i0 (.string ⟨#[]⟩) 1 16 Try.underlying44 (unhide HI).1 (unhide HI).2.1 (unhide HI).2.2.1 (unhide HI).2.2.2 rfl (by decide) _ _ _ rfl ((unhide HO2).alloc _) ⟨w2.heap.size, 0, none⟩ 1 1 [.string (pc s zs j)] rfl rfl (one_new _ _ _) ?c0 ?c1 ?c2 ?c3 ?_)
          case c0 => intro u hu; simp at hu; rw [hu]; rfl
          case c1 => unfold maxLen; omega
          case c2 => omega
          case c3 => have := (unhide HB2).size; simp; omega
          intro v' w3 hown' hgrow _
          have hB2a := (unhide HB2).alloc (unhide HB2).size (.cells #[.string (pc s zs j)] 9)
          have HB3 := hide (hB2a.grown hgrow (by have := (unhide HB2).size; simp; omega) (own_range (unhide HO2)))
          have HO3 := hide hown'
          clear hown' hgrow hB2a
          go_wp2
          go_roundw
          case rel =>
            refine ⟨j + 1, by omega, by go_num, by rw [unhide HF2], hide ?_, HB3⟩
            rw [pcs_succ]; exact unhide HO3
          case measure => simp [intOf]; omega
        · have hsum : (f : Int) + (((starts s).length : Int) - (f : Int)) = (f2 : Int) := by omega
          have hz2 : (0 : Int) ≤ z := by omega
          clear hst hz0
          go_wp2_with fail
          refine (count_text B s hs _ (unhide HT)).mono ?_
          rintro e w1 ⟨rfl, rfl⟩
          go_wp2_with fail
          refine (slice_in B s hs f f2 (unhide HMO) (unhide HCL2) _ (unhide HT)).mono ?_
          rintro e w2 ⟨rfl, hb⟩
          rw [← unhide HPC]
          have HB2 := hide ((unhide HB).trans (hb.mono (unhide HB).size))
          have HO2 := hide (own_belowN (unhide HO) hb)
          clear hb
          go_wp2_with (at_builtin; refine wpList_append_own _ rfl _ _ 44 rfl W.heap.size 9 i0 (.string ⟨#[]⟩) 1 16 Try.underlying44 (unhide HI).1 (unhide HI).2.1 (unhide HI).2.2.1 (unhide HI).2.2.2 rfl (by decide) _ _ _ rfl ((unhide HO2).alloc _) ⟨w2.heap.size, 0, none⟩ 1 1 [.string (pc s zs j)] rfl rfl (one_new _ _ _) ?c0 ?c1 ?c2 ?c3 ?_)
          case c0 => intro u hu; simp at hu; rw [hu]; rfl
          case c1 => unfold maxLen; omega
          case c2 => omega
          case c3 => have := (unhide HB2).size; simp; omega
          intro v' w3 hown' hgrow _
          have hB2a := (unhide HB2).alloc (unhide HB2).size (.cells #[.string (pc s zs j)] 9)
          have HB3 := hide (hB2a.grown hgrow (by have := (unhide HB2).size; simp; omega) (own_range (unhide HO2)))
          have HO3 := hide hown'
          clear hown' hgrow hB2a
          go_wp2
          go_roundw
          case rel =>
            refine ⟨j + 1, by omega, by go_num, by rw [unhide HF2], hide ?_, HB3⟩
            rw [pcs_succ]; exact unhide HO3
          case measure => simp [intOf]; omega
    · obtain rfl : j = zs.length := by omega
      have hj1 : ¬ (zs.length : Int) < (zs.length : Int) := by omega
      have HPC := hide (show pc s zs zs.length = s.extract (pl s (cp (starts s).length zs zs.length)) (pl s (starts s).length) by unfold pc; rw [if_neg (by omega)])
      generalize cp (starts s).length zs zs.length = f at *
      go_wp2_with fail
      refine (count_text B s hs _ (unhide HT)).mono ?_
      rintro e w1 ⟨rfl, rfl⟩
      go_wp2_with fail
      refine (slice_in B s hs f (starts s).length hcl (Nat.le_refl _) _ (unhide HT)).mono ?_
      rintro e w2 ⟨rfl, hb⟩
      rw [← unhide HPC]
      have HB2 := hide ((unhide HB).trans (hb.mono (unhide HB).size))
      have HO2 := hide (own_belowN (unhide HO) hb)
      clear hb
      go_wp2_with (at_builtin; refine wpList_append_own _ rfl _ _ 44 rfl W.heap.size 9 i0 (.string ⟨#[]⟩) 1 16 Try.underlying44 (unhide HI).1 (unhide HI).2.1 (unhide HI).2.2.1 (unhide HI).2.2.2 rfl (by decide) _ _ _ rfl ((unhide HO2).alloc _) ⟨w2.heap.size, 0, none⟩ 1 1 [.string (pc s zs zs.length)] rfl rfl (one_new _ _ _) ?c0 ?c1 ?c2 ?c3 ?_)
      case c0 => intro u hu; simp at hu; rw [hu]; rfl
      case c1 => unfold maxLen; omega
      case c2 => omega
      case c3 => have := (unhide HB2).size; simp; omega
      intro v' w3 hown' hgrow _
      have hB2a := (unhide HB2).alloc (unhide HB2).size (.cells #[.string (pc s zs zs.length)] 9)
      have HB3 := hide (hB2a.grown hgrow (by have := (unhide HB2).size; simp; omega) (own_range (unhide HO2)))
      have HO3 := hide hown'
      clear hown' hgrow hB2a
      go_wp2
      go_ret
      refine ⟨_, rfl, ?_, unhide HB3⟩
      rw [pcs_succ]
      exact unhide HO3
end Go.Proofs.Ytnphbjhikapoeaa
