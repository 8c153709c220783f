/- UtfText, for every list of at most a million numbers: the text of the numbers or the refusal is the reference's; what was handed in is left as it is, and its memory with other numbers in it is asked anew. -/
import Derived.Test.YtaafecaclkagiaaRoomyR
import Derived.Test.YtaafecaclkagiaaRefText
namespace Go.Proofs.Ytaafecaclkagiaa
open Go.RowKit Go.Shelf
set_option linter.unusedVariables false

theorem NumsR.runes {W : World} {g n : Nat} {L zs : List Int} (h : NumsR W g L) (hn : zs.length ≤ L.length) (hz : L.take zs.length = zs) : RunesAt W g 0 zs := fun j hj => by
  rw [Nat.zero_add, NumsR.cell h j (by omega)]
  conv => rhs; rw [← hz]
  simp only [List.getD, List.getElem?_take]
  rw [if_pos hj]

theorem refText_row (a : Option Addr) (cap : Nat) (zs : List Int) (hz : zs.length ≤ 1073741824) (w : World) (hr : RowR w a zs) :
    Calls Try.prog 27 #[.slice a zs.length cap] w fun e w' => e = .returned (textV zs) ∧ Below w.heap.size w w' := by
  by_cases h0 : zs.length = 0
  · obtain rfl : zs = [] := List.eq_nil_of_length_eq_zero h0
    exact refText_none a cap w
  · obtain ⟨g, o, rfl, hg, hc⟩ := hr (by omega)
    exact refText_some g o cap zs hz w hg hc

theorem textV_shape (zs : List Int) : ∃ t e, textV zs = .tuple #[.string t, .int .i64 e] := by
  unfold textV
  split
  · exact ⟨_, _, rfl⟩
  · exact ⟨_, _, rfl⟩

/-- A number with its last bit turned. -/
def x1 (z : Int) : Int := bits BinOp.xor IntKind.i32 z 1
theorem take_x1 (zs L : List Int) (hl : zs.length ≤ L.length) (h : ∀ j, j < zs.length → L[j]? = some (x1 (zs.getD j 0))) : L.take (zs.map x1).length = zs.map x1 := by
  apply List.ext_getElem?
  intro j
  rw [List.length_map, List.getElem?_take]
  by_cases hj : j < zs.length
  · rw [if_pos hj, h j hj]
    simp [List.getD, List.getElem?_eq_getElem hj]
  · rw [if_neg hj, List.getElem?_eq_none (by simpa using hj)]

set_option maxRecDepth 100000 in
set_option maxHeartbeats 4000000 in
theorem ltext_row (a : Option Addr) (cap : Nat) (zs : List Int) (hz : zs.length ≤ 1048576) (w : World) (hr : RowR w a zs) :
    Calls Try.prog 6 #[.slice a zs.length cap] w fun e w' => e = .returned (.bool true) ∧ Below w.heap.size w w' := by
  obtain ⟨t, c, ht⟩ := textV_shape zs
  obtain ⟨t2, c2, ht2⟩ := textV_shape (zs.map x1)
  have HT := hide ht
  have HT2 := hide ht2
  have HR := hide hr
  have htt : (t.toList != t.toList) = false := by simp
  have hcc : (c != c) = false := by simp
  clear ht ht2 hr
  go_enter Try.func6, Try.ntmps6
  go_wp2_with fail
  refine (alive_any _).mono ?_
  rintro e w1 ⟨rfl, hb⟩
  have HB1 := hide hb
  have HR1 := hide ((unhide HR).below hb (Nat.le_refl _))
  clear hb
  go_wp2_with fail
  refine (roomyR_any a cap zs (by omega) 77 _ (unhide HR1)).mono ?_
  rintro e w2 ⟨rfl, hn, hb⟩
  have HB2 := hide ((unhide HB1).trans (hb.mono (unhide HB1).size))
  have HR2 := hide ((unhide HR1).below hb (Nat.le_refl _))
  have hF : w1.heap.size < w2.heap.size := Blk.lt hn
  have hF0 : w.heap.size ≤ w1.heap.size := (unhide HB1).size
  have HN2 := hide hn
  clear hb hn
  generalize w1.heap.size = F at *
  go_wp2_with fail
  refine (refText_row a cap zs (by omega) _ (unhide HR2)).mono ?_
  rintro e w3 ⟨rfl, hb⟩
  rw [unhide HT]
  have HB3 := hide ((unhide HB2).trans (hb.mono (unhide HB2).size))
  have HR3 := hide ((unhide HR2).below hb (Nat.le_refl _))
  have HN3 := hide (Blk.below (unhide HN2) hb hF)
  have hF3 : F < w3.heap.size := Blk.lt (unhide HN3)
  have HU3 := hide (NumsR.runes (n := 0) (zs := zs) (unhide HN3) (by rw [roomy_length]; omega) (roomy_take zs 77))
  clear hb
  go_wp2
  go_loop [6] (fun i => ∃ k : Nat, k ≤ 2 ∧ i = .int .i64 k) (fun i => 2 - (intOf i).toNat)
  case atStart => exact ⟨0, by omega, rfl⟩
  case round =>
    obtain ⟨k, hk, rfl⟩ := hrel
    by_cases hk2 : k < 2
    · have hk1 : (k : Int) < 2 := by omega
      go_wp2_with fail
      refine (text_any F 0 _ zs (by omega) _ (unhide HU3)).mono ?_
      rintro e w4 ⟨rfl, rfl⟩
      rw [unhide HT]
      go_wp2
      go_round
      case rel => exact ⟨k + 1, by omega, by go_num⟩
      case measure => simp [intOf]; omega
    · have hk1 : ¬ (k : Int) < 2 := by omega
      go_wp2_with fail
      refine (intactR_any F a cap zs (by omega) 77 _ (unhide HN3) (unhide HR3)).mono ?_
      rintro e w4 ⟨rfl, hb⟩
      have HB4 := hide ((unhide HB3).trans (hb.mono (unhide HB3).size))
      have HN4 := hide (Blk.below (unhide HN3) hb hF3)
      have hF4 : F < w4.heap.size := Blk.lt (unhide HN4)
      clear hb
      go_wp2
      go_loopw [9] (fun i wr => ∃ (k : Nat) (L : List Int), k ≤ zs.length ∧ i = .int .i64 k ∧ Hid (NumsR wr F L) ∧ Hid (L.length = zs.length + 80) ∧ Hid (∀ j, j < k → L[j]? = some (x1 (zs.getD j 0))) ∧ Hid (∀ j, k ≤ j → j < zs.length → L[j]? = zs[j]?) ∧ Hid (Below w.heap.size w wr)) (fun i _ => zs.length - (intOf i).toNat)
      case atStart => exact ⟨0, _, by omega, rfl, HN4, hide (roomy_length zs 77), hide (fun j hj => by omega), hide (fun j _ hj => by rw [roomy, List.getElem?_append_left hj]), HB4⟩
      case round =>
        obtain ⟨q, L, hq, rfl, HN, HL, H1, H2, HB⟩ := hrel
        by_cases hqn : q < zs.length
        · have hq1 : (q : Int) < (zs.length : Int) := by omega
          have hq2 : ((q : Nat) : Int).toNat = q := by omega
          have c0 := NumsR.cell (unhide HN) q (by have := unhide HL; omega)
          rw [show L.getD q 0 = zs.getD q 0 by simp only [List.getD]; rw [unhide H2 q (Nat.le_refl _) hqn]] at c0
          have f0 := Blk.frozen (unhide HN) q
          obtain ⟨z, hzq⟩ : ∃ z, z = zs.getD q 0 := ⟨_, rfl⟩
          rw [← hzq] at c0
          have HZQ := hide hzq
          clear hzq
          have HST := hide (NumsR.set (unhide HN) q (x1 z))
          have HB5 := hide ((unhide HB).setCell (p := ⟨F, q, none⟩) hF0 (.int .i32 (x1 z)))
          have hlen : q < L.length := by have := unhide HL; omega
          have hlen2 : (q : Int) < ((zs.length + 80 : Nat) : Int) := by omega
          go_wp2
          go_roundw
          case rel =>
            refine ⟨q + 1, L.set q (x1 z), by omega, by go_num, HST, hide (by rw [List.length_set]; exact unhide HL), hide (fun j hj => ?_), hide (fun j h1 h2 => ?_), HB5⟩
            · by_cases e : j = q
              · subst e
                rw [List.getElem?_set_self hlen, unhide HZQ]
              · rw [List.getElem?_set_ne (by omega)]
                exact unhide H1 j (by omega)
            · rw [List.getElem?_set_ne (by omega)]
              exact unhide H2 j (by omega) h2
          case measure => simp [intOf]; omega
        · have hq1 : ¬ (q : Int) < (zs.length : Int) := by omega
          obtain rfl : q = zs.length := by omega
          have hlm : (zs.map x1).length = zs.length := List.length_map _
          have HU := hide (NumsR.runes (n := 0) (zs := zs.map x1) (unhide HN) (by rw [hlm, unhide HL]; omega) (take_x1 zs L (by rw [unhide HL]; omega) (unhide H1)))
          have hFr : F < wr.heap.size := Blk.lt (unhide HN)
          have HLM := hide hlm
          clear hlm
          go_wp2_with fail
          rw [← unhide HLM]
          refine (refText_some F 0 _ (zs.map x1) (by rw [unhide HLM]; omega) _ hFr (unhide HU)).mono ?_
          rintro e w5 ⟨rfl, hb⟩
          rw [unhide HT2, unhide HLM]
          have HB5 := hide ((unhide HB).trans (hb.mono (unhide HB).size))
          have HU5 := hide ((unhide HU).below hb hFr)
          clear hb
          go_wp2_with fail
          rw [← unhide HLM]
          refine (text_any F 0 _ (zs.map x1) (by rw [unhide HLM]; omega) _ (unhide HU5)).mono ?_
          rintro e w6 ⟨rfl, rfl⟩
          rw [unhide HT2, unhide HLM]
          go_wp2
          go_ret
          exact ⟨rfl, unhide HB5⟩

theorem ltext_any (a : Option Addr) (len cap : Nat) (z : List Int) (w : World) (hr : ArgRow .i32 w a len cap z) (hl : z.length ≤ 1048576) :
    Calls Try.prog 6 #[.slice a len cap] w fun e w' => e = .returned (.bool true) ∧ Below w.heap.size w w' := by
  have h1 : (z.take len).length = len := by rw [List.length_take]; have := hr.1; have := hr.2.1; omega
  have := ltext_row a cap (z.take len) (by rw [List.length_take]; omega) w hr.rowR
  rw [h1] at this
  exact this
end Go.Proofs.Ytaafecaclkagiaa
