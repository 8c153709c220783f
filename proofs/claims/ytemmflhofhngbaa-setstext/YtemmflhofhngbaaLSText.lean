/- SetsText: the runes of any text. -/
import Derived.Test.YtemmflhofhngbaaLTextA
import Derived.Test.YtemmflhofhngbaaLFromA
import Derived.Deep.Cut
namespace Go.Proofs.Ytemmflhofhngbaa
open Go.RowKit Go.Shelf
set_option linter.unusedVariables false
/-- The runes at some places. -/
def rnL (s : ByteArray) (l : List Nat) : List Int := l.map fun i => ((rn s i : Nat) : Int)
theorem own_far {W : World} {lo E sz n k : Nat} {v : Value} {xs : List Value} (h : W.ownsRow lo E sz v n xs) (hk : k < lo) : v.ownBlock = none ∨ v.ownBlock ≠ some k := .inr (fun e => by have := (h.lt k e).1; omega)
set_option maxRecDepth 100000 in
set_option maxHeartbeats 8000000 in
theorem law_text (s : ByteArray) (hs : s.size ≤ maxLen) (w : World) :
    Calls Try.prog 5 #[.string s] w fun e w' => e = .returned (.bool true) ∧ Below w.heap.size w w' := by
  have HC := hide (count_any s hs w)
  have HMX := hide hs
  have hsl := starts_length s
  have hsz : s.size ≤ 9223372036854775807 := by unfold maxLen at hs; omega
  have HSL := hide hsl
  clear hs hsl
  go_enter Try.func5, Try.ntmps5
  go_upto_if 13 with (go_at_call 26; refine (unhide HC).mono ?_; rintro e w1 ⟨rfl, hb1⟩)
  have HB1 := hide hb1
  clear hb1 HC
  go_cut [3] from 4 (fun s3 wc => ∃ t : ByteArray, s3 = .string t ∧ t.size ≤ 404 ∧ Hz (Below w.heap.size w wc))
  case first =>
    by_cases hc : 100 < (starts s).length
    · have hc' : (100 : Int) < ((starts s).length : Int) := by omega
      go_wp2_with fail
      go_loopw [4, 5] (fun n _ wr => ∃ (c pos : Nat), wr = w1.iter s pos ∧ n = .int .i64 c ∧ c ≤ 100 ∧ pos ≤ 4 * c ∧ pos ≤ s.size ∧ Hz (∃ (pre : List Nat) (f : Nat), pre.length = c ∧ starts s = pre ++ startsFrom s f pos ∧ s.size ≤ pos + f)) (fun _ _ wr => s.size - wr.iterPos w1.heap.size)
      case atStart => exact ⟨0, 0, rfl, rfl, by omega, by omega, by omega, hide ⟨[], s.size, rfl, rfl, by omega⟩⟩
      case round =>
        obtain ⟨c, pos, rfl, rfl, hc100, hpc, hps, HP⟩ := hrel
        by_cases hp : pos < s.size
        · have hnx : ∀ ty, (Instr.next (.pointer (some ⟨w1.heap.size, 0, none⟩)) true ty).run Try.prog (w1.iter s pos) = _ := fun ty => run_next_any w1 s pos ty hp
          have hwd := wd_pos s pos
          have hw4 := wd_four s pos
          have hwr := wd_room s pos hp
          by_cases h100 : c = 100
          · subst h100
            clear hwd hw4 hwr
            have HB2 := hide ((unhide HB1).alloc (unhide HB1).size (.stringIter s (pos + wd s pos)))
            go_wp2_with fail
            go_meet
            case rel => exact ⟨s.extract 0 pos, rfl, by rw [ByteArray.size_extract]; omega, hide (unhide HB2)⟩
          · have h100' : ((c : Int) == 100) = false := beq_eq_false_iff_ne.2 (by omega)
            have HW := hide (And.intro hwd (And.intro hw4 hwr))
            clear hwd hw4 hwr
            go_wp2_with fail
            go_roundw
            case rel =>
              have hwd := (unhide HW).1
              have hw4 := (unhide HW).2.1
              have hwr := (unhide HW).2.2
              refine ⟨c + 1, pos + wd s pos, rfl, by go_num, by omega, by omega, by omega, hide ?_⟩
              obtain ⟨pre, f, h1, h2, h3⟩ := unhide HP
              obtain ⟨g, rfl⟩ : ∃ g, f = g + 1 := ⟨f - 1, by omega⟩
              exact ⟨pre ++ [pos], g, by simp [h1], by rw [h2, startsFrom_cons s g pos hp]; simp, by omega⟩
            case measure =>
              have hwd := (unhide HW).1
              simp
              simp only [wd] at hwd
              omega
        · exfalso
          obtain ⟨pre, f, h1, h2, h3⟩ := unhide HP
          rw [startsFrom_end s f pos hp, List.append_nil] at h2
          rw [h2, h1] at hc
          omega
    · have hc' : ¬ (100 : Int) < ((starts s).length : Int) := by omega
      have hz4 := size_starts s
      have hz5 : s.size ≤ 404 := by omega
      clear hz4
      go_wp2_with fail
      go_meet
      case rel => exact ⟨s, rfl, hz5, HB1⟩
  case rest =>
    obtain ⟨t, rfl, ht, HB⟩ := hcut
    clear HB1
    have HT := hide (settext_any t (by omega) wc)
    go_wp2_with (go_at_call 19; refine (unhide HT).mono ?_; rintro e w2 ⟨B, lo0, us, rfl, hlo, hM, hS, hl2, hm, hb⟩)
    have hul : us.length ≤ 404 := by rw [runesL_length] at hl2; have := starts_length t; omega
    have HS2 := hide (hM.set hS (by omega))
    have HSp := hide hS
    have HMm := hide hm
    have HB2 := hide ((unhide HB).trans (hb.mono (unhide HB).size))
    clear hlo hM hS hl2 hm hb HB HT
    refine (alive_any w2).mono ?_
    rintro e w3 ⟨rfl, hb⟩
    have HS3 := hide ((unhide HS2).below hb)
    have HB3 := hide ((unhide HB2).trans (hb.mono (unhide HB2).size))
    clear hb HS2 HB2
    go_wp2_with fail
    have hI0 : (w3.iter t 0).heap[w3.heap.size]? = some (.stringIter t 0) := World.alloc_heap_new w3 _
    have HI0 := hide hI0
    have HBI := hide ((Below.refl w3.heap.size w3).alloc (Nat.le_refl _) (.stringIter t 0))
    clear hI0
    go_loopw [7, 9] (fun v _ wr => ∃ (pre : List Nat) (pos : Nat), pre.length ≤ pos ∧ pos ≤ t.size ∧ Hz (wr.heap[w3.heap.size]? = some (.stringIter t pos)) ∧ Hz (Below w3.heap.size w3 wr) ∧ Hz (wr.ownsRow (w3.heap.size + 1) 28 2 v (dup (rnL t pre)).length (encP (dup (rnL t pre)))) ∧ Hz (∃ f, starts t = pre ++ startsFrom t f pos ∧ t.size ≤ pos + f)) (fun _ _ wr => t.size + 1 - wr.iterPos w3.heap.size)
    case atStart => exact ⟨[], 0, Nat.le_refl _, by omega, HI0, HBI, hide (World.ownsRow_nil _ _ _ _), hide ⟨t.size, rfl, by omega⟩⟩
    case round =>
      clear HI0 HBI
      obtain ⟨pre, pos, hpl, hps, HI, HBW, HO, HP⟩ := hrel
      by_cases hp : pos < t.size
      · have hnx : ∀ ty, (Instr.next (.pointer (some ⟨w3.heap.size, 0, none⟩)) true ty).run Try.prog wr = _ := fun ty => Lib.run_next_any_at wr w3.heap.size t pos ty (unhide HI) hp
        have hwd := wd_pos t pos
        have hwr := wd_room t pos hp
        have i0 : (wr.iterAt w3.heap.size t (pos + (Utf8.decode t pos).2)).heap[w3.heap.size]? = some (.stringIter t (pos + (Utf8.decode t pos).2)) := Lib.iterAt_heap wr w3.heap.size t pos _ (unhide HI)
        have g0 : Below w3.heap.size w3 (wr.iterAt w3.heap.size t (pos + (Utf8.decode t pos).2)) := (unhide HBW).grown (grown_iterAt wr w3.heap.size t _) (unhide HBW).size (fun k hk => by cases hk; exact Nat.le_refl _)
        have o0 := own_other (unhide HO) (grown_iterAt wr w3.heap.size t (pos + (Utf8.decode t pos).2)) (own_far (unhide HO) (by omega))
        have hst : ∃ f, starts t = (pre ++ [pos]) ++ startsFrom t f (pos + wd t pos) ∧ t.size ≤ (pos + wd t pos) + f := by
          obtain ⟨f, h2, h3⟩ := unhide HP
          obtain ⟨g, rfl⟩ : ∃ g, f = g + 1 := ⟨f - 1, by omega⟩
          exact ⟨g, by rw [h2, startsFrom_cons t g pos hp]; simp, by omega⟩
        have hsn : dup (rnL t (pre ++ [pos])) = dup (rnL t pre) ++ [((((Utf8.decode t pos).1 : Nat) : Int), (((Utf8.decode t pos).1 : Nat) : Int))] := by simp [dup, rnL, rn]
        simp only [wd] at hwd hwr hst
        obtain ⟨d, hd⟩ : ∃ d, d = pos + (Utf8.decode t pos).2 := ⟨_, rfl⟩
        obtain ⟨x, hx⟩ : ∃ x, x = (Utf8.decode t pos).1 := ⟨_, rfl⟩
        rw [← hd] at hnx hst i0 g0 o0 hwr
        rw [← hx] at hnx hsn
        have HI2 := hide i0
        have HB2 := hide g0
        have HO2 := hide o0
        have HST := hide hst
        have HSN := hide hsn
        have hdp : pos < d := by omega
        have HIP := hide (And.intro (iterPos_at (unhide HI)) hdp)
        have hdl : (dup (rnL t pre)).length ≤ 900000 := by rw [dup_length]; unfold rnL; rw [List.length_map]; omega
        have hroom : w3.heap.size + 1 ≤ (wr.iterAt w3.heap.size t d).heap.size := (Array.getElem?_eq_some_iff.1 i0).1
        have HRM := hide hroom
        clear i0 g0 o0 hst hsn hd hx HI HBW HO HP hwd hroom
        go_wp2_with (at_builtin; refine append_oneP rfl _ _ rfl rfl (w3.heap.size + 1) _ (dup (rnL t pre)) rfl hdl _ (_, _) rfl (unhide HO2) (unhide HRM) _ rfl rfl ?_)
        intro v' w4 hown hb4
        have HI4 : Hz (w4.heap[w3.heap.size]? = some (.stringIter t d)) := hide ((hb4.block _ (by omega)).trans (unhide HI2))
        have HB4 : Hz (Below w3.heap.size w3 w4) := hide ((unhide HB2).trans (hb4.mono (by omega)))
        have HO4 : Hz (w4.ownsRow (w3.heap.size + 1) 28 2 v' (dup (rnL t (pre ++ [pos]))).length (encP (dup (rnL t (pre ++ [pos]))))) := hide (by rw [unhide HSN]; first | exact hown | (rw [List.length_append]; exact hown))
        clear hown hb4
        go_wp2_with fail
        go_roundw
        case rel => exact ⟨pre ++ [pos], d, by rw [List.length_append, List.length_singleton]; omega, hwr, HI4, HB4, HO4, HST⟩
        case measure => rw [iterPos_at (unhide HI4), (unhide HIP).1]; omega
      · have hnx : ∀ ty, (Instr.next (.pointer (some ⟨w3.heap.size, 0, none⟩)) true ty).run Try.prog wr = _ := fun ty => Lib.run_next_end_at wr w3.heap.size t pos ty (unhide HI) hp
        have hpre : rnL t pre = runesL t := by
          obtain ⟨f, h2, h3⟩ := unhide HP
          rw [startsFrom_end t f pos hp, List.append_nil] at h2
          unfold rnL runesL
          rw [h2]
        have ho := unhide HO
        rw [hpre] at ho
        obtain ⟨av, cv, rfl, hrow, _, _⟩ := own_row ho
        have HRow := hide hrow
        have HSW := hide ((unhide HS3).below (unhide HBW))
        have HBB := hide ((unhide HB3).trans ((unhide HBW).mono (unhide HB3).size))
        have hdl : (dup (runesL t)).length ≤ 1073741824 := by rw [dup_length, runesL_length]; have := starts_length t; omega
        have HDL := hide hdl
        clear hrow ho hpre HO HP HI HBW hdl
        go_wp2_with fail
        refine (spans_any B us wr (unhide HSW)).mono ?_
        rintro e w6 ⟨v6, rfl, hown6, hb6⟩
        obtain ⟨a6, c6, rfl, hrow6, _, _⟩ := own_row hown6
        have HRow6 := hide hrow6
        have HRowS := hide ((unhide HRow).below hb6)
        have HB6 := hide ((unhide HBB).trans (hb6.mono (unhide HBB).size))
        clear hown6 hrow6 hb6
        have HCR := hide (refSpans_any av cv (dup (runesL t)) (unhide HDL) (dup_right (runesL_runeB t)) w6 (unhide HRowS))
        go_wp2_with fail
        refine (unhide HCR).mono ?_
        rintro e w7 ⟨v7, os, rfl, hown7, hS7, hm7, hb7⟩
        obtain rfl : us = os := spread_unique us os (unhide HSp) hS7 (fun r => (unhide HMm r).trans (hm7 r).symm)
        obtain ⟨a7, c7, rfl, hrow7, _, _⟩ := own_row hown7
        have HB7 := hide ((unhide HB6).trans (hb7.mono (unhide HB6).size))
        have HCS := hide (sameP_any a6 a7 c6 c7 us us (by omega) (by omega) w7 ((unhide HRow6).below hb7) hrow7)
        rw [sameB_refl] at HCS
        clear hown7 hrow7 hS7 hm7 hb7 HCR
        go_wp2_with fail
        refine (unhide HCS).mono ?_
        rintro e w8 ⟨rfl, hb8⟩
        have HB8 := hide ((unhide HB7).trans (hb8.mono (unhide HB7).size))
        clear hb8
        go_wp2_with fail
        go_ret
        exact ⟨rfl, unhide HB8⟩
end Go.Proofs.Ytemmflhofhngbaa
