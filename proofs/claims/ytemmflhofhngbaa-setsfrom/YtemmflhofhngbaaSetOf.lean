/- Of at every list of right spans. -/
import Derived.Test.YtemmflhofhngbaaM4
import Derived.Test.YtemmflhofhngbaaSetSorted
namespace Go.Proofs.Ytemmflhofhngbaa
open Go.RowKit Go.Shelf
set_option linter.unusedVariables false
theorem layAll_take {l d : List (Int × Int)} (hp : d.Perm l) (hR : RightL l) (hr : RisingL d) (k : Nat) : Spread (layAll (d.take k)) ∧ (layAll (d.take k)).length ≤ d.length ∧ RightL d := by
  have h1 : RightL d := fun x hx => hR x (hp.mem_iff.1 hx)
  have h2 : RisingL (d.take k) := fun i j x y hij hx hy => by
    have a := (List.getElem?_eq_some_iff.1 hx).1
    have b := (List.getElem?_eq_some_iff.1 hy).1
    rw [List.length_take] at a b
    rw [List.getElem?_take, if_pos (by omega)] at hx hy
    exact hr i j x y hij hx hy
  have h := layAll_all _ (d.take k) rfl (fun x hx => h1 x (List.mem_of_mem_take hx)) h2
  have := h.2.2.1
  rw [List.length_take] at this
  exact ⟨h.1, by omega, h1⟩
theorem layAll_end {l d : List (Int × Int)} (hp : d.Perm l) (hR : RightL l) (hr : RisingL d) : Spread (layAll d) ∧ (layAll d).length ≤ l.length ∧ ∀ r, memB (layAll d) r = memB l r := by
  have h := layAll_all _ d rfl (fun x hx => hR x (hp.mem_iff.1 hx)) hr
  exact ⟨h.1, by rw [← hp.length_eq]; exact h.2.2.1, fun r => (h.2.1 r).trans (memB_perm hp r)⟩
set_option maxRecDepth 100000 in
set_option maxHeartbeats 4000000 in
theorem of_right (a : Option Addr) (cap : Nat) (l : List (Int × Int)) (hl : l.length ≤ 1000000) (hR : RightL l) (w : World) (hr : RowP w a l) :
    Calls Try.prog 7 #[.slice a l.length cap] w fun e w' => ∃ (B lo0 : Nat) (zs : List (Int × Int)), e = .returned (.tuple #[.pointer (some ⟨B, 0, none⟩), .int .i64 0]) ∧ w.heap.size ≤ lo0 ∧ Made w' B lo0 zs ∧ Spread zs ∧ zs.length ≤ l.length ∧ (∀ r, memB zs r = memB l r) ∧ Below w.heap.size w w' := by
  have HN := hide (contains_noRunes a cap l (by omega) w hr)
  have e1 : (l.any fun x => !endsB x) = false := by
    rw [List.any_eq_false]
    intro x hx
    simp [(hR x hx).1]
  have e2 : (l.any fun x => decide (x.2 < x.1)) = false := by
    rw [List.any_eq_false]
    intro x hx
    have := (hR x hx).2
    simp; omega
  rw [e1] at HN
  have HF := hide (fun w hr => contains_falling a cap l (by omega) w hr)
  rw [e2] at HF
  have HR := hide hr
  have HRR := hide hR
  clear hr hR e1 e2
  go_enter Try.func7, Try.ntmps7
  go_wp2_with fail
  refine (unhide HN).mono ?_
  rintro e w1 ⟨rfl, hb1⟩
  have HB1 := hide hb1
  clear hb1
  go_wp2_with fail
  refine (unhide HF w1 ((unhide HR).below (unhide HB1))).mono ?_
  rintro e w2 ⟨rfl, hb2⟩
  have HB2 := hide ((unhide HB1).trans (hb2.mono (unhide HB1).size))
  clear hb2
  go_wp2_with fail
  refine (clone_any a cap l (by omega) w2 ((unhide HR).below (unhide HB2))).mono ?_
  rintro e w3 ⟨v, rfl, hown, hb3⟩
  have HO := hide hown
  have HB3 := hide ((unhide HB2).trans (hb3.mono (unhide HB2).size))
  have HS2 := hide (unhide HB2).size
  clear hown hb3
  go_wp2_with fail
  refine (sort_any v l _ (by omega) w3 (unhide HO)).mono ?_
  rintro e w4 ⟨rfl, d, p, c, rfl, hperm, hris, hrow, hb4⟩
  have HB4 := hide ((unhide HB3).trans (hb4.mono (unhide HS2)))
  have HPm := hide hperm
  have HRs := hide hris
  have HRw := hide hrow
  have hdl : d.length = l.length := hperm.length_eq
  clear hperm hris hrow hb4 HO
  go_wp2
  have hz : (l.length : Int) ≤ 1000000 := by omega
  go_loopw [20] (fun i wr => ∃ k : Nat, i = .int .i64 k ∧ k ≤ l.length ∧ Hz (Grows wr w4.heap.size w4.heap.size (layAll (d.take k))) ∧ Hz (Below w4.heap.size w4 wr)) (fun i _ => l.length - (intOf i).toNat)
  case atStart => exact ⟨0, rfl, by omega, hide (grows_new w4 _ rfl), hide ((Below.refl _ w4).alloc (Nat.le_refl _) _)⟩
  case round =>
    obtain ⟨k, rfl, hk, HG, HB⟩ := hrel
    by_cases hkn : k < l.length
    · have hk1 : (k : Int) < (l.length : Int) := by omega
      have hk2 : ((k : Nat) : Int).toNat = k := by omega
      obtain ⟨x, hx⟩ : ∃ x, d[k]? = some x := ⟨_, List.getElem?_eq_getElem (by omega)⟩
      have HT := hide (take_more hx)
      obtain ⟨g, o, rfl, hg, hc⟩ := unhide HRw (by omega)
      have c0 := ((unhide HB).cell (p := ⟨g, o + k * 2, none⟩) hg).trans (hc k x hx).1
      have c1 := ((unhide HB).cell (p := ⟨g, o + k * 2 + 1, none⟩) hg).trans (hc k x hx).2
      have HL := hide (layAll_take (unhide HPm) (unhide HRR) (unhide HRs) k)
      have HX := hide ((unhide HL).2.2 x (List.mem_of_getElem? hx))
      obtain ⟨lo, hi⟩ := x
      simp only at c0 c1
      have b1 := Blk.new wr #[.int .i32 lo, .int .i32 hi] 28
      have q0 := b1.cell 0
      have q1 := b1.cell 1
      have HB1 := hide ((unhide HB).alloc (unhide HB).size (.cells #[.int .i32 lo, .int .i32 hi] 28))
      have HG1 := hide ((unhide HG).below ((Below.refl _ wr).alloc (Nat.le_refl _) (.cells #[.int .i32 lo, .int .i32 hi] 28)))
      clear b1 hc hx
      go_wp2_with fail
      refine (lay_any w4.heap.size w4.heap.size (layAll (d.take k)) (lo, hi) (by have := (unhide HL).2.1; omega) (unhide HL).1 (unhide HX).1 _ (unhide HG1) (unhide HB1).size).mono ?_
      rintro e w6 ⟨⟨r, rfl⟩, hG, hb, _⟩
      rw [← layAll_snoc, ← unhide HT] at hG
      have HG2 := hide hG
      have HB2 := hide ((unhide HB1).trans hb)
      clear hG hb
      go_wp2
      go_roundw
      case rel => exact ⟨k + 1, by congr 1, by omega, HG2, HB2⟩
      case measure => simp [intOf]; omega
    · have hk1 : ¬ (k : Int) < (l.length : Int) := by omega
      obtain rfl : k = l.length := by omega
      rw [List.take_of_length_le (by omega)] at HG
      have HE := hide (layAll_end (unhide HPm) (unhide HRR) (unhide HRs))
      go_wp2
      go_ret2
      exact ⟨w4.heap.size, rfl, w4.heap.size, (unhide HB4).size, layAll d, (unhide HG).1, (unhide HE).1, (unhide HE).2.1, (unhide HE).2.2, (unhide HB4).trans ((unhide HB).mono (unhide HB4).size)⟩
end Go.Proofs.Ytemmflhofhngbaa
