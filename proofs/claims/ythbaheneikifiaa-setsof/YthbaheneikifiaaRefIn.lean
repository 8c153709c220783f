/- The reference's In; the marks of spans. -/
import Derived.Test.YthbaheneikifiaaLMade
import Derived.Test.YthbaheneikifiaaArgP
namespace Go.Proofs.Ythbaheneikifiaa
open Go.RowKit Go.Shelf
set_option linter.unusedVariables false
theorem memB_take_succ {l : List (Int × Int)} {k : Nat} {x : Int × Int} (hx : l[k]? = some x) (r : Int) : memB (l.take (k + 1)) r = (memB (l.take k) r || memB [x] r) := by rw [take_more hx, memB_append]
theorem memB_norune {l : List (Int × Int)} {r : Int} (h : runeB r = false) : memB l r = false := by unfold memB; rw [h, Bool.and_false]
theorem memB_hit {l : List (Int × Int)} {k : Nat} {x : Int × Int} {r : Int} (hx : l[k]? = some x) (h : runeB r = true) (h1 : x.1 ≤ r) (h2 : r ≤ x.2) : memB l r = true := (memB_iff _ _).2 ⟨⟨x, List.mem_of_getElem? hx, h1, h2⟩, h⟩
theorem memB_miss {l : List (Int × Int)} {k : Nat} {x : Int × Int} {r : Int} (hx : l[k]? = some x) (h0 : memB (l.take k) r = false) (h : ¬ (x.1 ≤ r ∧ r ≤ x.2)) : memB (l.take (k + 1)) r = false := by
  rw [memB_take_succ hx, h0, Bool.false_or, ← Bool.not_eq_true]
  intro q
  obtain ⟨⟨y, hy, p⟩, _⟩ := (memB_iff _ _).1 q
  simp at hy
  subst hy
  exact h p
set_option maxRecDepth 100000 in
set_option maxHeartbeats 4000000 in
theorem refIn_any (a : Option Addr) (cap : Nat) (zs : List (Int × Int)) (hz : zs.length ≤ 100000) (hf : ∀ x ∈ zs, fitB x) (r : Int) (w : World) (hr : RowP w a zs) :
    Calls Try.prog 43 #[.slice a zs.length cap, .int .i64 r] w fun e w' => e = .returned (.bool (memB zs r)) ∧ Below w.heap.size w w' := by
  have HR := hide hr
  have HF := hide hf
  have hzi : (zs.length : Int) ≤ 100000 := by omega
  have HRu := hide (fun w => refRune_any r w)
  clear hr hf
  go_enter Try.func43, Try.ntmps43
  go_wp2
  go_loopw [5] (fun i wr => ∃ k : Nat, i = .int .i64 k ∧ k ≤ zs.length ∧ Hid (memB (zs.take k) r = false) ∧ Hid (Below w.heap.size w wr)) (fun i _ => zs.length - (intOf i).toNat)
  case atStart => exact ⟨0, rfl, by omega, hide (by simp [memB]), hide (Below.refl _ _)⟩
  case round =>
    obtain ⟨k, rfl, hk, HM, HB⟩ := hrel
    by_cases hkn : k < zs.length
    · have hk1 : (k : Int) < (zs.length : Int) := by omega
      have hk2 : ((k : Nat) : Int).toNat = k := by omega
      obtain ⟨x, hx⟩ : ∃ x, zs[k]? = some x := ⟨_, List.getElem?_eq_getElem hkn⟩
      obtain ⟨g, o, rfl, hg, hc⟩ := unhide HR (by omega)
      have c0 := ((unhide HB).cell (p := ⟨g, o + k * 2, none⟩) hg).trans (hc k x hx).1
      have c1 := ((unhide HB).cell (p := ⟨g, o + k * 2 + 1, none⟩) hg).trans (hc k x hx).2
      have hfx := unhide HF x (List.mem_of_getElem? hx)
      have HX := hide hx
      obtain ⟨lo, hi⟩ := x
      obtain ⟨⟨x1, x2⟩, x3, x4⟩ := hfx
      simp only at c0 c1 x1 x2 x3 x4
      clear hc hx
      by_cases hru : runeB r = true
      · rw [hru] at HRu
        by_cases h1 : lo ≤ r
        · by_cases h2 : r ≤ hi
          · have HE := hide (memB_hit (unhide HX) hru h1 h2)
            clear hru
            go_wp2_with fail
            refine (unhide HRu _).mono ?_
            rintro e w2 ⟨rfl, rfl⟩
            go_wp2
            go_ret
            exact ⟨by rw [unhide HE]; rfl, unhide HB⟩
          · have HE := hide (memB_miss (unhide HX) (unhide HM) (by simp only; omega))
            clear hru
            go_wp2_with fail
            refine (unhide HRu _).mono ?_
            rintro e w2 ⟨rfl, rfl⟩
            go_wp2
            go_roundw
            case rel => exact ⟨k + 1, by congr 1, by omega, HE, HB⟩
            case measure => simp [intOf]; omega
        · have HE := hide (memB_miss (unhide HX) (unhide HM) (by simp only; omega))
          clear hru
          go_wp2_with fail
          refine (unhide HRu _).mono ?_
          rintro e w2 ⟨rfl, rfl⟩
          go_wp2
          go_roundw
          case rel => exact ⟨k + 1, by congr 1, by omega, HE, HB⟩
          case measure => simp [intOf]; omega
      · rw [Bool.not_eq_true] at hru
        rw [hru] at HRu
        have HE : Hid (memB (zs.take (k + 1)) r = false) := hide (memB_norune hru)
        clear hru
        go_wp2_with fail
        refine (unhide HRu _).mono ?_
        rintro e w2 ⟨rfl, rfl⟩
        go_wp2
        go_roundw
        case rel => exact ⟨k + 1, by congr 1, by omega, HE, HB⟩
        case measure => simp [intOf]; omega
    · have hk1 : ¬ (k : Int) < (zs.length : Int) := by omega
      have HE : Hid (memB zs r = false) := hide (by have := unhide HM; rwa [List.take_of_length_le (by omega)] at this)
      go_wp2
      go_ret
      exact ⟨by rw [unhide HE]; rfl, unhide HB⟩
/-- A mark. -/
def mkP (i j : Nat) : Int × Int := (-1 - (i : Int), wrap32 (j : Int))
theorem markP_any (i j : Nat) (w : World) (hi : i ≤ 1001) (hj : j ≤ maxLen) : Calls Try.prog 47 #[.int .i64 i, .int .i64 j] w fun e w' => e = .returned (spanV (mkP i j)) ∧ Below w.heap.size w w' := by
  unfold maxLen at hj
  have h1 : (i : Int) ≤ 1001 := by omega
  have h2 : (j : Int) ≤ 9223372036854775807 := by omega
  go_enter Try.func47, Try.ntmps47
  go_wp2
  exact bodyPost_ret (v := .agg #[.int .i32 (-1 - (i : Int)), .int .i32 (wrap32 (j : Int))]) (by simp [results, Try.results47, go_sem]) rfl ⟨rfl, (Below.refl w.heap.size w).alloc (Nat.le_refl _) _⟩
end Go.Proofs.Ythbaheneikifiaa
