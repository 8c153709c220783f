/- Same of the books at lists of spans. -/
import Derived.Test.YtemmflhofhngbaaSetClone
import Derived.Laws.StructEq
namespace Go.Proofs.Ytemmflhofhngbaa
open Go.RowKit Go.Shelf
set_option linter.unusedVariables false

set_option maxRecDepth 100000 in
set_option maxHeartbeats 2000000 in
theorem sameP_row (a b : Option Addr) (ca cb : Nat) (zs : List (Int × Int)) (hz : zs.length ≤ 9223372036854775807) (w : World) (ha : RowP w a zs) (hb : RowP w b zs) :
    Calls Try.prog 8 #[.slice a zs.length ca, .slice b zs.length cb] w fun e w' => e = .returned (.bool true) ∧ Below w.heap.size w w' := by
  have HA := hide ha
  have HB := hide hb
  clear ha hb
  have hne : (((zs.length : Nat) : Int) != ((zs.length : Nat) : Int)) = false := by simp
  go_enter Try.func8, Try.ntmps8
  go_wp2
  go_loopw [5] (fun i wr => ∃ k : Nat, k ≤ zs.length ∧ i = .int .i64 k ∧ ∃ q, wr = w.drewN q) (fun i _ => zs.length - (intOf i).toNat)
  case atStart => exact ⟨0, by omega, rfl, 0, rfl⟩
  case round =>
    obtain ⟨k, hk, rfl, q, rfl⟩ := hrel
    by_cases hkn : k < zs.length
    · obtain ⟨x, hx⟩ : ∃ x, zs[k]? = some x := ⟨_, List.getElem?_eq_getElem hkn⟩
      obtain ⟨g, o, rfl, _, hc⟩ := unhide HA (by omega)
      obtain ⟨h, p, rfl, _, hd⟩ := unhide HB (by omega)
      have c0 := (hc k x hx).1
      have c1 := (hc k x hx).2
      have d0 := (hd k x hx).1
      have d1 := (hd k x hx).2
      have hk1 : (k : Int) < (zs.length : Int) := by omega
      have hk2 : ((k : Nat) : Int).toNat = k := by omega
      obtain ⟨lo, hi⟩ := x
      simp only at c0 c1 d0 d1
      have h1 : (lo == lo) = true := by simp
      have h2 : (hi == hi) = true := by simp
      clear hc hd hx
      go_wp2
      go_quiet (fail)
      go_wp2
      go_roundw
      case rel => exact ⟨k + 1, by omega, by go_num, _, rfl⟩
      case measure => simp [intOf]; omega
    · have hk1 : ¬ (k : Int) < (zs.length : Int) := by omega
      go_wp2
      go_ret
      exact ⟨rfl, below_drewN (Below.refl _ _) _⟩
end Go.Proofs.Ytemmflhofhngbaa
