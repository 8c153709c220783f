/- made: a set of spans, and the fewest; few; the reference's Size. -/
import Derived.Test.YtdllbpagbiibnacRefSpans
import Derived.Test.YtdllbpagbiibnacSetAlive
namespace Go.Proofs.Ytdllbpagbiibnac
open Go.RowKit Go.Shelf
set_option linter.unusedVariables false
theorem RowP.take {W : World} {a : Option Addr} {zs : List (Int × Int)} (h : RowP W a zs) (n : Nat) : RowP W a (zs.take n) := fun h0 => by
  have hl : 0 < zs.length := by rw [List.length_take] at h0; omega
  obtain ⟨g, o, ha, hg, hc⟩ := h hl
  exact ⟨g, o, ha, hg, fun j x hj => by
    have := (List.getElem?_eq_some_iff.1 hj).1
    rw [List.length_take] at this
    rw [List.getElem?_take, if_pos (by omega)] at hj
    exact hc j x hj⟩
theorem few_any (a : Option Addr) (cap : Nat) (zs : List (Int × Int)) (hc : zs.length ≤ cap) (w : World) :
    Calls Try.prog 6 #[.slice a zs.length cap] w fun e w' => e = .returned (.slice a (zs.take 60).length cap) ∧ w' = w := by
  by_cases h : 60 < zs.length
  · have h1 : (60 : Int) < (zs.length : Int) := by omega
    have h2 : (zs.take 60).length = 60 := by rw [List.length_take]; omega
    rw [h2]
    have h3 : (60 : Int) ≤ (cap : Int) := by omega
    have h4 : 60 ≤ cap := by omega
    go_enter Try.func6, Try.ntmps6
    go_wp2
    go_ret
    exact ⟨rfl, rfl⟩
  · have h1 : ¬ (60 : Int) < (zs.length : Int) := by omega
    have h2 : (zs.take 60).length = zs.length := by rw [List.length_take]; omega
    rw [h2]
    go_enter Try.func6, Try.ntmps6
    go_wp2
    go_ret
    exact ⟨rfl, rfl⟩
end Go.Proofs.Ytdllbpagbiibnac
