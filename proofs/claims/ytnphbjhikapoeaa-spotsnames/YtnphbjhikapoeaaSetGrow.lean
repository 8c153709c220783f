/- A set that is being made, one span more: lay at every set. -/
import Derived.Test.YtnphbjhikapoeaaSetIdx
import Derived.Test.YtnphbjhikapoeaaSetLayApart
namespace Go.Proofs.Ytnphbjhikapoeaa
open Go.RowKit Go.Shelf
set_option linter.unusedVariables false
/-- A set that is being made; its lists are nil as long as it is empty. -/
def Grows (W : World) (B lo0 : Nat) (zs : List (Int × Int)) : Prop := Made W B lo0 zs ∧ (zs = [] → Blk W B #[.slice none 0 0, .slice none 0 0] 105)
theorem laid_made {W : World} {B lo0 : Nat} {x : Int × Int} (h : Laid W B lo0 x) (hl : lo0 ≤ B) : Made W B lo0 [x] := by
  obtain ⟨va, vb, h1, h2, h3⟩ := h
  exact ⟨⟨va, vb, h1, h2, h3⟩, hl⟩
theorem layL_ne (zs : List (Int × Int)) (x : Int × Int) : layL zs x ≠ [] := by
  unfold layL
  split
  · split <;> simp
  · simp
theorem lay_any (B lo0 : Nat) (zs : List (Int × Int)) (x : Int × Int) (hn : zs.length ≤ 1000000) (hS : Spread zs) (hx : endsB x = true) (w : World) (hG : Grows w B lo0 zs) (hl : lo0 ≤ w.heap.size) :
    Calls Try.prog 57 #[.pointer (some ⟨B, 0, none⟩), spanV x] w fun e w' => (∃ r, e = .returned r) ∧ Grows w' B lo0 (layL zs x) ∧ Below lo0 w w' ∧ Frame w w' B := by
  rcases List.eq_nil_or_concat zs with rfl | ⟨ys, y, rfl⟩
  · refine (lay_first B lo0 x w (hG.2 rfl) hG.1.lo hl).mono fun e w' ⟨h1, h2, h3, h4⟩ => ⟨h1, ⟨laid_made h2 hG.1.lo, fun h => absurd h (layL_ne _ _)⟩, h3, fun X hX hXB _ => h4 X hX hXB⟩
  · rw [List.concat_eq_append] at *
    have hn' : ys.length ≤ 1000000 := by simp at hn; omega
    by_cases t : rankOf x.1 ≤ rankOf y.2 + 1
    · exact (lay_touch B lo0 ys y x hn' (hS.ends y (by simp)).1 hx t w hG.1 hl).mono fun e w' ⟨h1, h2, h3, h4⟩ => ⟨h1, ⟨h2, fun h => absurd h (layL_ne _ _)⟩, h3, h4⟩
    · exact (lay_apart B lo0 ys y x hn' hS hx t w hG.1 hl).mono fun e w' ⟨h1, h2, h3, h4⟩ => ⟨h1, ⟨h2, fun h => absurd h (layL_ne _ _)⟩, h3, h4⟩
theorem RowP.under {W W' : World} {N : Nat} {a : Option Addr} {zs : List (Int × Int)} (h : RowP W a zs) (hN : W.heap.size ≤ N) (hb : Below N W W') : RowP W' a zs := h.below (hb.mono hN)

theorem Grows.below {W W' : World} {B lo0 : Nat} {zs : List (Int × Int)} (h : Grows W B lo0 zs) (hb : Below W.heap.size W W') : Grows W' B lo0 zs := ⟨h.1.below hb, fun e => (h.2 e).below hb (h.2 e).lt⟩
theorem grows_new (W : World) (o : Obj) (ho : o = .cells #[.slice none 0 0, .slice none 0 0] 105) : Grows (W.alloc o) W.heap.size W.heap.size [] := by
  subst ho
  have b := Blk.new W #[.slice none 0 0, .slice none 0 0] 105
  exact ⟨⟨⟨_, _, b, World.ownsRow_nil _ _ _ _, World.ownsRow_nil _ _ _ _⟩, Nat.le_refl _⟩, fun _ => b⟩
theorem take_more {d : List (Int × Int)} {k : Nat} {x : Int × Int} (h : d[k]? = some x) : d.take (k + 1) = d.take k ++ [x] := by
  rw [List.take_add_one, h]
  rfl
end Go.Proofs.Ytnphbjhikapoeaa
