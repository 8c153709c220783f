/- The algebra of sets: what is made of them. -/
import Derived.Test.YtodikfaddfojgaaSetUnion
import Derived.Test.YtodikfaddfojgaaSetMinus
namespace Go.Proofs.Ytodikfaddfojgaa
open Go.RowKit Go.Shelf
set_option linter.unusedVariables false
theorem alg_set (x : Value) (B : Nat) (w : World) : Calls Try.prog 38 #[x, .pointer (some ⟨B, 0, none⟩)] w fun e w' => e = .returned (.pointer (some ⟨B, 0, none⟩)) ∧ w' = w := by
  go_enter Try.func38, Try.ntmps38
  go_wp2
  go_ret
  exact ⟨rfl, rfl⟩
/-- A new set: its runes by f, at most n spans. -/
def NewSet (w : World) (n : Nat) (f : Int → Bool) (e : Ending) (w' : World) : Prop := ∃ (B : Nat) (us : List (Int × Int)), e = .returned (.pointer (some ⟨B, 0, none⟩)) ∧ SetAt w' B us ∧ us.length ≤ n ∧ (∀ r, memB us r = f r) ∧ Below w.heap.size w w'
theorem mk_new {w w' : World} {n : Nat} {f : Int → Bool} {B : Nat} {us : List (Int × Int)} (h : SetAt w' B us ∧ us.length ≤ n ∧ (∀ r, memB us r = f r) ∧ Below w.heap.size w w') : NewSet w n f (.returned (.pointer (some ⟨B, 0, none⟩))) w' := ⟨B, us, rfl, h⟩
theorem new_of {w w' : World} {n : Nat} {f : Int → Bool} {e : Ending} (hn : n ≤ 1112064) (h : ∃ (B' lo0 : Nat) (us : List (Int × Int)), e = .returned (.pointer (some ⟨B', 0, none⟩)) ∧ w.heap.size ≤ lo0 ∧ Made w' B' lo0 us ∧ Spread us ∧ us.length ≤ n ∧ (∀ r, memB us r = f r) ∧ Below w.heap.size w w') : NewSet w n f e w' := by
  obtain ⟨B', lo0, us, h1, h2, h3, h4, h5, h6, h7⟩ := h
  exact ⟨B', us, h1, h3.set h4 (by omega), h5, h6, h7⟩
theorem alg_union (x : Value) (B : Nat) (p : Option Addr) (zs ys : List (Int × Int)) (hz : zs.length ≤ 5000) (hy : ys.length ≤ 5000) (w : World) (hs : SetAt w B zs) (ht : SomeAt w p ys) :
    Calls Try.prog 20 #[x, .pointer (some ⟨B, 0, none⟩), .pointer p] w (NewSet w (zs.length + ys.length) (fun r => memB zs r || memB ys r)) := by
  have HQ := hide (union_any B p zs ys (by omega) (by omega) w hs ht)
  clear hs ht
  go_enter Try.func20, Try.ntmps20
  go_wp2_with fail
  refine (unhide HQ).mono fun e w1 h => ?_
  obtain ⟨B', us, rfl, h1, h2, h3, h4⟩ := new_of (by omega) h
  have HE := hide (And.intro h1 (And.intro h2 (And.intro h3 h4)))
  clear h h1 h2 h3 h4
  go_wp2_with fail
  refine (alg_set x B' w1).mono ?_
  rintro e w2 ⟨rfl, rfl⟩
  go_wp2
  go_ret
  exact mk_new (unhide HE)
theorem alg_meet (x : Value) (B : Nat) (p : Option Addr) (zs ys : List (Int × Int)) (hz : zs.length ≤ 5000) (hy : ys.length ≤ 5000) (w : World) (hs : SetAt w B zs) (ht : SomeAt w p ys) :
    Calls Try.prog 21 #[x, .pointer (some ⟨B, 0, none⟩), .pointer p] w (NewSet w (zs.length + ys.length) (fun r => memB zs r && memB ys r)) := by
  have HQ := hide (meet_any B p zs ys (by omega) (by omega) w hs ht)
  clear hs ht
  go_enter Try.func21, Try.ntmps21
  go_wp2_with fail
  refine (unhide HQ).mono fun e w1 h => ?_
  obtain ⟨B', us, rfl, h1, h2, h3, h4⟩ := new_of (by omega) h
  have HE := hide (And.intro h1 (And.intro h2 (And.intro h3 h4)))
  clear h h1 h2 h3 h4
  go_wp2_with fail
  refine (alg_set x B' w1).mono ?_
  rintro e w2 ⟨rfl, rfl⟩
  go_wp2
  go_ret
  exact mk_new (unhide HE)
theorem alg_minus (x : Value) (B : Nat) (p : Option Addr) (zs ys : List (Int × Int)) (hz : zs.length ≤ 5000) (hy : ys.length ≤ 5000) (w : World) (hs : SetAt w B zs) (ht : SomeAt w p ys) :
    Calls Try.prog 23 #[x, .pointer (some ⟨B, 0, none⟩), .pointer p] w (NewSet w (zs.length + ys.length + 1) (fun r => memB zs r && !memB ys r)) := by
  have HQ := hide (minus_any B p zs ys (by omega) (by omega) w hs ht)
  clear hs ht
  go_enter Try.func23, Try.ntmps23
  go_wp2_with fail
  refine (unhide HQ).mono fun e w1 h => ?_
  obtain ⟨B', us, rfl, h1, h2, h3, h4⟩ := new_of (by omega) h
  have HE := hide (And.intro h1 (And.intro h2 (And.intro h3 h4)))
  clear h h1 h2 h3 h4
  go_wp2_with fail
  refine (alg_set x B' w1).mono ?_
  rintro e w2 ⟨rfl, rfl⟩
  go_wp2
  go_ret
  exact mk_new (unhide HE)
theorem alg_not (x : Value) (B : Nat) (zs : List (Int × Int)) (hz : zs.length ≤ 5000) (w : World) (hs : SetAt w B zs) :
    Calls Try.prog 22 #[x, .pointer (some ⟨B, 0, none⟩)] w (NewSet w (zs.length + 1) (fun r => runeB r && !memB zs r)) := by
  have HQ := hide (not_any B zs (by omega) w hs)
  clear hs
  go_enter Try.func22, Try.ntmps22
  go_wp2_with fail
  refine (unhide HQ).mono fun e w1 h => ?_
  obtain ⟨B', us, rfl, h1, h2, h3, h4⟩ := new_of (by omega) h
  have HE := hide (And.intro h1 (And.intro h2 (And.intro h3 h4)))
  clear h h1 h2 h3 h4
  go_wp2_with fail
  refine (alg_set x B' w1).mono ?_
  rintro e w2 ⟨rfl, rfl⟩
  go_wp2
  go_ret
  exact mk_new (unhide HE)
end Go.Proofs.Ytodikfaddfojgaa
