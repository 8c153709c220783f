/- slices.SortFunc at a list of spans that the call owns: the same spans, rising. -/
import Derived.Test.YtemmflhofhngbaaM4
import Derived.Test.YtemmflhofhngbaaSetSort
import Derived.Shelf.SlSortCmp.NoneTotal
namespace Go.Proofs.Ytemmflhofhngbaa
open Go.RowKit Go.Shelf
open Go.Sort (HoldsK putRowK flatK size_flatK get_flatK)
set_option linter.unusedVariables false
/-- A span's two cells. -/
def encQ (x : Int × Int) : List Value := [.int .i32 x.1, .int .i32 x.2]
theorem of1_grow (x y : Int × Int) (W : World) : Calls Try.prog 33 #[spanV x, spanV y] W fun e w' => e = .returned (.int .i64 (cmpOf x.1 y.1)) ∧ ∃ q os', w' = Go.Sort.grow (W.drewN q) os' := by
  have HC := hide (fun w => compare_any x.1 y.1 w)
  obtain ⟨lo, hi⟩ := x
  obtain ⟨mo, mi⟩ := y
  simp only at HC
  go_enter Try.func33, Try.ntmps33
  go_wp2_with fail
  refine (unhide HC _).mono ?_
  rintro e w2 ⟨rfl, rfl⟩
  go_wp2
  go_ret
  exact ⟨rfl, 0, _, by rw [Go.Sort.alloc_eq_grow, Go.Sort.alloc_eq_grow, Go.Sort.grow_grow]; rfl⟩
theorem ltQ (x y : Int × Int) : ltOf (fun x y : Int × Int => cmpOf x.1 y.1) x y = decide (x.1 < y.1) := by
  unfold ltOf cmpOf
  by_cases h1 : x.1 < y.1
  · simp [h1]
  · by_cases h2 : y.1 < x.1 <;> simp [h1, h2]
theorem swoQ : Go.Sort.SWO (ltOf fun x y : Int × Int => cmpOf x.1 y.1) where
  irrefl x := by rw [ltQ]; simp
  trans x y z h1 h2 := by rw [ltQ] at *; simp at *; omega
  ntrans x y z h1 h2 := by rw [ltQ] at *; simp at *; omega
theorem cmpLaysQ (blk off size : Nat) (w : World) : CmpLays Try.prog 33 #[] encQ 2 (fun x y => cmpOf x.1 y.1) blk off size w := fun _ _ _ _ x y => of1_grow x y _
theorem holdsQ {W : World} {base g cap : Nat} {l : List (Int × Int)} (h : W.ownsRow base 28 2 (.slice (some ⟨g, 0, none⟩) l.length cap) l.length (encP l)) : HoldsK encQ 2 W g 0 l.toArray := by
  intro j hj
  rw [size_flatK] at hj
  simp only [List.size_toArray] at hj
  rw [get_flatK _ _ _ _ (by simpa using hj), Nat.zero_add]
  obtain ⟨x, hx⟩ : ∃ x, l[j / 2]? = some x := ⟨_, List.getElem?_eq_getElem (by omega)⟩
  have hx' : l.toArray[j / 2]! = x := by simp [getElem!_def, hx]
  have e := encP_at l _ x hx
  refine ⟨?_, h.frozenAt j⟩
  rw [h.cellAt j hj, hx']
  rcases Nat.mod_two_eq_zero_or_one j with m | m
  · have : j / 2 * 2 = j := by omega
    rw [this] at e
    rw [e.1, m]
    rfl
  · have : j / 2 * 2 + 1 = j := by omega
    rw [this] at e
    rw [e.2, m]
    rfl
theorem rowQ {W : World} {g : Nat} {d : Array (Int × Int)} (h : HoldsK encQ 2 W g 0 d) (hg : g < W.heap.size) : RowP W (some ⟨g, 0, none⟩) d.toList := fun h0 => by
  refine ⟨g, 0, rfl, hg, fun j x hj => ?_⟩
  have hl := (List.getElem?_eq_some_iff.1 hj).1
  simp only [Array.length_toList] at hl
  have hx : d[j]! = x := by
    have : d[j]? = some x := by simpa using hj
    simp [getElem!_def, this]
  have a := (h.cell (i := j) (c := 0) hl (by omega)).1
  have b := (h.cell (i := j) (c := 1) hl (by omega)).1
  rw [hx] at a b
  exact ⟨a, b⟩
theorem below_sortWorldK {base blk off n : Nat} {W : World} {d : Array (Int × Int)} {os : Array Obj} (hb : base ≤ blk) (hlt : blk < W.heap.size) : Below base W (Go.Proofs.sortWorldK encQ 2 W blk off n d os) := by
  refine ⟨rfl, rfl, rfl, size_sortWorldK_c encQ 2 W blk off n d os, fun k hk => ?_⟩
  have hkl : k < (putRowK encQ 2 (Go.Sort.ahead W n) blk off d).heap.size := by
    rw [show (putRowK encQ 2 (Go.Sort.ahead W n) blk off d).heap.size = W.heap.size from Go.Sort.size_putRow _ _ _ _ _]
    omega
  show (_ ++ os)[k]? = _
  rw [Array.getElem?_append_left hkl]
  show (Array.modify W.heap blk _)[k]? = _
  rw [Array.getElem?_modify, if_neg (by omega)]
theorem sort_any (v : Value) (l : List (Int × Int)) (base : Nat) (hl : l.length ≤ 1000000) (w : World) (h : w.ownsRow base 28 2 v l.length (encP l)) :
    Calls Try.prog 32 #[v, .func (.func 33) #[] #[]] w fun e w' => e = .returned (.tuple #[]) ∧ ∃ (d : List (Int × Int)) (a : Option Addr) (c : Nat), v = .slice a d.length c ∧ d.Perm l ∧ RisingL d ∧ RowP w' a d ∧ Below base w w' := by
  by_cases h0 : l.length = 0
  · have : l = [] := List.eq_nil_of_length_eq_zero h0
    subst this
    obtain ⟨a, c, rfl, _, _, _⟩ := own_row h
    refine (AnyF.slices_SortFunc_none sortP a c _ w).mono fun e w' ⟨he, hw⟩ => ?_
    subst hw
    exact ⟨he, [], a, c, rfl, List.Perm.refl _, fun i j x y _ h => by simp at h, fun h => by simp at h, Below.refl _ _⟩
  · obtain ⟨g, cap, rfl, hg0, hg⟩ := h.form (by omega)
    have hH := holdsQ h
    have eg : ∀ args w, (callFunc 33 args).run Try.prog w = .ok (.enter 33 args) w := enters_of Try.func33 (by kernel_rfl) rfl
    have hcon := AnyQ.slices_SortFunc sortP 2 Try.isAgg28 Try.sizeOf28 encQ (fun _ => rfl) (fun x v hv => by simp [encQ] at hv; rcases hv with rfl | rfl <;> rfl) (fun x y => cmpOf x.1 y.1) swoQ 33 #[] g 0 cap l.toArray w eg (cmpLaysQ g 0 l.toArray.size w) hH hg (by simp; omega)
    refine hcon.mono fun e w' ⟨he, d', n, os, hp, hs, hw⟩ => ?_
    subst hw
    have hsz : d'.size = l.length := by simpa using hp.1
    have hH' := holdsK_sortWorldK_c encQ 2 w g 0 l.toArray d' n os hH hg (by simpa using hp.1)
    refine ⟨he, d'.toList, some ⟨g, 0, none⟩, cap, by simp [hsz], ?_, ?_, ?_, below_sortWorldK hg0 hg⟩
    · have := hp.2.2
      have h' : (List.take l.length d'.toList).Perm l := by simpa [hsz, ← hp.1] using this
      rwa [List.take_of_length_le (by simp [hsz])] at h'
    · intro i j x y hij hx hy
      have hi := (List.getElem?_eq_some_iff.1 hx).1
      have hj := (List.getElem?_eq_some_iff.1 hy).1
      simp only [Array.length_toList] at hi hj
      have e1 : d'[i]! = x := by
        have : d'[i]? = some x := by simpa using hx
        simp [getElem!_def, this]
      have e2 : d'[j]! = y := by
        have : d'[j]? = some y := by simpa using hy
        simp [getElem!_def, this]
      have := hs i j (Nat.zero_le _) hij (by simp; omega)
      rw [ltQ, e1, e2] at this
      have := of_decide_eq_false this
      omega
    · exact rowQ hH' (by have := size_sortWorldK_c encQ 2 w g 0 n d' os; omega)
end Go.Proofs.Ytemmflhofhngbaa
