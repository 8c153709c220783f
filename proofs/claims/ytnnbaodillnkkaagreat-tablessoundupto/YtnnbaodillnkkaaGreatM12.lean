/- Texts of this claim, one behind the other. -/
import Derived.Test.YtnnbaodillnkkaaGreatM3
import Derived.Test.YtnnbaodillnkkaaGreatM11
import Derived.Shelf.SlSortCmp.WholeK
import Derived.Test.YtnnbaodillnkkaaGreatProg
/- Spans laid one behind the other are the fewest; the fewest are one list. -/
namespace Go.Proofs.YtnnbaodillnkkaaGreat
open Go.RowKit Go.Shelf
set_option linter.unusedVariables false
def layL (zs : List (Int × Int)) (x : Int × Int) : List (Int × Int) :=
  match zs.getLast? with
  | some y => if rankOf x.1 ≤ rankOf y.2 + 1 then zs.dropLast ++ [(y.1, max y.2 x.2)] else zs ++ [x]
  | none => [x]
theorem layL_nil (x : Int × Int) : layL [] x = [x] := rfl
theorem layL_touch (ys : List (Int × Int)) (y x : Int × Int) (h : rankOf x.1 ≤ rankOf y.2 + 1) : layL (ys ++ [y]) x = ys ++ [(y.1, max y.2 x.2)] := by
  unfold layL
  rw [List.getLast?_concat, List.dropLast_concat]
  simp only [if_pos h]
theorem layL_apart (ys : List (Int × Int)) (y x : Int × Int) (h : ¬ rankOf x.1 ≤ rankOf y.2 + 1) : layL (ys ++ [y]) x = ys ++ [y] ++ [x] := by
  unfold layL
  rw [List.getLast?_concat]
  simp only [if_neg h]
theorem get_snoc {ys : List (Int × Int)} {y x : Int × Int} {i : Nat} (h : (ys ++ [y])[i]? = some x) : (i < ys.length ∧ ys[i]? = some x) ∨ (i = ys.length ∧ x = y) := by
  rcases Nat.lt_trichotomy i ys.length with a | a | a
  · rw [List.getElem?_append_left a] at h; exact .inl ⟨a, h⟩
  · subst a; simp at h; exact .inr ⟨rfl, h.symm⟩
  · rw [List.getElem?_append_right (by omega)] at h
    have := (List.getElem?_eq_some_iff.1 h).1
    simp at this; omega
theorem Spread.init {ys : List (Int × Int)} {y : Int × Int} (h : Spread (ys ++ [y])) : Spread ys where
  ends x hx := h.ends x (by simp [hx])
  apart i j x z hij hx hz := by
    have hi := (List.getElem?_eq_some_iff.1 hx).1
    have hj := (List.getElem?_eq_some_iff.1 hz).1
    exact h.apart i j x z hij (by rw [List.getElem?_append_left hi]; exact hx) (by rw [List.getElem?_append_left hj]; exact hz)
theorem Spread.last {ys : List (Int × Int)} {y : Int × Int} (h : Spread (ys ++ [y])) (x : Int × Int) (hx : x ∈ ys) : rankOf x.2 + 1 < rankOf y.1 := by
  obtain ⟨i, hi, rfl⟩ := List.mem_iff_getElem.1 hx
  exact h.apart i ys.length _ _ hi (by rw [List.getElem?_append_left hi, List.getElem?_eq_getElem hi]) (by simp)
theorem Spread.snoc {ys : List (Int × Int)} {y : Int × Int} (h : Spread ys) (he : endsB y = true) (hy : y.1 ≤ y.2) (ha : ∀ x ∈ ys, rankOf x.2 + 1 < rankOf y.1) : Spread (ys ++ [y]) where
  ends x hx := by
    rcases List.mem_append.1 hx with a | a
    · exact h.ends x a
    · simp at a; subst a; exact ⟨he, hy⟩
  apart i j x z hij hx hz := by
    rcases get_snoc hz with ⟨a, b⟩ | ⟨a, b⟩
    · rcases get_snoc hx with ⟨c, d⟩ | ⟨c, d⟩
      · exact h.apart i j x z hij d b
      · omega
    · rcases get_snoc hx with ⟨c, d⟩ | ⟨c, d⟩
      · subst b; exact ha x (List.mem_of_getElem? d)
      · omega
theorem rank_le {a b : Int} (ha : a < 55296 ∨ 57343 < a) (hb : b < 55296 ∨ 57343 < b) : rankOf a ≤ rankOf b ↔ a ≤ b := by
  have := rank_lt hb ha
  omega
theorem endsB_mk {x : Int × Int} (h1 : runeB x.1 = true) (h2 : runeB x.2 = true) : endsB x = true := by unfold endsB; rw [h1, h2]; rfl
theorem endsB_parts {x : Int × Int} (h : endsB x = true) : runeB x.1 = true ∧ runeB x.2 = true := by unfold endsB at h; rwa [Bool.and_eq_true] at h
theorem layL_spread {zs : List (Int × Int)} {x : Int × Int} (h : Spread zs) (he : endsB x = true) (hx : x.1 ≤ x.2) (hl : ∀ y ∈ zs, y.1 ≤ x.1) : Spread (layL zs x) := by
  rcases List.eq_nil_or_concat zs with rfl | ⟨ys, y, rfl⟩
  · rw [layL_nil]
    exact Spread.snoc (ys := []) ⟨fun x h => by simp at h, fun i j x y _ h => by simp at h⟩ he hx (fun x h => by simp at h)
  · rw [List.concat_eq_append] at *
    have hy := h.ends y (by simp)
    by_cases t : rankOf x.1 ≤ rankOf y.2 + 1
    · rw [layL_touch _ _ _ t]
      refine Spread.snoc h.init ?_ (by show y.1 ≤ max y.2 x.2; have := hy.2; omega) (fun z hz => h.last z hz)
      refine endsB_mk (endsB_parts hy.1).1 ?_
      show runeB (max y.2 x.2) = true
      rcases Int.le_total y.2 x.2 with a | a
      · rw [Int.max_eq_right a]; exact (endsB_parts he).2
      · rw [Int.max_eq_left a]; exact (endsB_parts hy.1).2
    · rw [layL_apart _ _ _ t]
      refine Spread.snoc h he hx (fun z hz => ?_)
      rcases List.mem_append.1 hz with a | a
      · have h1 := h.last z a
        have h2 := endsB_iff hy.1
        have h3 := (rank_le h2.1.2.2 h2.2.2.2).2 hy.2
        omega
      · simp at a; subst a; omega
theorem memB_append (xs ys : List (Int × Int)) (r : Int) : memB (xs ++ ys) r = (memB xs r || memB ys r) := by
  unfold memB
  rw [List.any_append, Bool.and_or_distrib_right]
theorem memB_iff (zs : List (Int × Int)) (r : Int) : memB zs r = true ↔ (∃ x ∈ zs, x.1 ≤ r ∧ r ≤ x.2) ∧ runeB r = true := by
  unfold memB
  simp
theorem layL_mem {zs : List (Int × Int)} {x : Int × Int} (h : Spread zs) (he : endsB x = true) (hx : x.1 ≤ x.2) (hl : ∀ y ∈ zs, y.1 ≤ x.1) (r : Int) : memB (layL zs x) r = (memB zs r || memB [x] r) := by
  rcases List.eq_nil_or_concat zs with rfl | ⟨ys, y, rfl⟩
  · rw [layL_nil]; simp [memB]
  · rw [List.concat_eq_append] at *
    have hy := h.ends y (by simp)
    by_cases t : rankOf x.1 ≤ rankOf y.2 + 1
    · rw [layL_touch _ _ _ t, memB_append, memB_append, Bool.or_assoc]
      congr 1
      have h1 := endsB_iff hy.1
      have h2 := endsB_iff he
      have h3 := hl y (by simp)
      rw [Bool.eq_iff_iff, Bool.or_eq_true, memB_iff, memB_iff, memB_iff]
      simp only [List.mem_singleton, exists_eq_left]
      constructor
      · rintro ⟨⟨a, b⟩, c⟩
        have d := runeB_iff c
        by_cases e : r ≤ y.2
        · exact .inl ⟨⟨a, e⟩, c⟩
        · have f := (rank_lt h1.2.2.2 d.2.2).2 (by omega)
          have g := (rank_le h2.1.2.2 d.2.2).1 (by omega)
          exact .inr ⟨⟨g, by omega⟩, c⟩
      · rintro (⟨⟨a, b⟩, c⟩ | ⟨⟨a, b⟩, c⟩)
        · exact ⟨⟨a, by omega⟩, c⟩
        · exact ⟨⟨by omega, by omega⟩, c⟩
    · rw [layL_apart _ _ _ t, memB_append]
theorem layL_length (zs : List (Int × Int)) (x : Int × Int) : (layL zs x).length ≤ zs.length + 1 := by
  rcases List.eq_nil_or_concat zs with rfl | ⟨ys, y, rfl⟩
  · rw [layL_nil]; simp
  · rw [List.concat_eq_append]
    by_cases t : rankOf x.1 ≤ rankOf y.2 + 1
    · rw [layL_touch _ _ _ t]; simp
    · rw [layL_apart _ _ _ t]; simp
theorem layL_fst (zs : List (Int × Int)) (x z : Int × Int) (h : z ∈ layL zs x) : (∃ y ∈ zs, z.1 = y.1) ∨ z.1 = x.1 := by
  rcases List.eq_nil_or_concat zs with rfl | ⟨ys, y, rfl⟩
  · rw [layL_nil] at h; simp at h; subst h; exact .inr rfl
  · rw [List.concat_eq_append] at *
    by_cases t : rankOf x.1 ≤ rankOf y.2 + 1
    · rw [layL_touch _ _ _ t] at h
      rcases List.mem_append.1 h with a | a
      · exact .inl ⟨z, by simp [a], rfl⟩
      · simp at a; subst a; exact .inl ⟨y, by simp, rfl⟩
    · rw [layL_apart _ _ _ t] at h
      rcases List.mem_append.1 h with a | a
      · exact .inl ⟨z, a, rfl⟩
      · simp at a; subst a; exact .inr rfl
def layAll (l : List (Int × Int)) : List (Int × Int) := l.foldl layL []
theorem layAll_snoc (l : List (Int × Int)) (x : Int × Int) : layAll (l ++ [x]) = layL (layAll l) x := by simp [layAll]
def RightL (l : List (Int × Int)) : Prop := ∀ x ∈ l, endsB x = true ∧ x.1 ≤ x.2
def RisingL (l : List (Int × Int)) : Prop := ∀ (i j : Nat) (x y : Int × Int), i < j → l[i]? = some x → l[j]? = some y → x.1 ≤ y.1
theorem RisingL.init {ys : List (Int × Int)} {y : Int × Int} (h : RisingL (ys ++ [y])) : RisingL ys := fun i j x z hij hx hz => by
  have hi := (List.getElem?_eq_some_iff.1 hx).1
  have hj := (List.getElem?_eq_some_iff.1 hz).1
  exact h i j x z hij (by rw [List.getElem?_append_left hi]; exact hx) (by rw [List.getElem?_append_left hj]; exact hz)
theorem layAll_all (n : Nat) : ∀ (l : List (Int × Int)), l.length = n → RightL l → RisingL l → Spread (layAll l) ∧ (∀ r, memB (layAll l) r = memB l r) ∧ (layAll l).length ≤ l.length ∧ (∀ z ∈ layAll l, ∃ y ∈ l, z.1 = y.1) := by
  induction n with
  | zero =>
    intro l hl _ _
    have := List.eq_nil_of_length_eq_zero hl
    subst this
    exact ⟨⟨fun x h => by simp [layAll] at h, fun i j x y _ h => by simp [layAll] at h⟩, fun r => rfl, by simp [layAll], fun z h => by simp [layAll] at h⟩
  | succ n ih =>
    intro l hl hR hO
    rcases List.eq_nil_or_concat l with rfl | ⟨ys, y, rfl⟩
    · simp at hl
    · rw [List.concat_eq_append] at *
      simp at hl
      obtain ⟨h1, h2, h3, h4⟩ := ih ys hl (fun x hx => hR x (by simp [hx])) hO.init
      have hy := hR y (by simp)
      have hle : ∀ z ∈ layAll ys, z.1 ≤ y.1 := fun z hz => by
        obtain ⟨u, hu, e⟩ := h4 z hz
        obtain ⟨i, hi, rfl⟩ := List.mem_iff_getElem.1 hu
        rw [e]
        exact hO i ys.length _ _ hi (by rw [List.getElem?_append_left hi, List.getElem?_eq_getElem hi]) (by simp)
      rw [layAll_snoc]
      refine ⟨layL_spread h1 hy.1 hy.2 hle, fun r => ?_, ?_, fun z hz => ?_⟩
      · rw [layL_mem h1 hy.1 hy.2 hle, h2, memB_append]
      · have := layL_length (layAll ys) y
        simp; omega
      · rcases layL_fst _ _ _ hz with ⟨u, hu, e⟩ | e
        · obtain ⟨v, hv, e'⟩ := h4 u hu
          exact ⟨v, by simp [hv], e.trans e'⟩
        · exact ⟨y, by simp, e⟩
theorem Spread.tail {x : Int × Int} {zs : List (Int × Int)} (h : Spread (x :: zs)) : Spread zs :=
  ⟨fun y hy => h.ends y (List.mem_cons_of_mem _ hy), fun i j y z hij hy hz => h.apart (i + 1) (j + 1) y z (by omega) (by simpa using hy) (by simpa using hz)⟩
theorem Spread.head {x y : Int × Int} {zs : List (Int × Int)} (h : Spread (x :: zs)) (hy : y ∈ zs) : rankOf x.2 + 1 < rankOf y.1 := by
  obtain ⟨i, hi, rfl⟩ := List.mem_iff_getElem.1 hy
  exact h.apart 0 (i + 1) _ _ (by omega) (by simp) (by simp [hi])
theorem Spread.head_lt {x y : Int × Int} {zs : List (Int × Int)} (h : Spread (x :: zs)) (hy : y ∈ zs) : x.2 < y.1 := by
  have a := endsB_iff (h.ends x (by simp)).1
  have b := endsB_iff (h.ends y (by simp [hy])).1
  have := h.head hy
  exact (rank_lt a.2.2.2 b.1.2.2).1 (by omega)
theorem head_mem {x : Int × Int} {zs : List (Int × Int)} (h : Spread (x :: zs)) : memB (x :: zs) x.1 = true ∧ memB (x :: zs) x.2 = true := by
  have a := h.ends x (by simp)
  have b := endsB_parts a.1
  exact ⟨(memB_iff _ _).2 ⟨⟨x, by simp, by omega, a.2⟩, b.1⟩, (memB_iff _ _).2 ⟨⟨x, by simp, a.2, by omega⟩, b.2⟩⟩
theorem memB_perm {xs ys : List (Int × Int)} (h : xs.Perm ys) (r : Int) : memB xs r = memB ys r := by
  rw [Bool.eq_iff_iff, memB_iff, memB_iff]
  constructor
  · rintro ⟨⟨x, a, b⟩, c⟩; exact ⟨⟨x, h.mem_iff.1 a, b⟩, c⟩
  · rintro ⟨⟨x, a, b⟩, c⟩; exact ⟨⟨x, h.mem_iff.2 a, b⟩, c⟩
def ahs (zs : List (Int × Int)) : List Value := (List.range zs.length).map fun j => .int .i64 (total (zs.take j))
theorem ahs_length (zs : List (Int × Int)) : (ahs zs).length = zs.length := by simp [ahs]
theorem ahs_at (zs : List (Int × Int)) (j : Nat) (hj : j < zs.length) : (ahs zs)[j]? = some (.int .i64 (total (zs.take j))) := by simp [ahs, hj]
theorem ahs_snoc (zs : List (Int × Int)) (x : Int × Int) : ahs (zs ++ [x]) = ahs zs ++ [.int .i64 (total zs)] := by
  unfold ahs
  rw [List.length_append, List.length_singleton, List.range_succ, List.map_append]
  congr 1
  · apply List.map_congr_left
    intro j hj
    rw [List.mem_range] at hj
    rw [List.take_append_of_le_length (by omega)]
  · simp
theorem ahs_last (ys : List (Int × Int)) (y y' : Int × Int) : ahs (ys ++ [y']) = ahs (ys ++ [y]) := by rw [ahs_snoc, ahs_snoc]
theorem own_rowA {W : World} {base n : Nat} {v : Value} {zs : List (Int × Int)} (h : W.ownsRow base 3 1 v n (ahs zs)) : ∃ a c, v = .slice a zs.length c ∧ RowA W a zs ∧ n = zs.length := by
  obtain ⟨hl, h⟩ := h
  rw [ahs_length] at hl
  have hn : n = zs.length := by omega
  subst hn
  rcases h with ⟨rfl, h0⟩ | ⟨g, cap, cur, rfl, hb, hg, h1, h2, h3, h4⟩
  · exact ⟨none, 0, by rw [h0], fun h => by omega, rfl⟩
  · refine ⟨_, cap, rfl, fun h0 => ⟨g, 0, rfl, (Array.getElem?_eq_some_iff.1 hg).1, fun j hj => ?_⟩, rfl⟩
    have hbk : Blk W g cur 3 := hg
    have e := ahs_at zs j hj
    rw [← h4] at e
    rw [List.getElem?_take, if_pos (by omega)] at e
    rw [Nat.zero_add, Blk.cell hbk]
    simpa using e
theorem own_below {W W' : World} {base E sz n : Nat} {v : Value} {xs : List Value} (h : W.ownsRow base E sz v n xs) (hb : Below W.heap.size W W') : W'.ownsRow base E sz v n xs := by
  obtain ⟨hl, h⟩ := h
  refine ⟨hl, ?_⟩
  rcases h with h | ⟨g, cap, cur, h1, h2, h3, h4⟩
  · exact .inl h
  · exact .inr ⟨g, cap, cur, h1, h2, (hb.block g (Array.getElem?_eq_some_iff.1 h3).1).trans h3, h4⟩
theorem own_ne {W : World} {base E t sz n B : Nat} {v : Value} {xs : List Value} {cs : Array Value} (h : W.ownsRow base E sz v n xs) (hB : Blk W B cs t) (hE : t ≠ E) : some B ≠ v.ownBlock := by
  intro e
  rcases h.2 with ⟨rfl, _⟩ | ⟨g, cap, cur, rfl, _, hg, _⟩
  · simp [Value.ownBlock] at e
  · simp [Value.ownBlock] at e
    subst e
    have := (show W.heap[B]? = _ from hB).symm.trans hg
    simp at this
    exact hE this.2
theorem own_own {W : World} {base base' E E' sz sz' n n' : Nat} {v v' : Value} {xs xs' : List Value} (h : W.ownsRow base E sz v n xs) (h' : W.ownsRow base' E' sz' v' n' xs') (hE : E ≠ E') : v.ownBlock = none ∨ v.ownBlock ≠ v'.ownBlock := by
  rcases h.2 with ⟨rfl, _⟩ | ⟨g, cap, cur, rfl, _, hg, _⟩
  · exact .inl rfl
  · exact .inr (own_ne h' (show Blk W g cur E from hg) hE)
def Frame (w w' : World) (B : Nat) : Prop := ∀ X, X < w.heap.size → X ≠ B → (∀ va vb, Blk w B #[va, vb] 107 → va.ownBlock ≠ some X ∧ vb.ownBlock ≠ some X) → w'.heap[X]? = w.heap[X]?
structure Made (W : World) (B lo0 : Nat) (zs : List (Int × Int)) : Prop where
  form : ∃ va vb, Blk W B #[va, vb] 107 ∧ W.ownsRow lo0 68 2 va zs.length (encP zs) ∧ W.ownsRow lo0 3 1 vb zs.length (ahs zs)
  lo : lo0 ≤ B
theorem Made.set {W : World} {B lo0 : Nat} {zs : List (Int × Int)} (h : Made W B lo0 zs) (hs : Spread zs) (hl : zs.length ≤ 1112064) : SetAt W B zs := by
  obtain ⟨va, vb, h1, h2, h3⟩ := h.form
  obtain ⟨a, ca, rfl, ha, _⟩ := own_row h2
  obtain ⟨b, cb, rfl, hb, _⟩ := own_rowA h3
  exact ⟨⟨a, ca, b, cb, h1, ha, hb⟩, hs, hl⟩
theorem Made.below {W W' : World} {B lo0 : Nat} {zs : List (Int × Int)} (h : Made W B lo0 zs) (hb : Below W.heap.size W W') : Made W' B lo0 zs := by
  obtain ⟨va, vb, h1, h2, h3⟩ := h.form
  exact ⟨⟨va, vb, h1.below hb h1.lt, own_below h2 hb, own_below h3 hb⟩, h.lo⟩
theorem encP_last (ys : List (Int × Int)) (y : Int × Int) (u : Int) : (encP (ys ++ [y])).set (ys.length * 2 + 1) (.int .i32 u) = encP (ys ++ [(y.1, u)]) := by
  rw [encP_append, encP_append, List.set_append, if_neg (by rw [encP_length]; omega), encP_length]
  have : ys.length * 2 + 1 - ys.length * 2 = 1 := by omega
  rw [this]
  rfl
theorem Made.touch {W : World} {B lo0 g ca : Nat} {vb : Value} {ys : List (Int × Int)} {y : Int × Int} (h1 : Blk W B #[.slice (some ⟨g, 0, none⟩) (ys.length + 1) ca, vb] 107) (h2 : W.ownsRow lo0 68 2 (.slice (some ⟨g, 0, none⟩) (ys.length + 1) ca) (ys.length + 1) (encP (ys ++ [y]))) (h3 : W.ownsRow lo0 3 1 vb (ys.length + 1) (ahs (ys ++ [y]))) (hl : lo0 ≤ B) (u : Int) :
    Made (W.setCell ⟨g, ys.length * 2 + 1, none⟩ (.int .i32 u)) B lo0 (ys ++ [(y.1, u)]) ∧ Below lo0 W (W.setCell ⟨g, ys.length * 2 + 1, none⟩ (.int .i32 u)) := by
  have hs := h2.stored (ys.length * 2 + 1) (.int .i32 u)
  have hg : lo0 ≤ g := (h2.lt g rfl).1
  refine ⟨⟨⟨_, vb, h1.kept hs.2 ?_, ?_, ?_⟩, hl⟩, (Below.refl lo0 W).setCell (p := ⟨g, ys.length * 2 + 1, none⟩) hg _⟩
  · exact own_ne h2 h1 (by decide)
  · rw [List.length_append, List.length_singleton]
    have := hs.1
    rw [encP_last] at this
    exact this
  · rw [List.length_append, List.length_singleton, ahs_last ys y]
    exact h3.kept hs.2 (own_own h3 h2 (by decide))
theorem mid_any {wm w2 w3 : World} {B X lo0 n : Nat} {va vb : Value} {cx : Array Value} {xs ys : List Value} {tmp : Obj} (hB : Blk wm B #[va, vb] 107) (hX : Blk wm X cx 68) (ha : wm.ownsRow lo0 68 2 va n xs) (hv : wm.ownsRow lo0 3 1 vb n ys) (hb : Below wm.heap.size wm w2) (hg : (w2.alloc tmp).grownBy w3 vb.ownBlock) :
    Blk w3 B #[va, vb] 107 ∧ Blk w3 X cx 68 ∧ w3.ownsRow lo0 68 2 va n xs := by
  have b1 := (hB.below hb hB.lt).alloc tmp
  have x1 := (hX.below hb hX.lt).alloc tmp
  have a1 := (own_below ha hb).alloc tmp
  have v1 := (own_below hv hb).alloc tmp
  exact ⟨b1.kept hg (own_ne v1 b1 (by decide)), x1.kept hg (own_ne v1 x1 (by decide)), a1.kept hg (own_own a1 v1 (by decide))⟩
theorem fst_end' {w wm w2 w3 : World} {B lo0 X g1 cap1 n : Nat} {va vb : Value} {cx : Array Value} {xs ys zs : List Value} {tmp : Obj} (hB : Blk wm B #[va, vb] 107) (hX : Blk wm X cx 68) (ha : wm.ownsRow lo0 68 2 va n xs) (hv : wm.ownsRow lo0 3 1 vb n ys) (hw : Below w.heap.size w wm) (hb : Below wm.heap.size wm w2) (hg : (w2.alloc tmp).grownBy w3 vb.ownBlock) (h0 : lo0 ≤ B) (hl : lo0 ≤ w.heap.size) (hne : X ≠ B)
    (ho : w3.ownsRow lo0 3 1 (.slice (some ⟨g1, 0, none⟩) (n + 1) cap1) (n + 1) zs) :
    ∃ w4, w4 = w3.setCell ⟨B, 1, none⟩ (.slice (some ⟨g1, 0, none⟩) (n + 1) cap1) ∧ Blk w4 B #[va, .slice (some ⟨g1, 0, none⟩) (n + 1) cap1] 107 ∧ Blk w4 X cx 68 ∧ w4.ownsRow lo0 3 1 (.slice (some ⟨g1, 0, none⟩) (n + 1) cap1) (n + 1) zs ∧ w4.ownsRow lo0 68 2 va n xs ∧ Below lo0 w w4 ∧ (∀ X, X < w.heap.size → X ≠ B → vb.ownBlock ≠ some X → w4.heap[X]? = w.heap[X]?) := by
  have hm := mid_any hB hX ha hv hb hg
  refine ⟨_, rfl, by simpa using hm.1.set 1 (.slice (some ⟨g1, 0, none⟩) (n + 1) cap1), hm.2.1.other hne _, ?_, ?_, ?_, fun X hX hXB hXv => ?_⟩
  · exact ho.kept (grown_setCell' w3 ⟨B, 1, none⟩ _) (.inr (own_ne ho hm.1 (by decide)).symm)
  · rcases hm.2.2.2 with ⟨rfl, _⟩ | _
    · exact hm.2.2.kept (grown_setCell' w3 ⟨B, 1, none⟩ _) (.inl rfl)
    · exact hm.2.2.kept (grown_setCell' w3 ⟨B, 1, none⟩ _) (.inr (own_ne hm.2.2 hm.1 (by decide)).symm)
  · have s1 := hw.size
    have s2 := hb.size
    have v1 := hv.lt
    exact ((((hw.mono hl).trans (hb.mono (by omega))).alloc (by omega) tmp).grown hg (by simp; omega) (fun k e => (v1 k e).1)).setCell (p := ⟨B, 1, none⟩) h0 _
  · have s1 := hw.size
    have s2 := hb.size
    rw [Below.heap_setCell w3 ⟨B, 1, none⟩ _ X hXB, hg.block X (by simp; omega) (fun e => hXv e.symm), Below.heap_alloc w2 tmp X (by omega), hb.block X (by omega), hw.block X hX]
theorem snd_end' {w w4 w5 : World} {B lo0 g1 cap1 g5 cap5 : Nat} {va : Value} {zs : List (Int × Int)} {x : Int × Int} {tmp : Obj} (hB : Blk w4 B #[va, .slice (some ⟨g1, 0, none⟩) (zs.length + 1) cap1] 107) (ho : w4.ownsRow lo0 3 1 (.slice (some ⟨g1, 0, none⟩) (zs.length + 1) cap1) (zs.length + 1) (ahs (zs ++ [x]))) (ha : w4.ownsRow lo0 68 2 va zs.length (encP zs)) (hL : Below lo0 w w4) (hl : lo0 ≤ w.heap.size) (h0 : lo0 ≤ B)
    (hg : (w4.alloc tmp).drew.grownBy w5 va.ownBlock) (ho5 : w5.ownsRow lo0 68 2 (.slice (some ⟨g5, 0, none⟩) (zs.length + 1) cap5) (zs.length + 1) (encP zs ++ encP [x])) {Pv : Nat → Prop} (hF : ∀ X, X < w.heap.size → X ≠ B → Pv X → w4.heap[X]? = w.heap[X]?) :
    Made (w5.setCell ⟨B, 0, none⟩ (.slice (some ⟨g5, 0, none⟩) (zs.length + 1) cap5)) B lo0 (zs ++ [x]) ∧ Below lo0 w (w5.setCell ⟨B, 0, none⟩ (.slice (some ⟨g5, 0, none⟩) (zs.length + 1) cap5)) ∧ (∀ X, X < w.heap.size → X ≠ B → Pv X → va.ownBlock ≠ some X → (w5.setCell ⟨B, 0, none⟩ (.slice (some ⟨g5, 0, none⟩) (zs.length + 1) cap5)).heap[X]? = w.heap[X]?) := by
  have hg' : (w4.alloc tmp).grownBy w5 va.ownBlock := ⟨hg.os, hg.tape, hg.output, hg.size, hg.block⟩
  have b1 := hB.alloc tmp
  have a1 := ha.alloc tmp
  have o1 := ho.alloc tmp
  have hm := b1.kept hg' (own_ne a1 b1 (by decide))
  have ho1 := o1.kept hg' (own_own o1 a1 (by decide))
  rw [← encP_append] at ho5
  refine ⟨⟨⟨_, _, by simpa using hm.set 0 (.slice (some ⟨g5, 0, none⟩) (zs.length + 1) cap5), ?_, ?_⟩, h0⟩, ?_, fun X hX hXB hP hXa => ?_⟩
  · rw [List.length_append, List.length_singleton]
    exact ho5.kept (grown_setCell' w5 ⟨B, 0, none⟩ _) (.inr (own_ne ho5 hm (by decide)).symm)
  · rw [List.length_append, List.length_singleton]
    exact ho1.kept (grown_setCell' w5 ⟨B, 0, none⟩ _) (.inr (own_ne ho1 hm (by decide)).symm)
  · have s1 := hL.size
    exact ((hL.alloc (by omega) tmp).grown hg' (by simp; omega) (fun k e => (ha.lt k e).1)).setCell (p := ⟨B, 0, none⟩) h0 _
  · have s1 := hL.size
    rw [Below.heap_setCell w5 ⟨B, 0, none⟩ _ X hXB, hg'.block X (by simp; omega) (fun e => hXa e.symm), Below.heap_alloc w4 tmp X (by omega), hF X hX hXB hP]
set_option maxRecDepth 100000 in
set_option maxHeartbeats 4000000 in
theorem lay_touch (B lo0 : Nat) (ys : List (Int × Int)) (y x : Int × Int) (hn : ys.length ≤ 1000000) (hy : endsB y = true) (hx : endsB x = true) (ht : rankOf x.1 ≤ rankOf y.2 + 1) (w : World) (hm : Made w B lo0 (ys ++ [y])) (hl : lo0 ≤ w.heap.size) :
    Calls Tryz.prog 155 #[.pointer (some ⟨B, 0, none⟩), spnV x] w fun e w' => (∃ r, e = .returned r) ∧ Made w' B lo0 (layL (ys ++ [y]) x) ∧ Below lo0 w w' ∧ Frame w w' B := by
  rw [layL_touch _ _ _ ht]
  obtain ⟨va, vb, h1, h2, h3⟩ := hm.form
  have hlo := hm.lo
  rw [List.length_append, List.length_singleton] at h2 h3
  obtain ⟨g, ca, rfl, hg0, hg⟩ := h2.form (by omega)
  have hex := endsB_iff hx
  have hey := endsB_iff hy
  have r1 := rank_range hex.1.1 hex.1.2.1
  have r2 := rank_range hey.2.1 hey.2.2.1
  obtain ⟨lo, hi⟩ := x
  obtain ⟨y0, y1⟩ := y
  simp only at ht hex hey r1 r2
  simp only
  have k1 := h2.cellAt (ys.length * 2 + 1) (by omega)
  have k2 := h2.frozenAt (ys.length * 2 + 1)
  rw [(encP_at (ys ++ [(y0, y1)]) ys.length (y0, y1) (by simp)).2] at k1
  have c0 := (h1.alloc (.cells #[.int .i32 lo, .int .i32 hi] 68)).cell 0
  have c1 := alloc_cell (.cells #[.int .i32 lo, .int .i32 hi] 68) k1
  have c2 : (w.alloc (.cells #[.int .i32 lo, .int .i32 hi] 68)).frozen? ⟨g, ys.length * 2 + 1, none⟩ = false := (((Below.refl _ w).alloc (Nat.le_refl _) _).frozen (p := ⟨g, ys.length * 2 + 1, none⟩) hg).trans k2
  have q0 := (Blk.new w #[.int .i32 lo, .int .i32 hi] 68).cell 0
  have q1 := (Blk.new w #[.int .i32 lo, .int .i32 hi] 68).cell 1
  have HE := hide (fun (k : Nat) (u : Int) => Made.touch (W := (w.alloc (.cells #[.int .i32 lo, .int .i32 hi] 68)).drewN k) (h1.alloc (.cells #[.int .i32 lo, .int .i32 hi] 68)) (h2.alloc (.cells #[.int .i32 lo, .int .i32 hi] 68)) (h3.alloc (.cells #[.int .i32 lo, .int .i32 hi] 68)) hlo u)
  have HW := hide (fun (k : Nat) => below_drewN ((Below.refl lo0 w).alloc hl (.cells #[.int .i32 lo, .int .i32 hi] 68)) k)
  have HFr : Hz (∀ (k : Nat) (u : Value), Frame w (((w.alloc (.cells #[.int .i32 lo, .int .i32 hi] 68)).drewN k).setCell ⟨g, ys.length * 2 + 1, none⟩ u) B) := hide (fun k u X hX hXB hv => by
    have hne : X ≠ g := fun e => (hv _ _ h1).1 (by rw [e]; rfl)
    rw [Below.heap_setCell _ ⟨g, ys.length * 2 + 1, none⟩ _ X hne]
    exact Below.heap_alloc w _ X hX)
  generalize ys.length = m at *
  have hm1 : ((m + 1 : Nat) : Int) - 1 = (m : Int) := by omega
  have hm2 : ((m : Nat) : Int).toNat = m := by omega
  have hlo2 : 0 ≤ lo ∧ lo ≤ 1114111 := ⟨hex.1.1, hex.1.2.1⟩
  have hhi2 : 0 ≤ y1 ∧ y1 ≤ 1114111 := ⟨hey.2.1, hey.2.2.1⟩
  clear h1 h2 h3 hm k1 k2 hex hey
  go_enter Tryz.func155, Tryz.ntmps155
  go_wp2
  go_quiet ((go_at_call 173; exact Calls.quiet_of_same (rank_any _ (by omega) (by omega) _)))
  go_wp2
  have hmx2 : Tryz.prog.follows .mixedOrders = true := by kernel_rfl
  go_region_with (fail)
  all_goals
    have HE1 := hide (unhide HE (nq + 1) (max y1 hi))
    have HW1 := hide (unhide HW (nq + 1))
    have HF1 := hide (unhide HFr (nq + 1) (.int .i32 (max y1 hi)))
    clear HE HW HFr c0 c1 c2 q0 q1
    go_wp2
    refine bodyPost_ret (results_none rfl _ _ _) rfl ?_
    exact ⟨⟨_, rfl⟩, (unhide HE1).1, (unhide HW1).trans (unhide HE1).2, unhide HF1⟩
theorem ahs_add (zs : List (Int × Int)) (x : Int × Int) : ahs zs ++ [.int .i64 (total zs)] = ahs (zs ++ [x]) := (ahs_snoc zs x).symm
set_option maxRecDepth 100000 in
set_option maxHeartbeats 8000000 in
theorem lay_apart (B lo0 : Nat) (ys : List (Int × Int)) (y x : Int × Int) (hn : ys.length ≤ 1000000) (hS : Spread (ys ++ [y])) (hx : endsB x = true) (ht : ¬ rankOf x.1 ≤ rankOf y.2 + 1) (w : World) (hm : Made w B lo0 (ys ++ [y])) (hl : lo0 ≤ w.heap.size) :
    Calls Tryz.prog 155 #[.pointer (some ⟨B, 0, none⟩), spnV x] w fun e w' => (∃ r, e = .returned r) ∧ Made w' B lo0 (layL (ys ++ [y]) x) ∧ Below lo0 w w' ∧ Frame w w' B := by
  rw [layL_apart _ _ _ ht]
  obtain ⟨va, vb, h1, h2, h3⟩ := hm.form
  have hlo := hm.lo
  have hy := (hS.ends y (by simp)).1
  obtain ⟨zs, hzs⟩ : ∃ zs, zs = ys ++ [y] := ⟨_, rfl⟩
  have hzl : zs.length = ys.length + 1 := by rw [hzs]; simp
  obtain ⟨b, cb, rfl, _, _⟩ := own_rowA h3
  obtain ⟨g, ca, rfl, hg0, hg⟩ := h2.form (by simp)
  have hex := endsB_iff hx
  have hey := endsB_iff hy
  have r1 := rank_range hex.1.1 hex.1.2.1
  have r2 := rank_range hey.2.1 hey.2.2.1
  obtain ⟨lo, hi⟩ := x
  obtain ⟨y0, y1⟩ := y
  simp only at ht hex hey r1 r2
  have k1 := h2.cellAt (ys.length * 2 + 1) (by simp; omega)
  rw [(encP_at (ys ++ [(y0, y1)]) ys.length (y0, y1) (by simp)).2] at k1
  rw [← hzs] at h1 h2 h3 hm hS ⊢
  obtain ⟨iI, hi0, hi1, hi2, hi3⟩ := info_parts infoI
  have HI := hide (And.intro hi0 (And.intro hi1 (And.intro hi2 hi3)))
  obtain ⟨iP, hi0, hi1, hi2, hi3⟩ := info_parts infoP
  have HP := hide (And.intro hi0 (And.intro hi1 (And.intro hi2 hi3)))
  clear hi0 hi1 hi2 hi3
  have HX := hide (Blk.new w #[.int .i32 lo, .int .i32 hi] 68)
  have HBm := hide ((Below.refl w.heap.size w).alloc (Nat.le_refl _) (.cells #[.int .i32 lo, .int .i32 hi] 68))
  have HB := hide (h1.alloc (.cells #[.int .i32 lo, .int .i32 hi] 68))
  have HA := hide (h2.alloc (.cells #[.int .i32 lo, .int .i32 hi] 68))
  have HV := hide (h3.alloc (.cells #[.int .i32 lo, .int .i32 hi] 68))
  have HS := hide (fun (k : Nat) => (show Made ((w.alloc (.cells #[.int .i32 lo, .int .i32 hi] 68)).drewN k) B lo0 zs from ⟨⟨_, _, unhide HB, unhide HA, unhide HV⟩, hlo⟩).set hS (by omega))
  have HB0 := hide h1
  have HNE : Hz (w.heap.size ≠ B) := hide (fun e => by have := h1.lt; omega)
  have c0 := (unhide HB).cell 0
  have c1 := alloc_cell (.cells #[.int .i32 lo, .int .i32 hi] 68) k1
  have q0 := (unhide HX).cell 0
  rw [hzl] at c0
  have HZL := hide hzl
  have HTB := hide (total_bound hS.ends)
  generalize ys.length = m at *
  have hm1 : ((m + 1 : Nat) : Int) - 1 = (m : Int) := by omega
  have hm2 : ((m : Nat) : Int).toNat = m := by omega
  have hlo2 : 0 ≤ lo ∧ lo ≤ 1114111 := ⟨hex.1.1, hex.1.2.1⟩
  have hhi2 : 0 ≤ y1 ∧ y1 ≤ 1114111 := ⟨hey.2.1, hey.2.2.1⟩
  clear h1 h2 h3 hm k1 hex hey hS hy hx hzs hzl
  go_enter Tryz.func155, Tryz.ntmps155
  go_wp2
  go_quiet ((go_at_call 173; exact Calls.quiet_of_same (rank_any _ (by omega) (by omega) _)))
  go_wp2
  have HBd : Hz (Blk ((w.alloc (.cells #[.int .i32 lo, .int .i32 hi] 68)).drewN nq).drew B _ 107) := hide (unhide HB)
  have HXd : Hz (Blk ((w.alloc (.cells #[.int .i32 lo, .int .i32 hi] 68)).drewN nq).drew w.heap.size #[.int .i32 lo, .int .i32 hi] 68) := hide (unhide HX)
  have HAd : Hz (((w.alloc (.cells #[.int .i32 lo, .int .i32 hi] 68)).drewN nq).drew.ownsRow lo0 68 2 _ _ _) := hide (unhide HA)
  have HVd : Hz (((w.alloc (.cells #[.int .i32 lo, .int .i32 hi] 68)).drewN nq).drew.ownsRow lo0 3 1 _ _ _) := hide (unhide HV)
  have HSd : Hz (SetAt ((w.alloc (.cells #[.int .i32 lo, .int .i32 hi] 68)).drewN nq).drew B zs) := hide (unhide HS (nq + 1))
  have HBmd : Hz (Below w.heap.size w ((w.alloc (.cells #[.int .i32 lo, .int .i32 hi] 68)).drewN nq).drew) := hide (below_drewN (unhide HBm) nq).drew
  clear HB HX HA HV HS HBm c0 c1 q0
  generalize (w.alloc (.cells #[.int .i32 lo, .int .i32 hi] 68)).drewN nq = wm at *
  have c0 := (show Blk wm B _ 107 from unhide HBd).cell 0
  have c1 := (show Blk wm B _ 107 from unhide HBd).cell 1
  have HS := hide (size_any B zs wm.drew (unhide HSd))
  have HLm : Hz (lo0 ≤ wm.drew.heap.size) := hide (Nat.le_trans hl (unhide HBmd).size)
  have hmx2 : Tryz.prog.follows .mixedOrders = true := by kernel_rfl
  go_region_law (first
    | (go_simp; refine (unhide HS).mono ?_; rintro e w2 ⟨rfl, hb⟩; have b2 := (unhide HBd).below hb (unhide HBd).lt; have d0 := b2.cell 0; have d1 := b2.cell 1; have d3 := (b2.alloc (.cells #[.int .i64 (total zs)] 3)).cell 1)
    | (refine step_append_lies _ (by rfl) _ _ _ (by rfl) lo0 3 iI (.int .i64 0) 1 8 Tryz.underlying24 (unhide HI).1 (unhide HI).2.1 (unhide HI).2.2.1 (unhide HI).2.2.2 rfl (by omega) (.slice b zs.length cb) zs.length (ahs zs) (by rfl) ((own_below (unhide HVd) hb).alloc _) ⟨w2.heap.size, 0, none⟩ 1 1 [.int .i64 (total zs)] (by rfl) (by simp) (one_cell w2 _) (by simp [Value.oneCell']) (by omega) (by have := unhide HZL; unfold maxLen; omega) (by have := unhide HZL; omega) (by have := hb.size; have := unhide HLm; simp; omega) (w2.heap.size + 1) (by simp) ?_; intro g1 cap1 w3 hown1 hgrow1 hat1 hlt1; have hm := mid_any (unhide HBd) (unhide HXd) (unhide HAd) (unhide HVd) hb hgrow1; have e0 := hm.1.cell 0; have e1 := hm.1.cell 1; have e2 := hm.1.frozen 1))
  all_goals
    obtain ⟨w4, h4, hb4, hx4, ho4, ha4, hB4, hF4⟩ := fst_end' (unhide HBd) (unhide HXd) (unhide HAd) (unhide HVd) (unhide HBmd) hb hgrow1 hlo hl (unhide HNE) hown1
    rw [← h4]
    rw [ahs_add zs (lo, hi)] at ho4
    have HB4 := hide hb4
    have HX4 := hide hx4
    have HO4 := hide ho4
    have HA4 := hide ha4
    have HL4 := hide hB4
    have HF4 := hide hF4
    have p0 := hb4.cell 0
    have p1 := (hb4.alloc (.cells #[.int .i32 lo, .int .i32 hi] 68)).cell 0
    have x0 := hx4.cell 0
    have x1 := hx4.cell 1
    clear h4 hb4 hx4 ho4 hB4 hF4 ha4 hown1 hgrow1 hat1 hlt1 hm e0 e1 e2 b2 d0 d1 d3 hb HS HBd HXd HAd HVd HSd HLm HBmd c0 c1
    go_wp2
    go_region_law (first
      | (refine step_append_lies _ (by rfl) _ _ _ (by rfl) lo0 68 iP (.agg #[.int .i32 0, .int .i32 0]) 2 8 Tryz.underlying27 (unhide HP).1 (unhide HP).2.1 (unhide HP).2.2.1 (unhide HP).2.2.2 rfl (by omega) (.slice (some ⟨g, 0, none⟩) zs.length ca) zs.length (encP zs) (by rfl) ((unhide HA4).alloc _) ⟨w4.heap.size, 0, none⟩ 1 1 (encP [(lo, hi)]) (by rfl) (by simp [encP]) (two_cell w4 (lo, hi)) (encP_one _) (by omega) (by have := unhide HZL; unfold maxLen; omega) (by have := unhide HZL; omega) (by have := (unhide HL4).size; simp; omega) (w4.heap.size + 1) (by simp) ?_; intro g5 cap5 w5 hown5 hgrow5 hat5 hlt5; have hm5 := (show Blk (w4.alloc (.cells #[.int .i32 lo, .int .i32 hi] 68)).drew B _ 107 from (unhide HB4).alloc (.cells #[.int .i32 lo, .int .i32 hi] 68)).kept hgrow5 (own_ne (show (w4.alloc (.cells #[.int .i32 lo, .int .i32 hi] 68)).drew.ownsRow lo0 68 2 _ _ _ from (unhide HA4).alloc (.cells #[.int .i32 lo, .int .i32 hi] 68)) (show Blk (w4.alloc (.cells #[.int .i32 lo, .int .i32 hi] 68)).drew B _ 107 from (unhide HB4).alloc (.cells #[.int .i32 lo, .int .i32 hi] 68)) (by decide)); have y0 := hm5.cell 0; have y1 := hm5.frozen 0))
    all_goals
      have HE := hide (snd_end' (x := (lo, hi)) (unhide HB4) (unhide HO4) (unhide HA4) (unhide HL4) hl hlo hgrow5 hown5 (Pv := fun X => (Value.slice b zs.length cb).ownBlock ≠ some X) (unhide HF4))
      go_end0
      exact ⟨⟨_, rfl⟩, (unhide HE).1, (unhide HE).2.1, fun X hX hXB hv => (unhide HE).2.2 X hX hXB (hv _ _ (unhide HB0)).2 (hv _ _ (unhide HB0)).1⟩
def Grows (W : World) (B lo0 : Nat) (zs : List (Int × Int)) : Prop := Made W B lo0 zs ∧ (zs = [] → Blk W B #[.slice none 0 0, .slice none 0 0] 107)
theorem laid_made {W : World} {B lo0 : Nat} {x : Int × Int} (h : Laid W B lo0 x) (hl : lo0 ≤ B) : Made W B lo0 [x] := by
  obtain ⟨va, vb, h1, h2, h3⟩ := h
  exact ⟨⟨va, vb, h1, h2, h3⟩, hl⟩
theorem layL_ne (zs : List (Int × Int)) (x : Int × Int) : layL zs x ≠ [] := by
  unfold layL
  split
  · split <;> simp
  · simp
theorem lay_any (B lo0 : Nat) (zs : List (Int × Int)) (x : Int × Int) (hn : zs.length ≤ 1000000) (hS : Spread zs) (hx : endsB x = true) (w : World) (hG : Grows w B lo0 zs) (hl : lo0 ≤ w.heap.size) :
    Calls Tryz.prog 155 #[.pointer (some ⟨B, 0, none⟩), spnV x] w fun e w' => (∃ r, e = .returned r) ∧ Grows w' B lo0 (layL zs x) ∧ Below lo0 w w' ∧ Frame w w' B := by
  rcases List.eq_nil_or_concat zs with rfl | ⟨ys, y, rfl⟩
  · refine (lay_first B lo0 x w (hG.2 rfl) hG.1.lo hl).mono fun e w' ⟨h1, h2, h3, h4⟩ => ⟨h1, ⟨laid_made h2 hG.1.lo, fun h => absurd h (layL_ne _ _)⟩, h3, fun X hX hXB _ => h4 X hX hXB⟩
  · rw [List.concat_eq_append] at *
    have hn' : ys.length ≤ 1000000 := by simp at hn; omega
    by_cases t : rankOf x.1 ≤ rankOf y.2 + 1
    · exact (lay_touch B lo0 ys y x hn' (hS.ends y (by simp)).1 hx t w hG.1 hl).mono fun e w' ⟨h1, h2, h3, h4⟩ => ⟨h1, ⟨h2, fun h => absurd h (layL_ne _ _)⟩, h3, h4⟩
    · exact (lay_apart B lo0 ys y x hn' hS hx t w hG.1 hl).mono fun e w' ⟨h1, h2, h3, h4⟩ => ⟨h1, ⟨h2, fun h => absurd h (layL_ne _ _)⟩, h3, h4⟩
theorem Grows.below {W W' : World} {B lo0 : Nat} {zs : List (Int × Int)} (h : Grows W B lo0 zs) (hb : Below W.heap.size W W') : Grows W' B lo0 zs := ⟨h.1.below hb, fun e => (h.2 e).below hb (h.2 e).lt⟩
theorem grows_new (W : World) (o : Obj) (ho : o = .cells #[.slice none 0 0, .slice none 0 0] 107) : Grows (W.alloc o) W.heap.size W.heap.size [] := by
  subst ho
  have b := Blk.new W #[.slice none 0 0, .slice none 0 0] 107
  exact ⟨⟨⟨_, _, b, World.ownsRow_nil _ _ _ _, World.ownsRow_nil _ _ _ _⟩, Nat.le_refl _⟩, fun _ => b⟩
theorem take_more {d : List (Int × Int)} {k : Nat} {x : Int × Int} (h : d[k]? = some x) : d.take (k + 1) = d.take k ++ [x] := by
  rw [List.take_add_one, h]
  rfl
end Go.Proofs.YtnnbaodillnkkaaGreat
namespace Go.Proofs.YtnnbaodillnkkaaGreat
open Go.Shelf
def sortP_ren : Go.Shelf.Ren := ⟨fun | 6 => 153 | 15 => 62 | 14 => 172 | 28 => 135 | 29 => 136 | 20 => 181 | 21 => 182 | 22 => 183 | 23 => 184 | 24 => 185 | 25 => 186 | 26 => 187 | 27 => 188 | 46 => 194 | 47 => 164 | 48 => 165 | 49 => 195 | 50 => 196 | 57 => 200 | n => n, fun | 22 => 27 | 24 => 68 | 25 => 176 | 3 => 3 | 39 => 103 | 0 => 0 | 53 => 161 | 55 => 163 | 4 => 4 | 46 => 154 | 45 => 153 | 50 => 104 | 5 => 5 | 9 => 9 | 66 => 183 | 70 => 187 | 76 => 204 | 77 => 205 | n => n, fun | n => n⟩
theorem sortP : Go.Proofs.SlLaysF0.n6 Tryz.prog sortP_ren := {
  mixed := by kernel_rfl
  f6 := ⟨Tryz.f153.name, by decide, Tryz.func153.trans (congrArg some (by kernel_rfl))⟩
  f14 := ⟨Tryz.f172.name, by decide, Tryz.func172.trans (congrArg some (by kernel_rfl))⟩
  f15 := Tryz.func62.trans (congrArg some (by kernel_rfl))
  f20 := ⟨Tryz.f181.name, by decide, Tryz.func181.trans (congrArg some (by kernel_rfl))⟩
  f21 := ⟨Tryz.f182.name, by decide, Tryz.func182.trans (congrArg some (by kernel_rfl))⟩
  f22 := ⟨Tryz.f183.name, by decide, Tryz.func183.trans (congrArg some (by kernel_rfl))⟩
  f23 := ⟨Tryz.f184.name, by decide, Tryz.func184.trans (congrArg some (by kernel_rfl))⟩
  f24 := ⟨Tryz.f185.name, by decide, Tryz.func185.trans (congrArg some (by kernel_rfl))⟩
  f25 := ⟨Tryz.f186.name, by decide, Tryz.func186.trans (congrArg some (by kernel_rfl))⟩
  f26 := ⟨Tryz.f187.name, by decide, Tryz.func187.trans (congrArg some (by kernel_rfl))⟩
  f27 := ⟨Tryz.f188.name, by decide, Tryz.func188.trans (congrArg some (by kernel_rfl))⟩
  f28 := Tryz.func135.trans (congrArg some (by kernel_rfl))
  f29 := Tryz.func136.trans (congrArg some (by kernel_rfl))
  f46 := ⟨Tryz.f194.name, by decide, Tryz.func194.trans (congrArg some (by kernel_rfl))⟩
  f47 := Tryz.func164.trans (congrArg some (by kernel_rfl))
  f48 := Tryz.func165.trans (congrArg some (by kernel_rfl))
  f49 := ⟨Tryz.f195.name, by decide, Tryz.func195.trans (congrArg some (by kernel_rfl))⟩
  f50 := ⟨Tryz.f196.name, by decide, Tryz.func196.trans (congrArg some (by kernel_rfl))⟩
  f57 := ⟨Tryz.f200.name, by decide, Tryz.func200.trans (congrArg some (by kernel_rfl))⟩
  t0 := Tryz.underlying0
  a0 := Tryz.isAgg0
  z0 := Tryz.sizeOf0
  v0 := Tryz.zeroValue0
  t3 := Tryz.underlying3
  a3 := Tryz.isAgg3
  z3 := Tryz.sizeOf3
  v3 := Tryz.zeroValue3
  t4 := Tryz.underlying4
  a4 := Tryz.isAgg4
  z4 := Tryz.sizeOf4
  v4 := Tryz.zeroValue4
  t5 := Tryz.underlying5
  a5 := Tryz.isAgg5
  z5 := Tryz.sizeOf5
  v5 := Tryz.zeroValue5
  t9 := Tryz.underlying9
  a9 := Tryz.isAgg9
  z9 := Tryz.sizeOf9
  v9 := Tryz.zeroValue9
  t22 := Tryz.underlying27
  a22 := Tryz.isAgg27
  z22 := Tryz.sizeOf27
  v22 := Tryz.zeroValue27
  t25 := Tryz.underlying176
  a25 := Tryz.isAgg176
  z25 := Tryz.sizeOf176
  v25 := Tryz.zeroValue176
  t39 := Tryz.underlying103
  a39 := Tryz.isAgg103
  z39 := Tryz.sizeOf103
  v39 := Tryz.zeroValue103
  t45 := Tryz.underlying153
  a45 := Tryz.isAgg153
  z45 := Tryz.sizeOf153
  v45 := Tryz.zeroValue153
  t46 := Tryz.underlying154
  a46 := Tryz.isAgg154
  z46 := Tryz.sizeOf154
  v46 := Tryz.zeroValue154
  t50 := Tryz.underlying104
  a50 := Tryz.isAgg104
  z50 := Tryz.sizeOf104
  v50 := Tryz.zeroValue104
  t53 := Tryz.underlying161
  a53 := Tryz.isAgg161
  z53 := Tryz.sizeOf161
  v53 := Tryz.zeroValue161
  t55 := Tryz.underlying163
  a55 := Tryz.isAgg163
  z55 := Tryz.sizeOf163
  v55 := Tryz.zeroValue163
  t66 := Tryz.underlying183
  a66 := Tryz.isAgg183
  z66 := Tryz.sizeOf183
  v66 := Tryz.zeroValue183
  t70 := Tryz.underlying187
  a70 := Tryz.isAgg187
  z70 := Tryz.sizeOf187
  v70 := Tryz.zeroValue187
  t76 := Tryz.underlying204
  a76 := Tryz.isAgg204
  z76 := Tryz.sizeOf204
  v76 := Tryz.zeroValue204
  t77 := Tryz.underlying205
  a77 := Tryz.isAgg205
  z77 := Tryz.sizeOf205
  v77 := Tryz.zeroValue205 }
end Go.Proofs.YtnnbaodillnkkaaGreat
