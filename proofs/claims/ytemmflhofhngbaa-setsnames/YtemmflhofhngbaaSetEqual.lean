/- slices.Equal at two lists of spans; Same of two sets. -/
import Derived.Test.YtemmflhofhngbaaSetMeet
import Derived.Test.YtemmflhofhngbaaSetSame
namespace Go.Proofs.Ytemmflhofhngbaa
open Go.RowKit Go.Shelf
set_option linter.unusedVariables false
/-- Are two lists of spans the same? -/
def sameB (zs ys : List (Int × Int)) : Bool := decide (zs = ys)
theorem sameB_len {zs ys : List (Int × Int)} (h : zs.length ≠ ys.length) : sameB zs ys = false := decide_eq_false (fun e => h (by rw [e]))
theorem sameB_at {zs ys : List (Int × Int)} {k : Nat} {x y : Int × Int} (hx : zs[k]? = some x) (hy : ys[k]? = some y) (h : x ≠ y) : sameB zs ys = false := decide_eq_false (fun e => h (by subst e; exact Option.some.inj (hx.symm.trans hy)))
theorem sameB_all {zs ys : List (Int × Int)} (hl : zs.length = ys.length) (h : zs.take zs.length = ys.take zs.length) : sameB zs ys = true := decide_eq_true (by
  rw [List.take_of_length_le (Nat.le_refl _), hl, List.take_of_length_le (Nat.le_refl _)] at h
  exact h)
theorem sameB_refl (zs : List (Int × Int)) : sameB zs zs = true := decide_eq_true rfl
theorem take_more' {zs ys : List (Int × Int)} {k : Nat} {x : Int × Int} (h : zs.take k = ys.take k) (hx : zs[k]? = some x) (hy : ys[k]? = some x) : zs.take (k + 1) = ys.take (k + 1) := by rw [take_more hx, take_more hy, h]
set_option maxRecDepth 100000 in
set_option maxHeartbeats 2000000 in
theorem equal_any (a b : Option Addr) (ca cb : Nat) (zs ys : List (Int × Int)) (hz : zs.length ≤ 1073741824) (hy : ys.length ≤ 1073741824) (w : World) (ha : RowP w a zs) (hb : RowP w b ys) :
    Calls Try.prog 38 #[.slice a zs.length ca, .slice b ys.length cb] w fun e w' => e = .returned (.bool (sameB zs ys)) ∧ Below w.heap.size w w' := by
  have HA := hide ha
  have HB := hide hb
  clear ha hb
  by_cases hl : zs.length = ys.length
  · have hne : (((zs.length : Nat) : Int) != ((ys.length : Nat) : Int)) = false := by simp [hl]
    have HL := hide hl
    clear hl
    go_enter Try.func38, Try.ntmps38
    go_wp2
    go_loopw [13] (fun i wr => ∃ k : Nat, k ≤ zs.length ∧ i = .int .i64 k ∧ Hz (zs.take k = ys.take k) ∧ ∃ q, wr = w.drewN q) (fun i _ => zs.length - (intOf i).toNat)
    case atStart => exact ⟨0, by omega, rfl, hide (by simp), 0, rfl⟩
    case round =>
      obtain ⟨k, hk, rfl, HT, q, rfl⟩ := hrel
      by_cases hkn : k < zs.length
      · have hky : k < ys.length := by have := unhide HL; omega
        obtain ⟨x, hx⟩ : ∃ x, zs[k]? = some x := ⟨_, List.getElem?_eq_getElem hkn⟩
        obtain ⟨y, hy'⟩ : ∃ y, ys[k]? = some y := ⟨_, List.getElem?_eq_getElem hky⟩
        obtain ⟨g, o, rfl, _, hc⟩ := unhide HA (by omega)
        obtain ⟨h, p, rfl, _, hd⟩ := unhide HB (by omega)
        have c0 := (hc k x hx).1
        have c1 := (hc k x hx).2
        have d0 := (hd k y hy').1
        have d1 := (hd k y hy').2
        have hk1 : (k : Int) < (zs.length : Int) := by omega
        have hk1' : (k : Int) < (ys.length : Int) := by omega
        have hk2 : ((k : Nat) : Int).toNat = k := by omega
        by_cases hxy : x = y
        · have HN := hide (take_more' (unhide HT) hx (by rw [hxy]; exact hy'))
          subst hxy
          obtain ⟨lo, hi⟩ := x
          simp only at c0 c1 d0 d1
          have h1 : (lo == lo) = true := by simp
          have h2 : (hi == hi) = true := by simp
          clear hc hd hx hy'
          go_wp2
          go_quiet (fail)
          go_wp2
          go_roundw
          case rel => exact ⟨k + 1, by omega, by go_num, HN, _, rfl⟩
          case measure => simp [intOf]; omega
        · have HN := hide (sameB_at hx hy' hxy)
          obtain ⟨lo, hi⟩ := x
          obtain ⟨lo', hi'⟩ := y
          simp only at c0 c1 d0 d1
          by_cases e1 : lo = lo'
          · have h1 : (lo == lo') = true := by simpa using e1
            have h2 : (hi == hi') = false := by simpa using (fun e2 => hxy (by rw [e1, e2]))
            clear hc hd hx hy' hxy e1
            go_wp2
            go_quiet (fail)
            go_wp2
            go_ret
            exact ⟨by rw [unhide HN]; rfl, below_drewN (below_drewN (Below.refl _ _) _) _⟩
          · have h1 : (lo == lo') = false := by simpa using e1
            clear hc hd hx hy' hxy e1
            go_wp2
            go_quiet (fail)
            go_wp2
            go_ret
            exact ⟨by rw [unhide HN]; rfl, below_drewN (below_drewN (Below.refl _ _) _) _⟩
      · have hk1 : ¬ (k : Int) < (zs.length : Int) := by omega
        have HN := hide (sameB_all (unhide HL) (by rw [show zs.length = k by omega]; exact unhide HT))
        go_wp2
        go_ret
        exact ⟨by rw [unhide HN]; rfl, below_drewN (Below.refl _ _) _⟩
  · have hne : (((zs.length : Nat) : Int) != ((ys.length : Nat) : Int)) = true := by simp; omega
    have HN := hide (sameB_len hl)
    clear hl
    go_enter Try.func38, Try.ntmps38
    go_wp2
    go_ret
    exact ⟨by rw [unhide HN]; rfl, Below.refl _ _⟩
/-- Same of two sets. -/
theorem same_any (B : Nat) (p : Option Addr) (zs ys : List (Int × Int)) (w : World) (hs : SetAt w B zs) (ht : SomeAt w p ys) :
    Calls Try.prog 12 #[.pointer (some ⟨B, 0, none⟩), .pointer p] w fun e w' => e = .returned (.bool (sameB zs ys)) ∧ Below w.heap.size w w' := by
  obtain ⟨⟨a, ca, b, cb, hb0, hp, ha⟩, hsp, hl⟩ := hs
  have d0 := hb0.cell 0
  have d1 := alloc1 d0
  have hmx2 : Try.prog.follows .mixedOrders = true := by kernel_rfl
  rcases ht with ⟨rfl, rfl⟩ | ⟨C, rfl, hC⟩
  · have HSo := hide (fun w => some_nil w)
    have HE := hide (fun w hp => equal_any a none ca 0 zs [] (by omega) (by simp) w hp (fun h => by simp at h))
    have HP := hide (hp.below ((Below.refl _ w).alloc (Nat.le_refl _) (.cells #[.slice none 0 0, .slice none 0 0] 66)).drew)
    have x0 := (Blk.new w #[.slice none 0 0, .slice none 0 0] 66).cell 0
    have HB := hide ((Below.refl w.heap.size w).alloc (Nat.le_refl _) (.cells #[.slice none 0 0, .slice none 0 0] 66)).drew
    clear hp ha hsp hb0 hl
    go_enter Try.func12, Try.ntmps12
    go_wp2_with fail
    go_region_law (first
      | (go_simp; refine (unhide HSo _).mono ?_; rintro e w2 ⟨rfl, rfl⟩)
      | (go_simp; refine (unhide HE _ (unhide HP)).mono ?_; rintro e w2 ⟨rfl, hb⟩))
    all_goals
      have HB2 := hide ((unhide HB).trans (hb.mono (unhide HB).size))
      clear hb
      go_wp2
      go_ret
      exact ⟨rfl, unhide HB2⟩
  · obtain ⟨⟨c, cc, d, cd, hc0, hq, _⟩, _, hl'⟩ := hC
    have e0 := hc0.cell 0
    have HSo := hide (fun w => some_any C w)
    have HE := hide (equal_any a c ca cc zs ys (by omega) (by omega) w.drew (hp.below (Below.refl _ _).drew) (hq.below (Below.refl _ _).drew))
    clear hp ha hsp hb0 hl hc0 hq hl'
    go_enter Try.func12, Try.ntmps12
    go_wp2_with fail
    go_region_law (first
      | (go_simp; refine (unhide HSo _).mono ?_; rintro e w2 ⟨rfl, rfl⟩)
      | (go_simp; refine (unhide HE).mono ?_; rintro e w2 ⟨rfl, hb⟩))
    all_goals
      have HB2 := hide (((Below.refl w.heap.size w).drew).trans hb)
      clear hb
      go_wp2
      go_ret
      exact ⟨rfl, unhide HB2⟩
end Go.Proofs.Ytemmflhofhngbaa
