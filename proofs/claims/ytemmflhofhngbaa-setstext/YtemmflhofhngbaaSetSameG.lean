/- Same of the books at any two lists of spans. -/
import Derived.Test.YtemmflhofhngbaaSetEqual
namespace Go.Proofs.Ytemmflhofhngbaa
open Go.RowKit Go.Shelf
set_option linter.unusedVariables false
set_option maxRecDepth 100000 in
set_option maxHeartbeats 2000000 in
theorem sameP_any (a b : Option Addr) (ca cb : Nat) (zs ys : List (Int × Int)) (hz : zs.length ≤ 1073741824) (hy : ys.length ≤ 1073741824) (w : World) (ha : RowP w a zs) (hb : RowP w b ys) :
    Calls Try.prog 8 #[.slice a zs.length ca, .slice b ys.length cb] w fun e w' => e = .returned (.bool (sameB zs ys)) ∧ Below w.heap.size w w' := by
  have HA := hide ha
  have HB := hide hb
  clear ha hb
  by_cases hl : zs.length = ys.length
  · have hne : (((zs.length : Nat) : Int) != ((ys.length : Nat) : Int)) = false := by simp [hl]
    have HL := hide hl
    clear hl
    go_enter Try.func8, Try.ntmps8
    go_wp2
    go_loopw [5] (fun i wr => ∃ k : Nat, k ≤ zs.length ∧ i = .int .i64 k ∧ Hz (zs.take k = ys.take k) ∧ ∃ q, wr = w.drewN q) (fun i _ => zs.length - (intOf i).toNat)
    case atStart => exact ⟨0, by omega, rfl, hide (by simp), 0, rfl⟩
    case round =>
      obtain ⟨k, hk, rfl, HT, q, rfl⟩ := hrel
      by_cases hkn : k < zs.length
      · have hky : k < ys.length := by have := unhide HL; omega
        obtain ⟨x, hx⟩ : ∃ x, zs[k]? = some x := ⟨_, List.getElem?_eq_getElem hkn⟩
        obtain ⟨y, hy'⟩ : ∃ y, ys[k]? = some y := ⟨_, List.getElem?_eq_getElem hky⟩
        obtain ⟨g, o, rfl, _, hc⟩ := unhide HA (by omega)
        obtain ⟨h, p, rfl, _, hd⟩ := unhide HB (by omega)
        have c0 := (hc k x hx).1
        have c1 := (hc k x hx).2
        have d0 := (hd k y hy').1
        have d1 := (hd k y hy').2
        have hk1 : (k : Int) < (zs.length : Int) := by omega
        have hk1' : (k : Int) < (ys.length : Int) := by omega
        have hk2 : ((k : Nat) : Int).toNat = k := by omega
        by_cases hxy : x = y
        · have HN := hide (take_more' (unhide HT) hx (by rw [hxy]; exact hy'))
          subst hxy
          obtain ⟨lo, hi⟩ := x
          simp only at c0 c1 d0 d1
          have h1 : (lo == lo) = true := by simp
          have h2 : (hi == hi) = true := by simp
          clear hc hd hx hy'
          go_wp2
          go_quiet (fail)
          go_wp2
          go_roundw
          case rel => exact ⟨k + 1, by omega, by go_num, HN, _, rfl⟩
          case measure => simp [intOf]; omega
        · have HN := hide (sameB_at hx hy' hxy)
          obtain ⟨lo, hi⟩ := x
          obtain ⟨lo', hi'⟩ := y
          simp only at c0 c1 d0 d1
          by_cases e1 : lo = lo'
          · have h1 : (lo == lo') = true := by simpa using e1
            have h2 : (hi == hi') = false := by simpa using (fun e2 => hxy (by rw [e1, e2]))
            clear hc hd hx hy' hxy e1
            go_wp2
            go_quiet (fail)
            go_wp2
            go_ret
            exact ⟨by rw [unhide HN]; rfl, below_drewN (below_drewN (Below.refl _ _) _) _⟩
          · have h1 : (lo == lo') = false := by simpa using e1
            clear hc hd hx hy' hxy e1
            go_wp2
            go_quiet (fail)
            go_wp2
            go_ret
            exact ⟨by rw [unhide HN]; rfl, below_drewN (below_drewN (Below.refl _ _) _) _⟩
      · have hk1 : ¬ (k : Int) < (zs.length : Int) := by omega
        have HN := hide (sameB_all (unhide HL) (by rw [show zs.length = k by omega]; exact unhide HT))
        go_wp2
        go_ret
        exact ⟨by rw [unhide HN]; rfl, below_drewN (Below.refl _ _) _⟩
  · have hne : (((zs.length : Nat) : Int) != ((ys.length : Nat) : Int)) = true := by simp; omega
    have HN := hide (sameB_len hl)
    clear hl
    go_enter Try.func8, Try.ntmps8
    go_wp2
    go_ret
    exact ⟨by rw [unhide HN]; rfl, Below.refl _ _⟩
end Go.Proofs.Ytemmflhofhngbaa
