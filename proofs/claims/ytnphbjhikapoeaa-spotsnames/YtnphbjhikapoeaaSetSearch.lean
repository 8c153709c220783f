/- slices.BinarySearchFunc over a list of spans, by the two comparisons of In and Below. -/
import Derived.Test.YtnphbjhikapoeaaSetCmp
namespace Go.Proofs.Ytnphbjhikapoeaa
open Go.RowKit Go.Shelf
set_option linter.unusedVariables false

/-- The first k lie below r by the key, the others don't. -/
def Cut (key : Int × Int → Int) (zs : List (Int × Int)) (r : Int) (k : Nat) : Prop := k ≤ zs.length ∧ (∀ j x, j < k → zs[j]? = some x → key x < r) ∧ (∀ j x, k ≤ j → zs[j]? = some x → r ≤ key x)
theorem cmp_lt {a b : Int} (h : a < b) : cmpOf a b = -1 := by unfold cmpOf; rw [if_pos h]
theorem cmp_eq (a : Int) : cmpOf a a = 0 := by unfold cmpOf; simp
theorem cmp_gt {a b : Int} (h : b < a) : cmpOf a b = 1 := by unfold cmpOf; rw [if_neg (by omega), if_pos h]

set_option maxRecDepth 100000 in
set_option maxHeartbeats 4000000 in
theorem search_his (p : Option Addr) (cap : Nat) (zs : List (Int × Int)) (hz : zs.length ≤ 1073741824) (r : Int) (hs : ∀ (i j : Nat) (x y : Int × Int), i < j → zs[i]? = some x → zs[j]? = some y → x.2 < y.2) (w : World) (hr : RowP w p zs) :
    Calls Try.prog 69 #[.slice p zs.length cap, .int .i32 r, .func (.func 72) #[] #[]] w fun e w' => ∃ (k : Nat) (b : Bool), e = .returned (.tuple #[.int .i64 k, .bool b]) ∧ Cut (fun x => x.2) zs r k ∧ Below w.heap.size w w' := by
  have HR := hide hr
  have HS := hide hs
  have hzi : (zs.length : Int) ≤ 1073741824 := by omega
  clear hr hs
  go_enter Try.func69, Try.ntmps69
  go_wp2
  go_loopw [9, 10] (fun i j wr => ∃ a b : Nat, a ≤ b ∧ b ≤ zs.length ∧ i = .int .i64 a ∧ j = .int .i64 b ∧ Hid (∀ j x, j < a → zs[j]? = some x → x.2 < r) ∧ Hid (∀ j x, b ≤ j → zs[j]? = some x → r ≤ x.2) ∧ Hid (Below w.heap.size w wr)) (fun i j _ => (intOf j).toNat - (intOf i).toNat)
  case atStart => exact ⟨0, zs.length, by omega, Nat.le_refl _, rfl, rfl, hide (fun j x hj => by omega), hide (fun j x hj hx => by have := (List.getElem?_eq_some_iff.1 hx).1; omega), hide (Below.refl _ _)⟩
  case round =>
    obtain ⟨a, b, hab, hb, rfl, rfl, H1, H2, HB⟩ := hrel
    by_cases hlt : a < b
    · have h1 : (a : Int) < (b : Int) := by omega
      obtain ⟨x, hx⟩ : ∃ x, zs[(a + b) / 2]? = some x := ⟨_, List.getElem?_eq_getElem (by omega)⟩
      obtain ⟨g, o, rfl, hg, hc⟩ := unhide HR (by omega)
      have c0 := ((unhide HB).cell (p := ⟨g, o + (a + b) / 2 * 2, none⟩) hg).trans (hc _ x hx).1
      have c1 := ((unhide HB).cell (p := ⟨g, o + (a + b) / 2 * 2 + 1, none⟩) hg).trans (hc _ x hx).2
      have HN := hide (fun w => in1_any x r w)
      have HX := hide hx
      clear hx hc
      by_cases hxn : x.2 < r
      · rw [cmp_lt hxn] at HN
        have H1' : Hid (∀ j y, j < (a + b) / 2 + 1 → zs[j]? = some y → y.2 < r) := hide (fun j y hj hy => by
          by_cases e : j = (a + b) / 2
          · subst e; rw [unhide HX] at hy; cases hy; exact hxn
          · have := unhide HS j ((a + b) / 2) y x (by omega) hy (unhide HX); omega)
        clear hxn
        obtain ⟨lo, hi⟩ := x
        simp only at c0 c1
        go_wp2_with fail
        refine (unhide HN _).mono ?_
        rintro e w2 ⟨rfl, hb2⟩
        have HB2 := hide ((unhide HB).trans (hb2.mono (unhide HB).size))
        clear hb2
        go_wp2
        go_roundw
        case rel =>
          refine ⟨(a + b) / 2 + 1, b, by omega, hb, ?_, rfl, H1', H2, HB2⟩
          congr 1
        case measure => simp [intOf]; omega
      · have H2' : Hid (∀ j y, (a + b) / 2 ≤ j → zs[j]? = some y → r ≤ y.2) := hide (fun j y hj hy => by
          by_cases e : j = (a + b) / 2
          · subst e; rw [unhide HX] at hy; cases hy; omega
          · have := unhide HS ((a + b) / 2) j x y (by omega) (unhide HX) hy; omega)
        have hq : 0 ≤ cmpOf x.2 r := by unfold cmpOf; rw [if_neg hxn]; split <;> omega
        generalize cmpOf x.2 r = q at HN hq
        have hq1 : ¬ q < 0 := by omega
        clear hxn
        obtain ⟨lo, hi⟩ := x
        simp only at c0 c1
        go_wp2_with fail
        refine (unhide HN _).mono ?_
        rintro e w2 ⟨rfl, hb2⟩
        have HB2 := hide ((unhide HB).trans (hb2.mono (unhide HB).size))
        clear hb2
        go_wp2
        go_roundw
        case rel =>
          refine ⟨a, (a + b) / 2, by omega, by omega, rfl, ?_, H1, H2', HB2⟩
          congr 1
        case measure => simp [intOf]; omega
    · have h1 : ¬ (a : Int) < (b : Int) := by omega
      obtain rfl : a = b := by omega
      have HK : Hid (Cut (fun x => x.2) zs r a) := hide ⟨hb, unhide H1, unhide H2⟩
      by_cases hal : a < zs.length
      · obtain ⟨x, hx⟩ : ∃ x, zs[a]? = some x := ⟨_, List.getElem?_eq_getElem hal⟩
        obtain ⟨g, o, rfl, hg, hc⟩ := unhide HR (by omega)
        have c0 := ((unhide HB).cell (p := ⟨g, o + a * 2, none⟩) hg).trans (hc _ x hx).1
        have c1 := ((unhide HB).cell (p := ⟨g, o + a * 2 + 1, none⟩) hg).trans (hc _ x hx).2
        have HN := hide (fun w => in1_any x r w)
        have h2 : (a : Int) < (zs.length : Int) := by omega
        have h3 : ((a : Nat) : Int).toNat = a := by omega
        clear hx hc
        generalize cmpOf x.2 r = q at HN
        obtain ⟨lo, hi⟩ := x
        simp only at c0 c1
        go_wp2_with fail
        refine (unhide HN _).mono ?_
        rintro e w2 ⟨rfl, hb2⟩
        have HB2 := hide ((unhide HB).trans (hb2.mono (unhide HB).size))
        clear hb2
        by_cases hq : q = 0
        · subst hq
          go_wp2
          go_ret2
          first | exact ⟨a, _, rfl, unhide HK, unhide HB2⟩ | exact ⟨unhide HK, unhide HB2⟩
        · have hqe : (q == 0) = false := beq_eq_false_iff_ne.2 hq
          go_wp2
          go_ret2
          first | exact ⟨a, _, rfl, unhide HK, unhide HB2⟩ | exact ⟨unhide HK, unhide HB2⟩
      · have h2 : ¬ (a : Int) < (zs.length : Int) := by omega
        go_wp2
        go_ret2
        first | exact ⟨a, _, rfl, unhide HK, unhide HB⟩ | exact ⟨unhide HK, unhide HB⟩ | exact ⟨a, rfl, unhide HK, unhide HB⟩ | exact ⟨a, ⟨_, rfl⟩, unhide HK, unhide HB⟩ | exact ⟨a, false, rfl, unhide HK, unhide HB⟩ | exact ⟨a, by simp; exact ⟨unhide HK, unhide HB⟩⟩

set_option maxRecDepth 100000 in
set_option maxHeartbeats 4000000 in
theorem search_los (p : Option Addr) (cap : Nat) (zs : List (Int × Int)) (hz : zs.length ≤ 1073741824) (r : Int) (hs : ∀ (i j : Nat) (x y : Int × Int), i < j → zs[i]? = some x → zs[j]? = some y → x.1 < y.1) (w : World) (hr : RowP w p zs) :
    Calls Try.prog 69 #[.slice p zs.length cap, .int .i32 r, .func (.func 70) #[] #[]] w fun e w' => ∃ (k : Nat) (b : Bool), e = .returned (.tuple #[.int .i64 k, .bool b]) ∧ Cut (fun x => x.1) zs r k ∧ Below w.heap.size w w' := by
  have HR := hide hr
  have HS := hide hs
  have hzi : (zs.length : Int) ≤ 1073741824 := by omega
  clear hr hs
  go_enter Try.func69, Try.ntmps69
  go_wp2
  go_loopw [9, 10] (fun i j wr => ∃ a b : Nat, a ≤ b ∧ b ≤ zs.length ∧ i = .int .i64 a ∧ j = .int .i64 b ∧ Hid (∀ j x, j < a → zs[j]? = some x → x.1 < r) ∧ Hid (∀ j x, b ≤ j → zs[j]? = some x → r ≤ x.1) ∧ Hid (Below w.heap.size w wr)) (fun i j _ => (intOf j).toNat - (intOf i).toNat)
  case atStart => exact ⟨0, zs.length, by omega, Nat.le_refl _, rfl, rfl, hide (fun j x hj => by omega), hide (fun j x hj hx => by have := (List.getElem?_eq_some_iff.1 hx).1; omega), hide (Below.refl _ _)⟩
  case round =>
    obtain ⟨a, b, hab, hb, rfl, rfl, H1, H2, HB⟩ := hrel
    by_cases hlt : a < b
    · have h1 : (a : Int) < (b : Int) := by omega
      obtain ⟨x, hx⟩ : ∃ x, zs[(a + b) / 2]? = some x := ⟨_, List.getElem?_eq_getElem (by omega)⟩
      obtain ⟨g, o, rfl, hg, hc⟩ := unhide HR (by omega)
      have c0 := ((unhide HB).cell (p := ⟨g, o + (a + b) / 2 * 2, none⟩) hg).trans (hc _ x hx).1
      have c1 := ((unhide HB).cell (p := ⟨g, o + (a + b) / 2 * 2 + 1, none⟩) hg).trans (hc _ x hx).2
      have HN := hide (fun w => below1_any x r w)
      have HX := hide hx
      clear hx hc
      by_cases hxn : x.1 < r
      · rw [cmp_lt hxn] at HN
        have H1' : Hid (∀ j y, j < (a + b) / 2 + 1 → zs[j]? = some y → y.1 < r) := hide (fun j y hj hy => by
          by_cases e : j = (a + b) / 2
          · subst e; rw [unhide HX] at hy; cases hy; exact hxn
          · have := unhide HS j ((a + b) / 2) y x (by omega) hy (unhide HX); omega)
        clear hxn
        obtain ⟨lo, hi⟩ := x
        simp only at c0 c1
        go_wp2_with fail
        refine (unhide HN _).mono ?_
        rintro e w2 ⟨rfl, hb2⟩
        have HB2 := hide ((unhide HB).trans (hb2.mono (unhide HB).size))
        clear hb2
        go_wp2
        go_roundw
        case rel =>
          refine ⟨(a + b) / 2 + 1, b, by omega, hb, ?_, rfl, H1', H2, HB2⟩
          congr 1
        case measure => simp [intOf]; omega
      · have H2' : Hid (∀ j y, (a + b) / 2 ≤ j → zs[j]? = some y → r ≤ y.1) := hide (fun j y hj hy => by
          by_cases e : j = (a + b) / 2
          · subst e; rw [unhide HX] at hy; cases hy; omega
          · have := unhide HS ((a + b) / 2) j x y (by omega) (unhide HX) hy; omega)
        have hq : 0 ≤ cmpOf x.1 r := by unfold cmpOf; rw [if_neg hxn]; split <;> omega
        generalize cmpOf x.1 r = q at HN hq
        have hq1 : ¬ q < 0 := by omega
        clear hxn
        obtain ⟨lo, hi⟩ := x
        simp only at c0 c1
        go_wp2_with fail
        refine (unhide HN _).mono ?_
        rintro e w2 ⟨rfl, hb2⟩
        have HB2 := hide ((unhide HB).trans (hb2.mono (unhide HB).size))
        clear hb2
        go_wp2
        go_roundw
        case rel =>
          refine ⟨a, (a + b) / 2, by omega, by omega, rfl, ?_, H1, H2', HB2⟩
          congr 1
        case measure => simp [intOf]; omega
    · have h1 : ¬ (a : Int) < (b : Int) := by omega
      obtain rfl : a = b := by omega
      have HK : Hid (Cut (fun x => x.1) zs r a) := hide ⟨hb, unhide H1, unhide H2⟩
      by_cases hal : a < zs.length
      · obtain ⟨x, hx⟩ : ∃ x, zs[a]? = some x := ⟨_, List.getElem?_eq_getElem hal⟩
        obtain ⟨g, o, rfl, hg, hc⟩ := unhide HR (by omega)
        have c0 := ((unhide HB).cell (p := ⟨g, o + a * 2, none⟩) hg).trans (hc _ x hx).1
        have c1 := ((unhide HB).cell (p := ⟨g, o + a * 2 + 1, none⟩) hg).trans (hc _ x hx).2
        have HN := hide (fun w => below1_any x r w)
        have h2 : (a : Int) < (zs.length : Int) := by omega
        have h3 : ((a : Nat) : Int).toNat = a := by omega
        clear hx hc
        generalize cmpOf x.1 r = q at HN
        obtain ⟨lo, hi⟩ := x
        simp only at c0 c1
        go_wp2_with fail
        refine (unhide HN _).mono ?_
        rintro e w2 ⟨rfl, hb2⟩
        have HB2 := hide ((unhide HB).trans (hb2.mono (unhide HB).size))
        clear hb2
        by_cases hq : q = 0
        · subst hq
          go_wp2
          go_ret2
          first | exact ⟨a, _, rfl, unhide HK, unhide HB2⟩ | exact ⟨unhide HK, unhide HB2⟩
        · have hqe : (q == 0) = false := beq_eq_false_iff_ne.2 hq
          go_wp2
          go_ret2
          first | exact ⟨a, _, rfl, unhide HK, unhide HB2⟩ | exact ⟨unhide HK, unhide HB2⟩
      · have h2 : ¬ (a : Int) < (zs.length : Int) := by omega
        go_wp2
        go_ret2
        first | exact ⟨a, _, rfl, unhide HK, unhide HB⟩ | exact ⟨unhide HK, unhide HB⟩ | exact ⟨a, rfl, unhide HK, unhide HB⟩ | exact ⟨a, ⟨_, rfl⟩, unhide HK, unhide HB⟩ | exact ⟨a, false, rfl, unhide HK, unhide HB⟩ | exact ⟨a, by simp; exact ⟨unhide HK, unhide HB⟩⟩

end Go.Proofs.Ytnphbjhikapoeaa
