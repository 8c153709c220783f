/- The reference's Below. -/
import Derived.Test.YtdllbpagbiibnaaLMade
import Derived.Test.YtdllbpagbiibnaaSetNext
namespace Go.Proofs.Ytdllbpagbiibnaa
open Go.RowKit Go.Shelf
set_option linter.unusedVariables false
theorem belowOf_snoc : ∀ (zs : List (Int × Int)) (x : Int × Int) (r : Int), belowOf (zs ++ [x]) r = belowOf zs r + (if x.1 < r then min (rankOf r) (rankOf x.2 + 1) - rankOf x.1 else 0)
  | [], x, r => by simp [belowOf]
  | y :: zs, x, r => by
    have := belowOf_snoc zs x r
    simp only [List.cons_append, belowOf]
    omega
/-- The last rune of a span below r. -/
def cutHi (hi r : Int) : Int := if hi < r then hi else if 55296 ≤ r - 1 ∧ r - 1 ≤ 57343 then 55295 else r - 1
theorem cut_facts {lo hi r : Int} (he : endsB (lo, hi) = true) (hl : lo ≤ hi) (h : lo < r) : endsB (lo, cutHi hi r) = true ∧ lo ≤ cutHi hi r ∧ spanSize (lo, cutHi hi r) = min (rankOf r) (rankOf hi + 1) - rankOf lo := by
  have hp := endsB_parts he
  have hx := endsB_iff he
  simp only at hp hx
  unfold cutHi
  by_cases h1 : hi < r
  · rw [if_pos h1]
    have := rank_above hx.2.2.2 h1
    refine ⟨he, hl, ?_⟩
    rw [Int.min_eq_right this]
    rfl
  · rw [if_neg h1]
    have hle : rankOf r ≤ rankOf hi + 1 := by unfold rankOf; split <;> split <;> (try split) <;> (try split) <;> omega
    rw [Int.min_eq_left hle]
    by_cases h2 : 55296 ≤ r - 1 ∧ r - 1 ≤ 57343
    · rw [if_pos h2]
      refine ⟨endsB_mk hp.1 (by show runeB 55295 = true; decide), by omega, ?_⟩
      show rankOf 55295 + 1 - rankOf lo = _
      have : rankOf r = 55296 := by unfold rankOf; split <;> (try split) <;> omega
      rw [this]
      have : rankOf 55295 = 55295 := by decide
      omega
    · rw [if_neg h2]
      refine ⟨endsB_mk hp.1 (by show runeB (r - 1) = true; unfold runeB; apply decide_eq_true; omega), by omega, ?_⟩
      show rankOf (r - 1) + 1 - rankOf lo = _
      have : rankOf r = rankOf (r - 1) + 1 := by unfold rankOf; split <;> split <;> (try split) <;> (try split) <;> omega
      omega
set_option maxRecDepth 100000 in
set_option maxHeartbeats 4000000 in
theorem refBelow_any (a : Option Addr) (cap : Nat) (zs : List (Int × Int)) (hz : zs.length ≤ 1000) (hR : RightL zs) (r : Int) (h0 : -2147483648 ≤ r) (h1 : r ≤ 2147483647) (w : World) (hr : RowP w a zs) :
    Calls Try.prog 51 #[.slice a zs.length cap, .int .i32 r] w fun e w' => e = .returned (.int .i64 (belowOf zs r)) ∧ Below w.heap.size w w' := by
  have HR := hide hr
  have HRR := hide hR
  have hzi : (zs.length : Int) ≤ 1000 := by omega
  clear hr hR
  go_enter Try.func51, Try.ntmps51
  go_wp2
  go_loopw [5, 6] (fun nv iv wr => ∃ (k : Nat) (m : Int), iv = .int .i64 k ∧ nv = .int .i64 m ∧ k ≤ zs.length ∧ (0 ≤ m ∧ m ≤ 1112064 * k) ∧ Hid (m = belowOf (zs.take k) r) ∧ Hid (Below w.heap.size w wr)) (fun _ iv _ => zs.length - (intOf iv).toNat)
  case atStart => exact ⟨0, 0, rfl, rfl, by omega, by omega, hide rfl, hide (Below.refl _ _)⟩
  case round =>
    obtain ⟨k, m, rfl, rfl, hk, hm, HM, HB⟩ := hrel
    by_cases hkn : k < zs.length
    · have hk1 : (k : Int) < (zs.length : Int) := by omega
      have hk2 : ((k : Nat) : Int).toNat = k := by omega
      obtain ⟨x, hx⟩ : ∃ x, zs[k]? = some x := ⟨_, List.getElem?_eq_getElem hkn⟩
      have hxr := unhide HRR x (List.mem_of_getElem? hx)
      have HT : Hid (belowOf (zs.take (k + 1)) r = m + (if x.1 < r then min (rankOf r) (rankOf x.2 + 1) - rankOf x.1 else 0)) := hide (by rw [take_more hx, belowOf_snoc, unhide HM])
      obtain ⟨g, o, rfl, hg, hc⟩ := unhide HR (by omega)
      have c0 := ((unhide HB).cell (p := ⟨g, o + k * 2, none⟩) hg).trans (hc k x hx).1
      have c1 := ((unhide HB).cell (p := ⟨g, o + k * 2 + 1, none⟩) hg).trans (hc k x hx).2
      obtain ⟨lo, hi⟩ := x
      simp only at c0 c1 hxr HT
      have he := endsB_iff hxr.1
      simp only at he
      have b1 := Blk.new wr #[.int .i32 lo, .int .i32 hi] 63
      have q0 := b1.cell 0
      have q1 := b1.cell 1
      have f1 := b1.frozen 1
      have HBa := hide ((unhide HB).alloc (unhide HB).size (.cells #[.int .i32 lo, .int .i32 hi] 63))
      clear hc hx b1
      by_cases hlt : lo < r
      · have hcf := cut_facts hxr.1 hxr.2 hlt
        have HX := hide (fun w => refsize_any (lo, cutHi hi r) hcf.1 hcf.2.1 w)
        have hsb : 0 ≤ spanSize (lo, cutHi hi r) ∧ spanSize (lo, cutHi hi r) ≤ 1112064 := by
          have := total_bound (zs := [(lo, cutHi hi r)]) (fun y hy => by simp at hy; subst hy; exact ⟨hcf.1, hcf.2.1⟩)
          simpa [total] using this
        have HT2 : Hid (m + spanSize (lo, cutHi hi r) = belowOf (zs.take (k + 1)) r) := hide (by rw [unhide HT, if_pos hlt, hcf.2.2])
        obtain ⟨sz, hsz⟩ : ∃ sz, spanSize (lo, cutHi hi r) = sz := ⟨_, rfl⟩
        rw [hsz] at HX hsb HT2
        clear hcf hsz HT
        by_cases h2 : hi < r
        · have hcu : cutHi hi r = hi := by unfold cutHi; rw [if_pos h2]
          rw [hcu] at HX
          clear hcu
          have h3 : ¬ r ≤ hi := by omega
          have h6 : ¬ (55296 ≤ hi ∧ hi ≤ 57343) := by omega
          rcases he.2.2.2 with h5 | h5
          · have h7 : ¬ 55296 ≤ hi := by omega
            go_wp2_with fail
            refine (unhide HX _).mono ?_
            rintro e w2 ⟨rfl, hb⟩
            have HB2 := hide ((unhide HBa).trans (hb.mono (unhide HBa).size))
            clear hb
            go_wp2
            go_roundw
            case rel => exact ⟨k + 1, m + sz, by congr 1, rfl, by omega, by omega, HT2, HB2⟩
            case measure => simp [intOf]; omega
          · have h7 : 55296 ≤ hi := by omega
            have h8 : ¬ hi ≤ 57343 := by omega
            go_wp2_with fail
            refine (unhide HX _).mono ?_
            rintro e w2 ⟨rfl, hb⟩
            have HB2 := hide ((unhide HBa).trans (hb.mono (unhide HBa).size))
            clear hb
            go_wp2
            go_roundw
            case rel => exact ⟨k + 1, m + sz, by congr 1, rfl, by omega, by omega, HT2, HB2⟩
            case measure => simp [intOf]; omega
        · have h3 : r ≤ hi := by omega
          by_cases h4 : 55296 ≤ r - 1 ∧ r - 1 ≤ 57343
          · have hcu : cutHi hi r = 55295 := by unfold cutHi; rw [if_neg h2, if_pos h4]
            rw [hcu] at HX
            clear hcu
            obtain ⟨h5, h6⟩ := h4
            have HB2a := hide ((unhide HB).alloc (unhide HB).size (.cells #[.int .i32 lo, .int .i32 55295] 63))
            go_wp2_with fail
            refine (unhide HX _).mono ?_
            rintro e w2 ⟨rfl, hb⟩
            have HB2 := hide ((unhide HB2a).trans (hb.mono (unhide HB2a).size))
            clear hb
            go_wp2
            go_roundw
            case rel => exact ⟨k + 1, m + sz, by congr 1, rfl, by omega, by omega, HT2, HB2⟩
            case measure => simp [intOf]; omega
          · have hcu : cutHi hi r = r - 1 := by unfold cutHi; rw [if_neg h2, if_neg h4]
            rw [hcu] at HX
            clear hcu
            have HB2a := hide ((unhide HB).alloc (unhide HB).size (.cells #[.int .i32 lo, .int .i32 (r - 1)] 63))
            by_cases h5 : 55296 ≤ r - 1
            · have h6 : ¬ r - 1 ≤ 57343 := by omega
              clear h4
              go_wp2_with fail
              refine (unhide HX _).mono ?_
              rintro e w2 ⟨rfl, hb⟩
              have HB2 := hide ((unhide HB2a).trans (hb.mono (unhide HB2a).size))
              clear hb
              go_wp2
              go_roundw
              case rel => exact ⟨k + 1, m + sz, by congr 1, rfl, by omega, by omega, HT2, HB2⟩
              case measure => simp [intOf]; omega
            · clear h4
              go_wp2_with fail
              refine (unhide HX _).mono ?_
              rintro e w2 ⟨rfl, hb⟩
              have HB2 := hide ((unhide HB2a).trans (hb.mono (unhide HB2a).size))
              clear hb
              go_wp2
              go_roundw
              case rel => exact ⟨k + 1, m + sz, by congr 1, rfl, by omega, by omega, HT2, HB2⟩
              case measure => simp [intOf]; omega
      · have HT2 : Hid (m = belowOf (zs.take (k + 1)) r) := hide (by rw [unhide HT, if_neg hlt, Int.add_zero])
        have h2 : r ≤ lo := by omega
        clear HT
        go_wp2
        go_roundw
        case rel => exact ⟨k + 1, m, by congr 1, rfl, by omega, by omega, HT2, HB⟩
        case measure => simp [intOf]; omega
    · have hk1 : ¬ (k : Int) < (zs.length : Int) := by omega
      rw [List.take_of_length_le (by omega)] at HM
      obtain rfl := unhide HM
      go_wp2
      go_ret
      exact ⟨rfl, unhide HB⟩
end Go.Proofs.Ytdllbpagbiibnaa
