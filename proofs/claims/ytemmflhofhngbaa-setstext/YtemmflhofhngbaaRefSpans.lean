/- The reference's Spans. -/
import Derived.Test.YtemmflhofhngbaaRefSet
import Derived.Test.YtemmflhofhngbaaRefSpansM
namespace Go.Proofs.Ytemmflhofhngbaa
open Go.RowKit Go.Shelf
set_option linter.unusedVariables false
theorem drewN_two (w : World) (q n : Nat) : (w.drewN q).drewN n = w.drewN (q + n) := by simp [World.drewN, Nat.add_assoc]
def flagOf : Value → Nat
  | .bool true => 1
  | _ => 0
set_option maxRecDepth 100000 in
set_option maxHeartbeats 8000000 in
theorem refSpans_any (a : Option Addr) (cap : Nat) (l : List (Int × Int)) (hz : l.length ≤ 1073741824) (hR : RightL l) (w : World) (hr : RowP w a l) :
    Calls Try.prog 27 #[.slice a l.length cap] w fun e w' => ∃ (v : Value) (os : List (Int × Int)), e = .returned v ∧ w'.ownsRow w.heap.size 28 2 v os.length (encP os) ∧ Spread os ∧ (∀ r, memB os r = memB l r) ∧ Below w.heap.size w w' := by
  have HR := hide hr
  have HRR := hide hR
  have hzi : (l.length : Int) ≤ 1073741824 := by omega
  obtain ⟨iP, hi0, hi1, hi2, hi3⟩ := info_parts infoP
  have HP := hide (And.intro hi0 (And.intro hi1 (And.intro hi2 hi3)))
  clear hr hR hi0 hi1 hi2 hi3
  go_enter Try.func27, Try.ntmps27
  go_wp2
  go_loopw [3, 4] (fun v t wr => ∃ (os : List (Int × Int)) (tt : Int), t = .int .i32 tt ∧ (0 ≤ tt ∧ tt ≤ 1114112) ∧ Hz (OutS l os tt) ∧ Hz (wr.ownsRow w.heap.size 28 2 v os.length (encP os)) ∧ Hz (Below w.heap.size w wr)) (fun _ t _ => (1114113 - intOf t).toNat)
  case atStart => exact ⟨[], 0, rfl, by omega, hide (outS_start l (unhide HRR)), hide (World.ownsRow_nil _ _ _ _), hide (Below.refl _ _)⟩
  case round =>
    obtain ⟨os, tt, rfl, htt, HO, HV, HB⟩ := hrel
    go_wp2
    go_loopw [5, 6] (fun m i wr' => ∃ (k : Nat) (mm : Int), m = .int .i32 mm ∧ i = .int .i64 k ∧ k ≤ l.length ∧ (0 ≤ mm ∧ mm ≤ 1114112) ∧ Hz (LeastS l k tt mm) ∧ wr' = wr) (fun _ i _ => l.length - (intOf i).toNat)
    case atStart => exact ⟨0, 1114112, rfl, rfl, by omega, by omega, hide (leastS_start l tt), rfl⟩
    case round =>
      obtain ⟨k, mm, rfl, rfl, hk, hmm, HL, rfl⟩ := hrel
      by_cases hkn : k < l.length
      · have hk1 : (k : Int) < (l.length : Int) := by omega
        have hk2 : ((k : Nat) : Int).toNat = k := by omega
        obtain ⟨x, hx⟩ : ∃ x, l[k]? = some x := ⟨_, List.getElem?_eq_getElem hkn⟩
        have HX := hide hx
        obtain ⟨g, o, rfl, hg, hc⟩ := unhide HR (by omega)
        have c0 := ((unhide HB).cell (p := ⟨g, o + k * 2, none⟩) hg).trans (hc k x hx).1
        have c1 := ((unhide HB).cell (p := ⟨g, o + k * 2 + 1, none⟩) hg).trans (hc k x hx).2
        have hex := endsB_iff (unhide HRR x (List.mem_of_getElem? hx)).1
        obtain ⟨lo, hi⟩ := x
        simp only at c0 c1 hex
        have HIT := hide (fun (z : Int) (hz : z = if lo < tt then tt else lo) (h1 : z ≤ hi) (h2 : z < mm) => leastS_hit (unhide HL) (unhide HRR) (unhide HO).rune (unhide HX) hz h1 h2)
        have MISS := hide (fun (z : Int) (hz : z = if lo < tt then tt else lo) (h1 : z ≤ hi → mm ≤ z) => leastS_miss (unhide HL) (unhide HX) hz h1)
        have HTR := hide (fun (h : tt ≤ hi) => (runeB_iff (((unhide HO).rune).resolve_left (by omega))).2.2)
        clear hc hx
        by_cases h1 : lo < tt
        · by_cases h2 : tt ≤ hi
          · have h4 := unhide HTR h2
            by_cases h3 : tt < mm
            · have HN := hide (unhide HIT tt (by rw [if_pos h1]) h2 h3)
              rcases h4 with h4 | h4
              · go_wp2
                go_roundw
                case rel => exact ⟨k + 1, tt, rfl, by congr 1, by omega, by omega, HN, by first | rfl | trivial⟩
                case measure => simp [intOf]; omega
              · have h5 : ¬ tt < 55296 := by omega
                go_wp2
                go_roundw
                case rel => exact ⟨k + 1, tt, rfl, by congr 1, by omega, by omega, HN, by first | rfl | trivial⟩
                case measure => simp [intOf]; omega
            · have HN := hide (unhide MISS tt (by rw [if_pos h1]) (fun _ => by omega))
              go_wp2
              go_roundw
              case rel => exact ⟨k + 1, mm, rfl, by congr 1, by omega, by omega, HN, by first | rfl | trivial⟩
              case measure => simp [intOf]; omega
          · have HN := hide (unhide MISS tt (by rw [if_pos h1]) (fun h => by omega))
            go_wp2
            go_roundw
            case rel => exact ⟨k + 1, mm, rfl, by congr 1, by omega, by omega, HN, by first | rfl | trivial⟩
            case measure => simp [intOf]; omega
        · by_cases h2 : lo ≤ hi
          · have h4 := hex.1.2.2
            by_cases h3 : lo < mm
            · have HN := hide (unhide HIT lo (by rw [if_neg h1]) h2 h3)
              rcases h4 with h4 | h4
              · go_wp2
                go_roundw
                case rel => exact ⟨k + 1, lo, rfl, by congr 1, by omega, by omega, HN, by first | rfl | trivial⟩
                case measure => simp [intOf]; omega
              · have h5 : ¬ lo < 55296 := by omega
                go_wp2
                go_roundw
                case rel => exact ⟨k + 1, lo, rfl, by congr 1, by omega, by omega, HN, by first | rfl | trivial⟩
                case measure => simp [intOf]; omega
            · have HN := hide (unhide MISS lo (by rw [if_neg h1]) (fun _ => by omega))
              go_wp2
              go_roundw
              case rel => exact ⟨k + 1, mm, rfl, by congr 1, by omega, by omega, HN, by first | rfl | trivial⟩
              case measure => simp [intOf]; omega
          · have HN := hide (unhide MISS lo (by rw [if_neg h1]) (fun h => by omega))
            go_wp2
            go_roundw
            case rel => exact ⟨k + 1, mm, rfl, by congr 1, by omega, by omega, HN, by first | rfl | trivial⟩
            case measure => simp [intOf]; omega
      · have hk1 : ¬ (k : Int) < (l.length : Int) := by omega
        obtain rfl : k = l.length := by omega
        by_cases hend : 1114111 < mm
        · obtain rfl : mm = 1114112 := by omega
          have HE := hide (outS_end (unhide HO) (unhide HL))
          go_wp2
          go_ret
          exact ⟨_, rfl, os, unhide HV, (unhide HO).spread, unhide HE, unhide HB⟩
        · go_wp2
          go_loopw [8, 9] (fun ev bv wr' => ∃ (e : Int) (b : Bool), ev = .int .i32 e ∧ bv = .bool b ∧ (0 ≤ e ∧ e ≤ 1114111) ∧ Hz (EndS l mm e) ∧ Hz (b = false → ShutS l l.length e) ∧ ∃ q, wr' = wr.drewN q) (fun ev bv _ => (1114112 - intOf ev).toNat * 2 + flagOf bv)
          case atStart => exact ⟨mm, true, rfl, rfl, by omega, hide (endS_start (unhide HL) (by omega)), hide (fun h => by cases h), 0, rfl⟩
          case round =>
            obtain ⟨e, b, rfl, rfl, he, HE, HSh, q, rfl⟩ := hrel
            cases b with
            | true =>
              go_wp2
              go_loopw [8, 9, 10] (fun ev bv iv wr' => ∃ (k : Nat) (e' : Int) (b : Bool), ev = .int .i32 e' ∧ bv = .bool b ∧ iv = .int .i64 k ∧ k ≤ l.length ∧ (0 ≤ e' ∧ e' ≤ 1114111) ∧ Hz (EndS l mm e') ∧ Hz (b = false → e' = e ∧ ShutS l k e') ∧ Hz (b = true → e < e') ∧ ∃ q, wr' = wr.drewN q) (fun _ _ i _ => l.length - (intOf i).toNat)
              case atStart => exact ⟨0, e, false, rfl, rfl, rfl, by omega, by omega, HE, hide (fun _ => ⟨rfl, shutS_start l e⟩), hide (fun h => by cases h), q, rfl⟩
              case round =>
                clear HE HSh
                obtain ⟨k, e', b, rfl, rfl, rfl, hk, he', HE, HSh, HLt, q', rfl⟩ := hrel
                by_cases hkn : k < l.length
                · have hk1 : (k : Int) < (l.length : Int) := by omega
                  have hk2 : ((k : Nat) : Int).toNat = k := by omega
                  obtain ⟨x, hx⟩ : ∃ x, l[k]? = some x := ⟨_, List.getElem?_eq_getElem hkn⟩
                  have HX := hide hx
                  obtain ⟨g, o, rfl, hg, hc⟩ := unhide HR (by omega)
                  have c0 := ((unhide HB).cell (p := ⟨g, o + k * 2, none⟩) hg).trans (hc k x hx).1
                  have c1 := ((unhide HB).cell (p := ⟨g, o + k * 2 + 1, none⟩) hg).trans (hc k x hx).2
                  obtain ⟨lo, hi⟩ := x
                  simp only at c0 c1
                  have HIT := hide (fun (h1 : lo ≤ upOf e') (h2 : e' < hi) => endS_hit (unhide HE) (unhide HRR) (unhide HX) h1 h2)
                  have MISS := hide (fun (hb : b = false) (h1 : lo ≤ upOf e' → hi ≤ e') => shutS_miss (unhide HSh hb).2 (unhide HX) h1)
                  have hhi := (endsB_iff (unhide HRR (lo, hi) (List.mem_of_getElem? hx)).1).2
                  simp only at hhi
                  obtain ⟨wq, hwq⟩ : ∃ wq, wq = wr.drewN q' := ⟨_, rfl⟩
                  have d0 : wq.cell? ⟨g, o + k * 2, none⟩ = some (.int .i32 lo) := by rw [hwq]; exact c0
                  have d1 : wq.cell? ⟨g, o + k * 2 + 1, none⟩ = some (.int .i32 hi) := by rw [hwq]; exact c1
                  rw [← hwq]
                  have HQ : Hz (∀ n, ∃ q, wq.drewN n = wr.drewN q) := hide (fun n => ⟨q' + n, by rw [hwq, drewN_two]⟩)
                  clear hc hx c0 c1 hwq
                  by_cases h1 : lo ≤ upOf e'
                  · by_cases h2 : e' < hi
                    · have HE2 := hide (unhide HIT h1 h2)
                      have HLt2 : Hz (e < hi) := hide (by
                        cases b with
                        | true => have := unhide HLt rfl; omega
                        | false => have := (unhide HSh rfl).1; omega)
                      go_wp2
                      go_quiet ((go_at_call 55; exact Calls.quiet_of_same (refUp_any _ (by omega) (by omega) _)))
                      go_wp2
                      go_roundw
                      case rel => exact ⟨k + 1, hi, true, rfl, rfl, by congr 1, by omega, by omega, HE2, hide (fun h => by cases h), hide (fun _ => unhide HLt2), unhide HQ _⟩
                      case measure => simp [intOf]; omega
                    · have HS2 : Hz (b = false → e' = e ∧ ShutS l (k + 1) e') := hide (fun hb => ⟨(unhide HSh hb).1, unhide MISS hb (fun _ => by omega)⟩)
                      go_wp2
                      go_quiet ((go_at_call 55; exact Calls.quiet_of_same (refUp_any _ (by omega) (by omega) _)))
                      go_wp2
                      go_roundw
                      case rel => exact ⟨k + 1, e', b, rfl, rfl, by congr 1, by omega, by omega, HE, HS2, HLt, unhide HQ _⟩
                      case measure => simp [intOf]; omega
                  · have HS2 : Hz (b = false → e' = e ∧ ShutS l (k + 1) e') := hide (fun hb => ⟨(unhide HSh hb).1, unhide MISS hb (fun h => absurd h h1)⟩)
                    go_wp2
                    have h1n : ¬ lo ≤ upOf e' := by omega
                    have h1d : decide (lo ≤ upOf e') = false := decide_eq_false h1n
                    go_quiet ((go_at_call 55; exact Calls.quiet_of_same (refUp_any _ (by omega) (by omega) _)))
                    go_wp2
                    go_roundw
                    case rel => exact ⟨k + 1, e', b, rfl, rfl, by congr 1, by omega, by omega, HE, HS2, HLt, unhide HQ _⟩
                    case measure => simp [intOf]; omega
                · have hk1 : ¬ (k : Int) < (l.length : Int) := by omega
                  obtain rfl : k = l.length := by omega
                  have HS2 : Hz (b = false → ShutS l l.length e') := hide (fun hb => (unhide HSh hb).2)
                  have HM : Hz ((1114112 - e').toNat * 2 + flagOf (.bool b) < (1114112 - e).toNat * 2 + 1) := hide (by
                    cases b with
                    | true => have := unhide HLt rfl; simp [flagOf]; omega
                    | false => have := (unhide HSh rfl).1; simp [flagOf]; omega)
                  go_wp2
                  go_roundw
                  case rel => exact ⟨e', b, rfl, rfl, by omega, HE, HS2, _, rfl⟩
                  case measure => exact unhide HM
            | false =>
              have HS2 := hide (unhide HSh rfl)
              have HN := hide (outS_next (unhide HO) (unhide HL) (by omega) (unhide HE) (unhide HS2))
              have HLE : Hz (tt ≤ mm ∧ mm ≤ e ∧ e < upOf e ∧ upOf e ≤ 1114112 ∧ os.length ≤ 1112064) := hide (by
                have h1 := up_lt e
                have h2 : upOf e ≤ 1114112 := by unfold upOf; split <;> omega
                have h3 := (unhide HO).len
                have h4 : rankOf tt ≤ 1112064 := by unfold rankOf; split <;> (try split) <;> omega
                have h5 := (unhide HE).le
                rcases (unhide HL).form with a | a
                · omega
                · exact ⟨a.2.1, h5, h1, h2, by omega⟩)
              have HVa : Hz (((wr.drewN q).alloc (.cells #[.int .i32 mm, .int .i32 e] 28)).ownsRow w.heap.size 28 2 _ os.length (encP os)) := hide ((unhide HV).alloc _)
              have HBa : Hz (Below w.heap.size w ((wr.drewN q).alloc (.cells #[.int .i32 mm, .int .i32 e] 28))) := hide ((below_drewN (unhide HB) q).alloc (unhide HB).size _)
              have HU := hide (fun w => refUp_any e (by omega) (by omega) w)
              go_wp2_with (at_builtin; refine wpList_append_own _ rfl _ _ 30 rfl w.heap.size 28 iP (.agg #[.int .i32 0, .int .i32 0]) 2 8 Try.underlying30 (unhide HP).1 (unhide HP).2.1 (unhide HP).2.2.1 (unhide HP).2.2.2 rfl (by decide) _ _ _ rfl (unhide HVa) ⟨wr.heap.size, 0, none⟩ 1 1 (encP [(mm, e)]) rfl ?qc1 ?qc2 ?qc3 ?qc4 ?qc5 ?qc6 ?_)
              case qc1 => rfl
              case qc2 => exact fun j u hj => by have := two_cell (wr.drewN q) (mm, e) j u hj; rw [add_none', Nat.zero_add] at this; exact this
              case qc3 => exact encP_one _
              case qc4 => have := (unhide HLE).2.2.2.2; unfold maxLen; omega
              case qc5 => have := (unhide HLE).2.2.2.2; omega
              case qc6 => have := (unhide HB).size; omega
              intro v' w1 hown hgrow hnil
              rw [← encP_append] at hown
              have HO1 : Hz (w1.ownsRow w.heap.size 28 2 v' (os ++ [(mm, e)]).length (encP (os ++ [(mm, e)]))) := hide (by rw [List.length_append, List.length_singleton]; exact hown)
              have HB1 := hide ((unhide HBa).grown hgrow (unhide HBa).size (fun k e => ((unhide HVa).lt k e).1))
              clear hown hgrow hnil
              go_wp2_with fail
              refine (unhide HU _).mono ?_
              rintro e2 w2 ⟨rfl, rfl⟩
              go_wp2
              go_roundw
              case rel => exact ⟨os ++ [(mm, e)], upOf e, rfl, by have := unhide HLE; omega, HN, HO1, HB1⟩
              case measure => have := unhide HLE; simp [intOf]; omega
end Go.Proofs.Ytemmflhofhngbaa
