/- Texts of this claim, one behind the other. -/
import Derived.Test.YtemmflhofhngbaaM4
import Derived.Test.YtemmflhofhngbaaM5
import Derived.Deep.AppendLies
import Derived.Deep.RegionLaw
import Derived.Test.YtemmflhofhngbaaM1
import Derived.Deep.QuietTactic
import Derived.BigQuiet
import Derived.WalkSmall
import Derived.Laws.Cover4
import Derived.Laws.IdiomStrings
/- numbers: From of one kind of numbers. -/
namespace Go.Proofs.Ytemmflhofhngbaa
open Go.RowKit Go.Shelf
set_option linter.unusedVariables false
/-- Why they are refused. -/
def noV (zs : List Int) : Int := if zs.all runeB then 0 else 12
theorem noV_good {zs : List Int} {x : Int} (h : runeB x = true) : noV (zs ++ [x]) = noV zs := by simp [noV, h]
theorem noV_bad {zs : List Int} {x : Int} (h : runeB x = false) : noV (zs ++ [x]) = 12 := by simp [noV, h]
theorem dup_snoc (zs : List Int) (x : Int) : dup (zs ++ [x]) = dup zs ++ [(x, x)] := by simp [dup]
/-- One span more, in a region that draws. -/
theorem step_oneP {w : World} {ops : Array Oper} {o : Oper} {a : Act} {K : Act → World → Prop} {Q : Exit → Act → World → Prop} {E : Prop} (hgd : o.guard = none) (s x : Operand)
    (ho : o.op = .call { callee := .builtin .append, args := #[s, x], argTypes := #[30, 30] }) (lo : Nat) (v : Value) (zs : List (Int × Int)) (hs : a.eval s = v) (hz : zs.length ≤ 900000) (W : World) (y1 y2 : Int) (hW : w = W.alloc (.cells #[.int .i32 y1, .int .i32 y2] 28)) (hv : W.ownsRow lo 28 2 v zs.length (encP zs)) (hlo : lo ≤ W.heap.size) (n : Nat) (hn : n = W.heap.size) (hx : a.eval x = .slice (some ⟨n, 0, none⟩) 1 1)
    (h : ∀ g cap w', w'.ownsRow lo 28 2 (.slice (some ⟨g, 0, none⟩) (zs.length + 1) cap) (zs ++ [(y1, y2)]).length (encP (zs ++ [(y1, y2)])) → Below lo W w' → K (a.put o.dst (.slice (some ⟨g, 0, none⟩) (zs.length + 1) cap)) w') :
    if Region.wanted o (yielded ops a.tmps) = true then Oper.wp Try.prog o a w K Q else E := by
  subst hW
  subst hn
  obtain ⟨iP, hi0, hi1, hi2, hi3⟩ := info_parts infoP
  refine step_append_lies _ hgd s x 30 ho lo 28 iP (.agg #[.int .i32 0, .int .i32 0]) 2 8 Try.underlying30 hi0 hi1 hi2 hi3 rfl (by omega) v zs.length (encP zs) hs (hv.alloc _) ⟨W.heap.size, 0, none⟩ 1 1 (encP [(y1, y2)]) hx (by simp [encP]) (two_cell W (y1, y2)) (encP_one _) (by omega) (by unfold maxLen; omega) (by omega) (by simp; omega) (W.heap.size + 1) (by simp) ?_
  intro g cap w' h1 h2 _ _
  refine h g cap w' (by rw [encP_append, List.length_append, List.length_singleton]; exact h1) ?_
  exact ((Below.refl lo W).alloc hlo _).grown h2 (by simp; omega) (fun k e => ((hv.alloc (.cells #[.int .i32 y1, .int .i32 y2] 28)).lt k e).1)
/-- The loop's relation. -/
structure NmI (zs : List Int) (w W : World) (k : Nat) (v : Value) (q : Int) (ss : List (Int × Int)) : Prop where
  len : ss.length = k
  own : W.ownsRow w.heap.size 28 2 v ss.length (encP ss)
  old : Below w.heap.size w W
  no : q = noV (zs.take k)
  ok : (zs.take k).all runeB = true → ss = dup (zs.take k)
theorem NmI.drew {zs : List Int} {w W : World} {k : Nat} {v : Value} {q : Int} {ss : List (Int × Int)} (h : NmI zs w W k v q ss) : NmI zs w W.drew k v q ss := ⟨h.len, h.own, h.old.drew, h.no, h.ok⟩
theorem wrapI32 (x : Int) (h0 : 0 ≤ x) (h1 : x ≤ 1114111) : IntKind.i32.wrap x = x := by simp [IntKind.wrap, IntKind.bits, IntKind.signed]; omega
theorem NmI.good {zs : List Int} {w W W' : World} {k : Nat} {v v' : Value} {q x : Int} {y : Int × Int} {ss : List (Int × Int)} (h : NmI zs w W k v q ss) (hx : zs[k]? = some x) (hr : runeB x = true) (hy : y = (x, x)) (ho : W'.ownsRow w.heap.size 28 2 v' (ss ++ [y]).length (encP (ss ++ [y]))) (hb : Below w.heap.size W W') : NmI zs w W' (k + 1) v' q (ss ++ [y]) :=
  ⟨by rw [List.length_append, h.len]; rfl, ho, h.old.trans hb, by rw [take_snoc hx, noV_good hr]; exact h.no, fun ha => by
    rw [take_snoc hx, List.all_append] at ha
    rw [take_snoc hx, dup_snoc, ← h.ok (Bool.and_eq_true_iff.1 ha).1, hy]⟩
theorem NmI.bad {zs : List Int} {w W W' : World} {k : Nat} {v v' : Value} {q x : Int} {y : Int × Int} {ss : List (Int × Int)} (h : NmI zs w W k v q ss) (hx : zs[k]? = some x) (hr : runeB x = false) (ho : W'.ownsRow w.heap.size 28 2 v' (ss ++ [y]).length (encP (ss ++ [y]))) (hb : Below w.heap.size W W') : NmI zs w W' (k + 1) v' 12 (ss ++ [y]) :=
  ⟨by rw [List.length_append, h.len]; rfl, ho, h.old.trans hb, by rw [take_snoc hx, noV_bad hr], fun ha => by
    rw [take_snoc hx, List.all_append] at ha
    have := (Bool.and_eq_true_iff.1 ha).2
    simp [hr] at this⟩
set_option maxRecDepth 100000 in
set_option maxHeartbeats 8000000 in
theorem numbers_int (p : Option Addr) (cap : Nat) (zs : List Int) (hz : zs.length ≤ 1000) (hf : ∀ x ∈ zs, -9223372036854775808 ≤ x ∧ x ≤ 9223372036854775807) (w : World) (hr : RowN .i64 w p zs) :
    Calls Try.prog 22 #[.slice p zs.length cap] w fun e w' => e = .returned (.bool true) ∧ Below w.heap.size w w' := by
  have hlen : (zs.length : Int) ≤ 1000 := by omega
  have HR := hide hr
  have HF := hide hf
  clear hr hf
  go_enter Try.func22, Try.ntmps22
  go_wp2_with fail
  go_loopw [3, 4, 5] (fun v s4 i wr => ∃ (k : Nat) (q : Int) (ss : List (Int × Int)), i = .int .i64 k ∧ k ≤ zs.length ∧ s4 = .int .i64 q ∧ Hz (NmI zs w wr k v q ss)) (fun _ _ i _ => zs.length - (intOf i).toNat)
  case atStart => exact ⟨0, 0, [], rfl, by omega, rfl, hide ⟨rfl, World.ownsRow_nil _ _ _ _, Below.refl _ _, by simp [noV], fun _ => rfl⟩⟩
  case round =>
    obtain ⟨k, q, ss, rfl, hk, rfl, HI⟩ := hrel
    have hss : ss.length ≤ 900000 := by rw [(unhide HI).len]; omega
    by_cases hkn : k < zs.length
    · have hk1 : (k : Int) < (zs.length : Int) := by omega
      have hk2 : ((k : Nat) : Int).toNat = k := by omega
      obtain ⟨x, hx⟩ : ∃ x, zs[k]? = some x := ⟨_, List.getElem?_eq_getElem (by omega)⟩
      obtain ⟨g, o, rfl, hg, hc⟩ := unhide HR (by omega)
      have c0 := ((unhide HI).old.cell (p := ⟨g, o + k, none⟩) hg).trans (hc k x hx)
      obtain ⟨bx1, bx2⟩ := unhide HF x (List.mem_of_getElem? hx)
      have HX := hide hx
      clear hc hx
      cases hrx : runeB x with
      | true =>
        have hb := runeB_iff hrx
        have hb1 : 0 ≤ x := hb.1
        have hb2 : x ≤ 1114111 := hb.2.1
        have hno1 : ¬ x < 0 := by omega
        have hno2 : ¬ 1114111 < x := by omega
        have HRX := hide hrx
        clear hb

        have HId : Hz (NmI zs w wr.drew k u3 q ss) := hide ((unhide HI).drew)
        go_wp2_with (first | (go_at_call 51; refine (refRune_any x _).mono ?_; rintro e w' ⟨rfl, hw'⟩; have hw2 := hw'.symm; subst hw2))
        go_region_law (first
          | (refine step_oneP (by rfl) _ _ (by rfl) w.heap.size _ ss (by rfl) hss wr.drew _ _ (by rfl) (unhide HId).own (unhide HId).old.size _ (by rfl) (by rfl) ?_; intro g1 cap1 w1 hown hb1'))
        all_goals
          have HI2 := hide ((unhide HId).good (unhide HX) (unhide HRX) (by first | rfl | rw [wrapI32 x hb1 hb2]) hown hb1')
          clear hown hb1' HI HId c0
          go_wp2_with fail
          go_roundw
          case rel => exact ⟨k + 1, _, _, by congr 1, by omega, rfl, HI2⟩
          case measure => simp [intOf]; omega
      | false =>
        have HRX := hide hrx
        by_cases h1 : x < 0
        · clear hrx

          have HId : Hz (NmI zs w wr.drew k u3 q ss) := hide ((unhide HI).drew)
          go_wp2_with (first | (go_at_call 51; refine (refRune_any x _).mono ?_; rintro e w' ⟨rfl, hw'⟩; have hw2 := hw'.symm; subst hw2))
          go_region_law (first
            | (refine step_oneP (by rfl) _ _ (by rfl) w.heap.size _ ss (by rfl) hss wr.drew _ _ (by rfl) (unhide HId).own (unhide HId).old.size _ (by rfl) (by rfl) ?_; intro g1 cap1 w1 hown hb1'))
          all_goals
            have HI2 := hide ((unhide HId).bad (unhide HX) (unhide HRX) hown hb1')
            clear hown hb1' HI HId c0
            go_wp2_with fail
            go_roundw
            case rel => exact ⟨k + 1, _, _, by congr 1, by omega, rfl, HI2⟩
            case measure => simp [intOf]; omega
        have hb1 : 0 ≤ x := by omega
        by_cases h2 : 1114111 < x
        · clear hrx
          have h1n : ¬ x < 0 := by omega
          have HId : Hz (NmI zs w wr.drew k u3 q ss) := hide ((unhide HI).drew)
          go_wp2_with (first | (go_at_call 51; refine (refRune_any x _).mono ?_; rintro e w' ⟨rfl, hw'⟩; have hw2 := hw'.symm; subst hw2))
          go_region_law (first
            | (refine step_oneP (by rfl) _ _ (by rfl) w.heap.size _ ss (by rfl) hss wr.drew _ _ (by rfl) (unhide HId).own (unhide HId).old.size _ (by rfl) (by rfl) ?_; intro g1 cap1 w1 hown hb1'))
          all_goals
            have HI2 := hide ((unhide HId).bad (unhide HX) (unhide HRX) hown hb1')
            clear hown hb1' HI HId c0
            go_wp2_with fail
            go_roundw
            case rel => exact ⟨k + 1, _, _, by congr 1, by omega, rfl, HI2⟩
            case measure => simp [intOf]; omega
        · have hb2 : x ≤ 1114111 := by omega
          have h1n : ¬ x < 0 := by omega
          have h2n : ¬ 1114111 < x := by omega
          have HId : Hz (NmI zs w wr.drew k u3 q ss) := hide ((unhide HI).drew)
          go_wp2_with (first | (go_at_call 51; refine (refRune_any x _).mono ?_; rintro e w' ⟨rfl, hw'⟩; have hw2 := hw'.symm; subst hw2))
          go_region_law (first
            | (refine step_oneP (by rfl) _ _ (by rfl) w.heap.size _ ss (by rfl) hss wr.drew _ _ (by rfl) (unhide HId).own (unhide HId).old.size _ (by rfl) (by rfl) ?_; intro g1 cap1 w1 hown hb1'))
          all_goals
            have HI2 := hide ((unhide HId).bad (unhide HX) (unhide HRX) hown hb1')
            clear hown hb1' HI HId c0
            go_wp2_with fail
            go_roundw
            case rel => exact ⟨k + 1, _, _, by congr 1, by omega, rfl, HI2⟩
            case measure => simp [intOf]; omega
    · have hk1 : ¬ (k : Int) < (zs.length : Int) := by omega
      obtain rfl : k = zs.length := by omega
      have hno := (unhide HI).no
      have hok := (unhide HI).ok
      rw [List.take_length] at hno hok
      obtain ⟨av, cv, rfl, hrow, _, _⟩ := own_row (unhide HI).own
      have HRow := hide hrow
      have HC := hide (from_int p cap zs hz (unhide HF) wr ((unhide HR).below (unhide HI).old))
      have HB := hide (unhide HI).old
      clear hrow HI
      cases hall : zs.all runeB with
      | false =>
        have hq : q = 12 := by rw [hno]; simp [noV, hall]
        subst hq
        have HALL := hide hall
        clear hno hok hall
        go_wp2_with fail
        refine (unhide HC).mono ?_
        intro e w5 hFP
        obtain rfl := hFP.2.1 (unhide HALL)
        have HB5 := hide ((unhide HB).trans (hFP.2.2.mono (unhide HB).size))
        clear hFP
        go_wp2_with fail
        go_ret
        exact ⟨rfl, unhide HB5⟩
      | true =>
        have hq : q = 0 := by rw [hno]; simp [noV, hall]
        subst hq
        obtain rfl := hok hall
        have HALL := hide hall
        clear hno hok hall
        go_wp2_with fail
        refine (unhide HC).mono ?_
        intro e w5 hFP
        obtain ⟨B, lo0, us, rfl, hlo, hM, hS, hl, hm⟩ := hFP.1 (unhide HALL)
        have HB5 := hide ((unhide HB).trans (hFP.2.2.mono (unhide HB).size))
        have HRow5 := hide ((unhide HRow).below hFP.2.2)
        have HS5 := hide (hM.set hS (by omega))
        have HSp := hide hS
        have HMm := hide hm
        clear hFP hM hS hm hlo HRow HB
        go_wp2_with fail
        refine (spans_any B us w5 (unhide HS5)).mono ?_
        rintro e w6 ⟨v6, rfl, hown6, hb6⟩
        obtain ⟨a6, c6, rfl, hrow6, _, _⟩ := own_row hown6
        have HRow6 := hide hrow6
        have HRowS := hide ((unhide HRow5).below hb6)
        have HB6 := hide ((unhide HB5).trans (hb6.mono (unhide HB5).size))
        clear hown6 hrow6 hb6
        have hdr : RightL (dup zs) := dup_right (fun x hx => List.all_eq_true.1 (unhide HALL) x hx)
        have hdl : (dup zs).length ≤ 1073741824 := by rw [dup_length]; omega
        have HCR := hide (refSpans_any av cv (dup zs) hdl hdr w6 (unhide HRowS))
        clear hdr
        go_wp2_with fail
        refine (unhide HCR).mono ?_
        rintro e w7 ⟨v7, os, rfl, hown7, hS7, hm7, hb7⟩
        obtain rfl : us = os := spread_unique us os (unhide HSp) hS7 (fun r => (unhide HMm r).trans (hm7 r).symm)
        obtain ⟨a7, c7, rfl, hrow7, _, _⟩ := own_row hown7
        have HB7 := hide ((unhide HB6).trans (hb7.mono (unhide HB6).size))
        have HCS := hide (sameP_any a6 a7 c6 c7 us us (by omega) (by omega) w7 ((unhide HRow6).below hb7) hrow7)
        rw [sameB_refl] at HCS
        clear hown7 hrow7 hS7 hm7 hb7 HCR
        go_wp2_with fail
        refine (unhide HCS).mono ?_
        rintro e w8 ⟨rfl, hb8⟩
        have HB8 := hide ((unhide HB7).trans (hb8.mono (unhide HB7).size))
        clear hb8
        go_wp2_with fail
        go_ret
        exact ⟨rfl, unhide HB8⟩
set_option maxRecDepth 100000 in
set_option maxHeartbeats 8000000 in
theorem numbers_rune (p : Option Addr) (cap : Nat) (zs : List Int) (hz : zs.length ≤ 1000) (hf : ∀ x ∈ zs, -2147483648 ≤ x ∧ x ≤ 2147483647) (w : World) (hr : RowN .i32 w p zs) :
    Calls Try.prog 23 #[.slice p zs.length cap] w fun e w' => e = .returned (.bool true) ∧ Below w.heap.size w w' := by
  have hlen : (zs.length : Int) ≤ 1000 := by omega
  have HR := hide hr
  have HF := hide hf
  clear hr hf
  go_enter Try.func23, Try.ntmps23
  go_wp2_with fail
  go_loopw [3, 4, 5] (fun v s4 i wr => ∃ (k : Nat) (q : Int) (ss : List (Int × Int)), i = .int .i64 k ∧ k ≤ zs.length ∧ s4 = .int .i64 q ∧ Hz (NmI zs w wr k v q ss)) (fun _ _ i _ => zs.length - (intOf i).toNat)
  case atStart => exact ⟨0, 0, [], rfl, by omega, rfl, hide ⟨rfl, World.ownsRow_nil _ _ _ _, Below.refl _ _, by simp [noV], fun _ => rfl⟩⟩
  case round =>
    obtain ⟨k, q, ss, rfl, hk, rfl, HI⟩ := hrel
    have hss : ss.length ≤ 900000 := by rw [(unhide HI).len]; omega
    by_cases hkn : k < zs.length
    · have hk1 : (k : Int) < (zs.length : Int) := by omega
      have hk2 : ((k : Nat) : Int).toNat = k := by omega
      obtain ⟨x, hx⟩ : ∃ x, zs[k]? = some x := ⟨_, List.getElem?_eq_getElem (by omega)⟩
      obtain ⟨g, o, rfl, hg, hc⟩ := unhide HR (by omega)
      have c0 := ((unhide HI).old.cell (p := ⟨g, o + k, none⟩) hg).trans (hc k x hx)
      obtain ⟨bx1, bx2⟩ := unhide HF x (List.mem_of_getElem? hx)
      have HX := hide hx
      clear hc hx
      cases hrx : runeB x with
      | true =>
        have hb := runeB_iff hrx
        have hb1 : 0 ≤ x := hb.1
        have hb2 : x ≤ 1114111 := hb.2.1
        have hno1 : ¬ x < 0 := by omega
        have hno2 : ¬ 1114111 < x := by omega
        have HRX := hide hrx
        clear hb

        have HId : Hz (NmI zs w wr.drew k u3 q ss) := hide ((unhide HI).drew)
        go_wp2_with (first | (go_at_call 51; refine (refRune_any x _).mono ?_; rintro e w' ⟨rfl, hw'⟩; have hw2 := hw'.symm; subst hw2))
        go_region_law (first
          | (refine step_oneP (by rfl) _ _ (by rfl) w.heap.size _ ss (by rfl) hss wr.drew _ _ (by rfl) (unhide HId).own (unhide HId).old.size _ (by rfl) (by rfl) ?_; intro g1 cap1 w1 hown hb1'))
        all_goals
          have HI2 := hide ((unhide HId).good (unhide HX) (unhide HRX) (by first | rfl | rw [wrapI32 x hb1 hb2]) hown hb1')
          clear hown hb1' HI HId c0
          go_wp2_with fail
          go_roundw
          case rel => exact ⟨k + 1, _, _, by congr 1, by omega, rfl, HI2⟩
          case measure => simp [intOf]; omega
      | false =>
        have HRX := hide hrx
        by_cases h1 : x < 0
        · clear hrx

          have HId : Hz (NmI zs w wr.drew k u3 q ss) := hide ((unhide HI).drew)
          go_wp2_with (first | (go_at_call 51; refine (refRune_any x _).mono ?_; rintro e w' ⟨rfl, hw'⟩; have hw2 := hw'.symm; subst hw2))
          go_region_law (first
            | (refine step_oneP (by rfl) _ _ (by rfl) w.heap.size _ ss (by rfl) hss wr.drew _ _ (by rfl) (unhide HId).own (unhide HId).old.size _ (by rfl) (by rfl) ?_; intro g1 cap1 w1 hown hb1'))
          all_goals
            have HI2 := hide ((unhide HId).bad (unhide HX) (unhide HRX) hown hb1')
            clear hown hb1' HI HId c0
            go_wp2_with fail
            go_roundw
            case rel => exact ⟨k + 1, _, _, by congr 1, by omega, rfl, HI2⟩
            case measure => simp [intOf]; omega
        have hb1 : 0 ≤ x := by omega
        by_cases h2 : 1114111 < x
        · clear hrx
          have h1n : ¬ x < 0 := by omega
          have HId : Hz (NmI zs w wr.drew k u3 q ss) := hide ((unhide HI).drew)
          go_wp2_with (first | (go_at_call 51; refine (refRune_any x _).mono ?_; rintro e w' ⟨rfl, hw'⟩; have hw2 := hw'.symm; subst hw2))
          go_region_law (first
            | (refine step_oneP (by rfl) _ _ (by rfl) w.heap.size _ ss (by rfl) hss wr.drew _ _ (by rfl) (unhide HId).own (unhide HId).old.size _ (by rfl) (by rfl) ?_; intro g1 cap1 w1 hown hb1'))
          all_goals
            have HI2 := hide ((unhide HId).bad (unhide HX) (unhide HRX) hown hb1')
            clear hown hb1' HI HId c0
            go_wp2_with fail
            go_roundw
            case rel => exact ⟨k + 1, _, _, by congr 1, by omega, rfl, HI2⟩
            case measure => simp [intOf]; omega
        · have hb2 : x ≤ 1114111 := by omega
          have h1n : ¬ x < 0 := by omega
          have h2n : ¬ 1114111 < x := by omega
          have HId : Hz (NmI zs w wr.drew k u3 q ss) := hide ((unhide HI).drew)
          go_wp2_with (first | (go_at_call 51; refine (refRune_any x _).mono ?_; rintro e w' ⟨rfl, hw'⟩; have hw2 := hw'.symm; subst hw2))
          go_region_law (first
            | (refine step_oneP (by rfl) _ _ (by rfl) w.heap.size _ ss (by rfl) hss wr.drew _ _ (by rfl) (unhide HId).own (unhide HId).old.size _ (by rfl) (by rfl) ?_; intro g1 cap1 w1 hown hb1'))
          all_goals
            have HI2 := hide ((unhide HId).bad (unhide HX) (unhide HRX) hown hb1')
            clear hown hb1' HI HId c0
            go_wp2_with fail
            go_roundw
            case rel => exact ⟨k + 1, _, _, by congr 1, by omega, rfl, HI2⟩
            case measure => simp [intOf]; omega
    · have hk1 : ¬ (k : Int) < (zs.length : Int) := by omega
      obtain rfl : k = zs.length := by omega
      have hno := (unhide HI).no
      have hok := (unhide HI).ok
      rw [List.take_length] at hno hok
      obtain ⟨av, cv, rfl, hrow, _, _⟩ := own_row (unhide HI).own
      have HRow := hide hrow
      have HC := hide (from_rune p cap zs hz (unhide HF) wr ((unhide HR).below (unhide HI).old))
      have HB := hide (unhide HI).old
      clear hrow HI
      cases hall : zs.all runeB with
      | false =>
        have hq : q = 12 := by rw [hno]; simp [noV, hall]
        subst hq
        have HALL := hide hall
        clear hno hok hall
        go_wp2_with fail
        refine (unhide HC).mono ?_
        intro e w5 hFP
        obtain rfl := hFP.2.1 (unhide HALL)
        have HB5 := hide ((unhide HB).trans (hFP.2.2.mono (unhide HB).size))
        clear hFP
        go_wp2_with fail
        go_ret
        exact ⟨rfl, unhide HB5⟩
      | true =>
        have hq : q = 0 := by rw [hno]; simp [noV, hall]
        subst hq
        obtain rfl := hok hall
        have HALL := hide hall
        clear hno hok hall
        go_wp2_with fail
        refine (unhide HC).mono ?_
        intro e w5 hFP
        obtain ⟨B, lo0, us, rfl, hlo, hM, hS, hl, hm⟩ := hFP.1 (unhide HALL)
        have HB5 := hide ((unhide HB).trans (hFP.2.2.mono (unhide HB).size))
        have HRow5 := hide ((unhide HRow).below hFP.2.2)
        have HS5 := hide (hM.set hS (by omega))
        have HSp := hide hS
        have HMm := hide hm
        clear hFP hM hS hm hlo HRow HB
        go_wp2_with fail
        refine (spans_any B us w5 (unhide HS5)).mono ?_
        rintro e w6 ⟨v6, rfl, hown6, hb6⟩
        obtain ⟨a6, c6, rfl, hrow6, _, _⟩ := own_row hown6
        have HRow6 := hide hrow6
        have HRowS := hide ((unhide HRow5).below hb6)
        have HB6 := hide ((unhide HB5).trans (hb6.mono (unhide HB5).size))
        clear hown6 hrow6 hb6
        have hdr : RightL (dup zs) := dup_right (fun x hx => List.all_eq_true.1 (unhide HALL) x hx)
        have hdl : (dup zs).length ≤ 1073741824 := by rw [dup_length]; omega
        have HCR := hide (refSpans_any av cv (dup zs) hdl hdr w6 (unhide HRowS))
        clear hdr
        go_wp2_with fail
        refine (unhide HCR).mono ?_
        rintro e w7 ⟨v7, os, rfl, hown7, hS7, hm7, hb7⟩
        obtain rfl : us = os := spread_unique us os (unhide HSp) hS7 (fun r => (unhide HMm r).trans (hm7 r).symm)
        obtain ⟨a7, c7, rfl, hrow7, _, _⟩ := own_row hown7
        have HB7 := hide ((unhide HB6).trans (hb7.mono (unhide HB6).size))
        have HCS := hide (sameP_any a6 a7 c6 c7 us us (by omega) (by omega) w7 ((unhide HRow6).below hb7) hrow7)
        rw [sameB_refl] at HCS
        clear hown7 hrow7 hS7 hm7 hb7 HCR
        go_wp2_with fail
        refine (unhide HCS).mono ?_
        rintro e w8 ⟨rfl, hb8⟩
        have HB8 := hide ((unhide HB7).trans (hb8.mono (unhide HB7).size))
        clear hb8
        go_wp2_with fail
        go_ret
        exact ⟨rfl, unhide HB8⟩
set_option maxRecDepth 100000 in
set_option maxHeartbeats 8000000 in
theorem numbers_u32 (p : Option Addr) (cap : Nat) (zs : List Int) (hz : zs.length ≤ 1000) (hf : ∀ x ∈ zs, 0 ≤ x ∧ x ≤ 4294967295) (w : World) (hr : RowN .u32 w p zs) :
    Calls Try.prog 24 #[.slice p zs.length cap] w fun e w' => e = .returned (.bool true) ∧ Below w.heap.size w w' := by
  have hlen : (zs.length : Int) ≤ 1000 := by omega
  have HR := hide hr
  have HF := hide hf
  clear hr hf
  go_enter Try.func24, Try.ntmps24
  go_wp2_with fail
  go_loopw [3, 4, 5] (fun v s4 i wr => ∃ (k : Nat) (q : Int) (ss : List (Int × Int)), i = .int .i64 k ∧ k ≤ zs.length ∧ s4 = .int .i64 q ∧ Hz (NmI zs w wr k v q ss)) (fun _ _ i _ => zs.length - (intOf i).toNat)
  case atStart => exact ⟨0, 0, [], rfl, by omega, rfl, hide ⟨rfl, World.ownsRow_nil _ _ _ _, Below.refl _ _, by simp [noV], fun _ => rfl⟩⟩
  case round =>
    obtain ⟨k, q, ss, rfl, hk, rfl, HI⟩ := hrel
    have hss : ss.length ≤ 900000 := by rw [(unhide HI).len]; omega
    by_cases hkn : k < zs.length
    · have hk1 : (k : Int) < (zs.length : Int) := by omega
      have hk2 : ((k : Nat) : Int).toNat = k := by omega
      obtain ⟨x, hx⟩ : ∃ x, zs[k]? = some x := ⟨_, List.getElem?_eq_getElem (by omega)⟩
      obtain ⟨g, o, rfl, hg, hc⟩ := unhide HR (by omega)
      have c0 := ((unhide HI).old.cell (p := ⟨g, o + k, none⟩) hg).trans (hc k x hx)
      obtain ⟨bx1, bx2⟩ := unhide HF x (List.mem_of_getElem? hx)
      have HX := hide hx
      clear hc hx
      cases hrx : runeB x with
      | true =>
        have hb := runeB_iff hrx
        have hb1 : 0 ≤ x := hb.1
        have hb2 : x ≤ 1114111 := hb.2.1
        have hno1 : ¬ x < 0 := by omega
        have hno2 : ¬ 1114111 < x := by omega
        have HRX := hide hrx
        clear hb

        have HId : Hz (NmI zs w wr.drew k u3 q ss) := hide ((unhide HI).drew)
        go_wp2_with (first | (go_at_call 51; refine (refRune_any x _).mono ?_; rintro e w' ⟨rfl, hw'⟩; have hw2 := hw'.symm; subst hw2))
        go_region_law (first
          | (refine step_oneP (by rfl) _ _ (by rfl) w.heap.size _ ss (by rfl) hss wr.drew _ _ (by rfl) (unhide HId).own (unhide HId).old.size _ (by rfl) (by rfl) ?_; intro g1 cap1 w1 hown hb1'))
        all_goals
          have HI2 := hide ((unhide HId).good (unhide HX) (unhide HRX) (by first | rfl | rw [wrapI32 x hb1 hb2]) hown hb1')
          clear hown hb1' HI HId c0
          go_wp2_with fail
          go_roundw
          case rel => exact ⟨k + 1, _, _, by congr 1, by omega, rfl, HI2⟩
          case measure => simp [intOf]; omega
      | false =>
        have HRX := hide hrx
        have hb1 : 0 ≤ x := by omega
        by_cases h2 : 1114111 < x
        · clear hrx
          have h1n : ¬ x < 0 := by omega
          have HId : Hz (NmI zs w wr.drew k u3 q ss) := hide ((unhide HI).drew)
          go_wp2_with (first | (go_at_call 51; refine (refRune_any x _).mono ?_; rintro e w' ⟨rfl, hw'⟩; have hw2 := hw'.symm; subst hw2))
          go_region_law (first
            | (refine step_oneP (by rfl) _ _ (by rfl) w.heap.size _ ss (by rfl) hss wr.drew _ _ (by rfl) (unhide HId).own (unhide HId).old.size _ (by rfl) (by rfl) ?_; intro g1 cap1 w1 hown hb1'))
          all_goals
            have HI2 := hide ((unhide HId).bad (unhide HX) (unhide HRX) hown hb1')
            clear hown hb1' HI HId c0
            go_wp2_with fail
            go_roundw
            case rel => exact ⟨k + 1, _, _, by congr 1, by omega, rfl, HI2⟩
            case measure => simp [intOf]; omega
        · have hb2 : x ≤ 1114111 := by omega
          have h1n : ¬ x < 0 := by omega
          have h2n : ¬ 1114111 < x := by omega
          have HId : Hz (NmI zs w wr.drew k u3 q ss) := hide ((unhide HI).drew)
          go_wp2_with (first | (go_at_call 51; refine (refRune_any x _).mono ?_; rintro e w' ⟨rfl, hw'⟩; have hw2 := hw'.symm; subst hw2))
          go_region_law (first
            | (refine step_oneP (by rfl) _ _ (by rfl) w.heap.size _ ss (by rfl) hss wr.drew _ _ (by rfl) (unhide HId).own (unhide HId).old.size _ (by rfl) (by rfl) ?_; intro g1 cap1 w1 hown hb1'))
          all_goals
            have HI2 := hide ((unhide HId).bad (unhide HX) (unhide HRX) hown hb1')
            clear hown hb1' HI HId c0
            go_wp2_with fail
            go_roundw
            case rel => exact ⟨k + 1, _, _, by congr 1, by omega, rfl, HI2⟩
            case measure => simp [intOf]; omega
    · have hk1 : ¬ (k : Int) < (zs.length : Int) := by omega
      obtain rfl : k = zs.length := by omega
      have hno := (unhide HI).no
      have hok := (unhide HI).ok
      rw [List.take_length] at hno hok
      obtain ⟨av, cv, rfl, hrow, _, _⟩ := own_row (unhide HI).own
      have HRow := hide hrow
      have HC := hide (from_u32 p cap zs hz (unhide HF) wr ((unhide HR).below (unhide HI).old))
      have HB := hide (unhide HI).old
      clear hrow HI
      cases hall : zs.all runeB with
      | false =>
        have hq : q = 12 := by rw [hno]; simp [noV, hall]
        subst hq
        have HALL := hide hall
        clear hno hok hall
        go_wp2_with fail
        refine (unhide HC).mono ?_
        intro e w5 hFP
        obtain rfl := hFP.2.1 (unhide HALL)
        have HB5 := hide ((unhide HB).trans (hFP.2.2.mono (unhide HB).size))
        clear hFP
        go_wp2_with fail
        go_ret
        exact ⟨rfl, unhide HB5⟩
      | true =>
        have hq : q = 0 := by rw [hno]; simp [noV, hall]
        subst hq
        obtain rfl := hok hall
        have HALL := hide hall
        clear hno hok hall
        go_wp2_with fail
        refine (unhide HC).mono ?_
        intro e w5 hFP
        obtain ⟨B, lo0, us, rfl, hlo, hM, hS, hl, hm⟩ := hFP.1 (unhide HALL)
        have HB5 := hide ((unhide HB).trans (hFP.2.2.mono (unhide HB).size))
        have HRow5 := hide ((unhide HRow).below hFP.2.2)
        have HS5 := hide (hM.set hS (by omega))
        have HSp := hide hS
        have HMm := hide hm
        clear hFP hM hS hm hlo HRow HB
        go_wp2_with fail
        refine (spans_any B us w5 (unhide HS5)).mono ?_
        rintro e w6 ⟨v6, rfl, hown6, hb6⟩
        obtain ⟨a6, c6, rfl, hrow6, _, _⟩ := own_row hown6
        have HRow6 := hide hrow6
        have HRowS := hide ((unhide HRow5).below hb6)
        have HB6 := hide ((unhide HB5).trans (hb6.mono (unhide HB5).size))
        clear hown6 hrow6 hb6
        have hdr : RightL (dup zs) := dup_right (fun x hx => List.all_eq_true.1 (unhide HALL) x hx)
        have hdl : (dup zs).length ≤ 1073741824 := by rw [dup_length]; omega
        have HCR := hide (refSpans_any av cv (dup zs) hdl hdr w6 (unhide HRowS))
        clear hdr
        go_wp2_with fail
        refine (unhide HCR).mono ?_
        rintro e w7 ⟨v7, os, rfl, hown7, hS7, hm7, hb7⟩
        obtain rfl : us = os := spread_unique us os (unhide HSp) hS7 (fun r => (unhide HMm r).trans (hm7 r).symm)
        obtain ⟨a7, c7, rfl, hrow7, _, _⟩ := own_row hown7
        have HB7 := hide ((unhide HB6).trans (hb7.mono (unhide HB6).size))
        have HCS := hide (sameP_any a6 a7 c6 c7 us us (by omega) (by omega) w7 ((unhide HRow6).below hb7) hrow7)
        rw [sameB_refl] at HCS
        clear hown7 hrow7 hS7 hm7 hb7 HCR
        go_wp2_with fail
        refine (unhide HCS).mono ?_
        rintro e w8 ⟨rfl, hb8⟩
        have HB8 := hide ((unhide HB7).trans (hb8.mono (unhide HB7).size))
        clear hb8
        go_wp2_with fail
        go_ret
        exact ⟨rfl, unhide HB8⟩
set_option maxRecDepth 100000 in
set_option maxHeartbeats 8000000 in
theorem numbers_kin (p : Option Addr) (cap : Nat) (zs : List Int) (hz : zs.length ≤ 1000) (hf : ∀ x ∈ zs, 0 ≤ x ∧ x ≤ 4294967295) (w : World) (hr : RowN .u32 w p zs) :
    Calls Try.prog 25 #[.slice p zs.length cap] w fun e w' => e = .returned (.bool true) ∧ Below w.heap.size w w' := by
  have hlen : (zs.length : Int) ≤ 1000 := by omega
  have HR := hide hr
  have HF := hide hf
  clear hr hf
  go_enter Try.func25, Try.ntmps25
  go_wp2_with fail
  go_loopw [3, 4, 5] (fun v s4 i wr => ∃ (k : Nat) (q : Int) (ss : List (Int × Int)), i = .int .i64 k ∧ k ≤ zs.length ∧ s4 = .int .i64 q ∧ Hz (NmI zs w wr k v q ss)) (fun _ _ i _ => zs.length - (intOf i).toNat)
  case atStart => exact ⟨0, 0, [], rfl, by omega, rfl, hide ⟨rfl, World.ownsRow_nil _ _ _ _, Below.refl _ _, by simp [noV], fun _ => rfl⟩⟩
  case round =>
    obtain ⟨k, q, ss, rfl, hk, rfl, HI⟩ := hrel
    have hss : ss.length ≤ 900000 := by rw [(unhide HI).len]; omega
    by_cases hkn : k < zs.length
    · have hk1 : (k : Int) < (zs.length : Int) := by omega
      have hk2 : ((k : Nat) : Int).toNat = k := by omega
      obtain ⟨x, hx⟩ : ∃ x, zs[k]? = some x := ⟨_, List.getElem?_eq_getElem (by omega)⟩
      obtain ⟨g, o, rfl, hg, hc⟩ := unhide HR (by omega)
      have c0 := ((unhide HI).old.cell (p := ⟨g, o + k, none⟩) hg).trans (hc k x hx)
      obtain ⟨bx1, bx2⟩ := unhide HF x (List.mem_of_getElem? hx)
      have HX := hide hx
      clear hc hx
      cases hrx : runeB x with
      | true =>
        have hb := runeB_iff hrx
        have hb1 : 0 ≤ x := hb.1
        have hb2 : x ≤ 1114111 := hb.2.1
        have hno1 : ¬ x < 0 := by omega
        have hno2 : ¬ 1114111 < x := by omega
        have HRX := hide hrx
        clear hb

        have HId : Hz (NmI zs w wr.drew k u3 q ss) := hide ((unhide HI).drew)
        go_wp2_with (first | (go_at_call 51; refine (refRune_any x _).mono ?_; rintro e w' ⟨rfl, hw'⟩; have hw2 := hw'.symm; subst hw2))
        go_region_law (first
          | (refine step_oneP (by rfl) _ _ (by rfl) w.heap.size _ ss (by rfl) hss wr.drew _ _ (by rfl) (unhide HId).own (unhide HId).old.size _ (by rfl) (by rfl) ?_; intro g1 cap1 w1 hown hb1'))
        all_goals
          have HI2 := hide ((unhide HId).good (unhide HX) (unhide HRX) (by first | rfl | rw [wrapI32 x hb1 hb2]) hown hb1')
          clear hown hb1' HI HId c0
          go_wp2_with fail
          go_roundw
          case rel => exact ⟨k + 1, _, _, by congr 1, by omega, rfl, HI2⟩
          case measure => simp [intOf]; omega
      | false =>
        have HRX := hide hrx
        have hb1 : 0 ≤ x := by omega
        by_cases h2 : 1114111 < x
        · clear hrx
          have h1n : ¬ x < 0 := by omega
          have HId : Hz (NmI zs w wr.drew k u3 q ss) := hide ((unhide HI).drew)
          go_wp2_with (first | (go_at_call 51; refine (refRune_any x _).mono ?_; rintro e w' ⟨rfl, hw'⟩; have hw2 := hw'.symm; subst hw2))
          go_region_law (first
            | (refine step_oneP (by rfl) _ _ (by rfl) w.heap.size _ ss (by rfl) hss wr.drew _ _ (by rfl) (unhide HId).own (unhide HId).old.size _ (by rfl) (by rfl) ?_; intro g1 cap1 w1 hown hb1'))
          all_goals
            have HI2 := hide ((unhide HId).bad (unhide HX) (unhide HRX) hown hb1')
            clear hown hb1' HI HId c0
            go_wp2_with fail
            go_roundw
            case rel => exact ⟨k + 1, _, _, by congr 1, by omega, rfl, HI2⟩
            case measure => simp [intOf]; omega
        · have hb2 : x ≤ 1114111 := by omega
          have h1n : ¬ x < 0 := by omega
          have h2n : ¬ 1114111 < x := by omega
          have HId : Hz (NmI zs w wr.drew k u3 q ss) := hide ((unhide HI).drew)
          go_wp2_with (first | (go_at_call 51; refine (refRune_any x _).mono ?_; rintro e w' ⟨rfl, hw'⟩; have hw2 := hw'.symm; subst hw2))
          go_region_law (first
            | (refine step_oneP (by rfl) _ _ (by rfl) w.heap.size _ ss (by rfl) hss wr.drew _ _ (by rfl) (unhide HId).own (unhide HId).old.size _ (by rfl) (by rfl) ?_; intro g1 cap1 w1 hown hb1'))
          all_goals
            have HI2 := hide ((unhide HId).bad (unhide HX) (unhide HRX) hown hb1')
            clear hown hb1' HI HId c0
            go_wp2_with fail
            go_roundw
            case rel => exact ⟨k + 1, _, _, by congr 1, by omega, rfl, HI2⟩
            case measure => simp [intOf]; omega
    · have hk1 : ¬ (k : Int) < (zs.length : Int) := by omega
      obtain rfl : k = zs.length := by omega
      have hno := (unhide HI).no
      have hok := (unhide HI).ok
      rw [List.take_length] at hno hok
      obtain ⟨av, cv, rfl, hrow, _, _⟩ := own_row (unhide HI).own
      have HRow := hide hrow
      have HC := hide (from_kin p cap zs hz (unhide HF) wr ((unhide HR).below (unhide HI).old))
      have HB := hide (unhide HI).old
      clear hrow HI
      cases hall : zs.all runeB with
      | false =>
        have hq : q = 12 := by rw [hno]; simp [noV, hall]
        subst hq
        have HALL := hide hall
        clear hno hok hall
        go_wp2_with fail
        refine (unhide HC).mono ?_
        intro e w5 hFP
        obtain rfl := hFP.2.1 (unhide HALL)
        have HB5 := hide ((unhide HB).trans (hFP.2.2.mono (unhide HB).size))
        clear hFP
        go_wp2_with fail
        go_ret
        exact ⟨rfl, unhide HB5⟩
      | true =>
        have hq : q = 0 := by rw [hno]; simp [noV, hall]
        subst hq
        obtain rfl := hok hall
        have HALL := hide hall
        clear hno hok hall
        go_wp2_with fail
        refine (unhide HC).mono ?_
        intro e w5 hFP
        obtain ⟨B, lo0, us, rfl, hlo, hM, hS, hl, hm⟩ := hFP.1 (unhide HALL)
        have HB5 := hide ((unhide HB).trans (hFP.2.2.mono (unhide HB).size))
        have HRow5 := hide ((unhide HRow).below hFP.2.2)
        have HS5 := hide (hM.set hS (by omega))
        have HSp := hide hS
        have HMm := hide hm
        clear hFP hM hS hm hlo HRow HB
        go_wp2_with fail
        refine (spans_any B us w5 (unhide HS5)).mono ?_
        rintro e w6 ⟨v6, rfl, hown6, hb6⟩
        obtain ⟨a6, c6, rfl, hrow6, _, _⟩ := own_row hown6
        have HRow6 := hide hrow6
        have HRowS := hide ((unhide HRow5).below hb6)
        have HB6 := hide ((unhide HB5).trans (hb6.mono (unhide HB5).size))
        clear hown6 hrow6 hb6
        have hdr : RightL (dup zs) := dup_right (fun x hx => List.all_eq_true.1 (unhide HALL) x hx)
        have hdl : (dup zs).length ≤ 1073741824 := by rw [dup_length]; omega
        have HCR := hide (refSpans_any av cv (dup zs) hdl hdr w6 (unhide HRowS))
        clear hdr
        go_wp2_with fail
        refine (unhide HCR).mono ?_
        rintro e w7 ⟨v7, os, rfl, hown7, hS7, hm7, hb7⟩
        obtain rfl : us = os := spread_unique us os (unhide HSp) hS7 (fun r => (unhide HMm r).trans (hm7 r).symm)
        obtain ⟨a7, c7, rfl, hrow7, _, _⟩ := own_row hown7
        have HB7 := hide ((unhide HB6).trans (hb7.mono (unhide HB6).size))
        have HCS := hide (sameP_any a6 a7 c6 c7 us us (by omega) (by omega) w7 ((unhide HRow6).below hb7) hrow7)
        rw [sameB_refl] at HCS
        clear hown7 hrow7 hS7 hm7 hb7 HCR
        go_wp2_with fail
        refine (unhide HCS).mono ?_
        rintro e w8 ⟨rfl, hb8⟩
        have HB8 := hide ((unhide HB7).trans (hb8.mono (unhide HB7).size))
        clear hb8
        go_wp2_with fail
        go_ret
        exact ⟨rfl, unhide HB8⟩
end Go.Proofs.Ytemmflhofhngbaa
/- Bound, Cut and Joins, told for every text and every number. -/
namespace Go.Proofs.Ytemmflhofhngbaa
open Go.RowKit Go.Shelf
set_option linter.unusedVariables false

/-- What First answers of the text from i on. -/
theorem firstV_at (s : ByteArray) (i : Nat) (h : i < s.size) : firstV (s.extract i s.size) = .tuple #[.agg #[.int .i32 (rn s i), .int .i64 (wd s i), .bool (decide (rn s i = 65533 ∧ wd s i = 1))], .bool true] := by
  rw [firstV_pos (by rw [ByteArray.size_extract]; omega)]
  simp only [encSpot, spotV, rn, wd, decode_suffix s i 0 (Nat.le_of_lt h), Nat.add_zero]

def boundV (s : ByteArray) (a : Int) : Bool := decide (0 ≤ a ∧ a ≤ s.size) && bdB s a.toNat

/-- The greatest bound that is not above p. -/
def cutAt (s : ByteArray) : Nat → Nat
  | 0 => 0
  | p + 1 => if bdB s (p + 1) then p + 1 else cutAt s p
theorem cutAt_le (s : ByteArray) : ∀ p, cutAt s p ≤ p
  | 0 => Nat.le_refl _
  | p + 1 => by unfold cutAt; split; exact Nat.le_refl _; exact Nat.le_succ_of_le (cutAt_le s p)
theorem cutAt_bd (s : ByteArray) : ∀ p, bdB s (cutAt s p) = true
  | 0 => bd_zero s
  | p + 1 => by
    unfold cutAt
    split
    · assumption
    · exact cutAt_bd s p
theorem cutAt_max (s : ByteArray) : ∀ p q, q ≤ p → bdB s q = true → q ≤ cutAt s p
  | 0, q, h, _ => h
  | p + 1, q, h, hq => by
    unfold cutAt
    split
    · exact h
    · rename_i hn
      exact cutAt_max s p q (by
        rcases Nat.lt_or_ge q (p + 1) with hl | hl
        · omega
        · have : q = p + 1 := by omega
          subst this; exact absurd hq hn) hq
theorem cutAt_self (s : ByteArray) (p : Nat) (h : bdB s p = true) : cutAt s p = p := Nat.le_antisymm (cutAt_le s p) (cutAt_max s p p (Nat.le_refl _) h)
theorem cutAt_pred (s : ByteArray) (p : Nat) (h : bdB s p = false) : 1 ≤ p ∧ cutAt s p = cutAt s (p - 1) := by
  cases p with
  | zero => rw [bd_zero] at h; cases h
  | succ p => refine ⟨by omega, ?_⟩; rw [cutAt, if_neg (by simp [h])]; rfl
/-- The number, brought within the text. -/
def clampV (s : ByteArray) (a : Int) : Nat := min a.toNat s.size

def joinsV (s t : ByteArray) : Bool := bdB (s.extract (s.size - 3) s.size ++ t.extract 0 (min t.size 3)) (min s.size 3)

theorem joinsV_eq (s t u v : ByteArray) (p : Nat) (hu : s.extract (s.size - 3) s.size = u) (hv : t.extract 0 (min t.size 3) = v) (hp : min s.size 3 = p) : bdB (u ++ v) p = joinsV s t := by
  unfold joinsV; rw [hu, hv, hp]
theorem extract_all (s : ByteArray) (i : Nat) (h : i = 0) : s.extract i s.size = s := by subst h; exact ByteArray.extract_zero_size
theorem extract_head (s : ByteArray) (i : Nat) (h : i = s.size) : s.extract 0 i = s := by subst h; exact ByteArray.extract_zero_size

end Go.Proofs.Ytemmflhofhngbaa
/- Last, told for every text; and what every statement asks first: that the text of an e and of a bad byte has its two spots. -/
namespace Go.Proofs.Ytemmflhofhngbaa
open Go.RowKit Go.Shelf
set_option linter.unusedVariables false

/-- Does a sequence of m bytes end the text? -/
def goodEnd (s : ByteArray) (m : Nat) : Bool := decide (m ≤ s.size ∧ wd s (s.size - m) = m ∧ ¬ (rn s (s.size - m) = 65533 ∧ wd s (s.size - m) = 1))
def lastS (s : ByteArray) : Int × Int × Bool :=
  if goodEnd s 1 then spotV s (s.size - 1) else if goodEnd s 2 then spotV s (s.size - 2) else if goodEnd s 3 then spotV s (s.size - 3) else if goodEnd s 4 then spotV s (s.size - 4) else (65533, 1, true)
def lastV (s : ByteArray) : Value := if 0 < s.size then .tuple #[encSpot (lastS s), .bool true] else .tuple #[encSpot (0, 0, false), .bool false]
theorem lastV_pos {s : ByteArray} (h : 0 < s.size) : lastV s = .tuple #[encSpot (lastS s), .bool true] := if_pos h
theorem lastV_neg {s : ByteArray} (h : ¬ 0 < s.size) : lastV s = .tuple #[encSpot (0, 0, false), .bool false] := if_neg h
theorem lastS_hit (s : ByteArray) (k : Nat) (h1 : 1 ≤ k) (h4 : k ≤ 4) (hg : goodEnd s k = true) (hn : ∀ m, m < k → 1 ≤ m → goodEnd s m = false) : lastS s = spotV s (s.size - k) := by
  have : k = 1 ∨ k = 2 ∨ k = 3 ∨ k = 4 := by omega
  unfold lastS
  rcases this with rfl | rfl | rfl | rfl
  · rw [if_pos hg]
  · rw [if_neg (by simp [hn 1]), if_pos hg]
  · rw [if_neg (by simp [hn 1]), if_neg (by simp [hn 2]), if_pos hg]
  · rw [if_neg (by simp [hn 1]), if_neg (by simp [hn 2]), if_neg (by simp [hn 3]), if_pos hg]
theorem lastS_none (s : ByteArray) (hn : ∀ m, m < 5 → 1 ≤ m → goodEnd s m = false) : lastS s = (65533, 1, true) := by
  unfold lastS
  rw [if_neg (by simp [hn 1]), if_neg (by simp [hn 2]), if_neg (by simp [hn 3]), if_neg (by simp [hn 4])]

/-- The text that every statement looks at first. -/
def text0 : ByteArray := ⟨#[195, 169, 255]⟩
theorem first0 : firstV text0 = .tuple #[.agg #[.int .i32 233, .int .i64 2, .bool false], .bool true] := by
  rw [firstV_pos (by decide)]
  have : Utf8.decode text0 0 = (233, 2) := by decide
  simp [spotV, rn, wd, this]
theorem last0 : lastV text0 = .tuple #[.agg #[.int .i32 65533, .int .i64 1, .bool true], .bool true] := by
  rw [lastV_pos (by decide), show lastS text0 = (65533, 1, true) by decide]

end Go.Proofs.Ytemmflhofhngbaa
/- Count, Runes, Clean and Valid, told for every text that is not too great. -/
namespace Go.Proofs.Ytemmflhofhngbaa
open Go.RowKit Go.Shelf
attribute [local go_sem] Oper.semAt_some
set_option linter.unusedVariables false

set_option maxRecDepth 100000 in
set_option maxHeartbeats 2000000 in
theorem count_any (s : ByteArray) (hs : s.size ≤ maxLen) (w : World) : Calls Try.prog 26 #[.string s] w fun e w' => e = .returned (.int .i64 (starts s).length) ∧ Below w.heap.size w w' := by
  unfold maxLen at hs
  go_enter Try.func26, Try.ntmps26
  go_wp2
  go_loopw [3] (fun n w' => ∃ (pre : List Nat) (pos f : Nat), w' = w.iter s pos ∧ n = .int .i64 pre.length ∧ Hz (starts s = pre ++ startsFrom s f pos) ∧ s.size ≤ pos + f) (fun _ w' => s.size - w'.iterPos w.heap.size)
  case atStart => exact ⟨[], 0, s.size, rfl, rfl, hide rfl, by omega⟩
  case round =>
    obtain ⟨pre, pos, f, rfl, rfl, HS, hf⟩ := hrel
    by_cases hp : pos < s.size
    · have hnx : ∀ ty, (Instr.next (.pointer (some ⟨w.heap.size, 0, none⟩)) true ty).run Try.prog (w.iter s pos) = _ := fun ty => run_next_any w s pos ty hp
      have hpl : (pre.length : Int) < 2 ^ 63 - 1 := by
        have h1 := starts_length s
        obtain ⟨g, rfl⟩ : ∃ g, f = g + 1 := ⟨f - 1, by omega⟩
        rw [unhide HS, List.length_append, startsFrom_cons s g pos hp] at h1
        simp at h1
        omega
      go_wp2
      have hwd := wd_pos s pos
      go_roundw
      case rel =>
        refine ⟨pre ++ [pos], pos + wd s pos, f - 1, rfl, ?_, hide ?_, by omega⟩
        · rw [List.length_append]; go_num
        · obtain ⟨g, rfl⟩ : ∃ g, f = g + 1 := ⟨f - 1, by omega⟩
          rw [unhide HS, startsFrom_cons s g pos hp]; simp
      case measure =>
        simp
        simp only [wd] at hwd
        omega
    · have hnx : ∀ ty, (Instr.next (.pointer (some ⟨w.heap.size, 0, none⟩)) true ty).run Try.prog (w.iter s pos) = _ := fun ty => run_next_end w s pos ty hp
      have hst := unhide HS
      rw [startsFrom_end s f pos hp, List.append_nil] at hst
      have HST := hide hst
      clear hst HS
      go_wp2
      go_ret
      exact ⟨by rw [unhide HST]; rfl, (Below.refl _ _).alloc (Nat.le_refl _) _⟩

/-- The runes of the spots. -/
def runesL (s : ByteArray) : List Int := (starts s).map (fun i => ((rn s i : Nat) : Int))
theorem runesFrom_eq (s : ByteArray) : ∀ f i (acc : Array Value), Conv.runesFrom s f i acc = acc ++ ((startsFrom s f i).map (fun i => Value.int .i32 (rn s i))).toArray
  | 0, i, acc => by simp [Conv.runesFrom, startsFrom]
  | f + 1, i, acc => by
    unfold Conv.runesFrom startsFrom
    split
    · show Conv.runesFrom s f (i + wd s i) (acc.push (.int .i32 (rn s i))) = _
      rw [runesFrom_eq s f]
      simp
    · simp
theorem runesFrom_all (s : ByteArray) : Conv.runesFrom s s.size 0 #[] = ((runesL s).map (Value.int .i32)).toArray := by
  rw [runesFrom_eq]; simp [runesL, starts]
theorem runesL_length (s : ByteArray) : (runesL s).length = (starts s).length := by simp [runesL]

set_option maxHeartbeats 2000000 in
theorem runes_any (s : ByteArray) (hs : s.size ≤ 70368744177664) (w : World) : Calls Try.prog 49 #[.string s] w fun e w' => ∃ cap, e = .returned (.slice (some ⟨w.heap.size, 0, none⟩) (runesL s).length cap) ∧ (runesL s).length ≤ cap ∧
    (∃ cs : Array Value, w' = w.drew.alloc (.cells (((runesL s).map (Value.int .i32)).toArray ++ cs) 21)) := by
  have hl : (Conv.runesFrom s s.size 0 #[]).size = (runesL s).length := by rw [runesFrom_all]; simp
  have h46 : (Conv.runesFrom s s.size 0 #[]).size ≤ 70368744177664 := by
    have := starts_length s; rw [hl, runesL_length]; omega
  have kc := run_runes_of_string (P := Try.prog) w 9 48 21 s Try.underlying9 Try.underlying48 Try.underlying21 h46
  have hge := grownCap_ge w (Conv.runesFrom s s.size 0 #[]).size 0 21
  rw [hl] at hge
  rw [hl, runesFrom_all] at kc
  generalize grownCap w (runesL s).length 0 21 = cap at kc hge
  generalize Array.replicate (cap - (runesL s).length) (Value.int IntKind.i32 0) = cs at kc
  clear h46 hl
  go_enter Try.func49, Try.ntmps49
  go_wp2
  go_ret
  exact ⟨cap, rfl, hge, cs, rfl⟩

theorem runes_cell (W : World) (zs : List Int) (cs : Array Value) (t : TypeId) (j : Nat) (h : j < zs.length) :
    (W.alloc (.cells ((zs.map (Value.int .i32)).toArray ++ cs) t)).cell? ((⟨W.heap.size, 0, none⟩ : Addr).add j) = some (.int .i32 (zs.getD j 0)) := by
  rw [show (⟨W.heap.size, 0, none⟩ : Addr).add j = ⟨W.heap.size, j, none⟩ by unfold Addr.add; split <;> simp_all]
  rw [(Blk.new W _ t).cell j, Array.getElem?_append_left (by simpa using h)]
  simp [List.getD, List.getElem?_eq_getElem h]

/-- The text of the runes of the spots. -/
def cleanV (s : ByteArray) : ByteArray := runesBytes (runesL s)

/-- Is what stands at i bad? -/
def badB (s : ByteArray) (i : Nat) : Bool := decide (rn s i = 65533 ∧ wd s i = 1)
def validFrom (s : ByteArray) : List Nat → Nat → Value
  | [], _ => .tuple #[.agg #[.int .i64 0, .int .i64 0], .bool true]
  | i :: l, n => if badB s i then .tuple #[.agg #[.int .i64 i, .int .i64 n], .bool false] else validFrom s l (n + 1)
def validV (s : ByteArray) : Value := validFrom s (starts s) 0
theorem validFrom_none (s : ByteArray) : ∀ (l : List Nat) (n : Nat), (∀ i ∈ l, badB s i = false) → validFrom s l n = .tuple #[.agg #[.int .i64 0, .int .i64 0], .bool true]
  | [], _, _ => rfl
  | i :: l, n, h => by
    unfold validFrom
    rw [if_neg (by rw [h i (by simp)]; simp)]
    exact validFrom_none s l (n + 1) (fun j hj => h j (by simp [hj]))
theorem validFrom_some (s : ByteArray) (x : Nat) (r : List Nat) (hx : badB s x = true) : ∀ (q : List Nat) (n : Nat), (∀ i ∈ q, badB s i = false) → validFrom s (q ++ x :: r) n = .tuple #[.agg #[.int .i64 x, .int .i64 ((n + q.length : Nat) : Int)], .bool false]
  | [], n, _ => by simp [validFrom, hx]
  | i :: q, n, h => by
    rw [List.cons_append]
    unfold validFrom
    rw [if_neg (by rw [h i (by simp)]; simp), validFrom_some s x r hx q (n + 1) (fun j hj => h j (by simp [hj]))]
    rw [show n + 1 + q.length = n + (i :: q).length by simp; omega]

end Go.Proofs.Ytemmflhofhngbaa
/- Text, told for every list of numbers: the bytes of the runes, or the refusal where one is none. -/
namespace Go.Proofs.Ytemmflhofhngbaa
open Go.RowKit Go.Shelf
set_option linter.unusedVariables false

/-- Are all numbers runes? -/
def allRunes (zs : List Int) : Bool := zs.all (fun z => !(widthOf z == 0))
def textV (zs : List Int) : Value := if allRunes zs then .tuple #[.string (runesBytes zs), .int .i64 0] else .tuple #[.string ⟨#[]⟩, .int .i64 12]

end Go.Proofs.Ytemmflhofhngbaa
/- Plain facts on two texts one behind the other: they join just if the first one's end is a bound of the whole; then the spots of the whole are those of the parts. -/
namespace Go.Proofs.Ytemmflhofhngbaa
open Go.RowKit Go.Shelf
open Go.Lib (decodeN decode_at)
set_option linter.unusedVariables false

/-- What is told with more room, and fits into less, is told with less. -/
theorem decodeN_less (n m b0 b1 b2 b3 : Nat) (hnm : n ≤ m) (hg : ¬ ((decodeN m b0 b1 b2 b3).1 = 65533 ∧ (decodeN m b0 b1 b2 b3).2 = 1)) (hw : (decodeN m b0 b1 b2 b3).2 ≤ n) : decodeN n b0 b1 b2 b3 = decodeN m b0 b1 b2 b3 := by
  by_cases h0 : b0 < 128
  · unfold decodeN; rw [if_pos h0, if_pos h0]
  by_cases h2 : b0 / 32 = 6 ∧ (1 < m ∧ b1 / 64 = 2)
  · by_cases hc : b0 % 32 * 64 + b1 % 64 ≥ 128
    · have e : decodeN m b0 b1 b2 b3 = (b0 % 32 * 64 + b1 % 64, 2) := by unfold decodeN; rw [if_neg h0, if_pos h2, if_pos hc]
      rw [e] at hw
      rw [e]
      simp only at hw
      unfold decodeN
      rw [if_neg h0, if_pos ⟨h2.1, by omega, h2.2.2⟩, if_pos hc]
    · have e : decodeN m b0 b1 b2 b3 = (65533, 1) := by unfold decodeN; rw [if_neg h0, if_pos h2, if_neg hc]
      rw [e] at hg
      exact absurd ⟨rfl, rfl⟩ hg
  by_cases h3 : b0 / 16 = 14 ∧ (1 < m ∧ b1 / 64 = 2) ∧ (2 < m ∧ b2 / 64 = 2)
  · by_cases hc : b0 % 16 * 4096 + b1 % 64 * 64 + b2 % 64 ≥ 2048 ∧ (b0 % 16 * 4096 + b1 % 64 * 64 + b2 % 64 < 55296 ∨ (57344 ≤ b0 % 16 * 4096 + b1 % 64 * 64 + b2 % 64 ∧ b0 % 16 * 4096 + b1 % 64 * 64 + b2 % 64 ≤ 1114111))
    · have e : decodeN m b0 b1 b2 b3 = (b0 % 16 * 4096 + b1 % 64 * 64 + b2 % 64, 3) := by unfold decodeN; rw [if_neg h0, if_neg h2, if_pos h3, if_pos hc]
      rw [e] at hw
      rw [e]
      simp only at hw
      unfold decodeN
      rw [if_neg h0, if_neg (by omega), if_pos ⟨h3.1, ⟨by omega, h3.2.1.2⟩, ⟨by omega, h3.2.2.2⟩⟩, if_pos hc]
    · have e : decodeN m b0 b1 b2 b3 = (65533, 1) := by unfold decodeN; rw [if_neg h0, if_neg h2, if_pos h3, if_neg hc]
      rw [e] at hg
      exact absurd ⟨rfl, rfl⟩ hg
  by_cases h4 : b0 / 8 = 30 ∧ (1 < m ∧ b1 / 64 = 2) ∧ (2 < m ∧ b2 / 64 = 2) ∧ (3 < m ∧ b3 / 64 = 2)
  · by_cases hc : b0 % 8 * 262144 + b1 % 64 * 4096 + b2 % 64 * 64 + b3 % 64 ≥ 65536 ∧ (b0 % 8 * 262144 + b1 % 64 * 4096 + b2 % 64 * 64 + b3 % 64 < 55296 ∨ (57344 ≤ b0 % 8 * 262144 + b1 % 64 * 4096 + b2 % 64 * 64 + b3 % 64 ∧ b0 % 8 * 262144 + b1 % 64 * 4096 + b2 % 64 * 64 + b3 % 64 ≤ 1114111))
    · have e : decodeN m b0 b1 b2 b3 = (b0 % 8 * 262144 + b1 % 64 * 4096 + b2 % 64 * 64 + b3 % 64, 4) := by unfold decodeN; rw [if_neg h0, if_neg h2, if_neg h3, if_pos h4, if_pos hc]
      rw [e] at hw
      rw [e]
      simp only at hw
      unfold decodeN
      rw [if_neg h0, if_neg (by omega), if_neg (by omega), if_pos ⟨h4.1, ⟨by omega, h4.2.1.2⟩, ⟨by omega, h4.2.2.1.2⟩, ⟨by omega, h4.2.2.2.2⟩⟩, if_pos hc]
    · have e : decodeN m b0 b1 b2 b3 = (65533, 1) := by unfold decodeN; rw [if_neg h0, if_neg h2, if_neg h3, if_pos h4, if_neg hc]
      rw [e] at hg
      exact absurd ⟨rfl, rfl⟩ hg
  · have e : decodeN m b0 b1 b2 b3 = (65533, 1) := by unfold decodeN; rw [if_neg h0, if_neg h2, if_neg h3, if_neg h4]
    rw [e] at hg
    exact absurd ⟨rfl, rfl⟩ hg
/-- What is told with less room is told with more. -/
theorem decodeN_more (n m b0 b1 b2 b3 : Nat) (hnm : n ≤ m) (hn : 1 ≤ n) (h1 : b1 < 256) (h2 : b2 < 256) (h3 : b3 < 256) (h0 : b0 < 256) (hg : ¬ ((decodeN n b0 b1 b2 b3).1 = 65533 ∧ (decodeN n b0 b1 b2 b3).2 = 1)) : decodeN m b0 b1 b2 b3 = decodeN n b0 b1 b2 b3 := by
  have t := told n b0 b1 b2 b3 h0 h1 h2 h3
  by_cases hm : 4 ≤ n
  · exact decodeN_room m n _ _ _ _ (.inr ⟨by omega, hm⟩)
  by_cases c0 : b0 < 128
  · unfold decodeN; rw [if_pos c0, if_pos c0]
  by_cases c2 : b0 / 32 = 6 ∧ (1 < n ∧ b1 / 64 = 2)
  · unfold decodeN
    rw [if_neg c0, if_neg c0, if_pos c2, if_pos ⟨c2.1, by omega, c2.2.2⟩]
  by_cases c3 : b0 / 16 = 14 ∧ (1 < n ∧ b1 / 64 = 2) ∧ (2 < n ∧ b2 / 64 = 2)
  · unfold decodeN
    rw [if_neg c0, if_neg c0, if_neg c2, if_neg (by omega), if_pos c3, if_pos ⟨c3.1, ⟨by omega, c3.2.1.2⟩, ⟨by omega, c3.2.2.2⟩⟩]
  · have e : decodeN n b0 b1 b2 b3 = (65533, 1) := by unfold decodeN; rw [if_neg c0, if_neg c2, if_neg c3, if_neg (by omega)]
    rw [e] at hg
    exact absurd ⟨rfl, rfl⟩ hg

theorem get_append (u v : ByteArray) (i : Nat) : (u ++ v).get! i = if i < u.size then u.get! i else v.get! (i - u.size) := by
  by_cases h : i < u.size
  · rw [if_pos h, get_lt _ _ (by rw [ByteArray.size_append]; omega), get_lt _ _ h]
    simp [Array.getElem_append_left, h]
  · rw [if_neg h]
    by_cases k : i < (u ++ v).size
    · rw [get_lt _ _ k, get_lt _ _ (by rw [ByteArray.size_append] at k; omega)]
      simp [Array.getElem_append_right, Nat.le_of_not_lt h]
    · rw [get_ge _ _ (by omega), get_ge _ _ (by rw [ByteArray.size_append] at k; omega)]
theorem bt_left (s t : ByteArray) (i : Nat) (h : i < s.size) : bt (s ++ t) i = bt s i := by unfold bt; rw [get_append, if_pos h]
theorem bt_right (s t : ByteArray) (j : Nat) : bt (s ++ t) (s.size + j) = bt t j := by unfold bt; rw [get_append, if_neg (by omega)]; congr 2; omega

theorem decode_left (s t : ByteArray) (i : Nat) (hi : i < s.size) : Utf8.decode s i = decodeN (s.size - i) (bt (s ++ t) i) (bt (s ++ t) (i + 1)) (bt (s ++ t) (i + 2)) (bt (s ++ t) (i + 3)) := by
  rw [decode_at, bt_left s t i hi]
  refine decodeN_cong _ _ _ _ _ _ _ _ (fun h => ?_) (fun h => ?_) (fun h => ?_)
  · exact (bt_left s t _ (by omega)).symm
  · exact (bt_left s t _ (by omega)).symm
  · exact (bt_left s t _ (by omega)).symm
/-- A sequence of the first text is one of the whole. -/
theorem decode_grow (s t : ByteArray) (i : Nat) (hi : i < s.size) (hg : ¬ (rn s i = 65533 ∧ wd s i = 1)) : Utf8.decode (s ++ t) i = Utf8.decode s i := by
  have e := decode_left s t i hi
  simp only [rn, wd] at hg
  rw [e] at hg ⊢
  rw [decode_at]
  exact decodeN_more _ _ _ _ _ _ (by rw [ByteArray.size_append]; omega) (by omega) (bt_lt _ _) (bt_lt _ _) (bt_lt _ _) (bt_lt _ _) hg
/-- What stands in the whole and ends within the first text stands there. -/
theorem decode_part (s t : ByteArray) (i : Nat) (hi : i < s.size) (hw : i + wd (s ++ t) i ≤ s.size) : Utf8.decode s i = Utf8.decode (s ++ t) i := by
  by_cases hg : rn s i = 65533 ∧ wd s i = 1
  · by_cases hk : rn (s ++ t) i = 65533 ∧ wd (s ++ t) i = 1
    · exact Prod.ext (hg.1.trans hk.1.symm) (hg.2.trans hk.2.symm)
    · have e := decode_left s t i hi
      have e2 : Utf8.decode (s ++ t) i = decodeN ((s ++ t).size - i) (bt (s ++ t) i) (bt (s ++ t) (i + 1)) (bt (s ++ t) (i + 2)) (bt (s ++ t) (i + 3)) := decode_at _ _
      rw [e, e2]
      simp only [rn, wd] at hk hw
      rw [e2] at hk hw
      exact decodeN_less _ _ _ _ _ _ (by rw [ByteArray.size_append]; omega) hk (by omega)
  · exact (decode_grow s t i hi hg).symm
theorem decode_behind (s t : ByteArray) (j : Nat) : Utf8.decode (s ++ t) (s.size + j) = Utf8.decode t j := by
  rw [decode_at, decode_at, ByteArray.size_append, show s.size + t.size - (s.size + j) = t.size - j by omega]
  have h := bt_right s t
  unfold bt at h
  rw [h j, show s.size + j + 1 = s.size + (j + 1) by omega, h, show s.size + j + 2 = s.size + (j + 2) by omega, h, show s.size + j + 3 = s.size + (j + 3) by omega, h]

theorem startsFrom_behind (s t : ByteArray) : ∀ f j, startsFrom (s ++ t) f (s.size + j) = (startsFrom t f j).map (s.size + ·)
  | 0, j => rfl
  | f + 1, j => by
    unfold startsFrom
    rw [ByteArray.size_append]
    by_cases h : j < t.size
    · rw [if_pos (by omega), if_pos h, List.map_cons]
      have e : wd (s ++ t) (s.size + j) = wd t j := by simp only [wd]; rw [decode_behind]
      rw [e, Nat.add_assoc, startsFrom_behind s t f]
    · rw [if_neg (by omega), if_neg h]; rfl
theorem startsFrom_fuel (s : ByteArray) : ∀ f g i, s.size ≤ i + f → s.size ≤ i + g → startsFrom s f i = startsFrom s g i
  | 0, g, i, hf, hg => by rw [startsFrom_end s g i (by omega)]; rfl
  | f + 1, 0, i, hf, hg => by rw [startsFrom_end s (f + 1) i (by omega)]; rfl
  | f + 1, g + 1, i, hf, hg => by
    unfold startsFrom
    by_cases h : i < s.size
    · have := wd_pos s i
      rw [if_pos h, if_pos h, startsFrom_fuel s f g _ (by omega) (by omega)]
    · rw [if_neg h, if_neg h]
theorem startsFrom_both (s t : ByteArray) (hb : bdB (s ++ t) s.size = true) : ∀ f i, s.size + t.size ≤ i + f → i ≤ s.size → bdB (s ++ t) i = true →
    startsFrom (s ++ t) f i = startsFrom s f i ++ (starts t).map (s.size + ·) ∧ ∀ p ∈ startsFrom s f i, Utf8.decode s p = Utf8.decode (s ++ t) p
  | 0, i, hf, hi, hbi => by
    have : s.size = 0 ∨ t.size = 0 := by omega
    have ht : t.size = 0 := by omega
    refine ⟨?_, fun p hp => by cases hp⟩
    rw [show starts t = [] from startsFrom_end t _ _ (by omega)]
    rfl
  | f + 1, i, hf, hi, hbi => by
    by_cases h : i < s.size
    · have hw := wd_pos (s ++ t) i
      have hr : i + wd (s ++ t) i ≤ s.size := by
        rcases Nat.lt_or_ge s.size (i + wd (s ++ t) i) with hx | hx
        · have h4 := wd_four (s ++ t) i
          have := (bd_iff (s ++ t) s.size).1 hb (s.size - i) (by omega) (by omega) (by omega)
          rw [show s.size - (s.size - i) = i by omega] at this
          omega
        · exact hx
      have e := decode_part s t i h hr
      have ew : wd s i = wd (s ++ t) i := by simp only [wd]; rw [e]
      obtain ⟨h1, h2⟩ := startsFrom_both s t hb f (i + wd (s ++ t) i) (by omega) hr (bd_step (s ++ t) i hbi (by rw [ByteArray.size_append]; omega))
      rw [startsFrom_cons (s ++ t) f i (by rw [ByteArray.size_append]; omega), startsFrom_cons s f i h, h1, ew]
      refine ⟨rfl, fun p hp => ?_⟩
      rcases List.mem_cons.1 hp with rfl | hp
      · exact e
      · exact h2 p hp
    · obtain rfl : i = s.size := by omega
      rw [startsFrom_end s _ _ h]
      refine ⟨?_, fun p hp => by cases hp⟩
      have := startsFrom_behind s t (f + 1) 0
      rw [List.nil_append, show starts t = startsFrom t (f + 1) 0 from startsFrom_fuel t _ _ _ (by omega) (by omega)]
      exact this
theorem starts_both (s t : ByteArray) (hb : bdB (s ++ t) s.size = true) : starts (s ++ t) = starts s ++ (starts t).map (s.size + ·) ∧ (∀ p ∈ starts s, Utf8.decode s p = Utf8.decode (s ++ t) p) := by
  obtain ⟨h1, h2⟩ := startsFrom_both s t hb (s.size + t.size) 0 (by omega) (by omega) (bd_zero _)
  have e : startsFrom s (s.size + t.size) 0 = starts s := startsFrom_fuel s _ _ _ (by omega) (by omega)
  rw [e] at h1 h2
  refine ⟨?_, h2⟩
  unfold starts
  rw [ByteArray.size_append]
  exact h1
theorem runesL_both (s t : ByteArray) (hb : bdB (s ++ t) s.size = true) : runesL (s ++ t) = runesL s ++ runesL t := by
  obtain ⟨h1, h2⟩ := starts_both s t hb
  unfold runesL
  rw [h1, List.map_append, List.map_map]
  congr 1
  · refine List.map_congr_left (fun p hp => ?_)
    simp only [rn]
    rw [h2 p hp]
  · refine List.map_congr_left (fun p hp => ?_)
    simp only [Function.comp, rn]
    rw [decode_behind]
theorem foldl_enc (l : List Int) : ∀ r : ByteArray, l.foldl (fun r n => r ++ Utf8.encode n) r = r ++ l.foldl (fun r n => r ++ Utf8.encode n) ByteArray.empty := by
  induction l with
  | nil => intro r; simp
  | cons a l ih =>
    intro r
    rw [List.foldl_cons, ih, List.foldl_cons, ih (ByteArray.empty ++ Utf8.encode a), ByteArray.append_assoc]
    simp
theorem runesBytes_both (a b : List Int) : runesBytes (a ++ b) = runesBytes a ++ runesBytes b := by
  unfold runesBytes
  rw [List.foldl_append, foldl_enc b]
theorem cleanV_both (s t : ByteArray) (hb : bdB (s ++ t) s.size = true) : cleanV (s ++ t) = cleanV s ++ cleanV t := by
  unfold cleanV
  rw [runesL_both s t hb, runesBytes_both]

/-- Cut at p, the two parts join just if p is a bound. -/
theorem joins_cut (s : ByteArray) (p : Nat) (h : p ≤ s.size) : joinsV (s.extract 0 p) (s.extract p s.size) = bdB s p := by
  unfold joinsV
  have e0 : (s.extract 0 p).size = p := by rw [ByteArray.size_extract]; omega
  have e1 : (s.extract p s.size).size = s.size - p := by rw [ByteArray.size_extract]; omega
  rw [e0, e1, ByteArray.extract_extract, ByteArray.extract_extract]
  symm
  refine bd_near s _ p _ h ?_ ?_ ?_ ?_
  · rw [ByteArray.size_append, ByteArray.size_extract, ByteArray.size_extract]; omega
  · omega
  · rw [ByteArray.size_append, ByteArray.size_extract, ByteArray.size_extract]; omega
  · intro i j hij hi hj h3 h4
    rw [ByteArray.size_append, ByteArray.size_extract, ByteArray.size_extract] at hj
    unfold bt
    rw [get_append, ByteArray.size_extract]
    split
    · rw [get_extract _ _ _ _ (by omega) (by omega)]
      congr 2; omega
    · rw [get_extract _ _ _ _ (by omega) (by omega)]
      congr 2; omega
/-- Two texts join just if the first one's end is a bound of the whole. -/
theorem joins_bd (s t : ByteArray) : joinsV s t = bdB (s ++ t) s.size := by
  have := joins_cut (s ++ t) s.size (by rw [ByteArray.size_append]; omega)
  rw [ByteArray.extract_append_eq_left rfl, ByteArray.extract_append_eq_right rfl (by rw [ByteArray.size_append])] at this
  exact this
/-- Three bytes at each side tell it. -/
theorem joins_near (s t : ByteArray) : joinsV (s.extract (s.size - 3) s.size) (t.extract 0 (min t.size 3)) = joinsV s t := by
  have e0 : (s.extract (s.size - 3) s.size).size = min s.size 3 := by rw [ByteArray.size_extract]; omega
  have e1 : (t.extract 0 (min t.size 3)).size = min t.size 3 := by rw [ByteArray.size_extract]; omega
  unfold joinsV
  rw [extract_all (s.extract (s.size - 3) s.size) _ (by rw [e0]; omega), extract_head (t.extract 0 (min t.size 3)) _ (by rw [e1]; omega), e0]
  congr 1
  omega

/-- A byte that goes on no sequence is at a bound. -/
theorem bd_lead (s : ByteArray) (i : Nat) (h : bt s i / 64 ≠ 2) : bdB s i = true := by
  rw [bd_iff]
  intro n h4 h1 hn
  rcases Nat.lt_or_ge n (wd s (i - n)) with hx | hx
  · have := wd_cont s (i - n) n (by omega) hx
    rw [show i - n + n = i by omega] at this
    exact absurd this h
  · exact hx
theorem startsFrom_mem (s : ByteArray) : ∀ f i, s.size ≤ i + f → bdB s i = true → ∀ p, i ≤ p → p < s.size → bdB s p = true → p ∈ startsFrom s f i
  | 0, i, hf, hb, p, h1, h2, hp => by omega
  | f + 1, i, hf, hb, p, h1, h2, hp => by
    have hi : i < s.size := by omega
    have hw := wd_pos s i
    have h4 := wd_four s i
    rw [startsFrom_cons s f i hi, List.mem_cons]
    by_cases e : p = i
    · exact .inl e
    · refine .inr ?_
      rcases Nat.lt_or_ge p (i + wd s i) with hlt | hge
      · have := (bd_iff s p).1 hp (p - i) (by omega) (by omega) (by omega)
        rw [show p - (p - i) = i by omega] at this
        omega
      · exact startsFrom_mem s f (i + wd s i) (by omega) (bd_step s i hb hi) p hge h2 hp
theorem starts_mem (s : ByteArray) (p : Nat) (h : p < s.size) (hb : bdB s p = true) : p ∈ starts s := startsFrom_mem s s.size 0 (by omega) (bd_zero s) p (Nat.zero_le _) h hb

/-- A text without bad spots joins with any behind it, and any ahead of it. -/
theorem joins_valid_left (s t : ByteArray) (hv : ∀ i ∈ starts s, badB s i = false) : joinsV s t = true := by
  rw [joins_bd, bd_iff]
  intro n h4 h1 hn
  rcases Nat.lt_or_ge n (wd (s ++ t) (s.size - n)) with hx | hx
  · exfalso
    have hi : s.size - n < s.size := by omega
    have hl := wd_lead (s ++ t) (s.size - n) (by omega)
    rw [bt_left s t _ hi] at hl
    have hb := hv _ (starts_mem s _ hi (bd_lead s _ (by have := bt_lt s (s.size - n); omega)))
    unfold badB at hb
    have hg := of_decide_eq_false hb
    have e := decode_grow s t (s.size - n) hi hg
    have hr := wd_room s (s.size - n) hi
    simp only [wd] at hx hr
    rw [e] at hx
    omega
  · exact hx
theorem joins_valid_right (s t : ByteArray) (hv : ∀ i ∈ starts t, badB t i = false) : joinsV s t = true := by
  rw [joins_bd, bd_iff]
  intro n h4 h1 hn
  rcases Nat.lt_or_ge n (wd (s ++ t) (s.size - n)) with hx | hx
  · exfalso
    have hr := wd_room (s ++ t) (s.size - n) (by rw [ByteArray.size_append]; omega)
    rw [ByteArray.size_append] at hr
    have hc := wd_cont (s ++ t) (s.size - n) n (by omega) hx
    rw [show s.size - n + n = s.size + 0 by omega, bt_right] at hc
    have ht : 0 < t.size := by omega
    obtain ⟨r, hr0⟩ := starts_head t ht
    have hb := hv 0 (by rw [hr0]; simp)
    unfold badB at hb
    have hg := of_decide_eq_false hb
    have tl := at_told t 0
    rcases Nat.lt_or_ge (wd t 0) 2 with h2 | h2
    · have := tl.one (by have := wd_pos t 0; simp only [wd] at h2 this; omega)
      rcases this with ⟨a, _⟩ | ⟨_, a⟩
      · exact hg ⟨a, by have := wd_pos t 0; omega⟩
      · have : bt t 0 < 128 := a
        omega
    · have := wd_lead t 0 h2
      omega
  · exact hx
theorem validV_cases (s : ByteArray) : (∃ x y, validV s = .tuple #[.agg #[.int .i64 x, .int .i64 y], .bool false]) ∨ (validV s = .tuple #[.agg #[.int .i64 0, .int .i64 0], .bool true] ∧ ∀ i ∈ starts s, badB s i = false) := by
  have key : ∀ (l : List Nat) (n : Nat), (∃ x y, validFrom s l n = .tuple #[.agg #[.int .i64 x, .int .i64 y], .bool false]) ∨ (validFrom s l n = .tuple #[.agg #[.int .i64 0, .int .i64 0], .bool true] ∧ ∀ i ∈ l, badB s i = false) := by
    intro l
    induction l with
    | nil => intro n; exact .inr ⟨rfl, fun i hi => by cases hi⟩
    | cons a l ih =>
      intro n
      unfold validFrom
      cases hb : badB s a with
      | true => exact .inl ⟨_, _, by simp; exact ⟨rfl, rfl⟩⟩
      | false =>
        rcases ih (n + 1) with ⟨x, y, h⟩ | ⟨h, h2⟩
        · exact .inl ⟨x, y, by simp [h]⟩
        · refine .inr ⟨by simp [h], fun i hi => ?_⟩
          rcases List.mem_cons.1 hi with rfl | hi
          · exact hb
          · exact h2 i hi
  exact key _ _
end Go.Proofs.Ytemmflhofhngbaa
/- Plain facts on the bytes of runes: what is written of a rune is read as that rune; a text without bad spots is what its runes are written as. -/
namespace Go.Proofs.Ytemmflhofhngbaa
open Go.RowKit Go.Shelf
open Go.Lib (decodeN decode_at)
set_option linter.unusedVariables false

theorem valid_of_width {z : Int} (h : widthOf z ≠ 0) : Utf8.valid z = true ∧ 0 ≤ z ∧ z ≤ 1114111 ∧ ¬ (55296 ≤ z ∧ z ≤ 57343) := by
  unfold widthOf at h
  split at h
  · exact absurd rfl h
  · rename_i hh
    refine ⟨?_, by omega, by omega, by omega⟩
    simp only [Utf8.valid, Bool.or_eq_true, Bool.and_eq_true, decide_eq_true_eq]
    omega

theorem enc1 {z : Int} (h : widthOf z ≠ 0) (h1 : z < 128) : Utf8.encode z = ⟨#[UInt8.ofNat z.toNat]⟩ := by
  obtain ⟨hv, h0, _, _⟩ := valid_of_width h
  unfold Utf8.encode
  simp only [hv, if_true]
  rw [if_pos (by omega)]
theorem enc2 {z : Int} (h : widthOf z ≠ 0) (h1 : 128 ≤ z) (h2 : z < 2048) : Utf8.encode z = ⟨#[UInt8.ofNat (0xC0 + z.toNat / 64), UInt8.ofNat (0x80 + z.toNat % 64)]⟩ := by
  obtain ⟨hv, h0, _, _⟩ := valid_of_width h
  unfold Utf8.encode
  simp only [hv, if_true]
  rw [if_neg (by omega), if_pos (by omega)]
theorem enc3 {z : Int} (h : widthOf z ≠ 0) (h1 : 2048 ≤ z) (h2 : z < 65536) : Utf8.encode z = ⟨#[UInt8.ofNat (0xE0 + z.toNat / 4096), UInt8.ofNat (0x80 + z.toNat / 64 % 64), UInt8.ofNat (0x80 + z.toNat % 64)]⟩ := by
  obtain ⟨hv, h0, _, _⟩ := valid_of_width h
  unfold Utf8.encode
  simp only [hv, if_true]
  rw [if_neg (by omega), if_neg (by omega), if_pos (by omega)]
theorem enc4 {z : Int} (h : widthOf z ≠ 0) (h1 : 65536 ≤ z) : Utf8.encode z = ⟨#[UInt8.ofNat (0xF0 + z.toNat / 262144), UInt8.ofNat (0x80 + z.toNat / 4096 % 64), UInt8.ofNat (0x80 + z.toNat / 64 % 64), UInt8.ofNat (0x80 + z.toNat % 64)]⟩ := by
  obtain ⟨hv, h0, _, _⟩ := valid_of_width h
  unfold Utf8.encode
  simp only [hv, if_true]
  rw [if_neg (by omega), if_neg (by omega), if_neg (by omega)]
theorem u8n (n : Nat) (h : n < 256) : (UInt8.ofNat n).toNat = n := by rw [UInt8.toNat_ofNat']; omega

/-- What is written of a rune is read as that rune, of its width. -/
theorem decode_enc {z : Int} (h : widthOf z ≠ 0) : Utf8.decode (Utf8.encode z) 0 = (z.toNat, (Utf8.encode z).size) ∧ ((Utf8.encode z).size : Int) = widthOf z := by
  obtain ⟨hv, h0, h1, h2⟩ := valid_of_width h
  by_cases c1 : z < 128
  · rw [enc1 h c1]
    refine ⟨?_, ?_⟩
    · rw [decode_at]
      have e0 : ((⟨#[UInt8.ofNat z.toNat]⟩ : ByteArray).get! 0).toNat = z.toNat := by show (UInt8.ofNat z.toNat).toNat = _; exact u8n _ (by omega)
      rw [e0]
      unfold decodeN
      rw [if_pos (by omega)]
      rfl
    · unfold widthOf; rw [if_neg (by omega), if_pos (by omega)]; rfl
  by_cases c2 : z < 2048
  · rw [enc2 h (by omega) c2]
    refine ⟨?_, ?_⟩
    · rw [decode_at]
      have e0 : ((⟨#[UInt8.ofNat (0xC0 + z.toNat / 64), UInt8.ofNat (0x80 + z.toNat % 64)]⟩ : ByteArray).get! 0).toNat = 192 + z.toNat / 64 := by show (UInt8.ofNat (0xC0 + z.toNat / 64)).toNat = _; exact u8n _ (by omega)
      have e1 : ((⟨#[UInt8.ofNat (0xC0 + z.toNat / 64), UInt8.ofNat (0x80 + z.toNat % 64)]⟩ : ByteArray).get! (0 + 1)).toNat = 128 + z.toNat % 64 := by show (UInt8.ofNat (0x80 + z.toNat % 64)).toNat = _; exact u8n _ (by omega)
      rw [e0, e1]
      show decodeN 2 _ _ _ _ = (_, 2)
      unfold decodeN
      rw [if_neg (by omega), if_pos (by omega), if_pos (by omega)]
      rw [Prod.mk.injEq]
      exact ⟨by omega, rfl⟩
    · unfold widthOf; rw [if_neg (by omega), if_neg (by omega), if_pos (by omega)]; rfl
  by_cases c3 : z < 65536
  · rw [enc3 h (by omega) c3]
    refine ⟨?_, ?_⟩
    · rw [decode_at]
      have e0 : ((⟨#[UInt8.ofNat (0xE0 + z.toNat / 4096), UInt8.ofNat (0x80 + z.toNat / 64 % 64), UInt8.ofNat (0x80 + z.toNat % 64)]⟩ : ByteArray).get! 0).toNat = 224 + z.toNat / 4096 := by show (UInt8.ofNat (0xE0 + z.toNat / 4096)).toNat = _; exact u8n _ (by omega)
      have e1 : ((⟨#[UInt8.ofNat (0xE0 + z.toNat / 4096), UInt8.ofNat (0x80 + z.toNat / 64 % 64), UInt8.ofNat (0x80 + z.toNat % 64)]⟩ : ByteArray).get! (0 + 1)).toNat = 128 + z.toNat / 64 % 64 := by show (UInt8.ofNat (0x80 + z.toNat / 64 % 64)).toNat = _; exact u8n _ (by omega)
      have e2 : ((⟨#[UInt8.ofNat (0xE0 + z.toNat / 4096), UInt8.ofNat (0x80 + z.toNat / 64 % 64), UInt8.ofNat (0x80 + z.toNat % 64)]⟩ : ByteArray).get! (0 + 2)).toNat = 128 + z.toNat % 64 := by show (UInt8.ofNat (0x80 + z.toNat % 64)).toNat = _; exact u8n _ (by omega)
      rw [e0, e1, e2]
      show decodeN 3 _ _ _ _ = (_, 3)
      unfold decodeN
      rw [if_neg (by omega), if_neg (by omega), if_pos (by omega), if_pos (by omega)]
      rw [Prod.mk.injEq]
      exact ⟨by omega, rfl⟩
    · unfold widthOf; rw [if_neg (by omega), if_neg (by omega), if_neg (by omega), if_pos (by omega)]; rfl
  · rw [enc4 h (by omega)]
    refine ⟨?_, ?_⟩
    · rw [decode_at]
      have e0 : ((⟨#[UInt8.ofNat (0xF0 + z.toNat / 262144), UInt8.ofNat (0x80 + z.toNat / 4096 % 64), UInt8.ofNat (0x80 + z.toNat / 64 % 64), UInt8.ofNat (0x80 + z.toNat % 64)]⟩ : ByteArray).get! 0).toNat = 240 + z.toNat / 262144 := by show (UInt8.ofNat (0xF0 + z.toNat / 262144)).toNat = _; exact u8n _ (by omega)
      have e1 : ((⟨#[UInt8.ofNat (0xF0 + z.toNat / 262144), UInt8.ofNat (0x80 + z.toNat / 4096 % 64), UInt8.ofNat (0x80 + z.toNat / 64 % 64), UInt8.ofNat (0x80 + z.toNat % 64)]⟩ : ByteArray).get! (0 + 1)).toNat = 128 + z.toNat / 4096 % 64 := by show (UInt8.ofNat (0x80 + z.toNat / 4096 % 64)).toNat = _; exact u8n _ (by omega)
      have e2 : ((⟨#[UInt8.ofNat (0xF0 + z.toNat / 262144), UInt8.ofNat (0x80 + z.toNat / 4096 % 64), UInt8.ofNat (0x80 + z.toNat / 64 % 64), UInt8.ofNat (0x80 + z.toNat % 64)]⟩ : ByteArray).get! (0 + 2)).toNat = 128 + z.toNat / 64 % 64 := by show (UInt8.ofNat (0x80 + z.toNat / 64 % 64)).toNat = _; exact u8n _ (by omega)
      have e3 : ((⟨#[UInt8.ofNat (0xF0 + z.toNat / 262144), UInt8.ofNat (0x80 + z.toNat / 4096 % 64), UInt8.ofNat (0x80 + z.toNat / 64 % 64), UInt8.ofNat (0x80 + z.toNat % 64)]⟩ : ByteArray).get! (0 + 3)).toNat = 128 + z.toNat % 64 := by show (UInt8.ofNat (0x80 + z.toNat % 64)).toNat = _; exact u8n _ (by omega)
      rw [e0, e1, e2, e3]
      show decodeN 4 _ _ _ _ = (_, 4)
      unfold decodeN
      rw [if_neg (by omega), if_neg (by omega), if_neg (by omega), if_pos (by omega), if_pos (by omega)]
      rw [Prod.mk.injEq]
      exact ⟨by omega, rfl⟩
    · unfold widthOf; rw [if_neg (by omega), if_neg (by omega), if_neg (by omega), if_neg (by omega)]; rfl

theorem starts_enc {z : Int} (h : widthOf z ≠ 0) : starts (Utf8.encode z) = [0] ∧ badB (Utf8.encode z) 0 = false ∧ runesL (Utf8.encode z) = [z] := by
  obtain ⟨hd, hw⟩ := decode_enc h
  obtain ⟨hv, h0, h1, h2⟩ := valid_of_width h
  have hsz : 1 ≤ (Utf8.encode z).size := by
    have : (0 : Int) ≤ widthOf z := by
      unfold widthOf
      repeat' split
      all_goals omega
    omega
  have hs : starts (Utf8.encode z) = [0] := by
    unfold starts
    obtain ⟨m, hm⟩ : ∃ m, (Utf8.encode z).size = m + 1 := ⟨(Utf8.encode z).size - 1, by omega⟩
    have hwd : wd (Utf8.encode z) 0 = (Utf8.encode z).size := by simp only [wd]; rw [hd]
    rw [hm, startsFrom_cons _ m 0 (by omega), hwd, startsFrom_end _ _ _ (by omega)]
  refine ⟨hs, ?_, ?_⟩
  · unfold badB
    refine decide_eq_false ?_
    simp only [rn, wd, hd]
    rintro ⟨a, b⟩
    unfold widthOf at hw
    rw [b] at hw
    repeat' split at hw
    all_goals omega
  · unfold runesL
    rw [hs]
    simp only [List.map_cons, List.map_nil, rn, hd]
    rw [Int.toNat_of_nonneg h0]

theorem runesBytes_cons (z : Int) (zs : List Int) : runesBytes (z :: zs) = Utf8.encode z ++ runesBytes zs := by
  have := runesBytes_both [z] zs
  rw [List.singleton_append] at this
  rw [this, show runesBytes [z] = Utf8.encode z by unfold runesBytes; simp]
theorem badB_both (s t : ByteArray) (hb : bdB (s ++ t) s.size = true) (h1 : ∀ i ∈ starts s, badB s i = false) (h2 : ∀ i ∈ starts t, badB t i = false) : ∀ i ∈ starts (s ++ t), badB (s ++ t) i = false := by
  obtain ⟨e, hd⟩ := starts_both s t hb
  rw [e]
  intro i hi
  rcases List.mem_append.1 hi with hi | hi
  · rw [← h1 i hi]
    unfold badB
    simp only [rn, wd, hd i hi]
  · obtain ⟨j, hj, rfl⟩ := List.mem_map.1 hi
    rw [← h2 j hj]
    unfold badB
    simp only [rn, wd, decode_behind]
/-- Runes that are written are read back; nothing in what is written is bad. -/
theorem runes_back : ∀ zs : List Int, (∀ z ∈ zs, widthOf z ≠ 0) → runesL (runesBytes zs) = zs ∧ ∀ i ∈ starts (runesBytes zs), badB (runesBytes zs) i = false
  | [], _ => by
    have e : starts (runesBytes []) = [] := by decide
    exact ⟨by unfold runesL; rw [e]; rfl, by rw [e]; intro i hi; cases hi⟩
  | z :: zs, h => by
    obtain ⟨h1, h2⟩ := runes_back zs (fun y hy => h y (by simp [hy]))
    obtain ⟨e1, e2, e3⟩ := starts_enc (h z (by simp))
    have hv : ∀ i ∈ starts (Utf8.encode z), badB (Utf8.encode z) i = false := by rw [e1]; intro i hi; simp at hi; rw [hi]; exact e2
    have hj := joins_valid_left (Utf8.encode z) (runesBytes zs) hv
    rw [joins_bd] at hj
    rw [runesBytes_cons]
    exact ⟨by rw [runesL_both _ _ hj, h1, e3]; rfl, badB_both _ _ hj hv h2⟩

theorem rn_rune (s : ByteArray) (i : Nat) : widthOf ((rn s i : Nat) : Int) ≠ 0 := by
  have t := at_told s i
  have h1 := t.small
  have h2 := t.nosur
  unfold widthOf
  simp only [rn]
  rw [if_neg (by omega)]
  repeat' split
  all_goals decide
theorem runesL_runes (s : ByteArray) : ∀ z ∈ runesL s, widthOf z ≠ 0 := by
  intro z hz
  unfold runesL at hz
  obtain ⟨i, _, rfl⟩ := List.mem_map.1 hz
  exact rn_rune s i

/-- How the bytes of a sequence hang together with its rune. -/
theorem decodeN_bytes (n b0 b1 b2 b3 : Nat) (h0 : b0 < 256) (h1 : b1 < 256) (h2 : b2 < 256) (h3 : b3 < 256) (hg : ¬ ((decodeN n b0 b1 b2 b3).1 = 65533 ∧ (decodeN n b0 b1 b2 b3).2 = 1)) :
    ((decodeN n b0 b1 b2 b3).2 = 1 ∧ (decodeN n b0 b1 b2 b3).1 = b0 ∧ b0 < 128) ∨
    ((decodeN n b0 b1 b2 b3).2 = 2 ∧ b0 = 192 + (decodeN n b0 b1 b2 b3).1 / 64 ∧ b1 = 128 + (decodeN n b0 b1 b2 b3).1 % 64) ∨
    ((decodeN n b0 b1 b2 b3).2 = 3 ∧ b0 = 224 + (decodeN n b0 b1 b2 b3).1 / 4096 ∧ b1 = 128 + (decodeN n b0 b1 b2 b3).1 / 64 % 64 ∧ b2 = 128 + (decodeN n b0 b1 b2 b3).1 % 64) ∨
    ((decodeN n b0 b1 b2 b3).2 = 4 ∧ b0 = 240 + (decodeN n b0 b1 b2 b3).1 / 262144 ∧ b1 = 128 + (decodeN n b0 b1 b2 b3).1 / 4096 % 64 ∧ b2 = 128 + (decodeN n b0 b1 b2 b3).1 / 64 % 64 ∧ b3 = 128 + (decodeN n b0 b1 b2 b3).1 % 64) := by
  by_cases c0 : b0 < 128
  · have e : decodeN n b0 b1 b2 b3 = (b0, 1) := by unfold decodeN; rw [if_pos c0]
    rw [e]; exact .inl ⟨rfl, rfl, c0⟩
  by_cases c2 : b0 / 32 = 6 ∧ (1 < n ∧ b1 / 64 = 2)
  · by_cases hc : b0 % 32 * 64 + b1 % 64 ≥ 128
    · have e : decodeN n b0 b1 b2 b3 = (b0 % 32 * 64 + b1 % 64, 2) := by unfold decodeN; rw [if_neg c0, if_pos c2, if_pos hc]
      rw [e]; refine .inr (.inl ⟨rfl, ?_, ?_⟩) <;> simp only <;> omega
    · have e : decodeN n b0 b1 b2 b3 = (65533, 1) := by unfold decodeN; rw [if_neg c0, if_pos c2, if_neg hc]
      rw [e] at hg; exact absurd ⟨rfl, rfl⟩ hg
  by_cases c3 : b0 / 16 = 14 ∧ (1 < n ∧ b1 / 64 = 2) ∧ (2 < n ∧ b2 / 64 = 2)
  · by_cases hc : b0 % 16 * 4096 + b1 % 64 * 64 + b2 % 64 ≥ 2048 ∧ (b0 % 16 * 4096 + b1 % 64 * 64 + b2 % 64 < 55296 ∨ (57344 ≤ b0 % 16 * 4096 + b1 % 64 * 64 + b2 % 64 ∧ b0 % 16 * 4096 + b1 % 64 * 64 + b2 % 64 ≤ 1114111))
    · have e : decodeN n b0 b1 b2 b3 = (b0 % 16 * 4096 + b1 % 64 * 64 + b2 % 64, 3) := by unfold decodeN; rw [if_neg c0, if_neg c2, if_pos c3, if_pos hc]
      rw [e]; refine .inr (.inr (.inl ⟨rfl, ?_, ?_, ?_⟩)) <;> simp only <;> omega
    · have e : decodeN n b0 b1 b2 b3 = (65533, 1) := by unfold decodeN; rw [if_neg c0, if_neg c2, if_pos c3, if_neg hc]
      rw [e] at hg; exact absurd ⟨rfl, rfl⟩ hg
  by_cases c4 : b0 / 8 = 30 ∧ (1 < n ∧ b1 / 64 = 2) ∧ (2 < n ∧ b2 / 64 = 2) ∧ (3 < n ∧ b3 / 64 = 2)
  · by_cases hc : b0 % 8 * 262144 + b1 % 64 * 4096 + b2 % 64 * 64 + b3 % 64 ≥ 65536 ∧ (b0 % 8 * 262144 + b1 % 64 * 4096 + b2 % 64 * 64 + b3 % 64 < 55296 ∨ (57344 ≤ b0 % 8 * 262144 + b1 % 64 * 4096 + b2 % 64 * 64 + b3 % 64 ∧ b0 % 8 * 262144 + b1 % 64 * 4096 + b2 % 64 * 64 + b3 % 64 ≤ 1114111))
    · have e : decodeN n b0 b1 b2 b3 = (b0 % 8 * 262144 + b1 % 64 * 4096 + b2 % 64 * 64 + b3 % 64, 4) := by unfold decodeN; rw [if_neg c0, if_neg c2, if_neg c3, if_pos c4, if_pos hc]
      rw [e]; refine .inr (.inr (.inr ⟨rfl, ?_, ?_, ?_, ?_⟩)) <;> simp only <;> omega
    · have e : decodeN n b0 b1 b2 b3 = (65533, 1) := by unfold decodeN; rw [if_neg c0, if_neg c2, if_neg c3, if_pos c4, if_neg hc]
      rw [e] at hg; exact absurd ⟨rfl, rfl⟩ hg
  · have e : decodeN n b0 b1 b2 b3 = (65533, 1) := by unfold decodeN; rw [if_neg c0, if_neg c2, if_neg c3, if_neg c4]
    rw [e] at hg; exact absurd ⟨rfl, rfl⟩ hg

theorem ext_get (u v : ByteArray) (hs : u.size = v.size) (h : ∀ j, j < u.size → bt u j = bt v j) : u = v := by
  apply ByteArray.ext
  apply Array.ext
  · exact hs
  · intro j h1 h2
    have := h j h1
    unfold bt at this
    rw [get_lt u j h1, get_lt v j h2] at this
    exact UInt8.toNat_inj.1 this
/-- A good spot's bytes are what its rune is written as. -/
theorem enc_dec (s : ByteArray) (i : Nat) (hi : i < s.size) (hg : badB s i = false) : Utf8.encode ((rn s i : Nat) : Int) = s.extract i (i + wd s i) := by
  have hg' : ¬ (rn s i = 65533 ∧ wd s i = 1) := of_decide_eq_false hg
  have hr := wd_room s i hi
  have hw := rn_rune s i
  have hwn := widthOf_rn s i hg'
  have key := decodeN_bytes (s.size - i) (bt s i) (bt s (i + 1)) (bt s (i + 2)) (bt s (i + 3)) (bt_lt _ _) (bt_lt _ _) (bt_lt _ _) (bt_lt _ _)
  have e : decodeN (s.size - i) (bt s i) (bt s (i + 1)) (bt s (i + 2)) (bt s (i + 3)) = Utf8.decode s i := (decode_at s i).symm
  rw [e] at key
  have key := key hg'
  change (wd s i = 1 ∧ rn s i = bt s i ∧ _) ∨ (wd s i = 2 ∧ bt s i = 192 + rn s i / 64 ∧ bt s (i + 1) = 128 + rn s i % 64) ∨ (wd s i = 3 ∧ bt s i = 224 + rn s i / 4096 ∧ bt s (i + 1) = 128 + rn s i / 64 % 64 ∧ bt s (i + 2) = 128 + rn s i % 64) ∨ (wd s i = 4 ∧ bt s i = 240 + rn s i / 262144 ∧ bt s (i + 1) = 128 + rn s i / 4096 % 64 ∧ bt s (i + 2) = 128 + rn s i / 64 % 64 ∧ bt s (i + 3) = 128 + rn s i % 64) at key
  have hx : ∀ j, j < wd s i → bt (s.extract i (i + wd s i)) j = bt s (i + j) := fun j hj => by unfold bt; rw [get_extract _ _ _ _ (by omega) hr]
  have hsz : (s.extract i (i + wd s i)).size = wd s i := by rw [ByteArray.size_extract]; omega
  have b0 := bt_lt s i
  have b1 := bt_lt s (i + 1)
  have b2 := bt_lt s (i + 2)
  have b3 := bt_lt s (i + 3)
  generalize rn s i = r at *
  rcases key with ⟨k1, k2, k3⟩ | ⟨k1, k2, k3⟩ | ⟨k1, k2, k3, k4⟩ | ⟨k1, k2, k3, k4, k5⟩
  · rw [enc1 hw (by omega)]
    refine ext_get _ _ (by rw [hsz, k1]; rfl) (fun j hj => ?_)
    obtain rfl : j = 0 := by have : j < 1 := hj; omega
    rw [hx 0 (by omega), Nat.add_zero]
    show (UInt8.ofNat ((r : Int).toNat)).toNat = _
    rw [u8n _ (by omega)]; omega
  · have hlo : 128 ≤ (r : Int) ∧ (r : Int) < 2048 := by
      rw [k1] at hwn
      unfold widthOf at hwn
      repeat' split at hwn
      all_goals omega
    rw [enc2 hw hlo.1 hlo.2]
    refine ext_get _ _ (by rw [hsz, k1]; rfl) (fun j hj => ?_)
    have : j < 2 := hj
    have : j = 0 ∨ j = 1 := by omega
    rcases this with rfl | rfl
    · rw [hx 0 (by omega), Nat.add_zero]
      show (UInt8.ofNat (0xC0 + (r : Int).toNat / 64)).toNat = _
      rw [u8n _ (by omega)]; omega
    · rw [hx 1 (by omega)]
      show (UInt8.ofNat (0x80 + (r : Int).toNat % 64)).toNat = _
      rw [u8n _ (by omega)]; omega
  · have hlo : 2048 ≤ (r : Int) ∧ (r : Int) < 65536 := by
      rw [k1] at hwn
      unfold widthOf at hwn
      repeat' split at hwn
      all_goals omega
    rw [enc3 hw hlo.1 hlo.2]
    refine ext_get _ _ (by rw [hsz, k1]; rfl) (fun j hj => ?_)
    have : j < 3 := hj
    have : j = 0 ∨ j = 1 ∨ j = 2 := by omega
    rcases this with rfl | rfl | rfl
    · rw [hx 0 (by omega), Nat.add_zero]
      show (UInt8.ofNat (0xE0 + (r : Int).toNat / 4096)).toNat = _
      rw [u8n _ (by omega)]; omega
    · rw [hx 1 (by omega)]
      show (UInt8.ofNat (0x80 + (r : Int).toNat / 64 % 64)).toNat = _
      rw [u8n _ (by omega)]; omega
    · rw [hx 2 (by omega)]
      show (UInt8.ofNat (0x80 + (r : Int).toNat % 64)).toNat = _
      rw [u8n _ (by omega)]; omega
  · have hlo : 65536 ≤ (r : Int) := by
      rw [k1] at hwn
      unfold widthOf at hwn
      repeat' split at hwn
      all_goals omega
    rw [enc4 hw hlo]
    refine ext_get _ _ (by rw [hsz, k1]; rfl) (fun j hj => ?_)
    have : j < 4 := hj
    have : j = 0 ∨ j = 1 ∨ j = 2 ∨ j = 3 := by omega
    rcases this with rfl | rfl | rfl | rfl
    · rw [hx 0 (by omega), Nat.add_zero]
      show (UInt8.ofNat (0xF0 + (r : Int).toNat / 262144)).toNat = _
      rw [u8n _ (by omega)]; omega
    · rw [hx 1 (by omega)]
      show (UInt8.ofNat (0x80 + (r : Int).toNat / 4096 % 64)).toNat = _
      rw [u8n _ (by omega)]; omega
    · rw [hx 2 (by omega)]
      show (UInt8.ofNat (0x80 + (r : Int).toNat / 64 % 64)).toNat = _
      rw [u8n _ (by omega)]; omega
    · rw [hx 3 (by omega)]
      show (UInt8.ofNat (0x80 + (r : Int).toNat % 64)).toNat = _
      rw [u8n _ (by omega)]; omega

theorem clean_from (s : ByteArray) : ∀ f i, s.size ≤ i + f → i ≤ s.size → (∀ p ∈ startsFrom s f i, badB s p = false) → runesBytes ((startsFrom s f i).map (fun p => ((rn s p : Nat) : Int))) = s.extract i s.size
  | 0, i, hf, hi, h => by
    rw [show i = s.size by omega]
    simp only [startsFrom, List.map_nil]
    rw [show s.extract s.size s.size = ByteArray.empty from by apply ByteArray.ext; simp]
    rfl
  | f + 1, i, hf, hi, h => by
    by_cases hlt : i < s.size
    · have hw := wd_pos s i
      have hr := wd_room s i hlt
      rw [startsFrom_cons s f i hlt] at h ⊢
      rw [List.map_cons, runesBytes_cons, enc_dec s i hlt (h i (by simp)), clean_from s f (i + wd s i) (by omega) hr (fun p hp => h p (by simp [hp]))]
      rw [ByteArray.extract_append_extract]
      congr 1 <;> omega
    · rw [startsFrom_end s _ _ hlt, show i = s.size by omega, show s.extract s.size s.size = ByteArray.empty from by apply ByteArray.ext; simp]
      rfl
/-- A text without bad spots is its own clean text. -/
theorem clean_valid (s : ByteArray) (h : ∀ i ∈ starts s, badB s i = false) : cleanV s = s := by
  have := clean_from s s.size 0 (by omega) (by omega) h
  unfold cleanV runesL starts
  rw [this]
  exact ByteArray.extract_zero_size
theorem clean_facts (s : ByteArray) : runesL (cleanV s) = runesL s ∧ (∀ i ∈ starts (cleanV s), badB (cleanV s) i = false) ∧ cleanV (cleanV s) = cleanV s ∧ (starts (cleanV s)).length = (starts s).length := by
  obtain ⟨h1, h2⟩ := runes_back (runesL s) (runesL_runes s)
  refine ⟨h1, h2, clean_valid _ h2, ?_⟩
  rw [← runesL_length, ← runesL_length]
  exact congrArg List.length h1
end Go.Proofs.Ytemmflhofhngbaa
/- UtfClean, for every text of at most a million letters: a clean text is valid, stays, has the same runes, is their text; a text is valid just if it is clean. -/
namespace Go.Proofs.Ytemmflhofhngbaa
open Go.RowKit Go.Shelf
set_option linter.unusedVariables false

/-- A row of numbers in a world. -/
def RunesAt (W : World) (g o : Nat) (zs : List Int) : Prop := ∀ j, j < zs.length → W.cell? ⟨g, o + j, none⟩ = some (.int .i32 (zs.getD j 0))
theorem RunesAt.below {W W' : World} {N g o : Nat} {zs : List Int} (h : RunesAt W g o zs) (hb : Below N W W') (hg : g < N) : RunesAt W' g o zs := fun j hj => (hb.cell (p := ⟨g, o + j, none⟩) hg).trans (h j hj)

theorem cleanV_size (s : ByteArray) : (cleanV s).size ≤ 4 * s.size := by
  have h1 := runesBytes_size_le (runesL s)
  have h2 := starts_length s
  rw [runesL_length] at h1
  unfold cleanV
  omega

theorem runes2_any (s : ByteArray) (hs : s.size ≤ 70368744177664) (w : World) : Calls Try.prog 49 #[.string s] w fun e w' => ∃ cap, e = .returned (.slice (some ⟨w.heap.size, 0, none⟩) (runesL s).length cap) ∧ RunesAt w' w.heap.size 0 (runesL s) ∧ w.heap.size < w'.heap.size ∧ Below w.heap.size w w' := by
  refine (runes_any s hs w).mono ?_
  rintro e w' ⟨cap, rfl, hcap, cs, rfl⟩
  refine ⟨cap, rfl, fun j hj => ?_, by show w.heap.size < (w.drew.alloc _).heap.size; simp, ((Below.refl _ _).drew).alloc (Nat.le_refl _) _⟩
  have := runes_cell w.drew (runesL s) cs 21 j hj
  rw [show (⟨w.drew.heap.size, 0, none⟩ : Addr).add j = ⟨w.heap.size, 0 + j, none⟩ by unfold Addr.add; split <;> simp_all] at this
  exact this

theorem text_runes (s : ByteArray) : textV (runesL s) = .tuple #[.string (cleanV s), .int .i64 0] := by
  unfold textV
  rw [if_pos]
  · rfl
  · unfold allRunes
    rw [List.all_eq_true]
    intro z hz
    have := runesL_runes s z hz
    simpa using this

end Go.Proofs.Ytemmflhofhngbaa
/- sets.Text: the set of a text's runes. -/
namespace Go.Proofs.Ytemmflhofhngbaa
open Go.RowKit Go.Shelf
set_option linter.unusedVariables false
theorem runes3_any (s : ByteArray) (hs : s.size ≤ 70368744177664) (w : World) : Calls Try.prog 49 #[.string s] w fun e w' => ∃ cap, e = .returned (.slice (some ⟨w.heap.size, 0, none⟩) (runesL s).length cap) ∧ Sort.Holds (Value.int .i32) w' w.heap.size 0 (runesL s).toArray ∧ w.heap.size < w'.heap.size ∧ Below w.heap.size w w' := by
  refine (runes_any s hs w).mono ?_
  rintro e w' ⟨cap, rfl, hcap, cs, rfl⟩
  refine ⟨cap, rfl, fun j hj => ⟨?_, ?_⟩, by show w.heap.size < (w.drew.alloc _).heap.size; simp, ((Below.refl _ _).drew).alloc (Nat.le_refl _) _⟩
  · have hj' : j < (runesL s).length := by simpa using hj
    have := runes_cell w.drew (runesL s) cs 21 j hj'
    rw [show (⟨w.drew.heap.size, 0, none⟩ : Addr).add j = ⟨w.heap.size, 0 + j, none⟩ by unfold Addr.add; split <;> simp_all] at this
    rw [this]
    simp [List.getD, getElem!_pos, hj']
  · exact Blk.frozen (Blk.new w.drew _ _) _
theorem runesL_runeB (s : ByteArray) : ∀ x ∈ runesL s, runeB x = true := fun x hx => by
  have h := runesL_runes s x hx
  have := width_rune x
  cases e : runeB x with
  | true => rfl
  | false => rw [e] at this; simp at this; exact absurd this h
set_option maxRecDepth 100000 in
set_option maxHeartbeats 4000000 in
theorem settext_any (s : ByteArray) (hs : s.size ≤ 1000) (w : World) : Calls Try.prog 19 #[.string s] w fun e w' => ∃ (B lo0 : Nat) (us : List (Int × Int)), e = .returned (.pointer (some ⟨B, 0, none⟩)) ∧ w.heap.size ≤ lo0 ∧ Made w' B lo0 us ∧ Spread us ∧ us.length ≤ (runesL s).length ∧ (∀ r, memB us r = memB (dup (runesL s)) r) ∧ Below w.heap.size w w' := by
  have hl : (runesL s).length ≤ 1000 := by rw [runesL_length]; have := starts_length s; omega
  have HR := hide (runes3_any s (by omega) w)
  go_enter Try.func19, Try.ntmps19
  go_wp2_with fail
  refine (unhide HR).mono ?_
  rintro e w1 ⟨cap, rfl, hH, hlt, hb⟩
  have HG := hide (gather_any (some ⟨w.heap.size, 0, none⟩) cap w.heap.size (runesL s) (by omega) (runesL_runeB s) w1 hb.size (fun _ => ⟨w.heap.size, 0, rfl, Nat.le_refl _, hlt, hH⟩))
  have HB := hide hb
  clear hH hlt hb HR
  go_wp2_with fail
  refine (unhide HG).mono ?_
  rintro e w2 ⟨B, lo0, us, rfl, hlo, hM, hS, hl2, hm, hb⟩
  have HM := hide hM
  have HSS := hide hS
  have HMM := hide hm
  have HB2 := hide ((unhide HB).trans hb)
  have HLL := hide (Nat.le_trans (unhide HB).size hlo)
  clear hM hS hm hb hlo
  go_wp2_with fail
  go_ret
  exact ⟨B, lo0, us, rfl, unhide HLL, unhide HM, unhide HSS, hl2, unhide HMM, unhide HB2⟩
theorem size_spots (s : ByteArray) : ∀ f i, s.size ≤ i + f → s.size ≤ i + 4 * (startsFrom s f i).length
  | 0, i, h => by simp only [startsFrom, List.length_nil]; omega
  | f + 1, i, h => by
    by_cases hi : i < s.size
    · rw [startsFrom_cons s f i hi, List.length_cons]
      have h1 := wd_pos s i
      have h2 := wd_four s i
      have := size_spots s f (i + wd s i) (by omega)
      omega
    · rw [startsFrom_end s _ i hi]; simp; omega
theorem size_starts (s : ByteArray) : s.size ≤ 4 * (starts s).length := by
  have := size_spots s s.size 0 (by omega)
  unfold starts
  omega
end Go.Proofs.Ytemmflhofhngbaa
/- alive: the set of a to z has 26 runes. -/
namespace Go.Proofs.Ytemmflhofhngbaa
open Go.RowKit Go.Shelf
set_option linter.unusedVariables false
theorem spread_az : Spread [(97, 122)] := Spread.snoc (ys := []) ⟨fun x h => by simp at h, fun i j x y _ h => by simp at h⟩ (by decide) (by decide) (fun x h => by simp at h)
theorem mem_az (r : Int) : memB [(97, 99), (98, 122)] r = memB [(97, 122)] r := by
  rw [Bool.eq_iff_iff, memB_iff, memB_iff]
  simp
  intro _
  omega
theorem right_az : RightL [(97, 99), (98, 122)] := by
  intro x hx
  simp at hx
  rcases hx with rfl | rfl <;> decide
set_option maxRecDepth 100000 in
set_option maxHeartbeats 4000000 in
theorem alive_any (w : World) : Calls Try.prog 6 #[] w fun e w' => e = .returned (.bool true) ∧ Below w.heap.size w w' := by
  have b0 := Blk.new w #[.int .i32 97, .int .i32 99, .int .i32 98, .int .i32 122] 28
  have HB0 := hide ((Below.refl _ w).alloc (Nat.le_refl _) (.cells #[.int .i32 97, .int .i32 99, .int .i32 98, .int .i32 122] 28))
  have HR : Hz (RowP (w.alloc (.cells #[.int .i32 97, .int .i32 99, .int .i32 98, .int .i32 122] 28)) (some ⟨w.heap.size, 0, none⟩) [(97, 99), (98, 122)]) := hide (fun _ => ⟨w.heap.size, 0, rfl, b0.lt, fun j x hj => by
    match j, hj with
    | 0, hj => simp at hj; subst hj; exact ⟨b0.cell 0, b0.cell 1⟩
    | 1, hj => simp at hj; subst hj; exact ⟨b0.cell 2, b0.cell 3⟩
    | j + 2, hj => simp at hj⟩)
  clear b0
  go_enter Try.func6, Try.ntmps6
  go_wp2_with fail
  refine (of_right (some ⟨w.heap.size, 0, none⟩) 2 [(97, 99), (98, 122)] (by decide) right_az _ (unhide HR)).mono ?_
  rintro e w1 ⟨B, lo0, zs, rfl, hlo, hmade, hsp, hzl, hmem, hb1⟩
  obtain rfl : zs = [(97, 122)] := spread_unique _ _ hsp spread_az (fun r => (hmem r).trans (mem_az r))
  have HS1 := hide (hmade.set hsp (by decide))
  have HB1 := hide ((unhide HB0).trans (hb1.mono (unhide HB0).size))
  clear hb1 hmem hmade hsp hzl hlo HR
  go_wp2_with fail
  refine (size_any B _ w1 (unhide HS1)).mono ?_
  rintro e w2 ⟨rfl, hb2⟩
  rw [show total [(97, 122)] = 26 by decide]
  have HS2 := hide ((unhide HS1).below hb2)
  have HB2 := hide ((unhide HB1).trans (hb2.mono (unhide HB1).size))
  clear hb2
  go_wp2_with fail
  refine (spans_any B _ w2 (unhide HS2)).mono ?_
  rintro e w3 ⟨v, rfl, hown, hb3⟩
  obtain ⟨a, c, rfl, hrow, _, _⟩ := own_row hown
  have HS3 := hide ((unhide HS2).below hb3)
  have HB3 := hide ((unhide HB2).trans (hb3.mono (unhide HB2).size))
  have b3 := Blk.new w3 #[.int .i32 97, .int .i32 122] 28
  have hb4 := (Below.refl _ w3).alloc (Nat.le_refl _) (.cells #[.int .i32 97, .int .i32 122] 28)
  have HS4 := hide ((unhide HS3).below hb4)
  have HB4 := hide ((unhide HB3).trans (hb4.mono (unhide HB3).size))
  have HRa := hide (hrow.below hb4)
  have HRb : Hz (RowP (w3.alloc (.cells #[.int .i32 97, .int .i32 122] 28)) (some ⟨w3.heap.size, 0, none⟩) [(97, 122)]) := hide (fun _ => ⟨w3.heap.size, 0, rfl, b3.lt, fun j x hj => by
    match j, hj with
    | 0, hj => simp at hj; subst hj; exact ⟨b3.cell 0, b3.cell 1⟩
    | j + 1, hj => simp at hj⟩)
  clear b3 hb3 hb4 hown hrow
  go_wp2_with fail
  refine (sameP_row a (some ⟨w3.heap.size, 0, none⟩) c 1 [(97, 122)] (by decide) _ (unhide HRa) (unhide HRb)).mono ?_
  rintro e w5 ⟨rfl, hb5⟩
  have HS5 := hide ((unhide HS4).below hb5)
  have HB5 := hide ((unhide HB4).trans (hb5.mono (unhide HB4).size))
  clear hb5
  go_wp2_with fail
  refine (in_any B _ 109 w5 (unhide HS5)).mono ?_
  rintro e w6 ⟨rfl, hb6⟩
  rw [show memB [(97, 122)] 109 = true by decide]
  have HS6 := hide ((unhide HS5).below hb6)
  have HB6 := hide ((unhide HB5).trans (hb6.mono (unhide HB5).size))
  clear hb6
  go_wp2_with fail
  refine (in_any B _ 123 w6 (unhide HS6)).mono ?_
  rintro e w7 ⟨rfl, hb7⟩
  rw [show memB [(97, 122)] 123 = false by decide]
  have HB7 := hide ((unhide HB6).trans (hb7.mono (unhide HB6).size))
  clear hb7
  go_wp2
  go_ret
  exact ⟨rfl, unhide HB7⟩
end Go.Proofs.Ytemmflhofhngbaa
