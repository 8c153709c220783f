/- numbers: From of one kind of numbers. -/
import Derived.Test.YtemmflhofhngbaaM2
import Derived.Test.YtemmflhofhngbaaRefTwo
import Derived.Test.YtemmflhofhngbaaSetSameG
import Derived.Deep.AppendLies
import Derived.Deep.RegionLaw
namespace Go.Proofs.Ytemmflhofhngbaa
open Go.RowKit Go.Shelf
set_option linter.unusedVariables false
/-- Why they are refused. -/
def noV (zs : List Int) : Int := if zs.all runeB then 0 else 12
theorem noV_good {zs : List Int} {x : Int} (h : runeB x = true) : noV (zs ++ [x]) = noV zs := by simp [noV, h]
theorem noV_bad {zs : List Int} {x : Int} (h : runeB x = false) : noV (zs ++ [x]) = 12 := by simp [noV, h]
theorem dup_snoc (zs : List Int) (x : Int) : dup (zs ++ [x]) = dup zs ++ [(x, x)] := by simp [dup]
/-- One span more, in a region that draws. -/
theorem step_oneP {w : World} {ops : Array Oper} {o : Oper} {a : Act} {K : Act → World → Prop} {Q : Exit → Act → World → Prop} {E : Prop} (hgd : o.guard = none) (s x : Operand)
    (ho : o.op = .call { callee := .builtin .append, args := #[s, x], argTypes := #[30, 30] }) (lo : Nat) (v : Value) (zs : List (Int × Int)) (hs : a.eval s = v) (hz : zs.length ≤ 900000) (W : World) (y1 y2 : Int) (hW : w = W.alloc (.cells #[.int .i32 y1, .int .i32 y2] 28)) (hv : W.ownsRow lo 28 2 v zs.length (encP zs)) (hlo : lo ≤ W.heap.size) (n : Nat) (hn : n = W.heap.size) (hx : a.eval x = .slice (some ⟨n, 0, none⟩) 1 1)
    (h : ∀ g cap w', w'.ownsRow lo 28 2 (.slice (some ⟨g, 0, none⟩) (zs.length + 1) cap) (zs ++ [(y1, y2)]).length (encP (zs ++ [(y1, y2)])) → Below lo W w' → K (a.put o.dst (.slice (some ⟨g, 0, none⟩) (zs.length + 1) cap)) w') :
    if Region.wanted o (yielded ops a.tmps) = true then Oper.wp Try.prog o a w K Q else E := by
  subst hW
  subst hn
  obtain ⟨iP, hi0, hi1, hi2, hi3⟩ := info_parts infoP
  refine step_append_lies _ hgd s x 30 ho lo 28 iP (.agg #[.int .i32 0, .int .i32 0]) 2 8 Try.underlying30 hi0 hi1 hi2 hi3 rfl (by omega) v zs.length (encP zs) hs (hv.alloc _) ⟨W.heap.size, 0, none⟩ 1 1 (encP [(y1, y2)]) hx (by simp [encP]) (two_cell W (y1, y2)) (encP_one _) (by omega) (by unfold maxLen; omega) (by omega) (by simp; omega) (W.heap.size + 1) (by simp) ?_
  intro g cap w' h1 h2 _ _
  refine h g cap w' (by rw [encP_append, List.length_append, List.length_singleton]; exact h1) ?_
  exact ((Below.refl lo W).alloc hlo _).grown h2 (by simp; omega) (fun k e => ((hv.alloc (.cells #[.int .i32 y1, .int .i32 y2] 28)).lt k e).1)
/-- The loop's relation. -/
structure NmI (zs : List Int) (w W : World) (k : Nat) (v : Value) (q : Int) (ss : List (Int × Int)) : Prop where
  len : ss.length = k
  own : W.ownsRow w.heap.size 28 2 v ss.length (encP ss)
  old : Below w.heap.size w W
  no : q = noV (zs.take k)
  ok : (zs.take k).all runeB = true → ss = dup (zs.take k)
theorem NmI.drew {zs : List Int} {w W : World} {k : Nat} {v : Value} {q : Int} {ss : List (Int × Int)} (h : NmI zs w W k v q ss) : NmI zs w W.drew k v q ss := ⟨h.len, h.own, h.old.drew, h.no, h.ok⟩
theorem wrapI32 (x : Int) (h0 : 0 ≤ x) (h1 : x ≤ 1114111) : IntKind.i32.wrap x = x := by simp [IntKind.wrap, IntKind.bits, IntKind.signed]; omega
theorem NmI.good {zs : List Int} {w W W' : World} {k : Nat} {v v' : Value} {q x : Int} {y : Int × Int} {ss : List (Int × Int)} (h : NmI zs w W k v q ss) (hx : zs[k]? = some x) (hr : runeB x = true) (hy : y = (x, x)) (ho : W'.ownsRow w.heap.size 28 2 v' (ss ++ [y]).length (encP (ss ++ [y]))) (hb : Below w.heap.size W W') : NmI zs w W' (k + 1) v' q (ss ++ [y]) :=
  ⟨by rw [List.length_append, h.len]; rfl, ho, h.old.trans hb, by rw [take_snoc hx, noV_good hr]; exact h.no, fun ha => by
    rw [take_snoc hx, List.all_append] at ha
    rw [take_snoc hx, dup_snoc, ← h.ok (Bool.and_eq_true_iff.1 ha).1, hy]⟩
theorem NmI.bad {zs : List Int} {w W W' : World} {k : Nat} {v v' : Value} {q x : Int} {y : Int × Int} {ss : List (Int × Int)} (h : NmI zs w W k v q ss) (hx : zs[k]? = some x) (hr : runeB x = false) (ho : W'.ownsRow w.heap.size 28 2 v' (ss ++ [y]).length (encP (ss ++ [y]))) (hb : Below w.heap.size W W') : NmI zs w W' (k + 1) v' 12 (ss ++ [y]) :=
  ⟨by rw [List.length_append, h.len]; rfl, ho, h.old.trans hb, by rw [take_snoc hx, noV_bad hr], fun ha => by
    rw [take_snoc hx, List.all_append] at ha
    have := (Bool.and_eq_true_iff.1 ha).2
    simp [hr] at this⟩
set_option maxRecDepth 100000 in
set_option maxHeartbeats 8000000 in
theorem numbers_int (p : Option Addr) (cap : Nat) (zs : List Int) (hz : zs.length ≤ 1000) (hf : ∀ x ∈ zs, -9223372036854775808 ≤ x ∧ x ≤ 9223372036854775807) (w : World) (hr : RowN .i64 w p zs) :
    Calls Try.prog 22 #[.slice p zs.length cap] w fun e w' => e = .returned (.bool true) ∧ Below w.heap.size w w' := by
  have hlen : (zs.length : Int) ≤ 1000 := by omega
  have HR := hide hr
  have HF := hide hf
  clear hr hf
  go_enter Try.func22, Try.ntmps22
  go_wp2_with fail
  go_loopw [3, 4, 5] (fun v s4 i wr => ∃ (k : Nat) (q : Int) (ss : List (Int × Int)), i = .int .i64 k ∧ k ≤ zs.length ∧ s4 = .int .i64 q ∧ Hz (NmI zs w wr k v q ss)) (fun _ _ i _ => zs.length - (intOf i).toNat)
  case atStart => exact ⟨0, 0, [], rfl, by omega, rfl, hide ⟨rfl, World.ownsRow_nil _ _ _ _, Below.refl _ _, by simp [noV], fun _ => rfl⟩⟩
  case round =>
    obtain ⟨k, q, ss, rfl, hk, rfl, HI⟩ := hrel
    have hss : ss.length ≤ 900000 := by rw [(unhide HI).len]; omega
    by_cases hkn : k < zs.length
    · have hk1 : (k : Int) < (zs.length : Int) := by omega
      have hk2 : ((k : Nat) : Int).toNat = k := by omega
      obtain ⟨x, hx⟩ : ∃ x, zs[k]? = some x := ⟨_, List.getElem?_eq_getElem (by omega)⟩
      obtain ⟨g, o, rfl, hg, hc⟩ := unhide HR (by omega)
      have c0 := ((unhide HI).old.cell (p := ⟨g, o + k, none⟩) hg).trans (hc k x hx)
      obtain ⟨bx1, bx2⟩ := unhide HF x (List.mem_of_getElem? hx)
      have HX := hide hx
      clear hc hx
      cases hrx : runeB x with
      | true =>
        have hb := runeB_iff hrx
        have hb1 : 0 ≤ x := hb.1
        have hb2 : x ≤ 1114111 := hb.2.1
        have hno1 : ¬ x < 0 := by omega
        have hno2 : ¬ 1114111 < x := by omega
        have HRX := hide hrx
        clear hb

        have HId : Hz (NmI zs w wr.drew k u3 q ss) := hide ((unhide HI).drew)
        go_wp2_with (first | (go_at_call 51; refine (refRune_any x _).mono ?_; rintro e w' ⟨rfl, hw'⟩; have hw2 := hw'.symm; subst hw2))
        go_region_law (first
          | (refine step_oneP (by rfl) _ _ (by rfl) w.heap.size _ ss (by rfl) hss wr.drew _ _ (by rfl) (unhide HId).own (unhide HId).old.size _ (by rfl) (by rfl) ?_; intro g1 cap1 w1 hown hb1'))
        all_goals
          have HI2 := hide ((unhide HId).good (unhide HX) (unhide HRX) (by first | rfl | rw [wrapI32 x hb1 hb2]) hown hb1')
          clear hown hb1' HI HId c0
          go_wp2_with fail
          go_roundw
          case rel => exact ⟨k + 1, _, _, by congr 1, by omega, rfl, HI2⟩
          case measure => simp [intOf]; omega
      | false =>
        have HRX := hide hrx
        by_cases h1 : x < 0
        · clear hrx

          have HId : Hz (NmI zs w wr.drew k u3 q ss) := hide ((unhide HI).drew)
          go_wp2_with (first | (go_at_call 51; refine (refRune_any x _).mono ?_; rintro e w' ⟨rfl, hw'⟩; have hw2 := hw'.symm; subst hw2))
          go_region_law (first
            | (refine step_oneP (by rfl) _ _ (by rfl) w.heap.size _ ss (by rfl) hss wr.drew _ _ (by rfl) (unhide HId).own (unhide HId).old.size _ (by rfl) (by rfl) ?_; intro g1 cap1 w1 hown hb1'))
          all_goals
            have HI2 := hide ((unhide HId).bad (unhide HX) (unhide HRX) hown hb1')
            clear hown hb1' HI HId c0
            go_wp2_with fail
            go_roundw
            case rel => exact ⟨k + 1, _, _, by congr 1, by omega, rfl, HI2⟩
            case measure => simp [intOf]; omega
        have hb1 : 0 ≤ x := by omega
        by_cases h2 : 1114111 < x
        · clear hrx
          have h1n : ¬ x < 0 := by omega
          have HId : Hz (NmI zs w wr.drew k u3 q ss) := hide ((unhide HI).drew)
          go_wp2_with (first | (go_at_call 51; refine (refRune_any x _).mono ?_; rintro e w' ⟨rfl, hw'⟩; have hw2 := hw'.symm; subst hw2))
          go_region_law (first
            | (refine step_oneP (by rfl) _ _ (by rfl) w.heap.size _ ss (by rfl) hss wr.drew _ _ (by rfl) (unhide HId).own (unhide HId).old.size _ (by rfl) (by rfl) ?_; intro g1 cap1 w1 hown hb1'))
          all_goals
            have HI2 := hide ((unhide HId).bad (unhide HX) (unhide HRX) hown hb1')
            clear hown hb1' HI HId c0
            go_wp2_with fail
            go_roundw
            case rel => exact ⟨k + 1, _, _, by congr 1, by omega, rfl, HI2⟩
            case measure => simp [intOf]; omega
        · have hb2 : x ≤ 1114111 := by omega
          have h1n : ¬ x < 0 := by omega
          have h2n : ¬ 1114111 < x := by omega
          have HId : Hz (NmI zs w wr.drew k u3 q ss) := hide ((unhide HI).drew)
          go_wp2_with (first | (go_at_call 51; refine (refRune_any x _).mono ?_; rintro e w' ⟨rfl, hw'⟩; have hw2 := hw'.symm; subst hw2))
          go_region_law (first
            | (refine step_oneP (by rfl) _ _ (by rfl) w.heap.size _ ss (by rfl) hss wr.drew _ _ (by rfl) (unhide HId).own (unhide HId).old.size _ (by rfl) (by rfl) ?_; intro g1 cap1 w1 hown hb1'))
          all_goals
            have HI2 := hide ((unhide HId).bad (unhide HX) (unhide HRX) hown hb1')
            clear hown hb1' HI HId c0
            go_wp2_with fail
            go_roundw
            case rel => exact ⟨k + 1, _, _, by congr 1, by omega, rfl, HI2⟩
            case measure => simp [intOf]; omega
    · have hk1 : ¬ (k : Int) < (zs.length : Int) := by omega
      obtain rfl : k = zs.length := by omega
      have hno := (unhide HI).no
      have hok := (unhide HI).ok
      rw [List.take_length] at hno hok
      obtain ⟨av, cv, rfl, hrow, _, _⟩ := own_row (unhide HI).own
      have HRow := hide hrow
      have HC := hide (from_int p cap zs hz (unhide HF) wr ((unhide HR).below (unhide HI).old))
      have HB := hide (unhide HI).old
      clear hrow HI
      cases hall : zs.all runeB with
      | false =>
        have hq : q = 12 := by rw [hno]; simp [noV, hall]
        subst hq
        have HALL := hide hall
        clear hno hok hall
        go_wp2_with fail
        refine (unhide HC).mono ?_
        intro e w5 hFP
        obtain rfl := hFP.2.1 (unhide HALL)
        have HB5 := hide ((unhide HB).trans (hFP.2.2.mono (unhide HB).size))
        clear hFP
        go_wp2_with fail
        go_ret
        exact ⟨rfl, unhide HB5⟩
      | true =>
        have hq : q = 0 := by rw [hno]; simp [noV, hall]
        subst hq
        obtain rfl := hok hall
        have HALL := hide hall
        clear hno hok hall
        go_wp2_with fail
        refine (unhide HC).mono ?_
        intro e w5 hFP
        obtain ⟨B, lo0, us, rfl, hlo, hM, hS, hl, hm⟩ := hFP.1 (unhide HALL)
        have HB5 := hide ((unhide HB).trans (hFP.2.2.mono (unhide HB).size))
        have HRow5 := hide ((unhide HRow).below hFP.2.2)
        have HS5 := hide (hM.set hS (by omega))
        have HSp := hide hS
        have HMm := hide hm
        clear hFP hM hS hm hlo HRow HB
        go_wp2_with fail
        refine (spans_any B us w5 (unhide HS5)).mono ?_
        rintro e w6 ⟨v6, rfl, hown6, hb6⟩
        obtain ⟨a6, c6, rfl, hrow6, _, _⟩ := own_row hown6
        have HRow6 := hide hrow6
        have HRowS := hide ((unhide HRow5).below hb6)
        have HB6 := hide ((unhide HB5).trans (hb6.mono (unhide HB5).size))
        clear hown6 hrow6 hb6
        have hdr : RightL (dup zs) := dup_right (fun x hx => List.all_eq_true.1 (unhide HALL) x hx)
        have hdl : (dup zs).length ≤ 1073741824 := by rw [dup_length]; omega
        have HCR := hide (refSpans_any av cv (dup zs) hdl hdr w6 (unhide HRowS))
        clear hdr
        go_wp2_with fail
        refine (unhide HCR).mono ?_
        rintro e w7 ⟨v7, os, rfl, hown7, hS7, hm7, hb7⟩
        obtain rfl : us = os := spread_unique us os (unhide HSp) hS7 (fun r => (unhide HMm r).trans (hm7 r).symm)
        obtain ⟨a7, c7, rfl, hrow7, _, _⟩ := own_row hown7
        have HB7 := hide ((unhide HB6).trans (hb7.mono (unhide HB6).size))
        have HCS := hide (sameP_any a6 a7 c6 c7 us us (by omega) (by omega) w7 ((unhide HRow6).below hb7) hrow7)
        rw [sameB_refl] at HCS
        clear hown7 hrow7 hS7 hm7 hb7 HCR
        go_wp2_with fail
        refine (unhide HCS).mono ?_
        rintro e w8 ⟨rfl, hb8⟩
        have HB8 := hide ((unhide HB7).trans (hb8.mono (unhide HB7).size))
        clear hb8
        go_wp2_with fail
        go_ret
        exact ⟨rfl, unhide HB8⟩
set_option maxRecDepth 100000 in
set_option maxHeartbeats 8000000 in
theorem numbers_rune (p : Option Addr) (cap : Nat) (zs : List Int) (hz : zs.length ≤ 1000) (hf : ∀ x ∈ zs, -2147483648 ≤ x ∧ x ≤ 2147483647) (w : World) (hr : RowN .i32 w p zs) :
    Calls Try.prog 23 #[.slice p zs.length cap] w fun e w' => e = .returned (.bool true) ∧ Below w.heap.size w w' := by
  have hlen : (zs.length : Int) ≤ 1000 := by omega
  have HR := hide hr
  have HF := hide hf
  clear hr hf
  go_enter Try.func23, Try.ntmps23
  go_wp2_with fail
  go_loopw [3, 4, 5] (fun v s4 i wr => ∃ (k : Nat) (q : Int) (ss : List (Int × Int)), i = .int .i64 k ∧ k ≤ zs.length ∧ s4 = .int .i64 q ∧ Hz (NmI zs w wr k v q ss)) (fun _ _ i _ => zs.length - (intOf i).toNat)
  case atStart => exact ⟨0, 0, [], rfl, by omega, rfl, hide ⟨rfl, World.ownsRow_nil _ _ _ _, Below.refl _ _, by simp [noV], fun _ => rfl⟩⟩
  case round =>
    obtain ⟨k, q, ss, rfl, hk, rfl, HI⟩ := hrel
    have hss : ss.length ≤ 900000 := by rw [(unhide HI).len]; omega
    by_cases hkn : k < zs.length
    · have hk1 : (k : Int) < (zs.length : Int) := by omega
      have hk2 : ((k : Nat) : Int).toNat = k := by omega
      obtain ⟨x, hx⟩ : ∃ x, zs[k]? = some x := ⟨_, List.getElem?_eq_getElem (by omega)⟩
      obtain ⟨g, o, rfl, hg, hc⟩ := unhide HR (by omega)
      have c0 := ((unhide HI).old.cell (p := ⟨g, o + k, none⟩) hg).trans (hc k x hx)
      obtain ⟨bx1, bx2⟩ := unhide HF x (List.mem_of_getElem? hx)
      have HX := hide hx
      clear hc hx
      cases hrx : runeB x with
      | true =>
        have hb := runeB_iff hrx
        have hb1 : 0 ≤ x := hb.1
        have hb2 : x ≤ 1114111 := hb.2.1
        have hno1 : ¬ x < 0 := by omega
        have hno2 : ¬ 1114111 < x := by omega
        have HRX := hide hrx
        clear hb

        have HId : Hz (NmI zs w wr.drew k u3 q ss) := hide ((unhide HI).drew)
        go_wp2_with (first | (go_at_call 51; refine (refRune_any x _).mono ?_; rintro e w' ⟨rfl, hw'⟩; have hw2 := hw'.symm; subst hw2))
        go_region_law (first
          | (refine step_oneP (by rfl) _ _ (by rfl) w.heap.size _ ss (by rfl) hss wr.drew _ _ (by rfl) (unhide HId).own (unhide HId).old.size _ (by rfl) (by rfl) ?_; intro g1 cap1 w1 hown hb1'))
        all_goals
          have HI2 := hide ((unhide HId).good (unhide HX) (unhide HRX) (by first | rfl | rw [wrapI32 x hb1 hb2]) hown hb1')
          clear hown hb1' HI HId c0
          go_wp2_with fail
          go_roundw
          case rel => exact ⟨k + 1, _, _, by congr 1, by omega, rfl, HI2⟩
          case measure => simp [intOf]; omega
      | false =>
        have HRX := hide hrx
        by_cases h1 : x < 0
        · clear hrx

          have HId : Hz (NmI zs w wr.drew k u3 q ss) := hide ((unhide HI).drew)
          go_wp2_with (first | (go_at_call 51; refine (refRune_any x _).mono ?_; rintro e w' ⟨rfl, hw'⟩; have hw2 := hw'.symm; subst hw2))
          go_region_law (first
            | (refine step_oneP (by rfl) _ _ (by rfl) w.heap.size _ ss (by rfl) hss wr.drew _ _ (by rfl) (unhide HId).own (unhide HId).old.size _ (by rfl) (by rfl) ?_; intro g1 cap1 w1 hown hb1'))
          all_goals
            have HI2 := hide ((unhide HId).bad (unhide HX) (unhide HRX) hown hb1')
            clear hown hb1' HI HId c0
            go_wp2_with fail
            go_roundw
            case rel => exact ⟨k + 1, _, _, by congr 1, by omega, rfl, HI2⟩
            case measure => simp [intOf]; omega
        have hb1 : 0 ≤ x := by omega
        by_cases h2 : 1114111 < x
        · clear hrx
          have h1n : ¬ x < 0 := by omega
          have HId : Hz (NmI zs w wr.drew k u3 q ss) := hide ((unhide HI).drew)
          go_wp2_with (first | (go_at_call 51; refine (refRune_any x _).mono ?_; rintro e w' ⟨rfl, hw'⟩; have hw2 := hw'.symm; subst hw2))
          go_region_law (first
            | (refine step_oneP (by rfl) _ _ (by rfl) w.heap.size _ ss (by rfl) hss wr.drew _ _ (by rfl) (unhide HId).own (unhide HId).old.size _ (by rfl) (by rfl) ?_; intro g1 cap1 w1 hown hb1'))
          all_goals
            have HI2 := hide ((unhide HId).bad (unhide HX) (unhide HRX) hown hb1')
            clear hown hb1' HI HId c0
            go_wp2_with fail
            go_roundw
            case rel => exact ⟨k + 1, _, _, by congr 1, by omega, rfl, HI2⟩
            case measure => simp [intOf]; omega
        · have hb2 : x ≤ 1114111 := by omega
          have h1n : ¬ x < 0 := by omega
          have h2n : ¬ 1114111 < x := by omega
          have HId : Hz (NmI zs w wr.drew k u3 q ss) := hide ((unhide HI).drew)
          go_wp2_with (first | (go_at_call 51; refine (refRune_any x _).mono ?_; rintro e w' ⟨rfl, hw'⟩; have hw2 := hw'.symm; subst hw2))
          go_region_law (first
            | (refine step_oneP (by rfl) _ _ (by rfl) w.heap.size _ ss (by rfl) hss wr.drew _ _ (by rfl) (unhide HId).own (unhide HId).old.size _ (by rfl) (by rfl) ?_; intro g1 cap1 w1 hown hb1'))
          all_goals
            have HI2 := hide ((unhide HId).bad (unhide HX) (unhide HRX) hown hb1')
            clear hown hb1' HI HId c0
            go_wp2_with fail
            go_roundw
            case rel => exact ⟨k + 1, _, _, by congr 1, by omega, rfl, HI2⟩
            case measure => simp [intOf]; omega
    · have hk1 : ¬ (k : Int) < (zs.length : Int) := by omega
      obtain rfl : k = zs.length := by omega
      have hno := (unhide HI).no
      have hok := (unhide HI).ok
      rw [List.take_length] at hno hok
      obtain ⟨av, cv, rfl, hrow, _, _⟩ := own_row (unhide HI).own
      have HRow := hide hrow
      have HC := hide (from_rune p cap zs hz (unhide HF) wr ((unhide HR).below (unhide HI).old))
      have HB := hide (unhide HI).old
      clear hrow HI
      cases hall : zs.all runeB with
      | false =>
        have hq : q = 12 := by rw [hno]; simp [noV, hall]
        subst hq
        have HALL := hide hall
        clear hno hok hall
        go_wp2_with fail
        refine (unhide HC).mono ?_
        intro e w5 hFP
        obtain rfl := hFP.2.1 (unhide HALL)
        have HB5 := hide ((unhide HB).trans (hFP.2.2.mono (unhide HB).size))
        clear hFP
        go_wp2_with fail
        go_ret
        exact ⟨rfl, unhide HB5⟩
      | true =>
        have hq : q = 0 := by rw [hno]; simp [noV, hall]
        subst hq
        obtain rfl := hok hall
        have HALL := hide hall
        clear hno hok hall
        go_wp2_with fail
        refine (unhide HC).mono ?_
        intro e w5 hFP
        obtain ⟨B, lo0, us, rfl, hlo, hM, hS, hl, hm⟩ := hFP.1 (unhide HALL)
        have HB5 := hide ((unhide HB).trans (hFP.2.2.mono (unhide HB).size))
        have HRow5 := hide ((unhide HRow).below hFP.2.2)
        have HS5 := hide (hM.set hS (by omega))
        have HSp := hide hS
        have HMm := hide hm
        clear hFP hM hS hm hlo HRow HB
        go_wp2_with fail
        refine (spans_any B us w5 (unhide HS5)).mono ?_
        rintro e w6 ⟨v6, rfl, hown6, hb6⟩
        obtain ⟨a6, c6, rfl, hrow6, _, _⟩ := own_row hown6
        have HRow6 := hide hrow6
        have HRowS := hide ((unhide HRow5).below hb6)
        have HB6 := hide ((unhide HB5).trans (hb6.mono (unhide HB5).size))
        clear hown6 hrow6 hb6
        have hdr : RightL (dup zs) := dup_right (fun x hx => List.all_eq_true.1 (unhide HALL) x hx)
        have hdl : (dup zs).length ≤ 1073741824 := by rw [dup_length]; omega
        have HCR := hide (refSpans_any av cv (dup zs) hdl hdr w6 (unhide HRowS))
        clear hdr
        go_wp2_with fail
        refine (unhide HCR).mono ?_
        rintro e w7 ⟨v7, os, rfl, hown7, hS7, hm7, hb7⟩
        obtain rfl : us = os := spread_unique us os (unhide HSp) hS7 (fun r => (unhide HMm r).trans (hm7 r).symm)
        obtain ⟨a7, c7, rfl, hrow7, _, _⟩ := own_row hown7
        have HB7 := hide ((unhide HB6).trans (hb7.mono (unhide HB6).size))
        have HCS := hide (sameP_any a6 a7 c6 c7 us us (by omega) (by omega) w7 ((unhide HRow6).below hb7) hrow7)
        rw [sameB_refl] at HCS
        clear hown7 hrow7 hS7 hm7 hb7 HCR
        go_wp2_with fail
        refine (unhide HCS).mono ?_
        rintro e w8 ⟨rfl, hb8⟩
        have HB8 := hide ((unhide HB7).trans (hb8.mono (unhide HB7).size))
        clear hb8
        go_wp2_with fail
        go_ret
        exact ⟨rfl, unhide HB8⟩
set_option maxRecDepth 100000 in
set_option maxHeartbeats 8000000 in
theorem numbers_u32 (p : Option Addr) (cap : Nat) (zs : List Int) (hz : zs.length ≤ 1000) (hf : ∀ x ∈ zs, 0 ≤ x ∧ x ≤ 4294967295) (w : World) (hr : RowN .u32 w p zs) :
    Calls Try.prog 24 #[.slice p zs.length cap] w fun e w' => e = .returned (.bool true) ∧ Below w.heap.size w w' := by
  have hlen : (zs.length : Int) ≤ 1000 := by omega
  have HR := hide hr
  have HF := hide hf
  clear hr hf
  go_enter Try.func24, Try.ntmps24
  go_wp2_with fail
  go_loopw [3, 4, 5] (fun v s4 i wr => ∃ (k : Nat) (q : Int) (ss : List (Int × Int)), i = .int .i64 k ∧ k ≤ zs.length ∧ s4 = .int .i64 q ∧ Hz (NmI zs w wr k v q ss)) (fun _ _ i _ => zs.length - (intOf i).toNat)
  case atStart => exact ⟨0, 0, [], rfl, by omega, rfl, hide ⟨rfl, World.ownsRow_nil _ _ _ _, Below.refl _ _, by simp [noV], fun _ => rfl⟩⟩
  case round =>
    obtain ⟨k, q, ss, rfl, hk, rfl, HI⟩ := hrel
    have hss : ss.length ≤ 900000 := by rw [(unhide HI).len]; omega
    by_cases hkn : k < zs.length
    · have hk1 : (k : Int) < (zs.length : Int) := by omega
      have hk2 : ((k : Nat) : Int).toNat = k := by omega
      obtain ⟨x, hx⟩ : ∃ x, zs[k]? = some x := ⟨_, List.getElem?_eq_getElem (by omega)⟩
      obtain ⟨g, o, rfl, hg, hc⟩ := unhide HR (by omega)
      have c0 := ((unhide HI).old.cell (p := ⟨g, o + k, none⟩) hg).trans (hc k x hx)
      obtain ⟨bx1, bx2⟩ := unhide HF x (List.mem_of_getElem? hx)
      have HX := hide hx
      clear hc hx
      cases hrx : runeB x with
      | true =>
        have hb := runeB_iff hrx
        have hb1 : 0 ≤ x := hb.1
        have hb2 : x ≤ 1114111 := hb.2.1
        have hno1 : ¬ x < 0 := by omega
        have hno2 : ¬ 1114111 < x := by omega
        have HRX := hide hrx
        clear hb

        have HId : Hz (NmI zs w wr.drew k u3 q ss) := hide ((unhide HI).drew)
        go_wp2_with (first | (go_at_call 51; refine (refRune_any x _).mono ?_; rintro e w' ⟨rfl, hw'⟩; have hw2 := hw'.symm; subst hw2))
        go_region_law (first
          | (refine step_oneP (by rfl) _ _ (by rfl) w.heap.size _ ss (by rfl) hss wr.drew _ _ (by rfl) (unhide HId).own (unhide HId).old.size _ (by rfl) (by rfl) ?_; intro g1 cap1 w1 hown hb1'))
        all_goals
          have HI2 := hide ((unhide HId).good (unhide HX) (unhide HRX) (by first | rfl | rw [wrapI32 x hb1 hb2]) hown hb1')
          clear hown hb1' HI HId c0
          go_wp2_with fail
          go_roundw
          case rel => exact ⟨k + 1, _, _, by congr 1, by omega, rfl, HI2⟩
          case measure => simp [intOf]; omega
      | false =>
        have HRX := hide hrx
        have hb1 : 0 ≤ x := by omega
        by_cases h2 : 1114111 < x
        · clear hrx
          have h1n : ¬ x < 0 := by omega
          have HId : Hz (NmI zs w wr.drew k u3 q ss) := hide ((unhide HI).drew)
          go_wp2_with (first | (go_at_call 51; refine (refRune_any x _).mono ?_; rintro e w' ⟨rfl, hw'⟩; have hw2 := hw'.symm; subst hw2))
          go_region_law (first
            | (refine step_oneP (by rfl) _ _ (by rfl) w.heap.size _ ss (by rfl) hss wr.drew _ _ (by rfl) (unhide HId).own (unhide HId).old.size _ (by rfl) (by rfl) ?_; intro g1 cap1 w1 hown hb1'))
          all_goals
            have HI2 := hide ((unhide HId).bad (unhide HX) (unhide HRX) hown hb1')
            clear hown hb1' HI HId c0
            go_wp2_with fail
            go_roundw
            case rel => exact ⟨k + 1, _, _, by congr 1, by omega, rfl, HI2⟩
            case measure => simp [intOf]; omega
        · have hb2 : x ≤ 1114111 := by omega
          have h1n : ¬ x < 0 := by omega
          have h2n : ¬ 1114111 < x := by omega
          have HId : Hz (NmI zs w wr.drew k u3 q ss) := hide ((unhide HI).drew)
          go_wp2_with (first | (go_at_call 51; refine (refRune_any x _).mono ?_; rintro e w' ⟨rfl, hw'⟩; have hw2 := hw'.symm; subst hw2))
          go_region_law (first
            | (refine step_oneP (by rfl) _ _ (by rfl) w.heap.size _ ss (by rfl) hss wr.drew _ _ (by rfl) (unhide HId).own (unhide HId).old.size _ (by rfl) (by rfl) ?_; intro g1 cap1 w1 hown hb1'))
          all_goals
            have HI2 := hide ((unhide HId).bad (unhide HX) (unhide HRX) hown hb1')
            clear hown hb1' HI HId c0
            go_wp2_with fail
            go_roundw
            case rel => exact ⟨k + 1, _, _, by congr 1, by omega, rfl, HI2⟩
            case measure => simp [intOf]; omega
    · have hk1 : ¬ (k : Int) < (zs.length : Int) := by omega
      obtain rfl : k = zs.length := by omega
      have hno := (unhide HI).no
      have hok := (unhide HI).ok
      rw [List.take_length] at hno hok
      obtain ⟨av, cv, rfl, hrow, _, _⟩ := own_row (unhide HI).own
      have HRow := hide hrow
      have HC := hide (from_u32 p cap zs hz (unhide HF) wr ((unhide HR).below (unhide HI).old))
      have HB := hide (unhide HI).old
      clear hrow HI
      cases hall : zs.all runeB with
      | false =>
        have hq : q = 12 := by rw [hno]; simp [noV, hall]
        subst hq
        have HALL := hide hall
        clear hno hok hall
        go_wp2_with fail
        refine (unhide HC).mono ?_
        intro e w5 hFP
        obtain rfl := hFP.2.1 (unhide HALL)
        have HB5 := hide ((unhide HB).trans (hFP.2.2.mono (unhide HB).size))
        clear hFP
        go_wp2_with fail
        go_ret
        exact ⟨rfl, unhide HB5⟩
      | true =>
        have hq : q = 0 := by rw [hno]; simp [noV, hall]
        subst hq
        obtain rfl := hok hall
        have HALL := hide hall
        clear hno hok hall
        go_wp2_with fail
        refine (unhide HC).mono ?_
        intro e w5 hFP
        obtain ⟨B, lo0, us, rfl, hlo, hM, hS, hl, hm⟩ := hFP.1 (unhide HALL)
        have HB5 := hide ((unhide HB).trans (hFP.2.2.mono (unhide HB).size))
        have HRow5 := hide ((unhide HRow).below hFP.2.2)
        have HS5 := hide (hM.set hS (by omega))
        have HSp := hide hS
        have HMm := hide hm
        clear hFP hM hS hm hlo HRow HB
        go_wp2_with fail
        refine (spans_any B us w5 (unhide HS5)).mono ?_
        rintro e w6 ⟨v6, rfl, hown6, hb6⟩
        obtain ⟨a6, c6, rfl, hrow6, _, _⟩ := own_row hown6
        have HRow6 := hide hrow6
        have HRowS := hide ((unhide HRow5).below hb6)
        have HB6 := hide ((unhide HB5).trans (hb6.mono (unhide HB5).size))
        clear hown6 hrow6 hb6
        have hdr : RightL (dup zs) := dup_right (fun x hx => List.all_eq_true.1 (unhide HALL) x hx)
        have hdl : (dup zs).length ≤ 1073741824 := by rw [dup_length]; omega
        have HCR := hide (refSpans_any av cv (dup zs) hdl hdr w6 (unhide HRowS))
        clear hdr
        go_wp2_with fail
        refine (unhide HCR).mono ?_
        rintro e w7 ⟨v7, os, rfl, hown7, hS7, hm7, hb7⟩
        obtain rfl : us = os := spread_unique us os (unhide HSp) hS7 (fun r => (unhide HMm r).trans (hm7 r).symm)
        obtain ⟨a7, c7, rfl, hrow7, _, _⟩ := own_row hown7
        have HB7 := hide ((unhide HB6).trans (hb7.mono (unhide HB6).size))
        have HCS := hide (sameP_any a6 a7 c6 c7 us us (by omega) (by omega) w7 ((unhide HRow6).below hb7) hrow7)
        rw [sameB_refl] at HCS
        clear hown7 hrow7 hS7 hm7 hb7 HCR
        go_wp2_with fail
        refine (unhide HCS).mono ?_
        rintro e w8 ⟨rfl, hb8⟩
        have HB8 := hide ((unhide HB7).trans (hb8.mono (unhide HB7).size))
        clear hb8
        go_wp2_with fail
        go_ret
        exact ⟨rfl, unhide HB8⟩
set_option maxRecDepth 100000 in
set_option maxHeartbeats 8000000 in
theorem numbers_kin (p : Option Addr) (cap : Nat) (zs : List Int) (hz : zs.length ≤ 1000) (hf : ∀ x ∈ zs, 0 ≤ x ∧ x ≤ 4294967295) (w : World) (hr : RowN .u32 w p zs) :
    Calls Try.prog 25 #[.slice p zs.length cap] w fun e w' => e = .returned (.bool true) ∧ Below w.heap.size w w' := by
  have hlen : (zs.length : Int) ≤ 1000 := by omega
  have HR := hide hr
  have HF := hide hf
  clear hr hf
  go_enter Try.func25, Try.ntmps25
  go_wp2_with fail
  go_loopw [3, 4, 5] (fun v s4 i wr => ∃ (k : Nat) (q : Int) (ss : List (Int × Int)), i = .int .i64 k ∧ k ≤ zs.length ∧ s4 = .int .i64 q ∧ Hz (NmI zs w wr k v q ss)) (fun _ _ i _ => zs.length - (intOf i).toNat)
  case atStart => exact ⟨0, 0, [], rfl, by omega, rfl, hide ⟨rfl, World.ownsRow_nil _ _ _ _, Below.refl _ _, by simp [noV], fun _ => rfl⟩⟩
  case round =>
    obtain ⟨k, q, ss, rfl, hk, rfl, HI⟩ := hrel
    have hss : ss.length ≤ 900000 := by rw [(unhide HI).len]; omega
    by_cases hkn : k < zs.length
    · have hk1 : (k : Int) < (zs.length : Int) := by omega
      have hk2 : ((k : Nat) : Int).toNat = k := by omega
      obtain ⟨x, hx⟩ : ∃ x, zs[k]? = some x := ⟨_, List.getElem?_eq_getElem (by omega)⟩
      obtain ⟨g, o, rfl, hg, hc⟩ := unhide HR (by omega)
      have c0 := ((unhide HI).old.cell (p := ⟨g, o + k, none⟩) hg).trans (hc k x hx)
      obtain ⟨bx1, bx2⟩ := unhide HF x (List.mem_of_getElem? hx)
      have HX := hide hx
      clear hc hx
      cases hrx : runeB x with
      | true =>
        have hb := runeB_iff hrx
        have hb1 : 0 ≤ x := hb.1
        have hb2 : x ≤ 1114111 := hb.2.1
        have hno1 : ¬ x < 0 := by omega
        have hno2 : ¬ 1114111 < x := by omega
        have HRX := hide hrx
        clear hb

        have HId : Hz (NmI zs w wr.drew k u3 q ss) := hide ((unhide HI).drew)
        go_wp2_with (first | (go_at_call 51; refine (refRune_any x _).mono ?_; rintro e w' ⟨rfl, hw'⟩; have hw2 := hw'.symm; subst hw2))
        go_region_law (first
          | (refine step_oneP (by rfl) _ _ (by rfl) w.heap.size _ ss (by rfl) hss wr.drew _ _ (by rfl) (unhide HId).own (unhide HId).old.size _ (by rfl) (by rfl) ?_; intro g1 cap1 w1 hown hb1'))
        all_goals
          have HI2 := hide ((unhide HId).good (unhide HX) (unhide HRX) (by first | rfl | rw [wrapI32 x hb1 hb2]) hown hb1')
          clear hown hb1' HI HId c0
          go_wp2_with fail
          go_roundw
          case rel => exact ⟨k + 1, _, _, by congr 1, by omega, rfl, HI2⟩
          case measure => simp [intOf]; omega
      | false =>
        have HRX := hide hrx
        have hb1 : 0 ≤ x := by omega
        by_cases h2 : 1114111 < x
        · clear hrx
          have h1n : ¬ x < 0 := by omega
          have HId : Hz (NmI zs w wr.drew k u3 q ss) := hide ((unhide HI).drew)
          go_wp2_with (first | (go_at_call 51; refine (refRune_any x _).mono ?_; rintro e w' ⟨rfl, hw'⟩; have hw2 := hw'.symm; subst hw2))
          go_region_law (first
            | (refine step_oneP (by rfl) _ _ (by rfl) w.heap.size _ ss (by rfl) hss wr.drew _ _ (by rfl) (unhide HId).own (unhide HId).old.size _ (by rfl) (by rfl) ?_; intro g1 cap1 w1 hown hb1'))
          all_goals
            have HI2 := hide ((unhide HId).bad (unhide HX) (unhide HRX) hown hb1')
            clear hown hb1' HI HId c0
            go_wp2_with fail
            go_roundw
            case rel => exact ⟨k + 1, _, _, by congr 1, by omega, rfl, HI2⟩
            case measure => simp [intOf]; omega
        · have hb2 : x ≤ 1114111 := by omega
          have h1n : ¬ x < 0 := by omega
          have h2n : ¬ 1114111 < x := by omega
          have HId : Hz (NmI zs w wr.drew k u3 q ss) := hide ((unhide HI).drew)
          go_wp2_with (first | (go_at_call 51; refine (refRune_any x _).mono ?_; rintro e w' ⟨rfl, hw'⟩; have hw2 := hw'.symm; subst hw2))
          go_region_law (first
            | (refine step_oneP (by rfl) _ _ (by rfl) w.heap.size _ ss (by rfl) hss wr.drew _ _ (by rfl) (unhide HId).own (unhide HId).old.size _ (by rfl) (by rfl) ?_; intro g1 cap1 w1 hown hb1'))
          all_goals
            have HI2 := hide ((unhide HId).bad (unhide HX) (unhide HRX) hown hb1')
            clear hown hb1' HI HId c0
            go_wp2_with fail
            go_roundw
            case rel => exact ⟨k + 1, _, _, by congr 1, by omega, rfl, HI2⟩
            case measure => simp [intOf]; omega
    · have hk1 : ¬ (k : Int) < (zs.length : Int) := by omega
      obtain rfl : k = zs.length := by omega
      have hno := (unhide HI).no
      have hok := (unhide HI).ok
      rw [List.take_length] at hno hok
      obtain ⟨av, cv, rfl, hrow, _, _⟩ := own_row (unhide HI).own
      have HRow := hide hrow
      have HC := hide (from_kin p cap zs hz (unhide HF) wr ((unhide HR).below (unhide HI).old))
      have HB := hide (unhide HI).old
      clear hrow HI
      cases hall : zs.all runeB with
      | false =>
        have hq : q = 12 := by rw [hno]; simp [noV, hall]
        subst hq
        have HALL := hide hall
        clear hno hok hall
        go_wp2_with fail
        refine (unhide HC).mono ?_
        intro e w5 hFP
        obtain rfl := hFP.2.1 (unhide HALL)
        have HB5 := hide ((unhide HB).trans (hFP.2.2.mono (unhide HB).size))
        clear hFP
        go_wp2_with fail
        go_ret
        exact ⟨rfl, unhide HB5⟩
      | true =>
        have hq : q = 0 := by rw [hno]; simp [noV, hall]
        subst hq
        obtain rfl := hok hall
        have HALL := hide hall
        clear hno hok hall
        go_wp2_with fail
        refine (unhide HC).mono ?_
        intro e w5 hFP
        obtain ⟨B, lo0, us, rfl, hlo, hM, hS, hl, hm⟩ := hFP.1 (unhide HALL)
        have HB5 := hide ((unhide HB).trans (hFP.2.2.mono (unhide HB).size))
        have HRow5 := hide ((unhide HRow).below hFP.2.2)
        have HS5 := hide (hM.set hS (by omega))
        have HSp := hide hS
        have HMm := hide hm
        clear hFP hM hS hm hlo HRow HB
        go_wp2_with fail
        refine (spans_any B us w5 (unhide HS5)).mono ?_
        rintro e w6 ⟨v6, rfl, hown6, hb6⟩
        obtain ⟨a6, c6, rfl, hrow6, _, _⟩ := own_row hown6
        have HRow6 := hide hrow6
        have HRowS := hide ((unhide HRow5).below hb6)
        have HB6 := hide ((unhide HB5).trans (hb6.mono (unhide HB5).size))
        clear hown6 hrow6 hb6
        have hdr : RightL (dup zs) := dup_right (fun x hx => List.all_eq_true.1 (unhide HALL) x hx)
        have hdl : (dup zs).length ≤ 1073741824 := by rw [dup_length]; omega
        have HCR := hide (refSpans_any av cv (dup zs) hdl hdr w6 (unhide HRowS))
        clear hdr
        go_wp2_with fail
        refine (unhide HCR).mono ?_
        rintro e w7 ⟨v7, os, rfl, hown7, hS7, hm7, hb7⟩
        obtain rfl : us = os := spread_unique us os (unhide HSp) hS7 (fun r => (unhide HMm r).trans (hm7 r).symm)
        obtain ⟨a7, c7, rfl, hrow7, _, _⟩ := own_row hown7
        have HB7 := hide ((unhide HB6).trans (hb7.mono (unhide HB6).size))
        have HCS := hide (sameP_any a6 a7 c6 c7 us us (by omega) (by omega) w7 ((unhide HRow6).below hb7) hrow7)
        rw [sameB_refl] at HCS
        clear hown7 hrow7 hS7 hm7 hb7 HCR
        go_wp2_with fail
        refine (unhide HCS).mono ?_
        rintro e w8 ⟨rfl, hb8⟩
        have HB8 := hide ((unhide HB7).trans (hb8.mono (unhide HB7).size))
        clear hb8
        go_wp2_with fail
        go_ret
        exact ⟨rfl, unhide HB8⟩
end Go.Proofs.Ytemmflhofhngbaa
