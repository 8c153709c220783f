/- made: a set of spans, and the fewest; few; the reference's Size. -/
import Derived.Test.YthbaheneikifiaaRefSpans
import Derived.Test.YthbaheneikifiaaSetAlive
namespace Go.Proofs.Ythbaheneikifiaa
open Go.RowKit Go.Shelf
set_option linter.unusedVariables false
theorem refsize_any (x : Int × Int) (he : endsB x = true) (hx : x.1 ≤ x.2) (w : World) : Calls Try.prog 87 #[spanV x] w fun e w' => e = .returned (.int .i64 (spanSize x)) ∧ Below w.heap.size w w' := by
  have h := endsB_iff he
  have hs : spanSize x = if x.1 < 55296 ∧ 57343 < x.2 then x.2 - x.1 + 1 - 2048 else x.2 - x.1 + 1 := by
    unfold spanSize rankOf
    split <;> split <;> (try split) <;> (try split) <;> omega
  rw [hs]
  obtain ⟨lo, hi⟩ := x
  simp only at h hx ⊢
  have b1 := Blk.new w #[.int .i32 lo, .int .i32 hi] 63
  have q0 := b1.cell 0
  have q1 := b1.cell 1
  clear b1 he hs
  by_cases h1 : lo < 55296
  · by_cases h2 : 57343 < hi
    · rw [if_pos ⟨h1, h2⟩]
      go_enter Try.func87, Try.ntmps87
      go_wp2
      go_ret
      exact ⟨rfl, (Below.refl _ w).alloc (Nat.le_refl _) _⟩
    · rw [if_neg (fun h => h2 h.2)]
      go_enter Try.func87, Try.ntmps87
      go_wp2
      go_ret
      exact ⟨rfl, (Below.refl _ w).alloc (Nat.le_refl _) _⟩
  · rw [if_neg (fun h => h1 h.1)]
    go_enter Try.func87, Try.ntmps87
    go_wp2
    go_ret
    exact ⟨rfl, (Below.refl _ w).alloc (Nat.le_refl _) _⟩
set_option maxRecDepth 100000 in
set_option maxHeartbeats 4000000 in
theorem refSize_any (a : Option Addr) (cap : Nat) (zs : List (Int × Int)) (hz : zs.length ≤ 1112064) (hR : RightL zs) (w : World) (hr : RowP w a zs) :
    Calls Try.prog 42 #[.slice a zs.length cap] w fun e w' => e = .returned (.int .i64 (total zs)) ∧ Below w.heap.size w w' := by
  have HR := hide hr
  have HRR := hide hR
  have hzi : (zs.length : Int) ≤ 1112064 := by omega
  clear hr hR
  go_enter Try.func42, Try.ntmps42
  go_wp2
  go_loopw [3, 4] (fun n i wr => ∃ k : Nat, n = .int .i64 (total (zs.take k)) ∧ i = .int .i64 k ∧ k ≤ zs.length ∧ Hid (Below w.heap.size w wr)) (fun _ i _ => zs.length - (intOf i).toNat)
  case atStart => exact ⟨0, rfl, rfl, by omega, hide (Below.refl _ _)⟩
  case round =>
    obtain ⟨k, rfl, rfl, hk, HB⟩ := hrel
    by_cases hkn : k < zs.length
    · have hk1 : (k : Int) < (zs.length : Int) := by omega
      have hk2 : ((k : Nat) : Int).toNat = k := by omega
      obtain ⟨x, hx⟩ : ∃ x, zs[k]? = some x := ⟨_, List.getElem?_eq_getElem hkn⟩
      have HT : Hid (total (zs.take (k + 1)) = total (zs.take k) + spanSize x) := hide (by rw [take_more hx, total_snoc])
      have hxr := unhide HRR x (List.mem_of_getElem? hx)
      have HX := hide (fun w => refsize_any x hxr.1 hxr.2 w)
      have htb := total_bound (zs := zs.take k) (fun y hy => unhide HRR y (List.mem_of_mem_take hy))
      have hlt : (zs.take k).length ≤ 1112064 := by rw [List.length_take]; omega
      have hsb : 0 ≤ spanSize x ∧ spanSize x ≤ 1112064 := by
        have := total_bound (zs := [x]) (fun y hy => by simp at hy; subst hy; exact hxr)
        simpa [total] using this
      obtain ⟨g, o, rfl, hg, hc⟩ := unhide HR (by omega)
      have c0 := ((unhide HB).cell (p := ⟨g, o + k * 2, none⟩) hg).trans (hc k x hx).1
      have c1 := ((unhide HB).cell (p := ⟨g, o + k * 2 + 1, none⟩) hg).trans (hc k x hx).2
      obtain ⟨lo, hi⟩ := x
      simp only at c0 c1
      generalize total (zs.take k) = tt at HT htb
      generalize spanSize (lo, hi) = sz at HT HX hsb
      have htt : 0 ≤ tt ∧ tt ≤ 1236686340096 := by have := htb.1; have := htb.2; omega
      clear hc hx htb hxr
      go_wp2_with fail
      refine (unhide HX wr).mono ?_
      rintro e w2 ⟨rfl, hb⟩
      have HB2 := hide ((unhide HB).trans (hb.mono (unhide HB).size))
      clear hb
      go_wp2
      go_roundw
      case rel => exact ⟨k + 1, by rw [unhide HT], by congr 1, by omega, HB2⟩
      case measure => simp [intOf]; omega
    · have hk1 : ¬ (k : Int) < (zs.length : Int) := by omega
      rw [List.take_of_length_le (by omega)]
      go_wp2
      go_ret
      exact ⟨rfl, unhide HB⟩
set_option maxRecDepth 100000 in
set_option maxHeartbeats 4000000 in
theorem made_right (a : Option Addr) (cap : Nat) (l : List (Int × Int)) (hl : l.length ≤ 1000000) (hR : RightL l) (hf : ∀ x ∈ l, fitB x) (w : World) (hr : RowP w a l) :
    Calls Try.prog 41 #[.slice a l.length cap] w fun e w' => ∃ (B lo0 lo1 : Nat) (zs : List (Int × Int)) (v : Value), e = .returned (.tuple #[.pointer (some ⟨B, 0, none⟩), v, .bool true]) ∧ w.heap.size ≤ lo0 ∧ w.heap.size ≤ lo1 ∧ Made w' B lo0 zs ∧ w'.ownsRow lo1 63 2 v zs.length (encP zs) ∧ Spread zs ∧ zs.length ≤ l.length ∧ (∀ r, memB zs r = memB l r) ∧ Below w.heap.size w w' := by
  have HR := hide hr
  have HRR := hide hR
  have HF := hide hf
  have HE : Hid (errOf l = 0) := hide (errOf_0 (fun x hx => (hR x hx).1) (fun x hx => by have := (hR x hx).2; omega))
  clear hr hR hf
  go_enter Try.func41, Try.ntmps41
  go_wp2_with fail
  refine (of_right a cap l hl (unhide HRR) w (unhide HR)).mono ?_
  rintro e w1 ⟨B, lo0, zs, rfl, hlo, hmade, hsp, hzl, hmem, hb1⟩
  have HM1 := hide hmade
  have HSP := hide hsp
  have HMM := hide hmem
  have HZL := hide hzl
  have HLO := hide hlo
  have HB1 := hide hb1
  clear hmade hsp hmem hb1 hzl hlo
  go_wp2_with fail
  refine (refOf_any a cap l (by omega) (unhide HF) w1 ((unhide HR).below (unhide HB1))).mono ?_
  rintro e w2 ⟨rfl, hb2⟩
  rw [unhide HE]
  have HM2 := hide ((unhide HM1).below hb2)
  have HB2 := hide ((unhide HB1).trans (hb2.mono (unhide HB1).size))
  clear hb2
  go_wp2_with fail
  refine (refSpans_any a cap l (by omega) (unhide HRR) w2 ((unhide HR).below (unhide HB2))).mono ?_
  rintro e w3 ⟨v, os, rfl, hown, hos, hom, hb3⟩
  obtain rfl : os = zs := spread_unique _ _ hos (unhide HSP) (fun r => (hom r).trans (unhide HMM r).symm)
  have HO := hide hown
  have HM3 := hide ((unhide HM2).below hb3)
  have HL1 := hide (unhide HB2).size
  have HB3 := hide ((unhide HB2).trans (hb3.mono (unhide HB2).size))
  clear hb3 hown hos hom
  go_wp2
  go_ret3
  exact ⟨B, lo0, w2.heap.size, os, v, rfl, unhide HLO, unhide HL1, unhide HM3, unhide HO, unhide HSP, unhide HZL, unhide HMM, unhide HB3⟩
set_option maxRecDepth 100000 in
set_option maxHeartbeats 4000000 in
theorem made_wrong (a : Option Addr) (cap : Nat) (l : List (Int × Int)) (hl : l.length ≤ 1000000) (hE : errOf l ≠ 0) (hf : ∀ x ∈ l, fitB x) (w : World) (hr : RowP w a l) :
    Calls Try.prog 41 #[.slice a l.length cap] w fun e w' => e = .returned (.tuple #[.pointer none, .slice none 0 0, .bool true]) ∧ Below w.heap.size w w' := by
  have HR := hide hr
  have HF := hide hf
  have HQ := hide (of_wrong a cap l hl hE w hr)
  have HQ2 := hide (fun w hr => refOf_any a cap l (by omega) hf w hr)
  have h1 : (errOf l != errOf l) = false := by simp
  have h2 : (errOf l == 0) = false := beq_eq_false_iff_ne.2 hE
  have h3 : -9223372036854775808 ≤ errOf l ∧ errOf l ≤ 9223372036854775807 := by rcases errOf_cases l with ⟨h, _⟩ | ⟨h, _⟩ | ⟨h, _⟩ <;> omega
  generalize errOf l = er at *
  clear hr hf hE
  go_enter Try.func41, Try.ntmps41
  go_wp2_with fail
  refine (unhide HQ).mono ?_
  rintro e w1 ⟨rfl, hb1⟩
  have HB1 := hide hb1
  clear hb1
  go_wp2_with fail
  refine (unhide HQ2 w1 ((unhide HR).below (unhide HB1))).mono ?_
  rintro e w2 ⟨rfl, hb2⟩
  have HB2 := hide ((unhide HB1).trans (hb2.mono (unhide HB1).size))
  clear hb2
  go_wp2
  go_ret3
  exact ⟨rfl, unhide HB2⟩
theorem RowP.take {W : World} {a : Option Addr} {zs : List (Int × Int)} (h : RowP W a zs) (n : Nat) : RowP W a (zs.take n) := fun h0 => by
  have hl : 0 < zs.length := by rw [List.length_take] at h0; omega
  obtain ⟨g, o, ha, hg, hc⟩ := h hl
  exact ⟨g, o, ha, hg, fun j x hj => by
    have := (List.getElem?_eq_some_iff.1 hj).1
    rw [List.length_take] at this
    rw [List.getElem?_take, if_pos (by omega)] at hj
    exact hc j x hj⟩
theorem few_any (a : Option Addr) (cap : Nat) (zs : List (Int × Int)) (hc : zs.length ≤ cap) (w : World) :
    Calls Try.prog 39 #[.slice a zs.length cap] w fun e w' => e = .returned (.slice a (zs.take 60).length cap) ∧ w' = w := by
  by_cases h : 60 < zs.length
  · have h1 : (60 : Int) < (zs.length : Int) := by omega
    have h2 : (zs.take 60).length = 60 := by rw [List.length_take]; omega
    rw [h2]
    have h3 : (60 : Int) ≤ (cap : Int) := by omega
    have h4 : 60 ≤ cap := by omega
    go_enter Try.func39, Try.ntmps39
    go_wp2
    go_ret
    exact ⟨rfl, rfl⟩
  · have h1 : ¬ (60 : Int) < (zs.length : Int) := by omega
    have h2 : (zs.take 60).length = zs.length := by rw [List.length_take]; omega
    rw [h2]
    go_enter Try.func39, Try.ntmps39
    go_wp2
    go_ret
    exact ⟨rfl, rfl⟩
end Go.Proofs.Ythbaheneikifiaa
