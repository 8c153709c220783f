/- SetsOf: any spans: the refusal, or the fewest spans, in new memory each time. -/
import Derived.Test.YthbaheneikifiaaBookAP
import Derived.Test.YthbaheneikifiaaRoomyP
import Derived.Test.YthbaheneikifiaaRefIn
namespace Go.Proofs.Ythbaheneikifiaa
open Go.RowKit Go.Shelf
set_option linter.unusedVariables false
theorem KeepsP.made {W W' : World} {B lo C lo0 : Nat} {zs : List (Int × Int)} (h : KeepsP B lo W W') (hm : Made W C lo0 zs) {c : Array Value} (hB : Blk W B c 86) : Made W' C lo0 zs := by
  obtain ⟨va, vb, h1, h2, h3⟩ := hm.form
  refine ⟨⟨va, vb, h.1 C _ _ h1 (by decide) (fun e => ?_), h.own hB h2, ?_⟩, hm.lo⟩
  · subst e
    have := (show W.heap[C]? = _ from hB).symm.trans h1
    simp at this
  · refine ⟨h3.1, ?_⟩
    rcases h3.2 with hn | ⟨g, cap, cur, rfl, q1, q2, rest⟩
    · exact .inl hn
    · refine .inr ⟨g, cap, cur, rfl, q1, h.1 g cur _ q2 (by decide) (fun e => ?_), rest⟩
      subst e
      have := (show W.heap[g]? = _ from hB).symm.trans q2
      simp at this
theorem own_baseP {W : World} {base base' e size n : Nat} {v : Value} {xs : List Value} (h : W.ownsRow base e size v n xs) (hb : base' ≤ base) : W.ownsRow base' e size v n xs :=
  ⟨h.1, h.2.imp id fun ⟨g, cap, cur, h1, h2, h3⟩ => ⟨g, cap, cur, h1, Nat.le_trans hb h2, h3⟩⟩
set_option maxRecDepth 100000 in
set_option maxHeartbeats 8000000 in
theorem law_of (a : Option Addr) (cap : Nat) (zs : List (Int × Int)) (hf : ∀ x ∈ zs, fitB x) (hcap : zs.length ≤ cap) (r : Int) (hrw : (Lit.int .i32 r).wf = true) (w : World) (hr : RowP w a zs) :
    Calls Try.prog 6 #[.slice a zs.length cap, .int .i32 r] w fun e w' => e = .returned (.bool true) ∧ Below w.heap.size w w' := by
  obtain ⟨hr0, hr1⟩ := fit_wf hrw
  have HR := hide hr
  have HF := hide hf
  clear hr hf hrw
  go_enter Try.func6, Try.ntmps6
  go_wp2_with fail
  refine (alive_any _).mono ?_
  rintro e w1 ⟨rfl, hb1⟩
  have HB1 := hide hb1
  clear hb1
  go_wp2_with fail
  refine (few_any a cap zs hcap w1).mono ?_
  rintro e w4 ⟨rfl, rfl⟩
  obtain ⟨xs, hxs⟩ : ∃ xs, xs = zs.take 60 := ⟨_, rfl⟩
  have HRx : Hid (RowP w4 a xs) := hide (by rw [hxs]; exact ((unhide HR).below (unhide HB1)).take 60)
  have HFx : Hid (∀ x ∈ xs, fitB x) := hide (by rw [hxs]; exact fun x hx => unhide HF x (List.mem_of_mem_take hx))
  have hxl : xs.length ≤ 60 := by rw [hxs, List.length_take]; omega
  rw [← hxs]
  clear hxs HR HF
  go_wp2_with fail
  have hal := (Below.refl w4.heap.size w4).alloc (Nat.le_refl _) (.cells #[.slice none 0 0, .slice none 0 0, .int .i64 0, .bool false] 86)
  refine (roomyP_any a cap xs (by omega) (7, 7) _ ((unhide HRx).below hal)).mono ?_
  rintro e w5 ⟨g, rfl, hgg, hnum, hb⟩
  rw [World.size_alloc] at hgg hb
  have HN5 := hide hnum
  have HL5 := hide (hal.trans (hb.mono (by omega)))
  have HBK5 : Hid (BookP w5 w4.heap.size w4.heap.size [] (.slice none 0 0) (.slice none 0 0) 0) := hide ⟨⟨(Blk.new w4 _ _).below hb (by omega), SlAt.nil _ _ _, SlAt.nil _ _ _, .inl rfl, Nat.le_refl _⟩, by simp, List.Pairwise.nil⟩
  clear hb hal hnum
  have hxi : (xs.length : Int) ≤ 60 := by omega
  go_wp2
  go_loopw [7] (fun i wr => ∃ (k : Nat) (its : List ItP) (lv wv : Value) (h : Int), i = .int .i64 k ∧ k ≤ 2 ∧ its.length ≤ 4 * k ∧ Hid (BookP wr w4.heap.size w4.heap.size its lv wv h) ∧ Hid (NumsP wr g (roomyP xs (7, 7))) ∧ Hid (Below w4.heap.size w4 wr)) (fun i _ => 2 - (intOf i).toNat)
  case atStart => exact ⟨0, [], _, _, _, rfl, by omega, by simp, HBK5, HN5, HL5⟩
  case round =>
    obtain ⟨k, its, lv, wv, h, rfl, hk, hil, HBK, HN, HL⟩ := hrel
    have hlo : w4.heap.size < wr.heap.size := (unhide HBK).bk.blk.lt
    have HRR := hide ((unhide HRx).below (unhide HL))
    obtain ⟨W5, hW5⟩ : ∃ W5, W5 = wr := ⟨_, rfl⟩
    rw [← hW5] at HBK HN HL hlo HRR ⊢
    clear hW5 HBK5 HN5 HL5
    by_cases hk2 : k < 2
    · have hk3 : (k : Int) < 2 := by omega
      have hrow : RowP W5 (some ⟨g, 0, none⟩) xs := by
        have q := NumsP.row (unhide HN) xs.length (by rw [roomyP_length]; omega)
        rw [roomyP_take] at q
        exact q
      have HROW := hide hrow
      clear hrow
      rcases errOf_cases xs with ⟨_, hR⟩ | hE
      · have HRR2 := hide hR
        clear hR
        go_wp2_with fail
        refine (made_right _ _ xs (by omega) (unhide HRR2) (unhide HFx) W5 (unhide HROW)).mono ?_
        rintro e w6 ⟨B, lo0, lo1, ys, v, rfl, h1, h2, h3, h4, h5, h6, h7, hb⟩
        obtain ⟨d, cd, rfl, _, _, _⟩ := own_row h4
        have HM6 := hide h3
        have HW6 := hide h4
        have HSP := hide h5
        have hyl : ys.length ≤ 60 := by omega
        have HME := hide (h7 r)
        have HBK6 := hide ((unhide HBK).below (by omega) hb)
        have HN6 := hide (Blk.below (unhide HN) hb (Blk.lt (unhide HN)))
        have HL6 := hide ((unhide HL).trans (hb.mono (by omega)))
        clear h1 h2 h3 h4 h5 h6 h7 hb HROW
        go_wp2
        go_loopw [11] (fun j wr2 => ∃ (m : Nat) (its : List ItP) (lv wv : Value) (h : Int), j = .int .i64 m ∧ m ≤ 2 ∧ its.length ≤ 4 * k + m ∧ Hid (BookP wr2 w4.heap.size w4.heap.size its lv wv h) ∧ Hid (NumsP wr2 g (roomyP xs (7, 7))) ∧ Hid (Below w4.heap.size w4 wr2) ∧ Hid (Made wr2 B lo0 ys) ∧ Hid (wr2.ownsRow lo1 63 2 (.slice d ys.length cd) ys.length (encP ys))) (fun j _ => 2 - (intOf j).toNat)
        case atStart => exact ⟨0, its, lv, wv, h, rfl, by omega, by omega, HBK6, HN6, HL6, HM6, HW6⟩
        case round =>
          clear HBK HN HL HBK6 HN6 HL6 HM6 HW6 HRR hil hlo
          obtain ⟨m, its, lv, wv, h, rfl, hm, hil, HBK, HN, HL, HM, HW⟩ := hrel
          have hlo : w4.heap.size < wr.heap.size := (unhide HBK).bk.blk.lt
          have HRR := hide ((unhide HRx).below (unhide HL))
          by_cases hm2 : m < 2
          · have hm3 : (m : Int) < 2 := by omega
            have HS := hide ((unhide HM).set (unhide HSP) (by omega))
            go_wp2_with fail
            refine (spans_any B ys wr (unhide HS)).mono ?_
            rintro e w7 ⟨v7, rfl, hown, hb⟩
            obtain ⟨d7, c7, rfl, hrow7, _, _⟩ := own_row hown
            obtain ⟨d8, c8, e8, hrow8, _, _⟩ := own_row (own_below (unhide HW) hb)
            cases e8
            have HO7 := hide hown
            have HR7 := hide hrow7
            have HR8 := hide hrow8
            have HDIS : Hid (∀ it ∈ its, it.v.ownBlock = none ∨ it.v.ownBlock ≠ (Value.slice d7 ys.length c7).ownBlock) := hide (fun it hi => by
              cases hv : it.v.ownBlock with
              | none => exact .inl rfl
              | some y =>
                refine .inr fun e => ?_
                have q1 := (((unhide HBK).own it hi).1.lt y hv).2
                have q2 := (hown.lt y e.symm).1
                omega)
            have HB7 := hide hb
            clear hown hrow7 hrow8 hb
            go_wp2_with fail
            refine (sameP_row d7 d c7 cd ys (by omega) w7 (unhide HR7) (unhide HR8)).mono ?_
            rintro e w8 ⟨rfl, hb⟩
            have HB8 := hide ((unhide HB7).trans (hb.mono (unhide HB7).size))
            have HO8 := hide (own_below (unhide HO7) hb)
            have HR9 := hide ((unhide HR8).below hb)
            have HS8 := hide ((unhide HS).below (unhide HB8))
            clear hb HB7 HO7 HR7 HR8
            have HZ1 := hide (size_any B ys w8 (unhide HS8))
            have HZ2 := hide (fun w hr => refSize_any d cd ys (by omega) (unhide HSP).ends w hr)
            generalize total ys = tot at HZ1 HZ2
            have htt : (tot != tot) = false := by simp
            go_wp2_with fail
            refine (unhide HZ1).mono ?_
            rintro e w9 ⟨rfl, hb⟩
            have HB9 := hide ((unhide HB8).trans (hb.mono (unhide HB8).size))
            have HO9 := hide (own_below (unhide HO8) hb)
            have HR10 := hide ((unhide HR9).below hb)
            clear hb HB8 HO8 HR9 HS8 HZ1
            go_wp2_with fail
            refine (unhide HZ2 w9 (unhide HR10)).mono ?_
            rintro e w10 ⟨rfl, hb⟩
            have HB10 := hide ((unhide HB9).trans (hb.mono (unhide HB9).size))
            have HO10 := hide (own_below (unhide HO9) hb)
            clear hb HB9 HO9 HR10 HZ2
            have HS10 := hide ((unhide HS).below (unhide HB10))
            have HI1 := hide (in_any B ys r w10 (unhide HS10))
            have HI2 := hide (fun w hr => refIn_any a cap xs (by omega) (unhide HFx) r w hr)
            rw [unhide HME] at HI1
            generalize memB xs r = q at HI1 HI2
            have hqq : (q != q) = false := by cases q <;> rfl
            go_wp2_with fail
            refine (unhide HI1).mono ?_
            rintro e w11 ⟨rfl, hb⟩
            have HB11 := hide ((unhide HB10).trans (hb.mono (unhide HB10).size))
            have HO11 := hide (own_below (unhide HO10) hb)
            have HR11 := hide ((unhide HRR).below (unhide HB11))
            clear hb HB10 HO10 HS10 HI1
            go_wp2_with fail
            refine (unhide HI2 w11 (unhide HR11)).mono ?_
            rintro e w12 ⟨rfl, hb⟩
            have hb12 := (unhide HB11).trans (hb.mono (unhide HB11).size)
            have HO12 := hide (own_baseP (own_below (unhide HO11) hb) (show w4.heap.size ≤ wr.heap.size by omega))
            have HBK12 := hide ((unhide HBK).below (by omega) hb12)
            have HN12 := hide (Blk.below (unhide HN) hb12 (Blk.lt (unhide HN)))
            have HL12 := hide ((unhide HL).trans (hb12.mono (by omega)))
            have HM12 := hide ((unhide HM).below hb12)
            have HW12 := hide (own_below (unhide HW) hb12)
            have hz12 := hb12.size
            clear hb hb12 HB11 HO11 HR11 HI2
            go_wp2_with fail
            refine (keep_anyP w12 w4.heap.size w4.heap.size its lv wv h _ ys (unhide HDIS) (unhide HO12) (by omega) (by unfold maxLen; omega) (unhide HBK12) (by omega) (by omega)).mono ?_
            rintro e w13 ⟨⟨rr, rfl⟩, ⟨t, lv', wv', h', htn, _, htl, hbk⟩, hkk⟩
            have HBK13 := hide hbk
            have HN13 : Hid (NumsP w13 g (roomyP xs (7, 7))) := hide (hkk.1 _ _ _ (unhide HN12) (by decide) (by omega))
            have HL13 := hide ((unhide HL12).trans hkk.2)
            have HM13 := hide (hkk.made (unhide HM12) (unhide HBK12).bk.blk)
            have HW13 := hide (hkk.own (unhide HBK12).bk.blk (unhide HW12))
            clear hbk hkk
            go_wp2
            go_roundw
            case rel => exact ⟨m + 1, t, lv', wv', h', by go_num, by omega, by omega, HBK13, HN13, HL13, HM13, HW13⟩
            case measure => simp [intOf]; omega
          · have hm3 : ¬ (m : Int) < 2 := by omega
            go_wp2
            go_roundw
            case rel => exact ⟨k + 1, its, lv, wv, h, by go_num, by omega, by omega, HBK, HN, HL⟩
            case measure => simp [intOf]; omega
      · have hEn : errOf xs ≠ 0 := by rcases hE with ⟨h, _⟩ | ⟨h, _⟩ <;> omega
        have HEn := hide hEn
        clear hE hEn
        go_wp2_with fail
        refine (made_wrong _ _ xs (by omega) (unhide HEn) (unhide HFx) W5 (unhide HROW)).mono ?_
        rintro e w6 ⟨rfl, hb⟩
        have HBK6 := hide ((unhide HBK).below (by omega) hb)
        have HN6 := hide (Blk.below (unhide HN) hb (Blk.lt (unhide HN)))
        have HL6 := hide ((unhide HL).trans (hb.mono (by omega)))
        clear hb
        go_wp2
        go_roundw
        case rel => exact ⟨k + 1, its, lv, wv, h, by go_num, by omega, by omega, HBK6, HN6, HL6⟩
        case measure => simp [intOf]; omega
    · have hk3 : ¬ (k : Int) < 2 := by omega
      go_wp2_with fail
      refine (intactP_any g a cap xs (by omega) (7, 7) _ (unhide HN) (unhide HRR)).mono ?_
      rintro e w6 ⟨rfl, hb⟩
      have HBK6 := hide ((unhide HBK).below (by omega) hb)
      have HL6 := hide ((unhide HL).trans (hb.mono (by omega)))
      have hz6 : W5.heap.size ≤ w6.heap.size := hb.size
      clear hb
      go_wp2_with fail
      refine (apart_anyP mkP (fun i j w hi hj => markP_any i j w hi hj) w6 w4.heap.size w4.heap.size its lv wv h (unhide HBK6) (by omega) (by omega)).mono ?_
      rintro e w7 ⟨rfl, hb⟩
      have HL7 := hide ((unhide HL6).trans hb)
      clear hb
      go_wp2
      go_ret
      exact ⟨rfl, (unhide HB1).trans ((unhide HL7).mono (unhide HB1).size)⟩
end Go.Proofs.Ythbaheneikifiaa
