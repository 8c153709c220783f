/- SetsKept: a set stays what it is, whatever is written over. -/
import Derived.Test.YtaimkkdilahagaaLMade
import Derived.Test.YtaimkkdilahagaaArgP
namespace Go.Proofs.Ytaimkkdilahagaa
open Go.RowKit Go.Shelf Go.Lib
set_option linter.unusedVariables false
theorem wiped {W : World} {base g cap n : Nat} {cs : List Value} (h : W.ownsRow base 29 2 (.slice (some ⟨g, 0, none⟩) n cap) n cs) (k : Nat) :
    (∃ cs', ((W.setCell ⟨g, k * 2, none⟩ (.int .i32 0)).setCell ⟨g, k * 2 + 1, none⟩ (.int .i32 0)).ownsRow base 29 2 (.slice (some ⟨g, 0, none⟩) n cap) n cs') ∧ W.grownBy ((W.setCell ⟨g, k * 2, none⟩ (.int .i32 0)).setCell ⟨g, k * 2 + 1, none⟩ (.int .i32 0)) (some g) := by
  have h1 := h.stored (k * 2) (.int .i32 0)
  have h2 := h1.1.stored (k * 2 + 1) (.int .i32 0)
  exact ⟨⟨_, h2.1⟩, h1.2.trans h2.2⟩
theorem own_cell {W : World} {base g cap n : Nat} {cs : List Value} (h : W.ownsRow base 29 2 (.slice (some ⟨g, 0, none⟩) n cap) n cs) (k : Nat) (hk : k < n) : (∃ u, W.cell? ⟨g, k * 2, none⟩ = some u) ∧ (∃ u, W.cell? ⟨g, k * 2 + 1, none⟩ = some u) := by
  have hl := h.1
  refine ⟨⟨_, (h.cellAt (k * 2) (by omega)).trans (List.getElem?_eq_getElem (by omega))⟩, ⟨_, (h.cellAt (k * 2 + 1) (by omega)).trans (List.getElem?_eq_getElem (by omega))⟩⟩
/-- What a loop that writes over a row leaves. -/
def Wiped (w wr : World) (base n : Nat) (v : Value) : Prop := (∃ cs, wr.ownsRow base 29 2 v n cs) ∧ w.grownBy wr v.ownBlock
theorem Wiped.made {w wr : World} {base n B lo0 : Nat} {v : Value} {zs : List (Int × Int)} (h : Wiped w wr base n v) (hm : Made w B lo0 zs) (hne : ∀ k, v.ownBlock = some k → ∀ va vb, w.heap[B]? = some (.cells #[va, vb] 59 (0, 0)) → va.ownBlock ≠ some k ∧ vb.ownBlock ≠ some k ∧ B ≠ k) : Made wr B lo0 zs := by
  obtain ⟨va, vb, h1, h2, h3⟩ := hm.form
  refine ⟨⟨va, vb, h1.kept h.2 (fun e => (hne B e.symm va vb h1).2.2 rfl), h2.kept h.2 ?_, h3.kept h.2 ?_⟩, hm.lo⟩
  · by_cases e : va.ownBlock = v.ownBlock
    · cases hv : v.ownBlock with
      | none => exact .inl (by rw [e, hv])
      | some k => exact absurd (e.trans hv) (hne k hv va vb h1).1
    · exact .inr e
  · by_cases e : vb.ownBlock = v.ownBlock
    · cases hv : v.ownBlock with
      | none => exact .inl (by rw [e, hv])
      | some k => exact absurd (e.trans hv) (hne k hv va vb h1).2.1
    · exact .inr e
/-- The row that is written over lies below all that the set owns. -/
theorem Wiped.under {w wr : World} {base n B lo0 N : Nat} {v : Value} {zs : List (Int × Int)} (h : Wiped w wr base n v) (hm : Made w B lo0 zs) (hN : N ≤ lo0) (hv : ∀ k, v.ownBlock = some k → k < N) : Made wr B lo0 zs := by
  refine h.made hm fun k hk va vb hB => ?_
  obtain ⟨va', vb', h1, h2, h3⟩ := hm.form
  have e := (show w.heap[B]? = _ from h1).symm.trans hB
  simp at e
  obtain ⟨rfl, rfl⟩ := e
  have hkN := hv k hk
  have := hm.lo
  exact ⟨fun e => by have := (h2.lt k e).1; omega, fun e => by have := (h3.lt k e).1; omega, by omega⟩
/-- The row that is written over is newer than all that the set owns. -/
theorem Wiped.over {w0 w wr : World} {base n B lo0 : Nat} {v : Value} {zs : List (Int × Int)} (h : Wiped w wr base n v) (hm : Made w B lo0 zs) (hm0 : Made w0 B lo0 zs) (hb : Below w0.heap.size w0 w) (hv : ∀ k, v.ownBlock = some k → w0.heap.size ≤ k) : Made wr B lo0 zs := by
  refine h.made hm fun k hk va vb hB => ?_
  obtain ⟨va', vb', h1, h2, h3⟩ := hm0.form
  have e := ((show w.heap[B]? = _ from h1.below hb h1.lt)).symm.trans hB
  simp at e
  obtain ⟨rfl, rfl⟩ := e
  have hkN := hv k hk
  have := h1.lt
  exact ⟨fun e => by have := (h2.lt k e).2; omega, fun e => by have := (h3.lt k e).2; omega, by omega⟩
/-- append onto nil of a list of spans. -/
theorem wpList_copyP {w : World} {ops : Array Oper} {rest : List Oper} {o : Oper} {a : Act} {Q : Exit → Act → World → Prop} (hgd : o.guard = none) (s x : Operand)
    (ho : o.op = .call { callee := .builtin .append, args := #[s, x], argTypes := #[22, 22] }) (base : Nat) (hs : a.eval s = .slice none 0 0) (b : Option Addr) (c : Nat) (zs : List (Int × Int)) (hr : RowP w b zs) (hx : a.eval x = .slice b zs.length c) (hz : zs.length ≤ 1000000) (hbase : base ≤ w.heap.size)
    (h : ∀ v' w', w'.ownsRow base 29 2 v' zs.length (encP zs) → w.grownBy w' none → wpList Try.prog ops Q rest (a.put o.dst v') w') : wpList Try.prog ops Q (o :: rest) a w := by
  obtain ⟨iP, hi0, hi1, hi2, hi3⟩ := info_parts infoP
  by_cases h0 : zs.length = 0
  · refine wpList_plain hgd fun K hK => ?_
    have hw : Region.wanted o (yielded ops a.tmps) = true := by simp [Region.wanted, hgd]
    have := step_append_zero (w := w) (P := Try.prog) (ops := ops) (Q := Q) (K := K) (E := True) hgd s x 22 ho 29 iP Try.underlying22 hi0 hs b zs.length c h0 hx (hK _ _ (h (.slice none 0 0) w (by
      have : zs = [] := List.eq_nil_of_length_eq_zero h0
      subst this
      exact World.ownsRow_nil _ _ _ _) ⟨rfl, rfl, rfl, Nat.le_refl _, fun _ _ _ => rfl⟩))
    rw [if_pos hw] at this
    exact this
  · obtain ⟨g, off, rfl, hg, hc⟩ := hr (by omega)
    refine wpList_append_own w hgd s x 22 ho base 29 iP (.agg #[.int .i32 0, .int .i32 0]) 2 8 Try.underlying22 hi0 hi1 hi2 hi3 rfl (by decide) (.slice none 0 0) 0 [] hs (World.ownsRow_nil _ _ _ _) ⟨g, off, none⟩ zs.length c (encP zs) hx (encP_length zs) (fun j u hj => by rw [add_none']; exact encP_cells hc j u hj) (encP_one zs) (by unfold maxLen; omega) (by omega) hbase ?_
    intro v' w' ho' hg' _
    rw [Nat.zero_add, List.nil_append] at ho'
    exact h v' w' ho' hg'
set_option maxRecDepth 100000 in
set_option maxHeartbeats 8000000 in
theorem law_kept (a : Option Addr) (cap : Nat) (zs : List (Int × Int)) (hf : ∀ x ∈ zs, fitB x) (hcap : zs.length ≤ cap) (w : World) (hr : RowP w a zs) :
    Calls Try.prog 3 #[.slice a zs.length cap] w fun e w' => e = .returned (.bool true) ∧ Below w.heap.size w w' := by
  have HR := hide hr
  have HF := hide hf
  obtain ⟨iP, hi0, hi1, hi2, hi3⟩ := info_parts infoP
  have HP := hide (And.intro hi0 (And.intro hi1 (And.intro hi2 hi3)))
  clear hr hf hi0 hi1 hi2 hi3
  go_enter Try.func3, Try.ntmps3
  go_wp2_with fail
  refine (alive_any _).mono ?_
  rintro e w1 ⟨rfl, hb1⟩
  have HB1 := hide hb1
  clear hb1
  go_wp2_with fail
  refine (few_any a cap zs hcap w1).mono ?_
  rintro e w1' ⟨rfl, rfl⟩
  obtain ⟨xs, hxs⟩ : ∃ xs, xs = zs.take 60 := ⟨_, rfl⟩
  have HRx : Hid (RowP w1' a xs) := hide (by rw [hxs]; exact ((unhide HR).below (unhide HB1)).take 60)
  have HFx : Hid (∀ x ∈ xs, fitB x) := hide (by rw [hxs]; exact fun x hx => unhide HF x (List.mem_of_mem_take hx))
  have hxl : xs.length ≤ 60 := by rw [hxs, List.length_take]; omega
  rw [← hxs]
  clear hxs HR HF
  go_wp2_with (at_builtin; refine wpList_copyP rfl _ _ rfl w1'.heap.size rfl a cap xs (unhide HRx) rfl (by omega) (Nat.le_refl _) ?_)
  intro v w2 hown hgrow
  obtain ⟨b, cb, rfl, hrow, _, hbc⟩ := own_row hown
  have HO2 := hide hown
  have HR2 := hide hrow
  have HB2 := hide ((unhide HB1).grown hgrow (unhide HB1).size (fun k e => by cases e))
  have HL2 : Hid (∀ k, (Value.slice b xs.length cb).ownBlock = some k → w1'.heap.size ≤ k ∧ k < w2.heap.size) := hide (fun k e => hown.lt k e)
  have HS1 := hide (unhide HB1).size
  clear hown hrow hgrow HRx
  rcases errOf_cases xs with ⟨_, hR⟩ | ⟨h, _⟩ | ⟨h, _⟩
  · have HRR := hide hR
    clear hR
    go_wp2_with fail
    refine (made_right b cb xs (by omega) (unhide HRR) (unhide HFx) w2 (unhide HR2)).mono ?_
    rintro e w3 ⟨B, lo0, lo1, ys, v, rfl, hlo, hlo1, hmade, hown, hsp, hyl, hmem, hb3⟩
    obtain ⟨d, cd, rfl, _, _, _⟩ := own_row hown
    have HM3 := hide hmade
    have HW3 := hide hown
    have HSP := hide hsp
    have HLO := hide hlo
    have HLO1 := hide hlo1
    have HB3 := hide ((unhide HB2).trans (hb3.mono (unhide HB2).size))
    have HO3 := hide (own_below (unhide HO2) hb3)
    clear hmade hown hsp hmem hb3 hlo hlo1
    go_wp2
    go_loopw [6] (fun i wr => ∃ k : Nat, i = .int .i64 k ∧ k ≤ xs.length ∧ Hid (Wiped w3 wr w1'.heap.size xs.length (.slice b xs.length cb))) (fun i _ => xs.length - (intOf i).toNat)
    case atStart => exact ⟨0, rfl, by omega, hide ⟨⟨_, unhide HO3⟩, ⟨rfl, rfl, rfl, Nat.le_refl _, fun _ _ _ => rfl⟩⟩⟩
    case round =>
      obtain ⟨k, rfl, hk, HWi⟩ := hrel
      by_cases hkn : k < xs.length
      · have hk1 : (k : Int) < (xs.length : Int) := by omega
        have hk2 : ((k : Nat) : Int).toNat = k := by omega
        obtain ⟨⟨cs, ho⟩, hgr⟩ := unhide HWi
        obtain ⟨g, cap', hv, _, hg⟩ := ho.form (by omega)
        cases hv
        obtain ⟨⟨u0, c0⟩, ⟨u1, c1⟩⟩ := own_cell ho k hkn
        have f0 := ho.frozenAt (k * 2)
        have f1 := ho.frozenAt (k * 2 + 1)
        have HN : Hid (Wiped w3 ((wr.setCell ⟨g, k * 2, none⟩ (.int .i32 0)).setCell ⟨g, k * 2 + 1, none⟩ (.int .i32 0)) w1'.heap.size xs.length (.slice (some ⟨g, 0, none⟩) xs.length cb)) := hide ⟨(wiped ho k).1, hgr.trans (wiped ho k).2⟩
        clear ho hgr
        go_wp2
        go_roundw
        case rel => exact ⟨k + 1, by congr 1, by omega, HN⟩
        case measure => simp [intOf]; omega
      · have hk1 : ¬ (k : Int) < (xs.length : Int) := by omega
        obtain ⟨w4, rfl⟩ : ∃ w4, w4 = wr := ⟨_, rfl⟩
        have HM4 := hide ((unhide HWi).under (unhide HM3) (unhide HLO) (fun k e => (unhide HL2 k e).2))
        have HW4 := hide ((unhide HW3).kept (unhide HWi).2 (by
          cases e : (Value.slice d ys.length cd).ownBlock with
          | none => exact .inl rfl
          | some k' => exact .inr (fun e' => by have h1 := ((unhide HW3).lt k' e).1; have h2 := (unhide HL2 k' e'.symm).2; have h3 := unhide HLO1; omega)))
        have HB4 := hide ((unhide HB3).grown (unhide HWi).2 (unhide HB3).size (fun k' e => by have h1 := (unhide HL2 k' e).1; have h2 := unhide HS1; omega))
        clear HWi
        go_wp2_with fail
        refine (spans_any B ys w4 ((unhide HM4).set (unhide HSP) (by omega))).mono ?_
        rintro e w5 ⟨v, rfl, hown, hb5⟩
        obtain ⟨b2, c2, rfl, _, _, _⟩ := own_row hown
        have HO5 := hide hown
        have HM5 := hide ((unhide HM4).below hb5)
        have HW5 := hide (own_below (unhide HW4) hb5)
        have HB5 := hide ((unhide HB4).trans (hb5.mono (unhide HB4).size))
        have HBB := hide hb5
        clear hown hb5
        go_wp2
        go_loopw [8] (fun i wr' => ∃ k : Nat, i = .int .i64 k ∧ k ≤ ys.length ∧ Hid (Wiped w5 wr' w4.heap.size ys.length (.slice b2 ys.length c2))) (fun i _ => ys.length - (intOf i).toNat)
        case atStart => exact ⟨0, rfl, by omega, hide ⟨⟨_, unhide HO5⟩, ⟨rfl, rfl, rfl, Nat.le_refl _, fun _ _ _ => rfl⟩⟩⟩
        case round =>
          obtain ⟨k, rfl, hk, HWi⟩ := hrel
          by_cases hkn : k < ys.length
          · have hk1 : (k : Int) < (ys.length : Int) := by omega
            have hk2 : ((k : Nat) : Int).toNat = k := by omega
            obtain ⟨⟨cs, ho⟩, hgr⟩ := unhide HWi
            obtain ⟨g, cap', hv, _, hg⟩ := ho.form (by omega)
            cases hv
            obtain ⟨⟨u0, c0⟩, ⟨u1, c1⟩⟩ := own_cell ho k hkn
            have f0 := ho.frozenAt (k * 2)
            have f1 := ho.frozenAt (k * 2 + 1)
            have HN := hide (show Wiped w5 _ w4.heap.size ys.length (.slice (some ⟨g, 0, none⟩) ys.length c2) from ⟨(wiped ho k).1, hgr.trans (wiped ho k).2⟩)
            clear ho hgr
            go_wp2
            go_roundw
            case rel => exact ⟨k + 1, by congr 1, by omega, HN⟩
            case measure => simp [intOf]; omega
          · have hk1 : ¬ (k : Int) < (ys.length : Int) := by omega
            have HM6 := hide ((unhide HWi).over (unhide HM5) (unhide HM4) (unhide HBB) (fun k' e => ((unhide HO5).lt k' e).1))
            have HW6 := hide ((unhide HW5).kept (unhide HWi).2 (by
              cases e : (Value.slice d ys.length cd).ownBlock with
              | none => exact .inl rfl
              | some k' => exact .inr (fun e' => by have h1 := ((unhide HW4).lt k' e).2; have h2 := ((unhide HO5).lt k' e'.symm).1; omega)))
            have HB6 := hide ((unhide HB5).grown (unhide HWi).2 (unhide HB5).size (fun k' e => by have h1 := ((unhide HO5).lt k' e).1; have h2 := (unhide HB4).size; omega))
            clear HWi
            have HS6 := hide ((unhide HM6).set (unhide HSP) (by omega))
            go_wp2_with fail
            refine (spans_any B ys wr (unhide HS6)).mono ?_
            rintro e w7 ⟨v, rfl, hown, hb7⟩
            obtain ⟨b3, c3, rfl, hrow, _, _⟩ := own_row hown
            obtain ⟨d', cd', hd', hrowd, _, _⟩ := own_row (own_below (unhide HW6) hb7)
            cases hd'
            have HR7 := hide hrow
            have HD7 := hide hrowd
            have HS7 := hide ((unhide HS6).below hb7)
            have HB7 := hide ((unhide HB6).trans (hb7.mono (unhide HB6).size))
            clear hown hb7 hrow hrowd
            go_wp2_with fail
            refine (sameP_row b3 d c3 cd ys (by omega) w7 (unhide HR7) (unhide HD7)).mono ?_
            rintro e w8 ⟨rfl, hb8⟩
            have HS8 := hide ((unhide HS7).below hb8)
            have HD8 := hide ((unhide HD7).below hb8)
            have HB8 := hide ((unhide HB7).trans (hb8.mono (unhide HB7).size))
            clear hb8
            go_wp2_with fail
            refine (size_any B ys w8 (unhide HS8)).mono ?_
            rintro e w9 ⟨rfl, hb9⟩
            have HD9 := hide ((unhide HD8).below hb9)
            have HB9 := hide ((unhide HB8).trans (hb9.mono (unhide HB8).size))
            clear hb9
            have HZ := hide (fun w hr => refSize_any d cd ys (by omega) (fun x hx => (unhide HSP).ends x hx) w hr)
            generalize total ys = tot at *
            have htt : (tot == tot) = true := by simp
            go_wp2_with fail
            refine (unhide HZ w9 (unhide HD9)).mono ?_
            rintro e w10 ⟨rfl, hb10⟩
            have HB10 := hide ((unhide HB9).trans (hb10.mono (unhide HB9).size))
            clear hb10
            go_wp2
            go_ret
            exact ⟨rfl, unhide HB10⟩
  · go_wp2_with fail
    refine (made_wrong b cb xs (by omega) (by omega) (unhide HFx) w2 (unhide HR2)).mono ?_
    rintro e w3 ⟨rfl, hb3⟩
    have HB3 := hide ((unhide HB2).trans (hb3.mono (unhide HB2).size))
    clear hb3
    go_wp2
    go_ret
    exact ⟨rfl, unhide HB3⟩
  · go_wp2_with fail
    refine (made_wrong b cb xs (by omega) (by omega) (unhide HFx) w2 (unhide HR2)).mono ?_
    rintro e w3 ⟨rfl, hb3⟩
    have HB3 := hide ((unhide HB2).trans (hb3.mono (unhide HB2).size))
    clear hb3
    go_wp2
    go_ret
    exact ⟨rfl, unhide HB3⟩
end Go.Proofs.Ytaimkkdilahagaa
