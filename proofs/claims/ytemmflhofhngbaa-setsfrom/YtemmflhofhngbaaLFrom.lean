/- SetsFrom: any numbers, of any kind. -/
import Derived.Test.YtemmflhofhngbaaLFromA
namespace Go.Proofs.Ytemmflhofhngbaa
open Go.RowKit Go.Shelf
set_option linter.unusedVariables false
set_option maxRecDepth 100000 in
set_option maxHeartbeats 8000000 in
theorem law_from (a : Option Addr) (len cap : Nat) (z : List Int) (w : World) (hr : ArgRow .i64 w a len cap z) :
    Calls Try.prog 4 #[.slice a len cap] w fun e w' => e = .returned (.bool true) ∧ Below w.heap.size w w' := by
  have hlc := hr.1
  obtain ⟨iR, hi0, hi1, hi2, hi3⟩ := info_parts infoR32
  have HIR := hide (And.intro hi0 (And.intro hi1 (And.intro hi2 hi3)))
  clear hi0 hi1 hi2 hi3
  obtain ⟨iU, hi0, hi1, hi2, hi3⟩ := info_parts infoU32
  have HIU := hide (And.intro hi0 (And.intro hi1 (And.intro hi2 hi3)))
  clear hi0 hi1 hi2 hi3
  obtain ⟨iK, hi0, hi1, hi2, hi3⟩ := info_parts infoKin
  have HIK := hide (And.intro hi0 (And.intro hi1 (And.intro hi2 hi3)))
  clear hi0 hi1 hi2 hi3
  have HR := hide hr
  clear hr
  go_enter Try.func4, Try.ntmps4
  by_cases h60 : 60 < len
  · have h60' : (60 : Int) < (len : Int) := by omega
    obtain ⟨hl1, hrow, hbd⟩ := row_arg (unhide HR) (n := 60) (by omega)
    obtain ⟨l, hl⟩ : ∃ l, l = z.take 60 := ⟨_, rfl⟩
    rw [← hl] at hl1 hrow hbd
    have HRow := hide hrow
    have HBd := hide hbd
    have hl60 : l.length ≤ 60 := by omega
    have hln : (l.length : Int) = (60 : Int) := by omega
    have HLN := hide hln
    have HL1 := hide hl1
    clear hrow hbd hl HR hln hl1
    go_wp2_with fail
    go_loopw [3, 4, 5, 6] (fun va vb vc i wr => ∃ (k : Nat) (xs ys zs : List Int), i = .int .i64 k ∧ k ≤ l.length ∧ xs.length = k ∧ ys.length = k ∧ zs.length = k ∧ Hz (Three w wr va vb vc xs ys zs)) (fun _ _ _ i _ => l.length - (intOf i).toNat)
    case atStart => exact ⟨0, [], [], [], rfl, by omega, rfl, rfl, rfl, hide ⟨World.ownsRow_nil _ _ _ _, World.ownsRow_nil _ _ _ _, World.ownsRow_nil _ _ _ _, by simp, by simp, by simp, Below.refl _ _⟩⟩
    case round =>
      obtain ⟨k, xs, ys, zs, rfl, hk, hx, hy, hz, HI⟩ := hrel
      have HXYZ := hide (And.intro hx (And.intro hy hz))
      have hx6 : xs.length ≤ 60 := by omega
      have hy6 : ys.length ≤ 60 := by omega
      have hz6 : zs.length ≤ 60 := by omega
      clear hx hy hz
      by_cases hkn : k < l.length
      · have hk1 : (k : Int) < (60 : Int) := by rw [← unhide HLN]; omega
        have hk2 : ((k : Nat) : Int).toNat = k := by omega
        obtain ⟨x, hxk⟩ : ∃ x, l[k]? = some x := ⟨_, List.getElem?_eq_getElem (by omega)⟩
        obtain ⟨g, o, rfl, hg, hc⟩ := unhide HRow (by omega)
        have HC := hide (hc k x hxk)
        have c0 := ((unhide HI).old.cell (p := ⟨g, o + k, none⟩) hg).trans (unhide HC)
        have hx9 : (encN .i32 xs).length ≤ 900000 := by rw [encN_length]; omega
        have hy9 : (encN .u32 ys).length ≤ 900000 := by rw [encN_length]; omega
        have hz9 : (encN .u32 zs).length ≤ 900000 := by rw [encN_length]; omega
        clear hc hxk
        go_wp2_with (at_builtin; refine append_w rfl _ _ 48 21 rfl iR (.int .i32 0) 4 Try.underlying48 (unhide HIR).1 (unhide HIR).2.1 (unhide HIR).2.2.1 (unhide HIR).2.2.2 rfl (by decide) w.heap.size _ (encN .i32 xs) _ rfl hx9 _ rfl rfl (unhide HI).oa (unhide HI).old.size _ rfl rfl ?_)
        intro va' w1 hown hgr
        have HI1 := hide ((unhide HI).a (by first | exact w32_in x | exact wrap32_in x) hown hgr)
        have c1 := ((unhide HI1).old.cell (p := ⟨g, o + k, none⟩) hg).trans (unhide HC)
        clear hown hgr HI c0
        go_wp2_with (at_builtin; refine append_w rfl _ _ 49 51 rfl iU (.int .u32 0) 4 Try.underlying49 (unhide HIU).1 (unhide HIU).2.1 (unhide HIU).2.2.1 (unhide HIU).2.2.2 rfl (by decide) w.heap.size _ (encN .u32 ys) _ rfl hy9 _ rfl rfl (unhide HI1).ob (unhide HI1).old.size _ rfl rfl ?_)
        intro vb' w2 hown hgr
        have HI2 := hide ((unhide HI1).b (by first | exact wu32_in x | exact wrapu32_in x) hown hgr)
        have c2 := ((unhide HI2).old.cell (p := ⟨g, o + k, none⟩) hg).trans (unhide HC)
        clear hown hgr HI1 c1
        go_wp2_with (at_builtin; refine append_w rfl _ _ 50 52 rfl iK (.int .u32 0) 4 Try.underlying50 (unhide HIK).1 (unhide HIK).2.1 (unhide HIK).2.2.1 (unhide HIK).2.2.2 rfl (by decide) w.heap.size _ (encN .u32 zs) _ rfl hz9 _ rfl rfl (unhide HI2).oc (unhide HI2).old.size _ rfl rfl ?_)
        intro vc' w3 hown hgr
        have HI3 := hide ((unhide HI2).c (by first | exact wu32_in x | exact wrapu32_in x) hown hgr)
        clear hown hgr HI2 c2
        go_wp2_with fail
        go_roundw
        case rel => exact ⟨k + 1, _, _, _, by congr 1, by omega, by rw [List.length_append, (unhide HXYZ).1]; rfl, by rw [List.length_append, (unhide HXYZ).2.1]; rfl, by rw [List.length_append, (unhide HXYZ).2.2]; rfl, HI3⟩
        case measure => simp [intOf]; omega
      · have hk1 : ¬ (k : Int) < (60 : Int) := by rw [← unhide HLN]; omega
        obtain ⟨pa, ca, rfl, ha⟩ := own_rowN (unhide HI).oa
        obtain ⟨pb, cb, rfl, hb⟩ := own_rowN (unhide HI).ob
        obtain ⟨pc, cc, rfl, hc⟩ := own_rowN (unhide HI).oc
        have HRA := hide ha
        have HRB := hide hb
        have HRC := hide hc
        have HRs := hide (And.intro (unhide HI).ra (And.intro (unhide HI).rb (unhide HI).rc))
        have HB := hide (unhide HI).old
        clear ha hb hc HI
        go_wp2_with fail
        refine (alive_any wr).mono ?_
        rintro e w1 ⟨rfl, hb⟩
        have HB1 := hide ((unhide HB).trans (hb.mono (unhide HB).size))
        have HRA1 := hide ((unhide HRA).below hb)
        have HRB1 := hide ((unhide HRB).below hb)
        have HRC1 := hide ((unhide HRC).below hb)
        have HC1 := hide (numbers_int a cap l (by omega) (unhide HBd) w1 ((unhide HRow).below (unhide HB1)))
        rw [unhide HL1] at HC1
        clear hb HB HRA HRB HRC
        go_wp2_with fail
        refine (unhide HC1).mono ?_
        rintro e w2 ⟨rfl, hb⟩
        have HB2 := hide ((unhide HB1).trans (hb.mono (unhide HB1).size))
        have HRA2 := hide ((unhide HRA1).below hb)
        have HRB2 := hide ((unhide HRB1).below hb)
        have HRC2 := hide ((unhide HRC1).below hb)
        clear hb HB1 HRA1 HRB1 HRC1 HC1
        have HC2 := hide (numbers_rune pa ca xs (by omega) (unhide HRs).1 w2 (unhide HRA2))
        go_wp2_with fail
        refine (unhide HC2).mono ?_
        rintro e w3 ⟨rfl, hb⟩
        have HB3 := hide ((unhide HB2).trans (hb.mono (unhide HB2).size))
        have HRB3 := hide ((unhide HRB2).below hb)
        have HRC3 := hide ((unhide HRC2).below hb)
        clear hb HB2 HRA2 HRB2 HRC2 HC2
        have HC3 := hide (numbers_u32 pb cb ys (by omega) (unhide HRs).2.1 w3 (unhide HRB3))
        go_wp2_with fail
        refine (unhide HC3).mono ?_
        rintro e w4 ⟨rfl, hb⟩
        have HB4 := hide ((unhide HB3).trans (hb.mono (unhide HB3).size))
        have HRC4 := hide ((unhide HRC3).below hb)
        clear hb HB3 HRB3 HRC3 HC3
        have HC4 := hide (numbers_kin pc cc zs (by omega) (unhide HRs).2.2 w4 (unhide HRC4))
        go_wp2_with fail
        refine (unhide HC4).mono ?_
        rintro e w5 ⟨rfl, hb⟩
        have HB5 := hide ((unhide HB4).trans (hb.mono (unhide HB4).size))
        clear hb HB4 HRC4 HC4
        go_wp2_with fail
        go_ret
        exact ⟨rfl, unhide HB5⟩
  · have h60' : ¬ (60 : Int) < (len : Int) := by omega
    obtain ⟨hl1, hrow, hbd⟩ := row_arg (unhide HR) (n := len) (Nat.le_refl _)
    obtain ⟨l, hl⟩ : ∃ l, l = z.take len := ⟨_, rfl⟩
    rw [← hl] at hl1 hrow hbd
    have HRow := hide hrow
    have HBd := hide hbd
    have hl60 : l.length ≤ 60 := by omega
    have hln : (l.length : Int) = (len : Int) := by omega
    have HLN := hide hln
    have HL1 := hide hl1
    clear hrow hbd hl HR hln hl1
    go_wp2_with fail
    go_loopw [3, 4, 5, 6] (fun va vb vc i wr => ∃ (k : Nat) (xs ys zs : List Int), i = .int .i64 k ∧ k ≤ l.length ∧ xs.length = k ∧ ys.length = k ∧ zs.length = k ∧ Hz (Three w wr va vb vc xs ys zs)) (fun _ _ _ i _ => l.length - (intOf i).toNat)
    case atStart => exact ⟨0, [], [], [], rfl, by omega, rfl, rfl, rfl, hide ⟨World.ownsRow_nil _ _ _ _, World.ownsRow_nil _ _ _ _, World.ownsRow_nil _ _ _ _, by simp, by simp, by simp, Below.refl _ _⟩⟩
    case round =>
      obtain ⟨k, xs, ys, zs, rfl, hk, hx, hy, hz, HI⟩ := hrel
      have HXYZ := hide (And.intro hx (And.intro hy hz))
      have hx6 : xs.length ≤ 60 := by omega
      have hy6 : ys.length ≤ 60 := by omega
      have hz6 : zs.length ≤ 60 := by omega
      clear hx hy hz
      by_cases hkn : k < l.length
      · have hk1 : (k : Int) < (len : Int) := by rw [← unhide HLN]; omega
        have hk2 : ((k : Nat) : Int).toNat = k := by omega
        obtain ⟨x, hxk⟩ : ∃ x, l[k]? = some x := ⟨_, List.getElem?_eq_getElem (by omega)⟩
        obtain ⟨g, o, rfl, hg, hc⟩ := unhide HRow (by omega)
        have HC := hide (hc k x hxk)
        have c0 := ((unhide HI).old.cell (p := ⟨g, o + k, none⟩) hg).trans (unhide HC)
        have hx9 : (encN .i32 xs).length ≤ 900000 := by rw [encN_length]; omega
        have hy9 : (encN .u32 ys).length ≤ 900000 := by rw [encN_length]; omega
        have hz9 : (encN .u32 zs).length ≤ 900000 := by rw [encN_length]; omega
        clear hc hxk
        go_wp2_with (at_builtin; refine append_w rfl _ _ 48 21 rfl iR (.int .i32 0) 4 Try.underlying48 (unhide HIR).1 (unhide HIR).2.1 (unhide HIR).2.2.1 (unhide HIR).2.2.2 rfl (by decide) w.heap.size _ (encN .i32 xs) _ rfl hx9 _ rfl rfl (unhide HI).oa (unhide HI).old.size _ rfl rfl ?_)
        intro va' w1 hown hgr
        have HI1 := hide ((unhide HI).a (by first | exact w32_in x | exact wrap32_in x) hown hgr)
        have c1 := ((unhide HI1).old.cell (p := ⟨g, o + k, none⟩) hg).trans (unhide HC)
        clear hown hgr HI c0
        go_wp2_with (at_builtin; refine append_w rfl _ _ 49 51 rfl iU (.int .u32 0) 4 Try.underlying49 (unhide HIU).1 (unhide HIU).2.1 (unhide HIU).2.2.1 (unhide HIU).2.2.2 rfl (by decide) w.heap.size _ (encN .u32 ys) _ rfl hy9 _ rfl rfl (unhide HI1).ob (unhide HI1).old.size _ rfl rfl ?_)
        intro vb' w2 hown hgr
        have HI2 := hide ((unhide HI1).b (by first | exact wu32_in x | exact wrapu32_in x) hown hgr)
        have c2 := ((unhide HI2).old.cell (p := ⟨g, o + k, none⟩) hg).trans (unhide HC)
        clear hown hgr HI1 c1
        go_wp2_with (at_builtin; refine append_w rfl _ _ 50 52 rfl iK (.int .u32 0) 4 Try.underlying50 (unhide HIK).1 (unhide HIK).2.1 (unhide HIK).2.2.1 (unhide HIK).2.2.2 rfl (by decide) w.heap.size _ (encN .u32 zs) _ rfl hz9 _ rfl rfl (unhide HI2).oc (unhide HI2).old.size _ rfl rfl ?_)
        intro vc' w3 hown hgr
        have HI3 := hide ((unhide HI2).c (by first | exact wu32_in x | exact wrapu32_in x) hown hgr)
        clear hown hgr HI2 c2
        go_wp2_with fail
        go_roundw
        case rel => exact ⟨k + 1, _, _, _, by congr 1, by omega, by rw [List.length_append, (unhide HXYZ).1]; rfl, by rw [List.length_append, (unhide HXYZ).2.1]; rfl, by rw [List.length_append, (unhide HXYZ).2.2]; rfl, HI3⟩
        case measure => simp [intOf]; omega
      · have hk1 : ¬ (k : Int) < (len : Int) := by rw [← unhide HLN]; omega
        obtain ⟨pa, ca, rfl, ha⟩ := own_rowN (unhide HI).oa
        obtain ⟨pb, cb, rfl, hb⟩ := own_rowN (unhide HI).ob
        obtain ⟨pc, cc, rfl, hc⟩ := own_rowN (unhide HI).oc
        have HRA := hide ha
        have HRB := hide hb
        have HRC := hide hc
        have HRs := hide (And.intro (unhide HI).ra (And.intro (unhide HI).rb (unhide HI).rc))
        have HB := hide (unhide HI).old
        clear ha hb hc HI
        go_wp2_with fail
        refine (alive_any wr).mono ?_
        rintro e w1 ⟨rfl, hb⟩
        have HB1 := hide ((unhide HB).trans (hb.mono (unhide HB).size))
        have HRA1 := hide ((unhide HRA).below hb)
        have HRB1 := hide ((unhide HRB).below hb)
        have HRC1 := hide ((unhide HRC).below hb)
        have HC1 := hide (numbers_int a cap l (by omega) (unhide HBd) w1 ((unhide HRow).below (unhide HB1)))
        rw [unhide HL1] at HC1
        clear hb HB HRA HRB HRC
        go_wp2_with fail
        refine (unhide HC1).mono ?_
        rintro e w2 ⟨rfl, hb⟩
        have HB2 := hide ((unhide HB1).trans (hb.mono (unhide HB1).size))
        have HRA2 := hide ((unhide HRA1).below hb)
        have HRB2 := hide ((unhide HRB1).below hb)
        have HRC2 := hide ((unhide HRC1).below hb)
        clear hb HB1 HRA1 HRB1 HRC1 HC1
        have HC2 := hide (numbers_rune pa ca xs (by omega) (unhide HRs).1 w2 (unhide HRA2))
        go_wp2_with fail
        refine (unhide HC2).mono ?_
        rintro e w3 ⟨rfl, hb⟩
        have HB3 := hide ((unhide HB2).trans (hb.mono (unhide HB2).size))
        have HRB3 := hide ((unhide HRB2).below hb)
        have HRC3 := hide ((unhide HRC2).below hb)
        clear hb HB2 HRA2 HRB2 HRC2 HC2
        have HC3 := hide (numbers_u32 pb cb ys (by omega) (unhide HRs).2.1 w3 (unhide HRB3))
        go_wp2_with fail
        refine (unhide HC3).mono ?_
        rintro e w4 ⟨rfl, hb⟩
        have HB4 := hide ((unhide HB3).trans (hb.mono (unhide HB3).size))
        have HRC4 := hide ((unhide HRC3).below hb)
        clear hb HB3 HRB3 HRC3 HC3
        have HC4 := hide (numbers_kin pc cc zs (by omega) (unhide HRs).2.2 w4 (unhide HRC4))
        go_wp2_with fail
        refine (unhide HC4).mono ?_
        rintro e w5 ⟨rfl, hb⟩
        have HB5 := hide ((unhide HB4).trans (hb.mono (unhide HB4).size))
        clear hb HB4 HRC4 HC4
        go_wp2_with fail
        go_ret
        exact ⟨rfl, unhide HB5⟩
end Go.Proofs.Ytemmflhofhngbaa
