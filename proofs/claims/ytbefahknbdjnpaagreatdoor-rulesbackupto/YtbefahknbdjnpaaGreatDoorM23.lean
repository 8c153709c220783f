/- Texts of this claim, one behind the other. -/
import Derived.Test.YtbefahknbdjnpaaGreatDoorM22
import Derived.Test.YtbefahknbdjnpaaGreatDoorM12
import Derived.Test.YtbefahknbdjnpaaGreatDoorM10
import Derived.Test.YtbefahknbdjnpaaGreatDoorM19
import Derived.Test.YtbefahknbdjnpaaGreatDoorShM
import Derived.Test.YtbefahknbdjnpaaGreatDoorRows
import Derived.LaidMore
import Derived.ProofKit
import Derived.Lib.LaidTab
import Derived.Stop.Joined
import Derived.Test.YtbefahknbdjnpaaGreatDoorShV
import Derived.LaidHandle
import Derived.Lib.LaidU8T
import Derived.Test.YtbefahknbdjnpaaGreatDoorM3
/- Chapter 5's runs, walked. -/
namespace Go.Proofs.YtbefahknbdjnpaaGreatDoor
open Go.RowKit Go.Shelf
set_option linter.unusedVariables false
theorem parse_eq (s : ByteArray) (hs : s.size ≤ 262144) (P : Ps) (hP : parseA s = P) (m : Int) (W : World) (hm : W.cell? ⟨7, 0, none⟩ = some (.int .i64 m)) (hgm : 7 < W.heap.size) :
    Calls Tryz.prog 19 #[.string s] W fun e w' => ∃ v er, e = .returned (.tuple #[v, er]) ∧ Below W.heap.size W w' ∧ ParsedAt W w' s P v er := by
  subst hP
  exact parse_any s hs m W hm hgm
theorem TabIn.below {W W' : World} {T : TV} {a0 a1 a2 a3 a4 a5 a6 a7 : Option Addr} {us : List Value} (h : TabIn W T a0 a1 a2 a3 a4 a5 a6 a7 us) (hb : Below W.heap.size W W') : TabIn W' T a0 a1 a2 a3 a4 a5 a6 a7 us :=
  ⟨h.lu, h.r0.below hb hb.size, h.r1.below hb hb.size, h.r2.below hb hb.size, h.r3.below hb hb.size, h.r4.below hb hb.size, h.r5.below hb hb.size, h.r6.below hb hb.size, h.r7.below hb hb.size, fun j x u hx hu => by
    obtain ⟨b, d, e, hr⟩ := h.rs j x u hx hu
    exact ⟨b, d, e, hr.below hb hb.size⟩⟩
set_option maxRecDepth 100000 in
set_option maxHeartbeats 4000000 in
theorem known_any5 (m : Int) (W : World) (hE : EnvK m W) : Calls Tryz.prog 12 #[] W fun e w' => e = .returned (.bool true) ∧ Below W.heap.size W w' := by
  have hmx : Tryz.prog.follows .mixedOrders = true := by kernel_rfl
  have HE := hide hE
  have hbig := hE.p.big
  have HP1 := hide (parse_eq kn1 (by decide) _ kn1_eq m W hE.max (by omega))
  clear hE
  go_enter Tryz.func12, Tryz.ntmps12
  go_wp2_with fail
  refine (show Calls Tryz.prog 19 #[.string kn1] W _ from unhide HP1).mono ?_
  rintro e w1 ⟨v, er, rfl, hb1, hpa⟩
  obtain ⟨rfl, Tx, lo, vs, rfl, hTx, hlo, hTb⟩ := hpa
  have HE1 := hide ((unhide HE).below hb1)
  have HB1 := hide hb1
  have HTB := hide hTb
  have HTA := hide (tables_any lo Tx vs knT _ _ _ knT_le (by intro s hs; simp [knT] at hs; subst hs; decide) w1 hTb)
  clear hb1 hTb HP1
  go_wp2_with fail
  refine (unhide HTA).mono ?_
  rintro e w2 ⟨v2, rfl, hta, hb2⟩
  obtain ⟨a0, a1, a2, a3, a4, a5, a6, a7, c0, c1, c2, c3, c4, c5, c6, c7, us, rfl, htin, hL⟩ := hta.inn
  have HL := hide hL
  have HB2 := hide hb2
  have HTI := hide htin
  obtain ⟨g0, o0, rfl, _, k0⟩ := htin.r0 (by rw [encSc_length _ _ htin.lu]; decide)
  obtain ⟨u, rfl⟩ : ∃ u, us = [u] := by
    have := htin.lu
    match us, this with
    | [u], _ => exact ⟨u, rfl⟩
  obtain ⟨b, d, rfl, hrs⟩ := htin.rs 0 (⟨#[97]⟩, [(97, 122), (233, 233)]) u rfl rfl
  obtain ⟨gs, os, rfl, _, ks⟩ := hrs (by decide)
  obtain ⟨g4, o4, rfl, _, k4⟩ := htin.r4 (by decide)
  have hal := World.grownBy_alloc w2 (.cells #[.slice (some ⟨g0, o0, none⟩) 1 c0, .slice a1 0 c1, .slice a2 0 c2, .slice a3 0 c3, .slice (some ⟨g4, o4, none⟩) 1 c4, .slice a5 0 c5, .slice a6 2 c6, .slice a7 0 c7] 33) none
  have HB3 : Hz (Below w2.heap.size w2 (w2.alloc (.cells #[.slice (some ⟨g0, o0, none⟩) 1 c0, .slice a1 0 c1, .slice a2 0 c2, .slice a3 0 c3, .slice (some ⟨g4, o4, none⟩) 1 c4, .slice a5 0 c5, .slice a6 2 c6, .slice a7 0 c7] 33))) := hide ((Below.refl _ w2).alloc (Nat.le_refl _) _)
  have y0 : w2.cell? ⟨g0, o0, none⟩ = some (.string ⟨#[97]⟩) := k0 0 _ rfl
  have y1 : w2.cell? ⟨g0, o0 + 1, none⟩ = some (.slice (some ⟨gs, os, none⟩) 2 d) := k0 1 _ rfl
  have y2 : w2.cell? ⟨gs, os, none⟩ = some (.int .i32 97) := ks 0 _ rfl
  have y3 : w2.cell? ⟨gs, os + 1, none⟩ = some (.int .i32 122) := ks 1 _ rfl
  have y4 : w2.cell? ⟨g4, o4, none⟩ = some (.int .i32 65) := k4 0 _ rfl
  have y5 : w2.cell? ⟨g4, o4 + 1, none⟩ = some (.string ⟨#[97, 98]⟩) := k4 1 _ rfl
  have x0 := hal.cell (a := ⟨g0, o0, none⟩) y0 (by simp)
  have x1 := hal.cell (a := ⟨g0, o0 + 1, none⟩) y1 (by simp)
  have x2 := hal.cell (a := ⟨gs, os, none⟩) y2 (by simp)
  have x3 := hal.cell (a := ⟨gs, os + 1, none⟩) y3 (by simp)
  have x4 := hal.cell (a := ⟨g4, o4, none⟩) y4 (by simp)
  have x5 := hal.cell (a := ⟨g4, o4 + 1, none⟩) y5 (by simp)
  have HPR := hide (print_any knT (some ⟨g0, o0, none⟩) a1 a2 a3 (some ⟨g4, o4, none⟩) a5 a6 a7 c0 c1 c2 c3 c4 c5 c6 c7 [.slice (some ⟨gs, os, none⟩) 2 d])
  clear hta hb2 htin hL k0 ks k4 hrs y0 y1 y2 y3 y4 y5 hal
  simp only [show knT.sc.length = 1 from rfl, show knT.co.length = 0 from rfl, show knT.ma.length = 0 from rfl, show knT.pr.length = 0 from rfl, show knT.fo.length = 1 from rfl, show knT.lk.length = 0 from rfl, show knT.dr.length = 2 from rfl, show knT.al.length = 0 from rfl]
  go_wp2_with fail
  generalize w2.alloc (.cells #[.slice (some ⟨g0, o0, none⟩) 1 c0, .slice a1 0 c1, .slice a2 0 c2, .slice a3 0 c3, .slice (some ⟨g4, o4, none⟩) 1 c4, .slice a5 0 c5, .slice a6 2 c6, .slice a7 0 c7] 33) = w3 at *
  have HE3 := hide (((unhide HE1).below (unhide HB2)).below (unhide HB3))
  have HB13 := hide ((unhide HB2).trans ((unhide HB3).mono (unhide HB2).size))
  have HP3 := hide (unhide HPR w3 ((unhide HTI).below (unhide HB3)) knT_ok (unhide HE3).p)
  rw [knP_p] at HP3
  unfold knP at HP3
  dsimp only at HP3
  clear HPR x0 x1 x2 x3 x4 x5 HTI HL HE1
  refine (show Calls Tryz.prog 16 #[.agg #[.slice (some ⟨g0, o0, none⟩) 1 c0, .slice a1 0 c1, .slice a2 0 c2, .slice a3 0 c3, .slice (some ⟨g4, o4, none⟩) 1 c4, .slice a5 0 c5, .slice a6 2 c6, .slice a7 0 c7]] w3 _ from unhide HP3).mono ?_
  rintro e w4 ⟨rfl, hb4⟩
  have HE4 := hide ((unhide HE3).below hb4)
  have HB14 := hide ((unhide HB13).trans (hb4.mono (unhide HB13).size))
  have hbig4 := (unhide HE4).p.big
  obtain ⟨k5, T5, hk5⟩ := kn2_eq
  have HP5 := hide (parse_eq kn2 (by decide) _ hk5 m w4 (unhide HE4).max (by omega))
  clear hk5
  clear hb4 HP3 HE3 HB13
  go_wp2_with fail
  refine (show Calls Tryz.prog 19 #[.string kn2] w4 _ from unhide HP5).mono ?_
  rintro e w5 ⟨v5, er5, rfl, hb5, hpa5⟩
  obtain ⟨rfl, F, rfl, hF, hbF⟩ := hpa5
  have HE5 := hide ((unhide HE4).below hb5)
  have HB15 := hide ((unhide HB14).trans (hb5.mono (unhide HB14).size))
  have hbig5 := (unhide HE5).p.big
  have HRF := hide (refused_none F 11 1 12 5 w5 hbF (by omega) (by omega) (unhide HE5).p.pow (by omega) (unhide HE5).et errno_5)
  clear hb5 HP5 HE4 HB14 hbF
  go_wp2_with fail
  refine (unhide HRF).mono ?_
  rintro e w6 ⟨rfl, hb6⟩
  have HB16 := hide ((unhide HB15).trans (hb6.mono (unhide HB15).size))
  have HT6 := hide ((unhide HTB).fresh (below_grown2 (row := none) (unhide HB16)))
  have HWH := hide (whereT_any lo Tx vs knT _ _ _ 5 0 w6 (unhide HT6) (by omega) (by omega) (fun i => by unfold rowsOf; split <;> decide))
  rw [show whereV knT ((kn1.size : Nat) : Int) (endL kn1) (endC kn1) 5 0 = (29, 1, 30) from rfl] at HWH
  clear hb6 HRF
  go_wp2_with fail
  refine (show Calls Tryz.prog 22 #[.pointer (some ⟨Tx, 0, none⟩), .int .i64 5, .int .i64 0] w6 _ from unhide HWH).mono ?_
  rintro e w7 ⟨rfl, hb7⟩
  have HB17 := hide ((unhide HB16).trans (hb7.mono (unhide HB16).size))
  have HFZ := hide (find_zero Tx 0 0 w7)
  unfold atV3
  dsimp only
  clear hb7 HWH
  go_wp2_with fail
  refine (unhide HFZ).mono ?_
  rintro e w8 ⟨rfl, hb8⟩
  have HB18 := hide ((unhide HB17).trans (hb8.mono (unhide HB17).size))
  clear hb8 HFZ
  go_wp2_with fail
  go_ret
  exact ⟨rfl, (unhide HB1).trans ((unhide HB18).mono (unhide HB1).size)⟩
end Go.Proofs.YtbefahknbdjnpaaGreatDoor
/- RulesNumbers: the closed sentence. -/
namespace Go.Proofs.YtbefahknbdjnpaaGreatDoor
open Go.RowKit Go.Shelf
set_option linter.unusedVariables false
theorem tv0_p : printV TV0 = (⟨#[]⟩, 0) := by decide +kernel
theorem tv0_in (W : World) : TabIn W TV0 none none none none none none none none [] := ⟨rfl, fun h => absurd h (by decide), fun h => absurd h (by decide), fun h => absurd h (by decide), fun h => absurd h (by decide), fun h => absurd h (by decide), fun h => absurd h (by decide), fun h => absurd h (by decide), fun h => absurd h (by decide), fun j x u hx => by simp [TV0] at hx⟩
theorem tv0_ok : TabOk TV0 := ⟨by decide, by decide, by decide, by decide, by decide, by decide, by decide, by decide, by intro x hx; simp [TV0] at hx, by intro x hx; simp [TV0] at hx, by intro x hx; simp [TV0] at hx, by intro x hx; simp [TV0] at hx⟩
end Go.Proofs.YtbefahknbdjnpaaGreatDoor
/- known: what the document says of some small texts. -/
namespace Go.Proofs.YtbefahknbdjnpaaGreatDoor
open Go.RowKit Go.Shelf
set_option linter.unusedVariables false
abbrev knA : ByteArray := ⟨#[102, 111, 108, 100, 32, 39, 65, 39, 32, 61, 32, 85, 43, 48, 48, 54, 49, 59]⟩
abbrev knB : ByteArray := ⟨#[39, 195, 169]⟩
abbrev knC : ByteArray := ⟨#[39, 195, 169, 39]⟩
theorem knA_ok : (wordsV knA).ok = true := by kernel_rfl
theorem knA_len : (wordsV knA).ws.length = 5 := by kernel_rfl
theorem knA_10 : (encWs (wordsV knA).ws)[10]? = some (.int .i32 65) := by kernel_rfl
theorem knA_26 : (encWs (wordsV knA).ws)[26]? = some (.int .i32 97) := by kernel_rfl
theorem knA_28 : (encWs (wordsV knA).ws)[28]? = some (.int .i64 11) := by kernel_rfl
theorem knA_29 : (encWs (wordsV knA).ws)[29]? = some (.int .i64 1) := by kernel_rfl
theorem knA_30 : (encWs (wordsV knA).ws)[30]? = some (.int .i64 12) := by kernel_rfl
theorem knB_ok : (wordsV knB).ok = false := by kernel_rfl
theorem knB_b : (wordsV knB).b = 3 := by kernel_rfl
theorem knB_wh : whL knB 3 = (1, 3) := by kernel_rfl
theorem knC_wh : whL knC 2 = (1, 2) := by kernel_rfl
theorem tx97 : textV 97 = (⟨#[39, 97, 39]⟩, 0) := by kernel_rfl
theorem tx233 : textV 233 = (⟨#[85, 43, 48, 48, 69, 57]⟩, 0) := by kernel_rfl
theorem lg1 : legalB ⟨#[97, 45, 57]⟩ = true := by kernel_rfl
theorem lg2 : legalB ⟨#[65]⟩ = false := by kernel_rfl
/-- What the walks lean on: the length's bound, the table. -/
structure Env (m : Int) (w : World) : Prop where
  max : w.cell? ⟨7, 0, none⟩ = some (.int .i64 m)
  tab : w.cell? ⟨11, 15, none⟩ = some (.int .u8 4)
theorem Env.below {m : Int} {w w' : World} {B : Nat} (h : Env m w) (hb : Below B w w') (hB : w.heap.size ≤ B) : Env m w' :=
  ⟨(hb.cell (p := ⟨7, 0, none⟩) (Nat.lt_of_lt_of_le (cell_lt h.max) hB)).trans h.max, (hb.cell (p := ⟨11, 15, none⟩) (Nat.lt_of_lt_of_le (cell_lt h.tab) hB)).trans h.tab⟩
theorem own_words {W : World} {lo E sz n : Nat} {v : Value} {xs : List Value} (h : W.ownsRow lo E sz v n xs) (hn : 0 < n) : ∃ g cap, v = .slice (some ⟨g, 0, none⟩) n cap ∧ g < W.heap.size ∧ ∀ (k : Nat) (u : Value), xs[k]? = some u → W.cell? ⟨g, k, none⟩ = some u := by
  rcases h.2 with ⟨rfl, h0⟩ | ⟨g, cap, cur, rfl, _, hh, _⟩
  · omega
  · refine ⟨g, cap, rfl, (Array.getElem?_eq_some_iff.1 hh).1, fun k u hk => ?_⟩
    have := h.cells (g := g) rfl k u hk
    rwa [show (⟨g, 0, none⟩ : Addr).add k = ⟨g, k, none⟩ by unfold Addr.add; split <;> simp_all] at this
end Go.Proofs.YtbefahknbdjnpaaGreatDoor
/- What a row's first world gives the walks. -/
namespace Go.Proofs.YtbefahknbdjnpaaGreatDoor
open Go.ChangeShapes Go.WideShapes Go.ChangeAt Go.RowKit
set_option linter.unusedVariables false
def tab64 : List Int := [0, 1, 56, 2, 57, 49, 28, 3, 61, 58, 42, 50, 38, 29, 17, 4, 62, 47, 59, 36, 45, 43, 51, 22, 53, 39, 33, 30, 24, 18, 12, 5, 63, 55, 48, 27, 60, 41, 37, 16, 46, 35, 44, 21, 52, 32, 23, 11, 54, 26, 40, 15, 34, 20, 31, 10, 25, 14, 19, 9, 13, 8, 7, 6]
theorem laid64 : (Rows.laid_math_bits_deBruijn64tab : DataW Unit) = Lib.tabData .u8 tab64 := by kernel_rfl
theorem gTab : Tryz.prog.globalNamed "math/bits.deBruijn64tab" = some 11 := by kernel_rfl
theorem gTabT : (Tryz.prog.globals[11]?).map (·.type) = some 299 := by kernel_rfl
theorem cellsT : Tryz.prog.cellsOf 299 = 64 := by kernel_rfl
theorem cells5 : Tryz.prog.cellsOf 5 = 1 := by kernel_rfl
theorem env_of {rest : List (String × DataW Unit)} {n0 : String} {d0 : DataW Unit} {W : World} (h : laidMet Tryz.prog ((n0, d0) :: ("math/bits.deBruijn64tab", Rows.laid_math_bits_deBruijn64tab) :: rest) W) (hS : World.ShapedOpen Tryz.prog W) : ∃ m, Env m W := by
  obtain ⟨m, hm⟩ := layM145.s1_3 W hS
  obtain ⟨ps, ⟨g0, t0, cs0, f0, p0, q0, hg0, ht0, hv0, hd0, ⟨g1, t1, cs1, f1, p1, q1, hg1, ht1, hv1, hd1, _⟩, _⟩, _⟩ := h
  obtain rfl := Option.some.inj (gTab.symm.trans hg1)
  obtain rfl := Option.some.inj (gTabT.symm.trans ht1)
  rw [laid64] at hd1
  have hc := Lib.cells_of_tab Tryz.underlying299 Tryz.underlying5 cells5 cellsT hd1
  refine ⟨m, hm, ?_⟩
  have := World.var?_cell hg1 hv1 15
  rw [this, ← Array.getElem?_toList, hc]
  rfl
end Go.Proofs.YtbefahknbdjnpaaGreatDoor
/- What the row's first world gives the walks of layer 5. -/
namespace Go.Proofs.YtbefahknbdjnpaaGreatDoor
open Go.ChangeShapes Go.WideShapes Go.ChangeAt Go.RowKit Go.Lib
set_option linter.unusedVariables false
theorem powT : Tryz.prog.globalNamed "internal/strconv.uint64pow10" = some 8 := by kernel_rfl
theorem powTy : (Tryz.prog.globals[8]?).map (·.type) = some 281 := by kernel_rfl
theorem cellsPow : Tryz.prog.cellsOf 281 = 20 := by kernel_rfl
theorem cellsU64 : Tryz.prog.cellsOf 240 = 1 := by kernel_rfl
theorem laidPow : (Rows.laid_internal_strconv_uint64pow10 : DataW Unit) = Lib.tabData .u64 Lib.pow10Tab := by kernel_rfl
theorem laidFirst : Rows.laid_unicode_utf8_first = Lib.firstData := by kernel_rfl
theorem laidAcc : (Rows.laid_unicode_utf8_acceptRanges : DataW Unit) = Lib.acceptData := by kernel_rfl
theorem u8x : U8Extra Tryz.prog lay196_ren := ⟨by kernel_rfl, by kernel_rfl, by kernel_rfl, by kernel_rfl, by kernel_rfl, by kernel_rfl, by kernel_rfl⟩
theorem etG : Tryz.prog.globalNamed "errors.errorType" = some 4 := by kernel_rfl
theorem etR : (Tryz.prog.cutTypes.find? (·.1 == "internal/reflectlite.rtype")).map (·.2) = some 222 := by kernel_rfl
theorem etOne : ((List.range Tryz.prog.types.size).filter fun t => Tryz.prog.rowNamed t [101, 114, 114, 111, 114]) = [44] := by kernel_rfl
theorem etH : typeHandle Tryz.prog 44 = .pointer (some ⟨12, 44, none⟩) := by kernel_rfl
theorem env5_of {laid pl : List (String × DataW Unit)} {W : World} (h : laidMetH Tryz.prog laid W)
    (e1 : (laid.filter fun x => x.2.handleName?.isSome) = [("errors.errorType", Rows.laid_errors_errorType)])
    (e2 : (laid.filter fun x => x.2.handleName?.isNone) = pl)
    (m1 : ("math/bits.deBruijn64tab", Rows.laid_math_bits_deBruijn64tab) ∈ pl) (m2 : ("internal/strconv.uint64pow10", Rows.laid_internal_strconv_uint64pow10) ∈ pl)
    (m3 : ("unicode/utf8.first", Rows.laid_unicode_utf8_first) ∈ pl) (m4 : ("unicode/utf8.acceptRanges", Rows.laid_unicode_utf8_acceptRanges) ∈ pl)
    (hS : World.ShapedOpen Tryz.prog W) : ∃ m, EnvK m W := by
  obtain ⟨m, hm⟩ := layM145.s1_3 W hS
  unfold laidMetH at h
  rw [e1, e2] at h
  obtain ⟨hp, hh⟩ := h
  have t64 : W.cell? ⟨11, 15, none⟩ = some (.int .u8 4) := by
    obtain ⟨g1, t1, cs1, f1, p1, hg1, ht1, hv1, hd1⟩ := laidMet.reads hp m1
    obtain rfl := Option.some.inj (gTab.symm.trans hg1)
    obtain rfl := Option.some.inj (gTabT.symm.trans ht1)
    rw [laid64] at hd1
    have hc := Lib.cells_of_tab Tryz.underlying299 Tryz.underlying5 cells5 cellsT hd1
    have := World.var?_cell hg1 hv1 15
    rw [this, ← Array.getElem?_toList, hc]
    rfl
  have pow : Lib.TabIs Tryz.prog W "internal/strconv.uint64pow10" .u64 Lib.pow10Tab := by
    obtain ⟨g1, t1, cs1, f1, p1, hg1, ht1, hv1, hd1⟩ := laidMet.reads hp m2
    obtain rfl := Option.some.inj (powT.symm.trans hg1)
    obtain rfl := Option.some.inj (powTy.symm.trans ht1)
    rw [laidPow] at hd1
    have hc := Lib.cells_of_tab Tryz.underlying281 Tryz.underlying240 cellsU64 cellsPow hd1
    unfold Lib.TabIs
    rw [hv1, ← hc]
  have r3 := laidMet.reads hp m3
  have r4 := laidMet.reads hp m4
  rw [laidFirst] at r3
  rw [laidAcc] at r4
  have utf := utf8Tabs_of_readsT (U8Types.of196 lay196) u8x r3 r4
  have big : 12 ≤ W.heap.size := Nat.succ_le_of_lt (cell_lt t64)
  refine ⟨m, ⟨t64, pow, utf, big⟩, hm, ?_⟩
  obtain ⟨name, u, ty, a1, a2, a3, a4, a5⟩ := hh _ (List.mem_singleton.2 rfl)
  have en : name = [101, 114, 114, 111, 114] := (Option.some.inj a1).symm
  subst en
  obtain rfl := Option.some.inj (etR.symm.trans a2)
  have hmm : ty ∈ (List.range Tryz.prog.types.size).filter fun t => Tryz.prog.rowNamed t [101, 114, 114, 111, 114] := List.mem_filter.2 ⟨List.mem_range.2 a3, a4⟩
  rw [etOne] at hmm
  obtain rfl := List.mem_singleton.1 hmm
  rw [etH] at a5
  simpa using World.var?_cell etG a5 0
end Go.Proofs.YtbefahknbdjnpaaGreatDoor
/- Plain facts on the bytes of runes: what is written of a rune is read as that rune; a text without bad spots is what its runes are written as. -/
namespace Go.Proofs.YtbefahknbdjnpaaGreatDoor
open Go.RowKit Go.Shelf
open Go.Lib (decodeN decode_at)
set_option linter.unusedVariables false

theorem valid_of_width {z : Int} (h : widthOf z ≠ 0) : Utf8.valid z = true ∧ 0 ≤ z ∧ z ≤ 1114111 ∧ ¬ (55296 ≤ z ∧ z ≤ 57343) := by
  unfold widthOf at h
  split at h
  · exact absurd rfl h
  · rename_i hh
    refine ⟨?_, by omega, by omega, by omega⟩
    simp only [Utf8.valid, Bool.or_eq_true, Bool.and_eq_true, decide_eq_true_eq]
    omega

theorem enc1 {z : Int} (h : widthOf z ≠ 0) (h1 : z < 128) : Utf8.encode z = ⟨#[UInt8.ofNat z.toNat]⟩ := by
  obtain ⟨hv, h0, _, _⟩ := valid_of_width h
  unfold Utf8.encode
  simp only [hv, if_true]
  rw [if_pos (by omega)]
theorem enc2 {z : Int} (h : widthOf z ≠ 0) (h1 : 128 ≤ z) (h2 : z < 2048) : Utf8.encode z = ⟨#[UInt8.ofNat (0xC0 + z.toNat / 64), UInt8.ofNat (0x80 + z.toNat % 64)]⟩ := by
  obtain ⟨hv, h0, _, _⟩ := valid_of_width h
  unfold Utf8.encode
  simp only [hv, if_true]
  rw [if_neg (by omega), if_pos (by omega)]
theorem enc3 {z : Int} (h : widthOf z ≠ 0) (h1 : 2048 ≤ z) (h2 : z < 65536) : Utf8.encode z = ⟨#[UInt8.ofNat (0xE0 + z.toNat / 4096), UInt8.ofNat (0x80 + z.toNat / 64 % 64), UInt8.ofNat (0x80 + z.toNat % 64)]⟩ := by
  obtain ⟨hv, h0, _, _⟩ := valid_of_width h
  unfold Utf8.encode
  simp only [hv, if_true]
  rw [if_neg (by omega), if_neg (by omega), if_pos (by omega)]
theorem enc4 {z : Int} (h : widthOf z ≠ 0) (h1 : 65536 ≤ z) : Utf8.encode z = ⟨#[UInt8.ofNat (0xF0 + z.toNat / 262144), UInt8.ofNat (0x80 + z.toNat / 4096 % 64), UInt8.ofNat (0x80 + z.toNat / 64 % 64), UInt8.ofNat (0x80 + z.toNat % 64)]⟩ := by
  obtain ⟨hv, h0, _, _⟩ := valid_of_width h
  unfold Utf8.encode
  simp only [hv, if_true]
  rw [if_neg (by omega), if_neg (by omega), if_neg (by omega)]
theorem u8n (n : Nat) (h : n < 256) : (UInt8.ofNat n).toNat = n := by rw [UInt8.toNat_ofNat']; omega

/-- What is written of a rune is read as that rune, of its width. -/
theorem decode_enc {z : Int} (h : widthOf z ≠ 0) : Utf8.decode (Utf8.encode z) 0 = (z.toNat, (Utf8.encode z).size) ∧ ((Utf8.encode z).size : Int) = widthOf z := by
  obtain ⟨hv, h0, h1, h2⟩ := valid_of_width h
  by_cases c1 : z < 128
  · rw [enc1 h c1]
    refine ⟨?_, ?_⟩
    · rw [decode_at]
      have e0 : ((⟨#[UInt8.ofNat z.toNat]⟩ : ByteArray).get! 0).toNat = z.toNat := by show (UInt8.ofNat z.toNat).toNat = _; exact u8n _ (by omega)
      rw [e0]
      unfold decodeN
      rw [if_pos (by omega)]
      rfl
    · unfold widthOf; rw [if_neg (by omega), if_pos (by omega)]; rfl
  by_cases c2 : z < 2048
  · rw [enc2 h (by omega) c2]
    refine ⟨?_, ?_⟩
    · rw [decode_at]
      have e0 : ((⟨#[UInt8.ofNat (0xC0 + z.toNat / 64), UInt8.ofNat (0x80 + z.toNat % 64)]⟩ : ByteArray).get! 0).toNat = 192 + z.toNat / 64 := by show (UInt8.ofNat (0xC0 + z.toNat / 64)).toNat = _; exact u8n _ (by omega)
      have e1 : ((⟨#[UInt8.ofNat (0xC0 + z.toNat / 64), UInt8.ofNat (0x80 + z.toNat % 64)]⟩ : ByteArray).get! (0 + 1)).toNat = 128 + z.toNat % 64 := by show (UInt8.ofNat (0x80 + z.toNat % 64)).toNat = _; exact u8n _ (by omega)
      rw [e0, e1]
      show decodeN 2 _ _ _ _ = (_, 2)
      unfold decodeN
      rw [if_neg (by omega), if_pos (by omega), if_pos (by omega)]
      rw [Prod.mk.injEq]
      exact ⟨by omega, rfl⟩
    · unfold widthOf; rw [if_neg (by omega), if_neg (by omega), if_pos (by omega)]; rfl
  by_cases c3 : z < 65536
  · rw [enc3 h (by omega) c3]
    refine ⟨?_, ?_⟩
    · rw [decode_at]
      have e0 : ((⟨#[UInt8.ofNat (0xE0 + z.toNat / 4096), UInt8.ofNat (0x80 + z.toNat / 64 % 64), UInt8.ofNat (0x80 + z.toNat % 64)]⟩ : ByteArray).get! 0).toNat = 224 + z.toNat / 4096 := by show (UInt8.ofNat (0xE0 + z.toNat / 4096)).toNat = _; exact u8n _ (by omega)
      have e1 : ((⟨#[UInt8.ofNat (0xE0 + z.toNat / 4096), UInt8.ofNat (0x80 + z.toNat / 64 % 64), UInt8.ofNat (0x80 + z.toNat % 64)]⟩ : ByteArray).get! (0 + 1)).toNat = 128 + z.toNat / 64 % 64 := by show (UInt8.ofNat (0x80 + z.toNat / 64 % 64)).toNat = _; exact u8n _ (by omega)
      have e2 : ((⟨#[UInt8.ofNat (0xE0 + z.toNat / 4096), UInt8.ofNat (0x80 + z.toNat / 64 % 64), UInt8.ofNat (0x80 + z.toNat % 64)]⟩ : ByteArray).get! (0 + 2)).toNat = 128 + z.toNat % 64 := by show (UInt8.ofNat (0x80 + z.toNat % 64)).toNat = _; exact u8n _ (by omega)
      rw [e0, e1, e2]
      show decodeN 3 _ _ _ _ = (_, 3)
      unfold decodeN
      rw [if_neg (by omega), if_neg (by omega), if_pos (by omega), if_pos (by omega)]
      rw [Prod.mk.injEq]
      exact ⟨by omega, rfl⟩
    · unfold widthOf; rw [if_neg (by omega), if_neg (by omega), if_neg (by omega), if_pos (by omega)]; rfl
  · rw [enc4 h (by omega)]
    refine ⟨?_, ?_⟩
    · rw [decode_at]
      have e0 : ((⟨#[UInt8.ofNat (0xF0 + z.toNat / 262144), UInt8.ofNat (0x80 + z.toNat / 4096 % 64), UInt8.ofNat (0x80 + z.toNat / 64 % 64), UInt8.ofNat (0x80 + z.toNat % 64)]⟩ : ByteArray).get! 0).toNat = 240 + z.toNat / 262144 := by show (UInt8.ofNat (0xF0 + z.toNat / 262144)).toNat = _; exact u8n _ (by omega)
      have e1 : ((⟨#[UInt8.ofNat (0xF0 + z.toNat / 262144), UInt8.ofNat (0x80 + z.toNat / 4096 % 64), UInt8.ofNat (0x80 + z.toNat / 64 % 64), UInt8.ofNat (0x80 + z.toNat % 64)]⟩ : ByteArray).get! (0 + 1)).toNat = 128 + z.toNat / 4096 % 64 := by show (UInt8.ofNat (0x80 + z.toNat / 4096 % 64)).toNat = _; exact u8n _ (by omega)
      have e2 : ((⟨#[UInt8.ofNat (0xF0 + z.toNat / 262144), UInt8.ofNat (0x80 + z.toNat / 4096 % 64), UInt8.ofNat (0x80 + z.toNat / 64 % 64), UInt8.ofNat (0x80 + z.toNat % 64)]⟩ : ByteArray).get! (0 + 2)).toNat = 128 + z.toNat / 64 % 64 := by show (UInt8.ofNat (0x80 + z.toNat / 64 % 64)).toNat = _; exact u8n _ (by omega)
      have e3 : ((⟨#[UInt8.ofNat (0xF0 + z.toNat / 262144), UInt8.ofNat (0x80 + z.toNat / 4096 % 64), UInt8.ofNat (0x80 + z.toNat / 64 % 64), UInt8.ofNat (0x80 + z.toNat % 64)]⟩ : ByteArray).get! (0 + 3)).toNat = 128 + z.toNat % 64 := by show (UInt8.ofNat (0x80 + z.toNat % 64)).toNat = _; exact u8n _ (by omega)
      rw [e0, e1, e2, e3]
      show decodeN 4 _ _ _ _ = (_, 4)
      unfold decodeN
      rw [if_neg (by omega), if_neg (by omega), if_neg (by omega), if_pos (by omega), if_pos (by omega)]
      rw [Prod.mk.injEq]
      exact ⟨by omega, rfl⟩
    · unfold widthOf; rw [if_neg (by omega), if_neg (by omega), if_neg (by omega), if_neg (by omega)]; rfl

theorem starts_enc {z : Int} (h : widthOf z ≠ 0) : starts (Utf8.encode z) = [0] ∧ badB (Utf8.encode z) 0 = false ∧ runesL (Utf8.encode z) = [z] := by
  obtain ⟨hd, hw⟩ := decode_enc h
  obtain ⟨hv, h0, h1, h2⟩ := valid_of_width h
  have hsz : 1 ≤ (Utf8.encode z).size := by
    have : (0 : Int) ≤ widthOf z := by
      unfold widthOf
      repeat' split
      all_goals omega
    omega
  have hs : starts (Utf8.encode z) = [0] := by
    unfold starts
    obtain ⟨m, hm⟩ : ∃ m, (Utf8.encode z).size = m + 1 := ⟨(Utf8.encode z).size - 1, by omega⟩
    have hwd : wd (Utf8.encode z) 0 = (Utf8.encode z).size := by simp only [wd]; rw [hd]
    rw [hm, startsFrom_cons _ m 0 (by omega), hwd, startsFrom_end _ _ _ (by omega)]
  refine ⟨hs, ?_, ?_⟩
  · unfold badB
    refine decide_eq_false ?_
    simp only [rn, wd, hd]
    rintro ⟨a, b⟩
    unfold widthOf at hw
    rw [b] at hw
    repeat' split at hw
    all_goals omega
  · unfold runesL
    rw [hs]
    simp only [List.map_cons, List.map_nil, rn, hd]
    rw [Int.toNat_of_nonneg h0]

theorem runesBytes_cons (z : Int) (zs : List Int) : runesBytes (z :: zs) = Utf8.encode z ++ runesBytes zs := by
  have := runesBytes_both [z] zs
  rw [List.singleton_append] at this
  rw [this, show runesBytes [z] = Utf8.encode z by unfold runesBytes; simp]
theorem badB_both (s t : ByteArray) (hb : bdB (s ++ t) s.size = true) (h1 : ∀ i ∈ starts s, badB s i = false) (h2 : ∀ i ∈ starts t, badB t i = false) : ∀ i ∈ starts (s ++ t), badB (s ++ t) i = false := by
  obtain ⟨e, hd⟩ := starts_both s t hb
  rw [e]
  intro i hi
  rcases List.mem_append.1 hi with hi | hi
  · rw [← h1 i hi]
    unfold badB
    simp only [rn, wd, hd i hi]
  · obtain ⟨j, hj, rfl⟩ := List.mem_map.1 hi
    rw [← h2 j hj]
    unfold badB
    simp only [rn, wd, decode_behind]
/-- Runes that are written are read back; nothing in what is written is bad. -/
theorem runes_back : ∀ zs : List Int, (∀ z ∈ zs, widthOf z ≠ 0) → runesL (runesBytes zs) = zs ∧ ∀ i ∈ starts (runesBytes zs), badB (runesBytes zs) i = false
  | [], _ => by
    have e : starts (runesBytes []) = [] := by decide
    exact ⟨by unfold runesL; rw [e]; rfl, by rw [e]; intro i hi; cases hi⟩
  | z :: zs, h => by
    obtain ⟨h1, h2⟩ := runes_back zs (fun y hy => h y (by simp [hy]))
    obtain ⟨e1, e2, e3⟩ := starts_enc (h z (by simp))
    have hv : ∀ i ∈ starts (Utf8.encode z), badB (Utf8.encode z) i = false := by rw [e1]; intro i hi; simp at hi; rw [hi]; exact e2
    have hj := joins_valid_left (Utf8.encode z) (runesBytes zs) hv
    rw [joins_bd] at hj
    rw [runesBytes_cons]
    exact ⟨by rw [runesL_both _ _ hj, h1, e3]; rfl, badB_both _ _ hj hv h2⟩

theorem rn_rune (s : ByteArray) (i : Nat) : widthOf ((rn s i : Nat) : Int) ≠ 0 := by
  have t := at_told s i
  have h1 := t.small
  have h2 := t.nosur
  unfold widthOf
  simp only [rn]
  rw [if_neg (by omega)]
  repeat' split
  all_goals decide
theorem runesL_runes (s : ByteArray) : ∀ z ∈ runesL s, widthOf z ≠ 0 := by
  intro z hz
  unfold runesL at hz
  obtain ⟨i, _, rfl⟩ := List.mem_map.1 hz
  exact rn_rune s i

/-- How the bytes of a sequence hang together with its rune. -/
theorem decodeN_bytes (n b0 b1 b2 b3 : Nat) (h0 : b0 < 256) (h1 : b1 < 256) (h2 : b2 < 256) (h3 : b3 < 256) (hg : ¬ ((decodeN n b0 b1 b2 b3).1 = 65533 ∧ (decodeN n b0 b1 b2 b3).2 = 1)) :
    ((decodeN n b0 b1 b2 b3).2 = 1 ∧ (decodeN n b0 b1 b2 b3).1 = b0 ∧ b0 < 128) ∨
    ((decodeN n b0 b1 b2 b3).2 = 2 ∧ b0 = 192 + (decodeN n b0 b1 b2 b3).1 / 64 ∧ b1 = 128 + (decodeN n b0 b1 b2 b3).1 % 64) ∨
    ((decodeN n b0 b1 b2 b3).2 = 3 ∧ b0 = 224 + (decodeN n b0 b1 b2 b3).1 / 4096 ∧ b1 = 128 + (decodeN n b0 b1 b2 b3).1 / 64 % 64 ∧ b2 = 128 + (decodeN n b0 b1 b2 b3).1 % 64) ∨
    ((decodeN n b0 b1 b2 b3).2 = 4 ∧ b0 = 240 + (decodeN n b0 b1 b2 b3).1 / 262144 ∧ b1 = 128 + (decodeN n b0 b1 b2 b3).1 / 4096 % 64 ∧ b2 = 128 + (decodeN n b0 b1 b2 b3).1 / 64 % 64 ∧ b3 = 128 + (decodeN n b0 b1 b2 b3).1 % 64) := by
  by_cases c0 : b0 < 128
  · have e : decodeN n b0 b1 b2 b3 = (b0, 1) := by unfold decodeN; rw [if_pos c0]
    rw [e]; exact .inl ⟨rfl, rfl, c0⟩
  by_cases c2 : b0 / 32 = 6 ∧ (1 < n ∧ b1 / 64 = 2)
  · by_cases hc : b0 % 32 * 64 + b1 % 64 ≥ 128
    · have e : decodeN n b0 b1 b2 b3 = (b0 % 32 * 64 + b1 % 64, 2) := by unfold decodeN; rw [if_neg c0, if_pos c2, if_pos hc]
      rw [e]; refine .inr (.inl ⟨rfl, ?_, ?_⟩) <;> simp only <;> omega
    · have e : decodeN n b0 b1 b2 b3 = (65533, 1) := by unfold decodeN; rw [if_neg c0, if_pos c2, if_neg hc]
      rw [e] at hg; exact absurd ⟨rfl, rfl⟩ hg
  by_cases c3 : b0 / 16 = 14 ∧ (1 < n ∧ b1 / 64 = 2) ∧ (2 < n ∧ b2 / 64 = 2)
  · by_cases hc : b0 % 16 * 4096 + b1 % 64 * 64 + b2 % 64 ≥ 2048 ∧ (b0 % 16 * 4096 + b1 % 64 * 64 + b2 % 64 < 55296 ∨ (57344 ≤ b0 % 16 * 4096 + b1 % 64 * 64 + b2 % 64 ∧ b0 % 16 * 4096 + b1 % 64 * 64 + b2 % 64 ≤ 1114111))
    · have e : decodeN n b0 b1 b2 b3 = (b0 % 16 * 4096 + b1 % 64 * 64 + b2 % 64, 3) := by unfold decodeN; rw [if_neg c0, if_neg c2, if_pos c3, if_pos hc]
      rw [e]; refine .inr (.inr (.inl ⟨rfl, ?_, ?_, ?_⟩)) <;> simp only <;> omega
    · have e : decodeN n b0 b1 b2 b3 = (65533, 1) := by unfold decodeN; rw [if_neg c0, if_neg c2, if_pos c3, if_neg hc]
      rw [e] at hg; exact absurd ⟨rfl, rfl⟩ hg
  by_cases c4 : b0 / 8 = 30 ∧ (1 < n ∧ b1 / 64 = 2) ∧ (2 < n ∧ b2 / 64 = 2) ∧ (3 < n ∧ b3 / 64 = 2)
  · by_cases hc : b0 % 8 * 262144 + b1 % 64 * 4096 + b2 % 64 * 64 + b3 % 64 ≥ 65536 ∧ (b0 % 8 * 262144 + b1 % 64 * 4096 + b2 % 64 * 64 + b3 % 64 < 55296 ∨ (57344 ≤ b0 % 8 * 262144 + b1 % 64 * 4096 + b2 % 64 * 64 + b3 % 64 ∧ b0 % 8 * 262144 + b1 % 64 * 4096 + b2 % 64 * 64 + b3 % 64 ≤ 1114111))
    · have e : decodeN n b0 b1 b2 b3 = (b0 % 8 * 262144 + b1 % 64 * 4096 + b2 % 64 * 64 + b3 % 64, 4) := by unfold decodeN; rw [if_neg c0, if_neg c2, if_neg c3, if_pos c4, if_pos hc]
      rw [e]; refine .inr (.inr (.inr ⟨rfl, ?_, ?_, ?_, ?_⟩)) <;> simp only <;> omega
    · have e : decodeN n b0 b1 b2 b3 = (65533, 1) := by unfold decodeN; rw [if_neg c0, if_neg c2, if_neg c3, if_pos c4, if_neg hc]
      rw [e] at hg; exact absurd ⟨rfl, rfl⟩ hg
  · have e : decodeN n b0 b1 b2 b3 = (65533, 1) := by unfold decodeN; rw [if_neg c0, if_neg c2, if_neg c3, if_neg c4]
    rw [e] at hg; exact absurd ⟨rfl, rfl⟩ hg

theorem ext_get (u v : ByteArray) (hs : u.size = v.size) (h : ∀ j, j < u.size → bt u j = bt v j) : u = v := by
  apply ByteArray.ext
  apply Array.ext
  · exact hs
  · intro j h1 h2
    have := h j h1
    unfold bt at this
    rw [get_lt u j h1, get_lt v j h2] at this
    exact UInt8.toNat_inj.1 this
/-- A good spot's bytes are what its rune is written as. -/
theorem enc_dec (s : ByteArray) (i : Nat) (hi : i < s.size) (hg : badB s i = false) : Utf8.encode ((rn s i : Nat) : Int) = s.extract i (i + wd s i) := by
  have hg' : ¬ (rn s i = 65533 ∧ wd s i = 1) := of_decide_eq_false hg
  have hr := wd_room s i hi
  have hw := rn_rune s i
  have hwn := widthOf_rn s i hg'
  have key := decodeN_bytes (s.size - i) (bt s i) (bt s (i + 1)) (bt s (i + 2)) (bt s (i + 3)) (bt_lt _ _) (bt_lt _ _) (bt_lt _ _) (bt_lt _ _)
  have e : decodeN (s.size - i) (bt s i) (bt s (i + 1)) (bt s (i + 2)) (bt s (i + 3)) = Utf8.decode s i := (decode_at s i).symm
  rw [e] at key
  have key := key hg'
  change (wd s i = 1 ∧ rn s i = bt s i ∧ _) ∨ (wd s i = 2 ∧ bt s i = 192 + rn s i / 64 ∧ bt s (i + 1) = 128 + rn s i % 64) ∨ (wd s i = 3 ∧ bt s i = 224 + rn s i / 4096 ∧ bt s (i + 1) = 128 + rn s i / 64 % 64 ∧ bt s (i + 2) = 128 + rn s i % 64) ∨ (wd s i = 4 ∧ bt s i = 240 + rn s i / 262144 ∧ bt s (i + 1) = 128 + rn s i / 4096 % 64 ∧ bt s (i + 2) = 128 + rn s i / 64 % 64 ∧ bt s (i + 3) = 128 + rn s i % 64) at key
  have hx : ∀ j, j < wd s i → bt (s.extract i (i + wd s i)) j = bt s (i + j) := fun j hj => by unfold bt; rw [get_extract _ _ _ _ (by omega) hr]
  have hsz : (s.extract i (i + wd s i)).size = wd s i := by rw [ByteArray.size_extract]; omega
  have b0 := bt_lt s i
  have b1 := bt_lt s (i + 1)
  have b2 := bt_lt s (i + 2)
  have b3 := bt_lt s (i + 3)
  generalize rn s i = r at *
  rcases key with ⟨k1, k2, k3⟩ | ⟨k1, k2, k3⟩ | ⟨k1, k2, k3, k4⟩ | ⟨k1, k2, k3, k4, k5⟩
  · rw [enc1 hw (by omega)]
    refine ext_get _ _ (by rw [hsz, k1]; rfl) (fun j hj => ?_)
    obtain rfl : j = 0 := by have : j < 1 := hj; omega
    rw [hx 0 (by omega), Nat.add_zero]
    show (UInt8.ofNat ((r : Int).toNat)).toNat = _
    rw [u8n _ (by omega)]; omega
  · have hlo : 128 ≤ (r : Int) ∧ (r : Int) < 2048 := by
      rw [k1] at hwn
      unfold widthOf at hwn
      repeat' split at hwn
      all_goals omega
    rw [enc2 hw hlo.1 hlo.2]
    refine ext_get _ _ (by rw [hsz, k1]; rfl) (fun j hj => ?_)
    have : j < 2 := hj
    have : j = 0 ∨ j = 1 := by omega
    rcases this with rfl | rfl
    · rw [hx 0 (by omega), Nat.add_zero]
      show (UInt8.ofNat (0xC0 + (r : Int).toNat / 64)).toNat = _
      rw [u8n _ (by omega)]; omega
    · rw [hx 1 (by omega)]
      show (UInt8.ofNat (0x80 + (r : Int).toNat % 64)).toNat = _
      rw [u8n _ (by omega)]; omega
  · have hlo : 2048 ≤ (r : Int) ∧ (r : Int) < 65536 := by
      rw [k1] at hwn
      unfold widthOf at hwn
      repeat' split at hwn
      all_goals omega
    rw [enc3 hw hlo.1 hlo.2]
    refine ext_get _ _ (by rw [hsz, k1]; rfl) (fun j hj => ?_)
    have : j < 3 := hj
    have : j = 0 ∨ j = 1 ∨ j = 2 := by omega
    rcases this with rfl | rfl | rfl
    · rw [hx 0 (by omega), Nat.add_zero]
      show (UInt8.ofNat (0xE0 + (r : Int).toNat / 4096)).toNat = _
      rw [u8n _ (by omega)]; omega
    · rw [hx 1 (by omega)]
      show (UInt8.ofNat (0x80 + (r : Int).toNat / 64 % 64)).toNat = _
      rw [u8n _ (by omega)]; omega
    · rw [hx 2 (by omega)]
      show (UInt8.ofNat (0x80 + (r : Int).toNat % 64)).toNat = _
      rw [u8n _ (by omega)]; omega
  · have hlo : 65536 ≤ (r : Int) := by
      rw [k1] at hwn
      unfold widthOf at hwn
      repeat' split at hwn
      all_goals omega
    rw [enc4 hw hlo]
    refine ext_get _ _ (by rw [hsz, k1]; rfl) (fun j hj => ?_)
    have : j < 4 := hj
    have : j = 0 ∨ j = 1 ∨ j = 2 ∨ j = 3 := by omega
    rcases this with rfl | rfl | rfl | rfl
    · rw [hx 0 (by omega), Nat.add_zero]
      show (UInt8.ofNat (0xF0 + (r : Int).toNat / 262144)).toNat = _
      rw [u8n _ (by omega)]; omega
    · rw [hx 1 (by omega)]
      show (UInt8.ofNat (0x80 + (r : Int).toNat / 4096 % 64)).toNat = _
      rw [u8n _ (by omega)]; omega
    · rw [hx 2 (by omega)]
      show (UInt8.ofNat (0x80 + (r : Int).toNat / 64 % 64)).toNat = _
      rw [u8n _ (by omega)]; omega
    · rw [hx 3 (by omega)]
      show (UInt8.ofNat (0x80 + (r : Int).toNat % 64)).toNat = _
      rw [u8n _ (by omega)]; omega

theorem clean_from (s : ByteArray) : ∀ f i, s.size ≤ i + f → i ≤ s.size → (∀ p ∈ startsFrom s f i, badB s p = false) → runesBytes ((startsFrom s f i).map (fun p => ((rn s p : Nat) : Int))) = s.extract i s.size
  | 0, i, hf, hi, h => by
    rw [show i = s.size by omega]
    simp only [startsFrom, List.map_nil]
    rw [show s.extract s.size s.size = ByteArray.empty from by apply ByteArray.ext; simp]
    rfl
  | f + 1, i, hf, hi, h => by
    by_cases hlt : i < s.size
    · have hw := wd_pos s i
      have hr := wd_room s i hlt
      rw [startsFrom_cons s f i hlt] at h ⊢
      rw [List.map_cons, runesBytes_cons, enc_dec s i hlt (h i (by simp)), clean_from s f (i + wd s i) (by omega) hr (fun p hp => h p (by simp [hp]))]
      rw [ByteArray.extract_append_extract]
      congr 1 <;> omega
    · rw [startsFrom_end s _ _ hlt, show i = s.size by omega, show s.extract s.size s.size = ByteArray.empty from by apply ByteArray.ext; simp]
      rfl
/-- A text without bad spots is its own clean text. -/
theorem clean_valid (s : ByteArray) (h : ∀ i ∈ starts s, badB s i = false) : cleanV s = s := by
  have := clean_from s s.size 0 (by omega) (by omega) h
  unfold cleanV runesL starts
  rw [this]
  exact ByteArray.extract_zero_size
theorem clean_facts (s : ByteArray) : runesL (cleanV s) = runesL s ∧ (∀ i ∈ starts (cleanV s), badB (cleanV s) i = false) ∧ cleanV (cleanV s) = cleanV s ∧ (starts (cleanV s)).length = (starts s).length := by
  obtain ⟨h1, h2⟩ := runes_back (runesL s) (runesL_runes s)
  refine ⟨h1, h2, clean_valid _ h2, ?_⟩
  rw [← runesL_length, ← runesL_length]
  exact congrArg List.length h1
end Go.Proofs.YtbefahknbdjnpaaGreatDoor
