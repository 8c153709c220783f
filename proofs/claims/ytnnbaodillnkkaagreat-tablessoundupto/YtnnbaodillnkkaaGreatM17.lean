/- Texts of this claim, one behind the other. -/
import Derived.Test.YtnnbaodillnkkaaGreatM16
import Derived.Test.YtnnbaodillnkkaaGreatM4
import Derived.Test.YtnnbaodillnkkaaGreatM12
/- A Book of tables: bookOf, behind the scripts. -/
namespace Go.Proofs.YtnnbaodillnkkaaGreat
open Go.RowKit Go.Shelf Go.Maps
set_option linter.unusedVariables false
noncomputable def tail3 : Code := match Tryz.f29.body with
  | some (.seq _ (.seq _ (.seq _ (.seq _ t)))) => t
  | _ => .skip
noncomputable def tail2 : Code := match Tryz.f29.body with
  | some (.seq _ (.seq _ (.seq _ t))) => t
  | _ => .skip
theorem PaAt.lt {w : World} {M n : Nat} {zs : List (Int × Int × Int)} (h : PaAt w M n zs) : M < w.heap.size := by
  obtain ⟨G, h1, _⟩ := h.mp
  exact h1.lt
theorem JoAt.lt {w : World} {M n : Nat} {zs : List (Int × Int × Int)} (h : JoAt w M n zs) : M < w.heap.size := by
  obtain ⟨G, h1, _⟩ := h.mp
  exact h1.lt
set_option maxRecDepth 100000 in
set_option maxHeartbeats 8000000 in
theorem tail3_any (T : TV) (hn : T.pr.length ≤ 1000000) (hz : ∀ x ∈ T.pr, R32 x.1 ∧ R32 x.2.1 ∧ R32 x.2.2) {w2 : World} {B P lo M6 M7 c3 : Nat} {a3 : Option Addr} {z0 z2 z4 z5 z6 z7 z8 z9 z10 z11 z12 z13 z14 z15 z16 z17 z18 z19 z20 z21 z22 z23 z24 z25 z26 z27 z28 z29 z30 z31 z32 z33 z34 z35 z36 z37 z38 z39 z40 z41 z42 z43 z44 z45 z46 z47 z48 z49 z50 z51 z52 z53 z54 z55 z56 z57 z58 z59 z60 z61 z62 z63 z64 z65 z66 z67 z68 z69 z70 z71 z72 z73 z74 z75 z76 z77 z78 z79 z80 z81 z82 z83 z84 z85 z86 z87 z88 z89 z90 z91 z92 z93 z94 z95 z96 z97 z98 z99 z100 : Value} {Q : Exit → Act → World → Prop} (hmx : Tryz.prog.follows .mixedOrders = true)
    (hP : w2.cell? ⟨P, 3, none⟩ = some (.slice a3 T.pr.length c3))
    (HR : Hz (RowC w2 lo a3 (encP3 T.pr) ∧ lo ≤ w2.heap.size ∧ lo ≤ M6 ∧ lo ≤ M7 ∧ M6 ≠ M7 ∧ B < w2.heap.size ∧ B ≠ M6 ∧ B ≠ M7 ∧ w2.cell? ⟨B, 13, none⟩ = some (.map (some M6)) ∧ w2.cell? ⟨B, 14, none⟩ = some (.map (some M7))))
    (HM0 : Hz (PaAt w2 M6 0 (T.pr.take 0) ∧ JoAt w2 M7 0 (T.pr.take 0) ∧ KeptX (fun g => g = M6 ∨ g = M7) w2 w2))
    (hQ : ∀ (a : Act) (wn : World), a.tmps.getD 2 undef = .pointer (some ⟨B, 0, none⟩) → a.defers = [] → Hz (PaAt wn M6 T.pr.length T.pr ∧ JoAt wn M7 T.pr.length T.pr ∧ KeptX (fun g => g = M6 ∨ g = M7) w2 wn) → Q .ret a wn) :
    Code.wp Tryz.prog tail3 Q { tmps := #[z0, .pointer (some ⟨P, 0, none⟩), z2, .pointer (some ⟨B, 0, none⟩), z4, z5, z6, z7, z8, z9, z10, z11, z12, z13, z14, z15, z16, z17, z18, z19, z20, z21, z22, z23, z24, z25, z26, z27, z28, z29, z30, z31, z32, z33, z34, z35, z36, z37, z38, z39, z40, z41, z42, z43, z44, z45, z46, z47, z48, z49, z50, z51, z52, z53, z54, z55, z56, z57, z58, z59, z60, z61, z62, z63, z64, z65, z66, z67, z68, z69, z70, z71, z72, z73, z74, z75, z76, z77, z78, z79, z80, z81, z82, z83, z84, z85, z86, z87, z88, z89, z90, z91, z92, z93, z94, z95, z96, z97, z98, z99, z100], defers := [] } w2 := by
  have HQ := hide hQ
  have HZ := hide hz
  clear hQ hz
  delta tail3 Tryz.f29
  dsimp only
  go_wp2_with fail
  go_loopw [9, 10, 72] (fun _ _ s72 wr => ∃ k : Nat, k ≤ T.pr.length ∧ s72 = .int .i64 k ∧ Hz (PaAt wr M6 k (T.pr.take k) ∧ JoAt wr M7 k (T.pr.take k) ∧ KeptX (fun g => g = M6 ∨ g = M7) w2 wr)) (fun _ _ s72 _ => T.pr.length - (intOf s72).toNat)
  case atStart => exact ⟨0, Nat.zero_le _, rfl, HM0⟩
  case round =>
    obtain ⟨k, hk, rfl, HM⟩ := hrel
    clear HM0
    by_cases hkn : k < T.pr.length
    · obtain ⟨x, hx⟩ : ∃ x, T.pr[k]? = some x := ⟨_, List.getElem?_eq_getElem hkn⟩
      obtain ⟨n0, n1, n2⟩ := encP3_at T.pr k x hx
      obtain ⟨g, q, rfl, hg, hc⟩ := (unhide HR).1 (by have := (List.getElem?_eq_some_iff.1 n0).1; omega)
      have hgM : ¬ (g = M6 ∨ g = M7) := by have := (unhide HR).2.2.1; have := (unhide HR).2.2.2.1; omega
      have hgw : g < w2.heap.size := Nat.lt_of_lt_of_le hg (unhide HR).2.1
      have kc0 : wr.cell? ⟨g, q + k * 3, none⟩ = some (.int .i32 x.1) := ((unhide HM).2.2.cell (p := ⟨g, q + k * 3, none⟩) hgw hgM).trans (hc _ _ n0)
      have kc1 : wr.cell? ⟨g, q + k * 3 + 1, none⟩ = some (.int .i32 x.2.1) := ((unhide HM).2.2.cell (p := ⟨g, q + k * 3 + 1, none⟩) hgw hgM).trans (hc _ _ n1)
      have kc2 : wr.cell? ⟨g, q + k * 3 + 2, none⟩ = some (.int .i32 x.2.2) := ((unhide HM).2.2.cell (p := ⟨g, q + k * 3 + 2, none⟩) hgw hgM).trans (hc _ _ n2)
      have HKN : Hz (k + 1 ≤ T.pr.length) := hide hkn
      have HX0 := hide (And.intro hx (unhide HZ x (List.mem_of_getElem? hx)))
      have hk1 : (k : Int) < (T.pr.length : Int) := by omega
      have hk2 : ((k : Nat) : Int).toNat = k := by omega
      have HKB : Hz (k ≤ 1000000) := hide (by omega)
      obtain ⟨x1, x2, x3⟩ := x
      dsimp only at kc0 kc1 kc2 HX0
      have HW : Hz (Below wr.heap.size wr ((wr.alloc (.cells #[.int .i32 x1, .int .i32 x2, .int .i32 x3] 56)).alloc (.cells #[.int .i32 x2, .int .i32 x3] 85)).drew) := hide ((((Below.refl _ wr).alloc (Nat.le_refl _) _).alloc (by simp) _).trans ⟨rfl, rfl, rfl, Nat.le_refl _, fun _ _ => rfl⟩)
      have bP : Blk ((wr.alloc (.cells #[.int .i32 x1, .int .i32 x2, .int .i32 x3] 56)).alloc (.cells #[.int .i32 x2, .int .i32 x3] 85)).drew wr.heap.size #[.int .i32 x1, .int .i32 x2, .int .i32 x3] 56 := (Blk.new wr _ _).alloc _
      have bQ : Blk ((wr.alloc (.cells #[.int .i32 x1, .int .i32 x2, .int .i32 x3] 56)).alloc (.cells #[.int .i32 x2, .int .i32 x3] 85)).drew (wr.heap.size + 1) #[.int .i32 x2, .int .i32 x3] 85 := by
        have := Blk.new (wr.alloc (.cells #[.int .i32 x1, .int .i32 x2, .int .i32 x3] 56)) #[.int .i32 x2, .int .i32 x3] 85
        rw [World.size_alloc] at this
        exact this
      have HF : Hz (∀ w3, KeptX (fun g => g = M6 ∨ g = M7) ((wr.alloc (.cells #[.int .i32 x1, .int .i32 x2, .int .i32 x3] 56)).alloc (.cells #[.int .i32 x2, .int .i32 x3] 85)).drew w3 → w3.cell? ⟨wr.heap.size, 0, none⟩ = some (.int .i32 x1) ∧ w3.cell? ⟨wr.heap.size + 1, 0, none⟩ = some (.int .i32 x2) ∧ w3.cell? ⟨wr.heap.size + 1, 1, none⟩ = some (.int .i32 x3) ∧ w3.cell? ⟨B, 13, none⟩ = some (.map (some M6)) ∧ w3.cell? ⟨B, 14, none⟩ = some (.map (some M7))) := hide (fun w3 h3 => by
        have hm6 := (unhide HM).1.lt
        have hm7 := (unhide HM).2.1.lt
        obtain ⟨_, _, _, _, _, hB, hB6, hB7, hc6, hc7⟩ := unhide HR
        have hBr : B < wr.heap.size := Nat.lt_of_lt_of_le hB (unhide HM).2.2.size
        have bP3 := h3.blk bP (show ¬ (wr.heap.size = M6 ∨ wr.heap.size = M7) by omega)
        have bQ3 := h3.blk bQ (show ¬ (wr.heap.size + 1 = M6 ∨ wr.heap.size + 1 = M7) by omega)
        have kB : ∀ j, w3.cell? ⟨B, j, none⟩ = w2.cell? ⟨B, j, none⟩ := fun j => (h3.cell (p := ⟨B, j, none⟩) (Nat.lt_of_lt_of_le hBr (unhide HW).size) (show ¬ (B = M6 ∨ B = M7) by omega)).trans (((unhide HW).cell (p := ⟨B, j, none⟩) hBr).trans ((unhide HM).2.2.cell (p := ⟨B, j, none⟩) hB (show ¬ (B = M6 ∨ B = M7) by omega)))
        exact ⟨bP3.cell 0, bQ3.cell 0, bQ3.cell 1, (kB 13).trans hc6, (kB 14).trans hc7⟩)
      have HX : Hz (R32 x1 ∧ R32 x2 ∧ R32 x3 ∧ k ≤ 1000000 ∧ M6 ≠ M7 ∧ PaAt ((wr.alloc (.cells #[.int .i32 x1, .int .i32 x2, .int .i32 x3] 56)).alloc (.cells #[.int .i32 x2, .int .i32 x3] 85)).drew M6 k (T.pr.take k) ∧ JoAt ((wr.alloc (.cells #[.int .i32 x1, .int .i32 x2, .int .i32 x3] 56)).alloc (.cells #[.int .i32 x2, .int .i32 x3] 85)).drew M7 k (T.pr.take k)) := hide ⟨(unhide HX0).2.1, (unhide HX0).2.2.1, (unhide HX0).2.2.2, unhide HKB, (unhide HR).2.2.2.2.1, (unhide HM).1.below (unhide HW), (unhide HM).2.1.below (unhide HW)⟩
      clear hx hc n0 n1 n2 hgM hgw hg bP bQ
      go_wp2_with fail
      generalize ((wr.alloc (.cells #[.int .i32 x1, .int .i32 x2, .int .i32 x3] 56)).alloc (.cells #[.int .i32 x2, .int .i32 x3] 85)) = wb at *
      refine reg16_any hmx HF HX ?_
      intro U wn HN
      have hkb : k + 1 ≤ 1000000 := by have := unhide HKN; omega
      have HN2 : Hz (PaAt wn M6 (k + 1) (T.pr.take (k + 1)) ∧ JoAt wn M7 (k + 1) (T.pr.take (k + 1)) ∧ KeptX (fun g => g = M6 ∨ g = M7) w2 wn) := hide (by
        rw [List.take_add_one, (unhide HX0).1]
        exact ⟨(unhide HN).1, (unhide HN).2.1, ((unhide HM).2.2.trans (keptX_of (unhide HW) _)).trans (unhide HN).2.2⟩)
      go_wp2_with fail
      exact ⟨⟨k + 1, unhide HKN, by go_num, HN2⟩, by have := unhide HKN; simp [intOf]; omega⟩
    · have hk1 : ¬ (k : Int) < (T.pr.length : Int) := by omega
      have HE : Hz (PaAt wr M6 T.pr.length T.pr ∧ JoAt wr M7 T.pr.length T.pr ∧ KeptX (fun g => g = M6 ∨ g = M7) w2 wr) := hide (by
        obtain rfl : k = T.pr.length := by omega
        have := unhide HM
        rwa [List.take_of_length_le (Nat.le_refl _)] at this)
      clear HM
      go_wp2_with fail
      exact unhide HQ _ _ rfl rfl HE
set_option maxRecDepth 100000 in
set_option maxHeartbeats 8000000 in
theorem tail2_any (T : TV) (hn : T.ma.length ≤ 1000000) (hz : ∀ x ∈ T.ma, R32 x.1 ∧ -9223372036854775808 ≤ x.2 ∧ x.2 ≤ 9223372036854775807) {w2 : World} {B P lo M5 c2 : Nat} {a2 : Option Addr} {z0 z2 z4 z5 z6 z7 z8 z9 z10 z11 z12 z13 z14 z15 z16 z17 z18 z19 z20 z21 z22 z23 z24 z25 z26 z27 z28 z29 z30 z31 z32 z33 z34 z35 z36 z37 z38 z39 z40 z41 z42 z43 z44 z45 z46 z47 z48 z49 z50 z51 z52 z53 z54 z55 z56 z57 z58 z59 z60 z61 z62 z63 z64 z65 z66 z67 z68 z69 z70 z71 z72 z73 z74 z75 z76 z77 z78 z79 z80 z81 z82 z83 z84 z85 z86 z87 z88 z89 z90 z91 z92 z93 z94 z95 z96 z97 z98 z99 z100 : Value} {Q : Exit → Act → World → Prop} (hmx : Tryz.prog.follows .mixedOrders = true)
    (hP : w2.cell? ⟨P, 2, none⟩ = some (.slice a2 T.ma.length c2))
    (HR : Hz (RowC w2 lo a2 (encM2 T.ma) ∧ lo ≤ w2.heap.size ∧ lo ≤ M5 ∧ B < w2.heap.size ∧ B ≠ M5 ∧ w2.cell? ⟨B, 12, none⟩ = some (.map (some M5))))
    (HM0 : Hz (ClAt w2 M5 0 (T.ma.take 0) ∧ KeptX (fun g => g = M5) w2 w2))
    (hQ : ∀ (v7 v53 v54 v55 v56 v57 v58 v59 v60 v61 v62 v63 v64 v65 v66 v67 v68 : Value) (wn : World), Hz (ClAt wn M5 T.ma.length T.ma ∧ KeptX (fun g => g = M5) w2 wn) → Code.wp Tryz.prog tail3 Q { tmps := #[z0, .pointer (some ⟨P, 0, none⟩), z2, .pointer (some ⟨B, 0, none⟩), z4, z5, z6, v7, z8, z9, z10, z11, z12, z13, z14, z15, z16, z17, z18, z19, z20, z21, z22, z23, z24, z25, z26, z27, z28, z29, z30, z31, z32, z33, z34, z35, z36, z37, z38, z39, z40, z41, z42, z43, z44, z45, z46, z47, z48, z49, z50, z51, z52, v53, v54, v55, v56, v57, v58, v59, v60, v61, v62, v63, v64, v65, v66, v67, v68, z69, z70, z71, z72, z73, z74, z75, z76, z77, z78, z79, z80, z81, z82, z83, z84, z85, z86, z87, z88, z89, z90, z91, z92, z93, z94, z95, z96, z97, z98, z99, z100], defers := [] } wn) :
    Code.wp Tryz.prog tail2 Q { tmps := #[z0, .pointer (some ⟨P, 0, none⟩), z2, .pointer (some ⟨B, 0, none⟩), z4, z5, z6, z7, z8, z9, z10, z11, z12, z13, z14, z15, z16, z17, z18, z19, z20, z21, z22, z23, z24, z25, z26, z27, z28, z29, z30, z31, z32, z33, z34, z35, z36, z37, z38, z39, z40, z41, z42, z43, z44, z45, z46, z47, z48, z49, z50, z51, z52, z53, z54, z55, z56, z57, z58, z59, z60, z61, z62, z63, z64, z65, z66, z67, z68, z69, z70, z71, z72, z73, z74, z75, z76, z77, z78, z79, z80, z81, z82, z83, z84, z85, z86, z87, z88, z89, z90, z91, z92, z93, z94, z95, z96, z97, z98, z99, z100], defers := [] } w2 := by
  have HQ := hide hQ
  have HZ := hide hz
  clear hQ hz
  delta tail2 Tryz.f29
  dsimp only
  refine wp_seq_k (fun K hK => ?_)
  have HK := hide hK
  clear hK
  go_wp2_with fail
  go_loopw [7, 56] (fun _ s56 wr => ∃ k : Nat, k ≤ T.ma.length ∧ s56 = .int .i64 k ∧ Hz (ClAt wr M5 k (T.ma.take k) ∧ KeptX (fun g => g = M5) w2 wr)) (fun _ s56 _ => T.ma.length - (intOf s56).toNat)
  case atStart => exact ⟨0, Nat.zero_le _, rfl, HM0⟩
  case round =>
    obtain ⟨k, hk, rfl, HM⟩ := hrel
    clear HM0
    by_cases hkn : k < T.ma.length
    · obtain ⟨x, hx⟩ : ∃ x, T.ma[k]? = some x := ⟨_, List.getElem?_eq_getElem hkn⟩
      obtain ⟨n0, n1⟩ := encM2_at T.ma k x hx
      obtain ⟨g, q, rfl, hg, hc⟩ := (unhide HR).1 (by have := (List.getElem?_eq_some_iff.1 n0).1; omega)
      have hgM : ¬ g = M5 := by have := (unhide HR).2.2.1; omega
      have hgw : g < w2.heap.size := Nat.lt_of_lt_of_le hg (unhide HR).2.1
      have kc0 : wr.cell? ⟨g, q + k * 2, none⟩ = some (.int .i32 x.1) := ((unhide HM).2.cell (p := ⟨g, q + k * 2, none⟩) hgw hgM).trans (hc _ _ n0)
      have kc1 : wr.cell? ⟨g, q + k * 2 + 1, none⟩ = some (.int .i64 x.2) := ((unhide HM).2.cell (p := ⟨g, q + k * 2 + 1, none⟩) hgw hgM).trans (hc _ _ n1)
      have HKN : Hz (k + 1 ≤ T.ma.length) := hide hkn
      have HX0 := hide hx
      have HX := hide (And.intro (unhide HZ x (List.mem_of_getElem? hx)).1 (And.intro (unhide HZ x (List.mem_of_getElem? hx)).2.1 (And.intro (unhide HZ x (List.mem_of_getElem? hx)).2.2 (show k ≤ 1000000 by omega))))
      have hk1 : (k : Int) < (T.ma.length : Int) := by omega
      have hk2 : ((k : Nat) : Int).toNat = k := by omega
      obtain ⟨m1, m2⟩ := x
      dsimp only at kc0 kc1 HX HX0
      have HB2 : Hz (Below wr.heap.size wr (wr.alloc (.cells #[.int .i32 m1, .int .i64 m2] 53)).drew) := hide (((Below.refl _ wr).alloc (Nat.le_refl _) _).trans ⟨rfl, rfl, rfl, Nat.le_refl _, fun _ _ => rfl⟩)
      have bM : Blk (wr.alloc (.cells #[.int .i32 m1, .int .i64 m2] 53)).drew wr.heap.size #[.int .i32 m1, .int .i64 m2] 53 := Blk.new wr _ _
      have HF : Hz (∀ w3, KeptX (fun _ => False) (wr.alloc (.cells #[.int .i32 m1, .int .i64 m2] 53)).drew w3 → Blk w3 wr.heap.size #[.int .i32 m1, .int .i64 m2] 53 ∧ w3.cell? ⟨B, 12, none⟩ = some (.map (some M5)) ∧ ClAt w3 M5 k (T.ma.take k)) := hide (fun w3 h3 => by
        obtain ⟨_, _, _, hB, hB5, hc5⟩ := unhide HR
        have hBr : B < wr.heap.size := Nat.lt_of_lt_of_le hB (unhide HM).2.size
        exact ⟨bM.below h3.below bM.lt, (h3.below.cell (p := ⟨B, 12, none⟩) (Nat.lt_of_lt_of_le hBr (unhide HB2).size)).trans (((unhide HB2).cell (p := ⟨B, 12, none⟩) hBr).trans (((unhide HM).2.cell (p := ⟨B, 12, none⟩) hB hB5).trans hc5)), ((unhide HM).1.below (unhide HB2)).below h3.below⟩)
      clear hx hc n0 n1 hgM hgw hg bM
      go_wp2_with fail
      generalize (wr.alloc (.cells #[.int .i32 m1, .int .i64 m2] 53)) = wb at *
      refine reg10_any hmx HF HX ?_
      intro U wn HN
      have hkb : k + 1 ≤ 1000000 := by have := unhide HKN; omega
      have HN2 : Hz (ClAt wn M5 (k + 1) (T.ma.take (k + 1)) ∧ KeptX (fun g => g = M5) w2 wn) := hide ⟨by rw [List.take_add_one, unhide HX0]; exact (unhide HN).1, ((unhide HM).2.trans (keptX_of (unhide HB2) _)).trans (unhide HN).2⟩
      go_wp2_with fail
      exact ⟨⟨k + 1, unhide HKN, by go_num, HN2⟩, by have := unhide HKN; simp [intOf]; omega⟩
    · have hk1 : ¬ (k : Int) < (T.ma.length : Int) := by omega
      have HE : Hz (ClAt wr M5 T.ma.length T.ma ∧ KeptX (fun g => g = M5) w2 wr) := hide (by
        obtain rfl : k = T.ma.length := by omega
        have := unhide HM
        rwa [List.take_of_length_le (Nat.le_refl _)] at this)
      clear HM
      go_wp2_with fail
      exact unhide HK _ _ (unhide HQ _ _ _ _ _ _ _ _ _ _ _ _ _ _ _ _ _ _ HE)
end Go.Proofs.YtnnbaodillnkkaaGreat
namespace Go.Proofs.YtnnbaodillnkkaaGreat
open Go.RowKit Go.Shelf
set_option linter.unusedVariables false
theorem lenW_zero {list : Int} {n m : Nat} (h : (lenW list n m).1 = 0) : n ≤ m := by
  unfold lenW at h
  by_cases e : n ≤ m
  · exact e
  · rw [if_neg e] at h
    exact absurd (show (4 : Int) = 0 from h) (by decide)
theorem rowsW_zero {list : Int} {n : Nat} {f : Nat → Int} (h : (rowsW list n f).1 = 0) : ∀ i, i < n → f i = 0 := by
  rcases rowsW_cases list n f with ⟨k, h1, h2, h3, e⟩ | ⟨h1, _⟩
  · rw [e] at h
    exact absurd h h3
  · exact h1
theorem getD_at {α : Type} {l : List α} {d x : α} {i : Nat} (h : l[i]? = some x) : l.getD i d = x := by simp [List.getD, h]
theorem mem_at {α : Type} {l : List α} {x : α} (h : x ∈ l) : ∃ i, i < l.length ∧ l[i]? = some x := by
  obtain ⟨i, hi, e⟩ := List.getElem_of_mem h
  exact ⟨i, hi, by rw [List.getElem?_eq_getElem hi, e]⟩
theorem eachW_zero {α : Type} {list : Int} {l : List α} {d : α} {f : α → Int} (h : (eachW list l d f).1 = 0) : ∀ x ∈ l, f x = 0 := fun x hx => by
  obtain ⟨i, hi, e⟩ := mem_at hx
  have := rowsW_zero h i hi
  rwa [getD_at e] at this
theorem pw_of {α β : Type} [BEq β] [LawfulBEq β] {l : List α} {d : α} {key : α → β} (h : ∀ i, i < l.length → twF l d key i = 0) : l.Pairwise (fun x y => key x ≠ key y) := by
  rw [List.pairwise_iff_getElem]
  intro i j hi hj hij e
  have := h j hj
  unfold twF at this
  rw [getD_at (List.getElem?_eq_getElem hj), if_pos (List.any_eq_true.2 ⟨l[i], List.mem_take_iff_getElem.2 ⟨i, by omega, rfl⟩, by rw [e]; exact beq_self_eq_true _⟩)] at this
  exact absurd this (by decide)
theorem pw_inj {α β : Type} {l : List α} {key : α → β} (h : l.Pairwise (fun x y => key x ≠ key y)) {x y : α} (hx : x ∈ l) (hy : y ∈ l) (e : key x = key y) : x = y := by
  obtain ⟨i, hi, ei⟩ := List.getElem_of_mem hx
  obtain ⟨j, hj, ej⟩ := List.getElem_of_mem hy
  rw [List.pairwise_iff_getElem] at h
  rcases Nat.lt_trichotomy i j with c | c | c
  · exact absurd (by rw [ei, ej]; exact e) (h i j hi hj c)
  · subst c
    rw [← ei, ← ej]
  · exact absurd (by rw [ei, ej]; exact e.symm) (h j i hj hi c)
theorem find_mem {α : Type} {l : List α} {p : α → Bool} {x : α} (hx : x ∈ l) (hp : p x = true) (hu : ∀ y ∈ l, p y = true → y = x) : l.find? p = some x := by
  cases h : l.find? p with
  | none => exact absurd hp (by simpa using List.find?_eq_none.1 h x hx)
  | some y => rw [hu y (List.mem_of_find?_eq_some h) (List.find?_some h)]
structure RowsOk (T : TV) : Prop where
  l0 : T.sc.length ≤ 64
  s0 : ∀ x ∈ T.sc, x.2.length ≤ 1024
  l1 : T.co.length ≤ 1024
  l2 : T.ma.length ≤ 512
  l3 : T.pr.length ≤ 4096
  l4 : T.fo.length ≤ 4096
  l5 : T.lk.length ≤ 4096
  l6 : T.dr.length ≤ 1024
  l7 : T.al.length ≤ 1024
  f0 : ∀ x ∈ T.sc, nameB x.1 = true ∧ RightL x.2
  f1 : RightL T.co
  f2 : ∀ x ∈ T.ma, runeB x.1 = true ∧ 1 ≤ x.2 ∧ x.2 ≤ 254
  f3 : ∀ x ∈ T.pr, runeB x.1 = true ∧ runeB x.2.1 = true ∧ runeB x.2.2 = true
  f4 : ∀ x ∈ T.fo, runeB x.1 = true ∧ toB x.2 = true
  f5 : ∀ x ∈ T.lk, runeB x.1 = true ∧ toB x.2 = true
  f6 : RightL T.dr
  f7 : RightL T.al
  t2 : T.ma.Pairwise (fun x y => x.1 ≠ y.1)
  t3 : T.pr.Pairwise (fun x y => x.1 ≠ y.1)
  t3b : T.pr.Pairwise (fun x y => x.2 ≠ y.2)
  t4 : T.fo.Pairwise (fun x y => x.1 ≠ y.1)
  t5 : T.lk.Pairwise (fun x y => x.1 ≠ y.1)
theorem right_of {list : Int} {l : List (Int × Int)} (h : (spW list l).1 = 0) : RightL l := fun x hx => by
  obtain ⟨i, hi, e⟩ := mem_at hx
  have h0 := rowsW_zero h i hi
  unfold badRow at h0
  rw [getD_at e] at h0
  by_cases hw : wrongOf x = 0
  · unfold wrongOf at hw
    by_cases he : endsB x = true
    · refine ⟨he, ?_⟩
      rcases Int.lt_or_le x.2 x.1 with c | c
      · simp [he, c] at hw
      · exact c
    · simp [he] at hw
  · rw [if_pos hw] at h0
    exact absurd h0 hw
theorem toB_iff {s : ByteArray} (h : toB s = true) : okU s = true ∧ 1 ≤ (runesL s).length ∧ (runesL s).length ≤ 4 := by
  unfold toB at h
  rw [Bool.and_eq_true, decide_eq_true_eq] at h
  exact h
theorem mpF_zero {x : Int × ByteArray} (h : mpF x = 0) : runeB x.1 = true ∧ toB x.2 = true := by
  unfold mpF at h
  by_cases h1 : runeB x.1 = true
  · rw [if_pos h1] at h
    by_cases h2 : toB x.2 = true
    · exact ⟨h1, h2⟩
    · rw [if_neg h2] at h
      exact absurd h (by decide)
  · rw [if_neg h1] at h
    exact absurd h (by decide)
theorem rowsOk_of {T : TV} (h : (orW [longV T, formsV T, twiceV T]).1 = 0) : RowsOk T := by
  have h := orW_zero h
  simp only [List.forall_mem_cons] at h
  have hl := orW_zero h.1
  have hf := orW_zero h.2.1
  have ht := orW_zero h.2.2.1
  simp only [List.forall_mem_cons] at hl hf ht
  obtain ⟨a0, a0s, a1, a2, a3, a4, a5, a6, a7, _⟩ := hl
  obtain ⟨f0, f1, f2, f3, f4, f5, f6, f7, _⟩ := hf
  obtain ⟨q0, q2, q3, q4, q5, _⟩ := ht
  have hp := rowsW_zero q3
  refine ⟨lenW_zero a0, fun x hx => ?_, lenW_zero a1, lenW_zero a2, lenW_zero a3, lenW_zero a4, lenW_zero a5, lenW_zero a6, lenW_zero a7, fun x hx => ?_, right_of f1, fun x hx => ?_, fun x hx => ?_, fun x hx => mpF_zero (eachW_zero f4 x hx), fun x hx => mpF_zero (eachW_zero f5 x hx), right_of f6, right_of f7, pw_of (rowsW_zero q2), ?_, ?_, pw_of (rowsW_zero q4), pw_of (rowsW_zero q5)⟩
  · obtain ⟨i, hi, e⟩ := mem_at hx
    have := rowsW_zero a0s i hi
    rw [show T.sc.getD i (ByteArray.empty, []) = x from getD_at e] at this
    rcases Nat.lt_or_ge 1024 x.2.length with c | c
    · rw [if_pos c] at this
      exact absurd this (by decide)
    · exact c
  · have := eachW_zero f0 x hx
    unfold scF at this
    by_cases hn : nameB x.1 = true
    · rw [if_pos hn] at this
      exact ⟨hn, right_of this⟩
    · rw [if_neg hn] at this
      exact absurd this (by decide)
  · have := eachW_zero f2 x hx
    unfold maF at this
    by_cases hn : runeB x.1 = true
    · rw [if_pos hn] at this
      by_cases hc : x.2 < 1 ∨ 254 < x.2
      · rw [if_pos hc] at this
        exact absurd this (by decide)
      · exact ⟨hn, by omega, by omega⟩
    · rw [if_neg hn] at this
      exact absurd this (by decide)
  · have := eachW_zero f3 x hx
    unfold prF at this
    by_cases hn : (runeB x.1 && (runeB x.2.1 && runeB x.2.2)) = true
    · rw [Bool.and_eq_true, Bool.and_eq_true] at hn
      exact hn
    · rw [if_neg hn] at this
      exact absurd this (by decide)
  all_goals
    rw [List.pairwise_iff_getElem]
    intro i j hi hj hij e
    have := hp j hj
    unfold twP at this
    rw [getD_at (List.getElem?_eq_getElem hj), if_pos (List.any_eq_true.2 ⟨T.pr[i], List.mem_take_iff_getElem.2 ⟨i, by omega, rfl⟩, by simp [e]⟩)] at this
    exact absurd this (by decide)
theorem class_of {T : TV} (h : RowsOk T) {x : Int × Int} (hx : x ∈ T.ma) : classOf T x.1 = x.2 := by
  unfold classOf
  rw [find_mem hx (p := fun y => y.1 == x.1) (by simp) (fun y hy e => pw_inj h.t2 hy hx (by simpa using e))]
theorem class_none {T : TV} {r : Int} (h : ∀ x ∈ T.ma, x.1 ≠ r) : classOf T r = 0 := by
  unfold classOf
  rw [List.find?_eq_none.2 (fun x hx => by simpa using h x hx)]
theorem class_mark {T : TV} (h : RowsOk T) (r : Int) : (classOf T r == 0) = !markB T r := by
  unfold markB
  by_cases e : ∃ x ∈ T.ma, x.1 = r
  · obtain ⟨x, hx, rfl⟩ := e
    rw [class_of h hx, List.any_eq_true.2 ⟨x, hx, by simp⟩]
    have := (h.f2 x hx).2
    simp
    omega
  · rw [class_none (fun x hx q => e ⟨x, hx, q⟩), List.any_eq_false.2 (fun x hx q => e ⟨x, hx, by simpa using q⟩)]
    rfl
theorem whol_of {T : TV} (h : RowsOk T) {x : Int × Int × Int} (hx : x ∈ T.pr) : wholP T x.1 = some x := by
  unfold wholP
  exact find_mem hx (by simp) (fun y hy e => pw_inj h.t3 hy hx (by simpa using e))
theorem whol_none {T : TV} {r : Int} (h : ∀ x ∈ T.pr, x.1 ≠ r) : wholP T r = none := List.find?_eq_none.2 (fun x hx => by simpa using h x hx)
theorem whol_some {T : TV} {r : Int} : (wholP T r).isSome = wholB T r := by
  unfold wholP wholB
  rw [Bool.eq_iff_iff, List.find?_isSome, List.any_eq_true]
def joinP (T : TV) (a b : Int) : Option (Int × Int × Int) := T.pr.find? (fun x => x.2.1 == a && x.2.2 == b)
theorem join_of {T : TV} (h : RowsOk T) {x : Int × Int × Int} (hx : x ∈ T.pr) : joinP T x.2.1 x.2.2 = some x := by
  unfold joinP
  exact find_mem hx (by simp) (fun y hy e => pw_inj h.t3b hy hx (by
    rw [Bool.and_eq_true, beq_iff_eq, beq_iff_eq] at e
    exact Prod.ext e.1 e.2))
theorem join_none {T : TV} {a b : Int} (h : ∀ x ∈ T.pr, ¬ (x.2.1 = a ∧ x.2.2 = b)) : joinP T a b = none := List.find?_eq_none.2 (fun x hx => by simpa using h x hx)
def toP (l : List (Int × ByteArray)) (r : Int) : Option (Int × ByteArray) := l.find? (fun x => x.1 == r)
theorem to_of {l : List (Int × ByteArray)} (h : l.Pairwise (fun x y => x.1 ≠ y.1)) {x : Int × ByteArray} (hx : x ∈ l) : toP l x.1 = some x := by
  unfold toP
  exact find_mem hx (by simp) (fun y hy e => pw_inj h hy hx (by simpa using e))
theorem to_none {l : List (Int × ByteArray)} {r : Int} (h : ∀ x ∈ l, x.1 ≠ r) : toP l r = none := List.find?_eq_none.2 (fun x hx => by simpa using h x hx)
theorem to_some {l : List (Int × ByteArray)} {r : Int} : (toP l r).isSome = fromB l r := by
  unfold toP fromB
  rw [Bool.eq_iff_iff, List.find?_isSome, List.any_eq_true]
def scrsOf (T : TV) (r : Int) : List Nat := (List.range T.sc.length).filter (fun j => memB (T.sc.getD j sc0).2 r)
end Go.Proofs.YtnnbaodillnkkaaGreat
namespace Go.Proofs.YtnnbaodillnkkaaGreat
open Go.RowKit Go.Shelf Go.Maps
set_option linter.unusedVariables false
def XMap (X : Nat → Prop) (w : World) : Prop := ∀ g, X g → ∃ es c, w.heap[g]? = some (.map es c)
theorem XMap.ty {X : Nat → Prop} {w : World} (h : XMap X w) : XTy X w := fun g hx => .inr (h g hx)
theorem XMap.ok {X : Nat → Prop} {w : World} (h : XMap X w) : XOk X w := fun g hx => .inr (h g hx)
theorem XMap.no {X : Nat → Prop} {w : World} (h : XMap X w) {g : Nat} {cur : Array Value} {t : TypeId} (hb : Blk w g cur t) : ¬ X g := fun hx => by
  obtain ⟨es, c, hm⟩ := h g hx
  unfold Blk at hb
  rw [hb] at hm
  injection hm with e
  cases e
theorem XMap.row {X : Nat → Prop} {w w' : World} (hX : XMap X w) (k : KeptX X w w') {lo E sz n : Nat} {v : Value} {xs : List Value} (h : w.ownsRow lo E sz v n xs) : w'.ownsRow lo E sz v n xs := by
  rcases h.2 with ⟨e, h0⟩ | ⟨g, cap, cur, e, hb, hg, r⟩
  · exact ⟨h.1, .inl ⟨e, h0⟩⟩
  · exact ⟨h.1, .inr ⟨g, cap, cur, e, hb, k.blk hg (hX.no hg), r⟩⟩
theorem MpAt.isMap {w : World} {kt : TypeId} {R : Value → Option (DataW Unit × List MemPlace)} {M n : Nat} {G : Lit → Option (DataW Unit)} (h : MpAt w kt R M n G) : ∃ es c, w.heap[M]? = some (.map es c) := by
  obtain ⟨D, ⟨es, clock, hb, r⟩, h2⟩ := h
  exact ⟨es, clock, hb⟩
theorem below_keptX {lo : Nat} {W w w' : World} {X : Nat → Prop} (h : Below lo W w) (hk : KeptX X w w') (hX : ∀ g, X g → lo ≤ g) (hl : lo ≤ W.heap.size) : Below lo W w' :=
  ⟨hk.os.trans h.os, hk.tape.trans h.tape, hk.output.trans h.output, Nat.le_trans h.size hk.size, fun g hg => (hk.block g (Nat.lt_of_lt_of_le hg (Nat.le_trans hl h.size)) (fun hx => by have := hX g hx; omega)).trans (h.block g hg)⟩
theorem FoAt.keptB {w w' : World} {B M n : Nat} {zs : List (Int × ByteArray)} {cur : Array Value} {t : TypeId} (h : FoAt w M n zs) (k : KeptX (fun g => g = B) w w') (hb : Blk w B cur t) (hc : ∀ q y, cur[0]? ≠ some (.int q y)) : FoAt w' M n zs := by
  obtain ⟨G, h1, h2⟩ := h.mp
  refine ⟨G, k.mp h1 (mp_ne_blk h1 hb), fun r hr => ?_⟩
  rcases h2 r hr with h3 | ⟨x, hx, e, g, c, h4, h5, h6⟩
  · exact .inl h3
  · refine .inr ⟨x, hx, e, g, c, h4, h5, Nat.lt_of_lt_of_le h6.1 k.size, fun j y hy => ?_⟩
    refine (k.cell (p := ⟨g, j, none⟩) h6.1 (fun e => ?_)).trans (h6.2 j y hy)
    have e : g = B := e
    subst e
    obtain ⟨y0, hy0⟩ : ∃ y0, (runesL x.2)[0]? = some y0 := ⟨_, List.getElem?_eq_getElem (by have := (List.getElem?_eq_some_iff.1 hy).1; omega)⟩
    have := h6.2 0 y0 hy0
    rw [hb.cell 0] at this
    exact hc _ _ this
structure BkA (w : World) (B lo : Nat) (T : TV) (t0 t1 t2 t3 t4 t5 t6 t7 sv : Value) (bs : List Nat) (Bc Bd Ba M5 n5 M6 n6 M7 n7 MF nF ML nL : Nat) : Prop where
  bx : Blk w B (bkCs t0 t1 t2 t3 t4 t5 t6 t7 sv Bc Bd Ba M5 M6 M7 MF ML) 82
  tb : TabAt w lo T (.agg #[t0, t1, t2, t3, t4, t5, t6, t7])
  len : bs.length = T.sc.length
  row : w.ownsRow lo 76 1 sv T.sc.length (bs.map ptrV)
  sets : ∀ (j : Nat) (s : ByteArray × List (Int × Int)) (b : Nat), T.sc[j]? = some s → bs[j]? = some b → SetV w s.2 b
  co : SetV w T.co Bc
  dr : SetV w T.dr Bd
  al : SetV w T.al Ba
  cl : ClAt w M5 n5 T.ma
  pa : PaAt w M6 n6 T.pr
  jo : JoAt w M7 n7 T.pr
  fo : FoAt w MF nF T.fo
  lk : FoAt w ML nL T.lk
theorem BkA.below {w w' : World} {B lo : Nat} {T : TV} {t0 t1 t2 t3 t4 t5 t6 t7 sv : Value} {bs : List Nat} {Bc Bd Ba M5 n5 M6 n6 M7 n7 MF nF ML nL : Nat} (h : BkA w B lo T t0 t1 t2 t3 t4 t5 t6 t7 sv bs Bc Bd Ba M5 n5 M6 n6 M7 n7 MF nF ML nL) (hb : Below w.heap.size w w') : BkA w' B lo T t0 t1 t2 t3 t4 t5 t6 t7 sv bs Bc Bd Ba M5 n5 M6 n6 M7 n7 MF nF ML nL :=
  ⟨h.bx.below hb h.bx.lt, h.tb.below hb, h.len, own_below h.row hb, fun j s b h1 h2 => (h.sets j s b h1 h2).below hb, h.co.below hb, h.dr.below hb, h.al.below hb, h.cl.below hb, h.pa.below hb, h.jo.below hb, h.fo.below hb, h.lk.below hb⟩
def BookAt (w : World) (B : Nat) (T : TV) : Prop := ∃ lo t0 t1 t2 t3 t4 t5 t6 t7 sv bs Bc Bd Ba M5 n5 M6 n6 M7 n7 MF nF ML nL, BkA w B lo T t0 t1 t2 t3 t4 t5 t6 t7 sv bs Bc Bd Ba M5 n5 M6 n6 M7 n7 MF nF ML nL
theorem BookAt.below {w w' : World} {B : Nat} {T : TV} (h : BookAt w B T) (hb : Below w.heap.size w w') : BookAt w' B T := by
  obtain ⟨lo, t0, t1, t2, t3, t4, t5, t6, t7, sv, bs, Bc, Bd, Ba, M5, n5, M6, n6, M7, n7, MF, nF, ML, nL, h⟩ := h
  exact ⟨lo, t0, t1, t2, t3, t4, t5, t6, t7, sv, bs, Bc, Bd, Ba, M5, n5, M6, n6, M7, n7, MF, nF, ML, nL, h.below hb⟩
theorem BookAt.lt {w : World} {B : Nat} {T : TV} (h : BookAt w B T) : B < w.heap.size := by
  obtain ⟨lo, t0, t1, t2, t3, t4, t5, t6, t7, sv, bs, Bc, Bd, Ba, M5, n5, M6, n6, M7, n7, MF, nF, ML, nL, h⟩ := h
  exact h.bx.lt
theorem tab_first {w : World} {lo : Nat} {T : TV} {t0 t1 t2 t3 t4 t5 t6 t7 : Value} (h : TabAt w lo T (.agg #[t0, t1, t2, t3, t4, t5, t6, t7])) : ∀ q y, t0 ≠ .int q y := fun q y e0 => by
  obtain ⟨v0, us, v1, v2, v3, v4, v5, v6, v7, e, hl, h1⟩ := h
  injection e with e
  have e := congrArg (fun l : Array Value => l[0]?) e
  have e : t0 = v0 := by simpa using e
  have hr := h1.own 0 v0 _ rfl rfl
  rcases hr.2 with ⟨e1, _⟩ | ⟨g, cap, cur, e1, _⟩
  · rw [← e, e0] at e1; cases e1
  · rw [← e, e0] at e1; cases e1
theorem book_fin {w wr wn wq : World} {B lo : Nat} {T : TV} {t0 t1 t2 t3 t4 t5 t6 t7 sv : Value} {bs : List Nat} {Bc Bd Ba M5 n5 M6 n6 M7 n7 MF nF ML nL : Nat}
    (hK : BkC w lo T t0 t1 t2 t3 t4 t5 t6 t7 Bc Bd Ba M5 M6 M7 MF nF ML nL) (hB : Blk w B (bkCs t0 t1 t2 t3 t4 t5 t6 t7 (.slice none 0 0) Bc Bd Ba M5 M6 M7 MF ML) 82) (hlo : lo ≤ w.heap.size)
    (hS : ScSt w wr B T t0 t1 t2 t3 t4 t5 t6 t7 Bc Bd Ba M5 M6 M7 MF ML T.sc.length sv bs) (h2 : ClAt wn M5 n5 T.ma) (k2 : KeptX (fun g => g = M5) wr wn) (h3 : PaAt wq M6 n6 T.pr) (h4 : JoAt wq M7 n7 T.pr) (k3 : KeptX (fun g => g = M6 ∨ g = M7) wn wq) : BookAt wq B T := by
  have m5 := hK.m5 21 twoElem
  have m6 := hK.m6 21 twoElem
  have m7 := hK.m7 21 twoElem
  have b5 := mp_ne_blk m5 hB
  have b6 := mp_ne_blk m6 hB
  have b7 := mp_ne_blk m7 hB
  have x1 : XTy (fun g => g = B) w := fun g e => by
    subst e
    exact .inl ⟨_, _, hB, .inl rfl⟩
  have m5r := hS.kp.mp m5 b5
  have x2 : XMap (fun g => g = M5) wr := fun g e => by
    subst e
    exact m5r.isMap
  have m6n := k2.mp (hS.kp.mp m6 b6) (fun e => hK.n56 e.symm)
  have m7n := k2.mp (hS.kp.mp m7 b7) (fun e => hK.n57 e.symm)
  have x3 : XMap (fun g => g = M6 ∨ g = M7) wn := fun g e => by
    rcases e with e | e
    · subst e
      exact m6n.isMap
    · subst e
      exact m7n.isMap
  have sv1 : ∀ l C, SetV w l C → SetV wq l C := fun l C h => x3.ty.setV k3 (x2.ty.setV k2 (x1.setV hS.kp h))
  have hc0 : ∀ q y, (bkCs t0 t1 t2 t3 t4 t5 t6 t7 (.slice none 0 0) Bc Bd Ba M5 M6 M7 MF ML)[0]? ≠ some (.int q y) := fun q y e => tab_first hK.tb q y (Option.some.inj e)
  have fo1 : ∀ M n l, M ≠ M5 → M ≠ M6 → M ≠ M7 → FoAt w M n l → FoAt wq M n l := fun M n l q5 q6 q7 h => x3.ok.fo k3 (x2.ok.fo k2 (h.keptB hS.kp hB hc0) q5) (fun e => e.elim q6 q7)
  exact ⟨lo, t0, t1, t2, t3, t4, t5, t6, t7, sv, bs, Bc, Bd, Ba, M5, n5, M6, n6, M7, n7, MF, nF, ML, nL,
    { bx := k3.blk (k2.blk hS.bx (fun e => b5 e.symm)) (fun e => e.elim (fun e => b6 e.symm) (fun e => b7 e.symm))
      tb := x3.ty.tab k3 (x2.ty.tab k2 (x1.tab hS.kp hK.tb))
      len := hS.len
      row := x3.row k3 (x2.row k2 (own_lower hS.row hlo))
      sets := fun j s b h1 hb => x3.ty.setV k3 (x2.ty.setV k2 (hS.sets j s b h1 hb))
      co := sv1 _ _ hK.co
      dr := sv1 _ _ hK.dr
      al := sv1 _ _ hK.al
      cl := by
        obtain ⟨G, g1, g2⟩ := h2.mp
        exact ⟨G, k3.mp g1 (fun e => e.elim hK.n56 hK.n57), g2⟩
      pa := h3
      jo := h4
      fo := fo1 _ _ _ (fun e => hK.n5F e.symm) (fun e => hK.n6F e.symm) (fun e => hK.n7F e.symm) hK.mF
      lk := fo1 _ _ _ (fun e => hK.n5L e.symm) (fun e => hK.n6L e.symm) (fun e => hK.n7L e.symm) hK.mL }⟩
theorem rowC_to {W w : World} {lo : Nat} {a : Option Addr} {zs : List Value} (h : RowC W lo a zs) (hc : ∀ g j, g < lo → w.cell? ⟨g, j, none⟩ = W.cell? ⟨g, j, none⟩) : RowC w lo a zs := fun h0 => by
  obtain ⟨g, q, e, hg, h1⟩ := h h0
  exact ⟨g, q, e, hg, fun j v hv => (hc g (q + j) hg).trans (h1 j v hv)⟩
end Go.Proofs.YtnnbaodillnkkaaGreat
