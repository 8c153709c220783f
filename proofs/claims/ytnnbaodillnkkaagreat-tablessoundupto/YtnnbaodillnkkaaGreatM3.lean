/- Texts of this claim, one behind the other. -/
import Derived.Test.YtnnbaodillnkkaaGreatM2
import Derived.Test.YtnnbaodillnkkaaGreatM1
import Derived.Maps.OwnSet
import Derived.Laws.Bits64b
import Derived.Laws.IdiomStrings
import Derived.Test.YtnnbaodillnkkaaGreatShB
import Derived.Lib.UnsafeStr
import Derived.Lib.Builder
import Derived.Lib.AppendStr
import Derived.Test.YtnnbaodillnkkaaGreatShK
import Derived.Test.YtnnbaodillnkkaaGreatShD
import Derived.Lib.ItoaLen
import Derived.Lib.AppendIntMem
import Derived.Test.YtnnbaodillnkkaaGreatShV
import Derived.Lib.TrimUEq
import Derived.KernelRfl
/- A set as it lies in memory; Below, Size and In of it. -/
namespace Go.Proofs.YtnnbaodillnkkaaGreat
open Go.RowKit Go.Shelf
set_option linter.unusedVariables false

def spanSize (x : Int × Int) : Int := rankOf x.2 + 1 - rankOf x.1
def total : List (Int × Int) → Int
  | [] => 0
  | x :: zs => spanSize x + total zs
structure Spread (zs : List (Int × Int)) : Prop where
  ends : ∀ x ∈ zs, endsB x = true ∧ x.1 ≤ x.2
  apart : ∀ (i j : Nat) (x y : Int × Int), i < j → zs[i]? = some x → zs[j]? = some y → rankOf x.2 + 1 < rankOf y.1
theorem runeB_iff {n : Int} (h : runeB n = true) : 0 ≤ n ∧ n ≤ 1114111 ∧ (n < 55296 ∨ 57343 < n) := by
  unfold runeB at h
  exact of_decide_eq_true h
theorem endsB_iff {x : Int × Int} (h : endsB x = true) : (0 ≤ x.1 ∧ x.1 ≤ 1114111 ∧ (x.1 < 55296 ∨ 57343 < x.1)) ∧ (0 ≤ x.2 ∧ x.2 ≤ 1114111 ∧ (x.2 < 55296 ∨ 57343 < x.2)) := by
  unfold endsB at h
  rw [Bool.and_eq_true] at h
  exact ⟨runeB_iff h.1, runeB_iff h.2⟩
theorem rank_lt {a b : Int} (ha : a < 55296 ∨ 57343 < a) (hb : b < 55296 ∨ 57343 < b) : rankOf a < rankOf b ↔ a < b := by
  unfold rankOf
  split <;> split <;> (try split) <;> (try split) <;> omega
theorem Spread.lt {zs : List (Int × Int)} (h : Spread zs) (i j : Nat) (x y : Int × Int) (hij : i < j) (hx : zs[i]? = some x) (hy : zs[j]? = some y) : x.2 < y.1 := by
  have a := endsB_iff (h.ends x (List.mem_of_getElem? hx)).1
  have b := endsB_iff (h.ends y (List.mem_of_getElem? hy)).1
  have := h.apart i j x y hij hx hy
  exact (rank_lt a.2.2.2 b.1.2.2).1 (by omega)
theorem Spread.los {zs : List (Int × Int)} (h : Spread zs) (i j : Nat) (x y : Int × Int) (hij : i < j) (hx : zs[i]? = some x) (hy : zs[j]? = some y) : x.1 < y.1 := by
  have := h.lt i j x y hij hx hy
  have := (h.ends x (List.mem_of_getElem? hx)).2
  omega
theorem Spread.his {zs : List (Int × Int)} (h : Spread zs) (i j : Nat) (x y : Int × Int) (hij : i < j) (hx : zs[i]? = some x) (hy : zs[j]? = some y) : x.2 < y.2 := by
  have := h.lt i j x y hij hx hy
  have := (h.ends y (List.mem_of_getElem? hy)).2
  omega
theorem rank_range {a : Int} (h0 : 0 ≤ a) (h1 : a ≤ 1114111) : 0 ≤ rankOf a ∧ rankOf a ≤ 1112063 := by
  unfold rankOf
  split <;> (try split) <;> omega
def RowA (W : World) (a : Option Addr) (zs : List (Int × Int)) : Prop := 0 < zs.length → ∃ g o, a = some ⟨g, o, none⟩ ∧ g < W.heap.size ∧ ∀ j, j < zs.length → W.cell? ⟨g, o + j, none⟩ = some (.int .i64 (total (zs.take j)))
theorem RowA.below {W W' : World} {a : Option Addr} {zs : List (Int × Int)} (h : RowA W a zs) (hb : Below W.heap.size W W') : RowA W' a zs := fun h0 => by
  obtain ⟨g, o, ha, hg, hc⟩ := h h0
  have := hb.size
  exact ⟨g, o, ha, by omega, fun j hj => (hb.cell (p := ⟨g, o + j, none⟩) hg).trans (hc j hj)⟩
theorem total_bound {zs : List (Int × Int)} (h : ∀ x ∈ zs, endsB x = true ∧ x.1 ≤ x.2) : 0 ≤ total zs ∧ total zs ≤ 1112064 * zs.length := by
  induction zs with
  | nil => simp [total]
  | cons x zs ih =>
    have := ih fun y hy => h y (List.mem_cons_of_mem _ hy)
    have hx := h x List.mem_cons_self
    have e := endsB_iff hx.1
    have r1 := rank_range e.1.1 e.1.2.1
    have r2 := rank_range e.2.1 e.2.2.1
    have := (rank_lt e.2.2.2 e.1.2.2)
    simp only [total, spanSize, List.length_cons]
    omega
def belowK (zs : List (Int × Int)) (r : Int) : Nat → Int
  | 0 => 0
  | k + 1 => total (zs.take k) + min (rankOf r) (rankOf (zs.getD k (0, 0)).2 + 1) - rankOf (zs.getD k (0, 0)).1
theorem total_snoc (zs : List (Int × Int)) (x : Int × Int) : total (zs ++ [x]) = total zs + spanSize x := by
  induction zs with
  | nil => simp [total]
  | cons y zs ih => simp only [List.cons_append, total, ih]; omega
theorem belowK_all {zs : List (Int × Int)} (h : Spread zs) : belowK zs 1114112 zs.length = total zs := by
  rcases List.eq_nil_or_concat zs with rfl | ⟨ys, x, rfl⟩
  · rfl
  · have hx := h.ends x (by simp)
    have e := endsB_iff hx.1
    have r2 := rank_range e.2.1 e.2.2.1
    have hr : rankOf 1114112 = 1112064 := by decide
    rw [List.concat_eq_append, List.length_append, List.length_singleton, total_snoc]
    show total ((ys ++ [x]).take ys.length) + min (rankOf 1114112) (rankOf ((ys ++ [x]).getD ys.length (0, 0)).2 + 1) - rankOf ((ys ++ [x]).getD ys.length (0, 0)).1 = _
    have hg : (ys ++ [x]).getD ys.length (0, 0) = x := by simp [List.getD]
    rw [List.take_left' rfl, hg, hr]
    unfold spanSize
    omega
structure SetAt (W : World) (B : Nat) (zs : List (Int × Int)) : Prop where
  form : ∃ a ca b cb, Blk W B #[.slice a zs.length ca, .slice b zs.length cb] 107 ∧ RowP W a zs ∧ RowA W b zs
  spread : Spread zs
  len : zs.length ≤ 1112064
theorem SetAt.below {W W' : World} {B : Nat} {zs : List (Int × Int)} (h : SetAt W B zs) (hb : Below W.heap.size W W') : SetAt W' B zs := by
  obtain ⟨⟨a, ca, b, cb, h1, h2, h3⟩, hs, hl⟩ := h
  exact ⟨⟨a, ca, b, cb, h1.below hb h1.lt, h2.below hb, h3.below hb⟩, hs, hl⟩

set_option maxRecDepth 100000 in
set_option maxHeartbeats 4000000 in
theorem below_any (B : Nat) (zs : List (Int × Int)) (r : Int) (h0 : -2147483648 ≤ r) (h1 : r ≤ 2147483647) (w : World) (hs : SetAt w B zs) :
    Calls Tryz.prog 176 #[.pointer (some ⟨B, 0, none⟩), .int .i32 r] w fun e w' => ∃ k, e = .returned (.int .i64 (belowK zs r k)) ∧ Cut (fun x => x.1) zs r k ∧ Below w.heap.size w w' := by
  obtain ⟨⟨a, ca, b, cb, hb0, hp, ha⟩, hsp, hl⟩ := hs
  have d0 := hb0.cell 0
  have HQ := hide (fun w hr => search_los a ca zs (by omega) r (fun i j x y => hsp.los i j x y) w hr)
  have HP := hide hp
  have HA := hide ha
  have HBk := hide hb0
  have HS := hide hsp
  clear hp ha hsp hb0
  go_enter Tryz.func176, Tryz.ntmps176
  go_wp2_with fail
  refine (unhide HQ _ (unhide HP)).mono ?_
  rintro e w2 ⟨k, bb, rfl, hcut, hb⟩
  have HB := hide hb
  have HC := hide hcut
  have e0 := ((unhide HBk).below hb (unhide HBk).lt).cell 0
  have e1 := ((unhide HBk).below hb (unhide HBk).lt).cell 1
  have HP2 := hide ((unhide HP).below hb)
  have HA2 := hide ((unhide HA).below hb)
  have hk := hcut.1
  clear hb hcut
  cases k with
  | zero =>
    go_wp2
    go_ret
    exact ⟨0, rfl, unhide HC, unhide HB⟩
  | succ m =>
    obtain ⟨x, hx⟩ : ∃ x, zs[m]? = some x := ⟨_, List.getElem?_eq_getElem (by omega)⟩
    obtain ⟨g, o, rfl, hg, hc⟩ := unhide HP2 (by omega)
    obtain ⟨g', o', rfl, hg', hc'⟩ := unhide HA2 (by omega)
    have c0 := (hc m x hx).1
    have c1 := (hc m x hx).2
    have c2 := hc' m (by omega)
    have hgd : zs.getD m (0, 0) = x := by simp [List.getD, hx]
    have hex := (unhide HS).ends x (List.mem_of_getElem? hx)
    have hee := endsB_iff hex.1
    have r1 := rank_range hee.1.1 hee.1.2.1
    have r2 := rank_range hee.2.1 hee.2.2.1
    have htb := total_bound (zs := zs.take m) (fun y hy => (unhide HS).ends y (List.mem_of_mem_take hy))
    have hlt : (zs.take m).length ≤ 1112064 := by rw [List.length_take]; omega
    have HV : Hz (belowK zs r (m + 1) = total (zs.take m) + min (rankOf r) (rankOf x.2 + 1) - rankOf x.1) := hide (by show total (zs.take m) + min (rankOf r) (rankOf (zs.getD m (0, 0)).2 + 1) - rankOf (zs.getD m (0, 0)).1 = _; rw [hgd])
    have hrr : -2147483648 ≤ rankOf r ∧ rankOf r ≤ 2147483647 := by unfold rankOf; split <;> (try split) <;> omega
    have hlo : 0 ≤ x.1 ∧ x.1 ≤ 1114111 := ⟨hee.1.1, hee.1.2.1⟩
    have hhi : 0 ≤ x.2 ∧ x.2 ≤ 1114111 := ⟨hee.2.1, hee.2.2.1⟩
    generalize total (zs.take m) = tt at c2 htb HV
    have htt : 0 ≤ tt ∧ tt ≤ 1236686340096 := by have := htb.1; have := htb.2; omega
    clear hc hc' hgd hex hee htb hx
    obtain ⟨lo, hi⟩ := x
    simp only at c0 c1 HV r1 r2 hlo hhi
    have hm1 : ((m + 1 : Nat) : Int) - 1 = (m : Int) := by omega
    have hm2 : ((m : Nat) : Int).toNat = m := by omega
    have hm3 : (m : Int) < (zs.length : Int) := by omega
    have b1 := Blk.new w2 #[.int .i32 lo, .int .i32 hi] 68
    have q0 := b1.cell 0
    have q1 := b1.cell 1
    have HB1 := hide ((unhide HB).alloc (unhide HB).size (.cells #[.int .i32 lo, .int .i32 hi] 68))
    have f1 : (w2.alloc (.cells #[.int .i32 lo, .int .i32 hi] 68)).cell? ⟨B, 1, none⟩ = some (.slice (some ⟨g', o', none⟩) zs.length cb) := (((Below.refl _ w2).alloc (Nat.le_refl _) _).cell (p := ⟨B, 1, none⟩) ((unhide HBk).below (unhide HB) (unhide HBk).lt).lt).trans e1
    have f2 := (((Below.refl _ w2).alloc (Nat.le_refl _) (.cells #[.int .i32 lo, .int .i32 hi] 68)).cell (p := ⟨g', o' + m, none⟩) hg').trans c2
    clear b1
    go_wp2_with fail
    clear e0 e1 c0 c1 c2 d0 HP HA HP2 HA2 hg hg' HBk HS HQ HB
    go_quiet ((go_at_call 173; exact Calls.quiet_of_same (rank_any _ (by omega) (by omega) _)))
    go_wp2
    all_goals
      go_ret
      first
        | exact ⟨m + 1, by rw [unhide HV, show min (rankOf r) (rankOf hi + 1) = rankOf hi + 1 by omega]; rfl, unhide HC, below_drewN (unhide HB1) _⟩
        | exact ⟨m + 1, by rw [unhide HV, show min (rankOf r) (rankOf hi + 1) = rankOf r by omega]; rfl, unhide HC, below_drewN (unhide HB1) _⟩
        | exact ⟨m + 1, by rw [unhide HV, Int.min_def]; rfl, unhide HC, below_drewN (unhide HB1) _⟩

set_option maxRecDepth 100000 in
theorem size_any (B : Nat) (zs : List (Int × Int)) (w : World) (hs : SetAt w B zs) :
    Calls Tryz.prog 161 #[.pointer (some ⟨B, 0, none⟩)] w fun e w' => e = .returned (.int .i64 (total zs)) ∧ Below w.heap.size w w' := by
  have HS := hide hs.spread
  have HQ := hide (below_any B zs 1114112 (by decide) (by decide) w hs)
  have HT : Hz (∀ k, Cut (fun x => x.1) zs 1114112 k → belowK zs 1114112 k = total zs) := hide (fun k hk => by
    have hkl : k = zs.length := by
      by_cases e : k = zs.length
      · exact e
      · have h1 := hk.1
        obtain ⟨x, hx⟩ : ∃ x, zs[k]? = some x := ⟨_, List.getElem?_eq_getElem (by omega)⟩
        have : (1114112 : Int) ≤ x.1 := hk.2.2 k x (Nat.le_refl _) hx
        have := (endsB_iff ((unhide HS).ends x (List.mem_of_getElem? hx)).1).1.2.1
        omega
    subst hkl
    exact belowK_all (unhide HS))
  clear hs
  go_enter Tryz.func161, Tryz.ntmps161
  go_wp2_with fail
  refine (unhide HQ).mono ?_
  rintro e w2 ⟨k, rfl, hc, hb⟩
  rw [unhide HT k hc]
  have HB := hide hb
  clear hb hc
  go_wp2
  go_ret
  exact ⟨rfl, unhide HB⟩

def memB (zs : List (Int × Int)) (r : Int) : Bool := zs.any (fun x => decide (x.1 ≤ r ∧ r ≤ x.2)) && runeB r
theorem mem_cut {zs : List (Int × Int)} (h : Spread zs) {r : Int} {k : Nat} (hc : Cut (fun x => x.2) zs r k) : zs.any (fun x => decide (x.1 ≤ r ∧ r ≤ x.2)) = match zs[k]? with
    | some x => decide (x.1 ≤ r)
    | none => false := by
  obtain ⟨h1, h2, h3⟩ := hc
  cases hk : zs[k]? with
  | none =>
    rw [List.any_eq_false]
    intro x hx
    obtain ⟨i, hi, rfl⟩ := List.mem_iff_getElem.1 hx
    have hkl := List.getElem?_eq_none_iff.1 hk
    have : zs[i].2 < r := h2 i _ (by omega) (List.getElem?_eq_getElem hi)
    simp; omega
  | some y =>
    have hy : r ≤ y.2 := h3 k y (Nat.le_refl _) hk
    by_cases hl : y.1 ≤ r
    · show _ = decide (y.1 ≤ r)
      rw [decide_eq_true hl, List.any_eq_true]
      exact ⟨y, List.mem_of_getElem? hk, decide_eq_true ⟨hl, hy⟩⟩
    · show _ = decide (y.1 ≤ r)
      rw [decide_eq_false hl, List.any_eq_false]
      intro x hx
      obtain ⟨i, hi, rfl⟩ := List.mem_iff_getElem.1 hx
      have hxe := List.getElem?_eq_getElem hi
      by_cases h4 : i < k
      · have : zs[i].2 < r := h2 i _ h4 hxe
        simp; omega
      · by_cases h5 : i = k
        · subst h5
          rw [hxe] at hk
          cases hk
          simp; omega
        · have := h.lt k i y zs[i] (by omega) hk hxe
          have := (h.ends y (List.mem_of_getElem? hk)).2
          simp; omega

set_option maxRecDepth 100000 in
set_option maxHeartbeats 4000000 in
theorem in_any (B : Nat) (zs : List (Int × Int)) (r : Int) (w : World) (hs : SetAt w B zs) :
    Calls Tryz.prog 33 #[.pointer (some ⟨B, 0, none⟩), .int .i32 r] w fun e w' => e = .returned (.bool (memB zs r)) ∧ Below w.heap.size w w' := by
  obtain ⟨⟨a, ca, b, cb, hb0, hp, ha⟩, hsp, hl⟩ := hs
  have d0 := hb0.cell 0
  have HQ := hide (fun w hr => search_his a ca zs (by omega) r (fun i j x y => hsp.his i j x y) w hr)
  have HP := hide hp
  have HBk := hide hb0
  have HS := hide hsp
  have hwr := width_rune r
  clear hp ha hsp hb0
  go_enter Tryz.func33, Tryz.ntmps33
  go_wp2_with fail
  refine (unhide HQ _ (unhide HP)).mono ?_
  rintro e w2 ⟨k, bb, rfl, hcut, hb⟩
  have HB := hide hb
  have hmc := mem_cut (unhide HS) hcut
  have e0 := ((unhide HBk).below hb (unhide HBk).lt).cell 0
  have HP2 := hide ((unhide HP).below hb)
  have hk := hcut.1
  have HV : Hz (memB zs r = (match zs[k]? with | some x => decide (x.1 ≤ r) | none => false && runeB r)) ∨ True := .inr trivial
  clear hb hcut HV
  by_cases hkn : k < zs.length
  · obtain ⟨x, hx⟩ : ∃ x, zs[k]? = some x := ⟨_, List.getElem?_eq_getElem hkn⟩
    obtain ⟨g, o, rfl, hg, hc⟩ := unhide HP2 (by omega)
    have c0 := (hc k x hx).1
    have c1 := (hc k x hx).2
    rw [hx] at hmc
    have hk1 : (k : Int) < (zs.length : Int) := by omega
    have hk2 : ((k : Nat) : Int).toNat = k := by omega
    obtain ⟨lo, hi⟩ := x
    simp only at c0 c1 hmc
    clear hc hx
    by_cases hlr : lo ≤ r
    · have HV : Hz (memB zs r = runeB r) := hide (by unfold memB; rw [hmc, decide_eq_true hlr]; rfl)
      cases hru : runeB r with
      | true =>
        rw [hru] at HV hwr
        have hw0 : (widthOf r == 0) = false := hwr
        have hw1 : (widthOf r != 0) = true := by unfold bne; rw [hw0]; rfl
        clear hmc hwr hru
        go_wp2_with (go_at_call 35; refine (width_any _ _).mono ?_; rintro e w' ⟨rfl, rfl⟩)
        go_ret
        exact ⟨by rw [unhide HV]; rfl, unhide HB⟩
      | false =>
        rw [hru] at HV hwr
        have hw0 : (widthOf r == 0) = true := hwr
        have hw1 : (widthOf r != 0) = false := by unfold bne; rw [hw0]; rfl
        clear hmc hwr hru
        go_wp2_with (go_at_call 35; refine (width_any _ _).mono ?_; rintro e w' ⟨rfl, rfl⟩)
        go_ret
        exact ⟨by rw [unhide HV]; rfl, unhide HB⟩
    · have HV : Hz (memB zs r = false) := hide (by unfold memB; rw [hmc, decide_eq_false hlr]; rfl)
      clear hmc hwr
      go_wp2_with (go_at_call 35; refine (width_any _ _).mono ?_; rintro e w' ⟨rfl, rfl⟩)
      go_ret
      exact ⟨by rw [unhide HV]; rfl, unhide HB⟩
  · have hk1 : ¬ (k : Int) < (zs.length : Int) := by omega
    rw [List.getElem?_eq_none (by omega)] at hmc
    have HV : Hz (memB zs r = false) := hide (by unfold memB; rw [hmc]; rfl)
    clear hmc hwr
    go_wp2
    go_ret
    exact ⟨by rw [unhide HV]; rfl, unhide HB⟩
end Go.Proofs.YtnnbaodillnkkaaGreat
namespace Go.Proofs.YtnnbaodillnkkaaGreat
open Go.RowKit Go.Shelf Go.Maps
set_option linter.unusedVariables false
end Go.Proofs.YtnnbaodillnkkaaGreat
namespace Go.Proofs.YtnnbaodillnkkaaGreat
open Go.RowKit Go.Shelf
set_option linter.unusedVariables false
end Go.Proofs.YtnnbaodillnkkaaGreat
namespace Go.Proofs.YtnnbaodillnkkaaGreat
open Go.RowKit Go.Shelf
open Go.Lib (decodeN decode_at)
set_option linter.unusedVariables false

theorem rn_rune (s : ByteArray) (i : Nat) : widthOf ((rn s i : Nat) : Int) ≠ 0 := by
  have t := at_told s i
  have h1 := t.small
  have h2 := t.nosur
  unfold widthOf
  simp only [rn]
  rw [if_neg (by omega)]
  repeat' split
  all_goals decide
end Go.Proofs.YtnnbaodillnkkaaGreat
namespace Go.Proofs.YtnnbaodillnkkaaGreat
open Go.RowKit Go.Shelf
set_option linter.unusedVariables false
end Go.Proofs.YtnnbaodillnkkaaGreat
namespace Go.Proofs.YtnnbaodillnkkaaGreat
open Go.RowKit Go.Shelf
open Go.Lib (decode_at)
set_option linter.unusedVariables false
end Go.Proofs.YtnnbaodillnkkaaGreat
namespace Go.Proofs.YtnnbaodillnkkaaGreat
open Go.RowKit Go.Shelf
set_option linter.unusedVariables false
theorem below_grown2 {W W' : World} {row : Option Nat} (h : Below W.heap.size W W') : W.grownBy W' row := ⟨h.os, h.tape, h.output, h.size, fun i hi _ => h.block i hi⟩
theorem encM2_one (t : List (Int × Int)) : ∀ u ∈ encM2 t, u.oneCell' = true := by
  induction t with
  | nil => intro u hu; cases hu
  | cons x t ih =>
    intro u hu
    rcases List.mem_cons.1 hu with rfl | hu
    · rfl
    · rcases List.mem_cons.1 hu with rfl | hu
      · rfl
      · exact ih u hu
theorem encF2_one (t : List (Int × ByteArray)) : ∀ u ∈ encF2 t, u.oneCell' = true := by
  induction t with
  | nil => intro u hu; cases hu
  | cons x t ih =>
    intro u hu
    rcases List.mem_cons.1 hu with rfl | hu
    · rfl
    · rcases List.mem_cons.1 hu with rfl | hu
      · rfl
      · exact ih u hu
theorem encP3_one (t : List (Int × Int × Int)) : ∀ u ∈ encP3 t, u.oneCell' = true := by
  induction t with
  | nil => intro u hu; cases hu
  | cons x t ih =>
    intro u hu
    rcases List.mem_cons.1 hu with rfl | hu
    · rfl
    · rcases List.mem_cons.1 hu with rfl | hu
      · rfl
      · rcases List.mem_cons.1 hu with rfl | hu
        · rfl
        · exact ih u hu
theorem encSc_one (t : List (ByteArray × List (Int × Int))) (us : List Value) (hu : ∀ u ∈ us, u.oneCell' = true) : ∀ u ∈ encSc t us, u.oneCell' = true := by
  induction t generalizing us with
  | nil => intro u h; cases us <;> cases h
  | cons x t ih => cases us with
    | nil => intro u h; cases h
    | cons v us =>
      intro u h
      rcases List.mem_cons.1 h with rfl | h
      · rfl
      · rcases List.mem_cons.1 h with rfl | h
        · exact hu _ List.mem_cons_self
        · exact ih us (fun y hy => hu y (List.mem_cons_of_mem _ hy)) u h
theorem encSc_at (t : List (ByteArray × List (Int × Int))) (us : List Value) (h : us.length = t.length) (j : Nat) : (encSc t us)[2 * j + 1]? = us[j]? := by
  induction t generalizing us j with
  | nil => cases us with
    | nil => simp [encSc]
    | cons v us => cases h
  | cons x t ih => cases us with
    | nil => cases h
    | cons v us => cases j with
      | zero => rfl
      | succ j => show (_ :: _ :: encSc t us)[2 * j + 1 + 2]? = _; rw [List.getElem?_cons_succ, List.getElem?_cons_succ, List.getElem?_cons_succ]; exact ih us (by simpa using h) j
theorem encSc_set (t : List (ByteArray × List (Int × Int))) (us : List Value) (h : us.length = t.length) (j : Nat) (v : Value) : (encSc t us).set (2 * j + 1) v = encSc t (us.set j v) := by
  induction t generalizing us j with
  | nil => cases us with
    | nil => simp [encSc]
    | cons v us => cases h
  | cons x t ih => cases us with
    | nil => cases h
    | cons u us => cases j with
      | zero => rfl
      | succ j => show (_ :: _ :: encSc t us).set (2 * j + 1 + 2) v = _ :: _ :: encSc t (us.set j v); rw [List.set_cons_succ, List.set_cons_succ, ih us (by simpa using h) j]
theorem encSc_length (t : List (ByteArray × List (Int × Int))) (us : List Value) (h : us.length = t.length) : (encSc t us).length = t.length * 2 := by
  induction t generalizing us with
  | nil => cases us <;> rfl
  | cons x t ih => cases us with
    | nil => cases h
    | cons u us => show (encSc t us).length + 1 + 1 = (t.length + 1) * 2; rw [ih us (by simpa using h)]; omega
theorem own_set {W : World} {lo E sz n g cap : Nat} {xs : List Value} (h : W.ownsRow lo E sz (.slice (some ⟨g, 0, none⟩) n cap) n xs) (i : Nat) (hi : i < n * sz) (u : Value) : (W.setCell ⟨g, i, none⟩ u).ownsRow lo E sz (.slice (some ⟨g, 0, none⟩) n cap) n (xs.set i u) := by
  refine ⟨by rw [List.length_set]; exact h.1, ?_⟩
  rcases h.2 with ⟨e, _⟩ | ⟨g', cap', cur, e, hb, hg, hc, hm, hcs, hx⟩
  · cases e
  · injection e with e1 e2 e3
    injection e1 with e1
    injection e1 with e1
    subst e1 e3
    have b := (show Blk W g cur E from hg).set i u
    refine .inr ⟨g, cap, _, rfl, hb, b, hc, hm, by rw [Array.size_setIfInBounds]; exact hcs, ?_⟩
    rw [Array.toList_setIfInBounds, List.take_set, hx]
def RowC (W : World) (hi : Nat) (a : Option Addr) (xs : List Value) : Prop := 0 < xs.length → ∃ g o, a = some ⟨g, o, none⟩ ∧ g < hi ∧ ∀ j u, xs[j]? = some u → W.cell? ⟨g, o + j, none⟩ = some u
theorem encS2_at (l : List (Int × Int)) (j : Nat) (x : Int × Int) (h : l[j]? = some x) : (encS2 l)[j * 2]? = some (.int .i32 x.1) ∧ (encS2 l)[j * 2 + 1]? = some (.int .i32 x.2) := by
  induction l generalizing j with
  | nil => simp at h
  | cons y l ih => cases j with
    | zero => obtain rfl := Option.some.inj h; exact ⟨rfl, rfl⟩
    | succ j => have := ih j (by simpa using h); rw [show (j + 1) * 2 = j * 2 + 1 + 1 by omega]; exact this
theorem encP3_length (t : List (Int × Int × Int)) : (encP3 t).length = t.length * 3 := by
  induction t with
  | nil => rfl
  | cons x t ih => show (encP3 t).length + 1 + 1 + 1 = (t.length + 1) * 3; omega
theorem encP3_at (l : List (Int × Int × Int)) (j : Nat) (x : Int × Int × Int) (h : l[j]? = some x) : (encP3 l)[j * 3]? = some (.int .i32 x.1) ∧ (encP3 l)[j * 3 + 1]? = some (.int .i32 x.2.1) ∧ (encP3 l)[j * 3 + 2]? = some (.int .i32 x.2.2) := by
  induction l generalizing j with
  | nil => simp at h
  | cons y l ih => cases j with
    | zero => obtain rfl := Option.some.inj h; exact ⟨rfl, rfl, rfl⟩
    | succ j => have := ih j (by simpa using h); rw [show (j + 1) * 3 = j * 3 + 1 + 1 + 1 by omega]; exact this
theorem encM2_length (t : List (Int × Int)) : (encM2 t).length = t.length * 2 := by
  induction t with
  | nil => rfl
  | cons x t ih => show (encM2 t).length + 1 + 1 = (t.length + 1) * 2; omega
theorem encM2_at (l : List (Int × Int)) (j : Nat) (x : Int × Int) (h : l[j]? = some x) : (encM2 l)[j * 2]? = some (.int .i32 x.1) ∧ (encM2 l)[j * 2 + 1]? = some (.int .i64 x.2) := by
  induction l generalizing j with
  | nil => simp at h
  | cons y l ih => cases j with
    | zero => obtain rfl := Option.some.inj h; exact ⟨rfl, rfl⟩
    | succ j => have := ih j (by simpa using h); rw [show (j + 1) * 2 = j * 2 + 1 + 1 by omega]; exact this
theorem encSc_at0 (t : List (ByteArray × List (Int × Int))) (us : List Value) (h : us.length = t.length) (j : Nat) (x : ByteArray × List (Int × Int)) (hx : t[j]? = some x) : (encSc t us)[j * 2]? = some (.string x.1) := by
  induction t generalizing us j with
  | nil => simp at hx
  | cons y t ih => cases us with
    | nil => cases h
    | cons v us => cases j with
      | zero => obtain rfl := Option.some.inj hx; rfl
      | succ j => have := ih us (by simpa using h) j (by simpa using hx); rw [show (j + 1) * 2 = j * 2 + 1 + 1 by omega]; exact this
theorem encF2_length (t : List (Int × ByteArray)) : (encF2 t).length = t.length * 2 := by
  induction t with
  | nil => rfl
  | cons x t ih => show (encF2 t).length + 1 + 1 = (t.length + 1) * 2; omega
theorem encF2_at (l : List (Int × ByteArray)) (j : Nat) (x : Int × ByteArray) (h : l[j]? = some x) : (encF2 l)[j * 2]? = some (.int .i32 x.1) ∧ (encF2 l)[j * 2 + 1]? = some (.string x.2) := by
  induction l generalizing j with
  | nil => simp at h
  | cons y l ih => cases j with
    | zero => obtain rfl := Option.some.inj h; exact ⟨rfl, rfl⟩
    | succ j => have := ih j (by simpa using h); rw [show (j + 1) * 2 = j * 2 + 1 + 1 by omega]; exact this
structure TabIn (W : World) (T : TV) (a0 a1 a2 a3 a4 a5 a6 a7 : Option Addr) (us : List Value) : Prop where
  lu : us.length = T.sc.length
  r0 : RowC W W.heap.size a0 (encSc T.sc us)
  r1 : RowC W W.heap.size a1 (encS2 T.co)
  r2 : RowC W W.heap.size a2 (encM2 T.ma)
  r3 : RowC W W.heap.size a3 (encP3 T.pr)
  r4 : RowC W W.heap.size a4 (encF2 T.fo)
  r5 : RowC W W.heap.size a5 (encF2 T.lk)
  r6 : RowC W W.heap.size a6 (encS2 T.dr)
  r7 : RowC W W.heap.size a7 (encS2 T.al)
  rs : ∀ (j : Nat) (x : ByteArray × List (Int × Int)) (u : Value), T.sc[j]? = some x → us[j]? = some u → ∃ b d, u = .slice b x.2.length d ∧ RowC W W.heap.size b (encS2 x.2)
structure TabOk (T : TV) : Prop where
  n0 : T.sc.length ≤ 1000000
  n1 : T.co.length ≤ 1000000
  n2 : T.ma.length ≤ 1000000
  n3 : T.pr.length ≤ 1000000
  n4 : T.fo.length ≤ 1000000
  n5 : T.lk.length ≤ 1000000
  n6 : T.dr.length ≤ 1000000
  n7 : T.al.length ≤ 1000000
  z0 : ∀ x ∈ T.sc, x.1.size ≤ maxLen ∧ x.2.length ≤ 1000000
  z2 : ∀ x ∈ T.ma, -9223372036854775808 ≤ x.2 ∧ x.2 ≤ 9223372036854775807
  z4 : ∀ x ∈ T.fo, x.2.size ≤ maxLen
  z5 : ∀ x ∈ T.lk, x.2.size ≤ maxLen
theorem RowC.below {W W' : World} {hi hi' : Nat} {a : Option Addr} {xs : List Value} (h : RowC W hi a xs) (hb : Below hi W W') (hl : hi ≤ hi') : RowC W' hi' a xs := by
  intro h0
  obtain ⟨g, o, h1, h2, h3⟩ := h h0
  exact ⟨g, o, h1, by omega, fun j u hu => (hb.cell (p := ⟨g, o + j, none⟩) h2).trans (h3 j u hu)⟩
theorem valid_starts (s : ByteArray) : ∀ f i, Lib.validGoD f (s.data.toList.drop i) = true ↔ ∀ p ∈ startsFrom s f i, badB s p = false
  | 0, i => ⟨fun _ p hp => (by cases hp), fun _ => rfl⟩
  | f + 1, i => by
    have hl : (s.data.toList.drop i).length = s.size - i := by rw [List.length_drop, Array.length_toList]; rfl
    unfold Lib.validGoD
    by_cases hi : i < s.size
    · have hne : ¬ s.data.toList.drop i = [] := fun e => by rw [e] at hl; have : ([] : List UInt8).length = 0 := rfl; omega
      rw [if_neg hne, startsFrom_cons s f i hi, Lib.decodeL_drop, List.drop_drop]
      by_cases hb : rn s i = 65533 ∧ wd s i = 1
      · rw [if_pos hb]
        exact ⟨fun h => (by cases h), fun h => by have := h i (List.mem_cons_self ..); unfold badB at this; rw [decide_eq_true hb] at this; cases this⟩
      · rw [if_neg hb]
        have ih := valid_starts s f (i + wd s i)
        refine ih.trans ⟨fun h p hp => ?_, fun h p hp => h p (List.mem_cons_of_mem _ hp)⟩
        rcases List.mem_cons.1 hp with rfl | hp
        · unfold badB; exact decide_eq_false hb
        · exact h p hp
    · have hne : s.data.toList.drop i = [] := List.length_eq_zero_iff.1 (by omega)
      rw [if_pos hne, startsFrom_end s _ i hi]
      exact ⟨fun _ p hp => (by cases hp), fun _ => rfl⟩
end Go.Proofs.YtnnbaodillnkkaaGreat
namespace Go.Proofs.YtnnbaodillnkkaaGreat
open Go.RowKit Go.Shelf
open Go.Lib (decode_at)
set_option linter.unusedVariables false
def okU (s : ByteArray) : Bool := Lib.validD s.data.toList
theorem okU_iff {s : ByteArray} : okU s = true ↔ ∀ p ∈ starts s, badB s p = false := valid_starts s s.size 0
end Go.Proofs.YtnnbaodillnkkaaGreat
