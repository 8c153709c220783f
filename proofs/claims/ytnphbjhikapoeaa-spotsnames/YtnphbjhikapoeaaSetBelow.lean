/- A set as it lies in memory; Below, Size and In of it. -/
import Derived.Test.YtnphbjhikapoeaaSetSearch
namespace Go.Proofs.Ytnphbjhikapoeaa
open Go.RowKit Go.Shelf
set_option linter.unusedVariables false

def spanSize (x : Int × Int) : Int := rankOf x.2 + 1 - rankOf x.1
def total : List (Int × Int) → Int
  | [] => 0
  | x :: zs => spanSize x + total zs
/-- Right spans, rising, no two of which touch. -/
structure Spread (zs : List (Int × Int)) : Prop where
  ends : ∀ x ∈ zs, endsB x = true ∧ x.1 ≤ x.2
  apart : ∀ (i j : Nat) (x y : Int × Int), i < j → zs[i]? = some x → zs[j]? = some y → rankOf x.2 + 1 < rankOf y.1
theorem runeB_iff {n : Int} (h : runeB n = true) : 0 ≤ n ∧ n ≤ 1114111 ∧ (n < 55296 ∨ 57343 < n) := by
  unfold runeB at h
  exact of_decide_eq_true h
theorem endsB_iff {x : Int × Int} (h : endsB x = true) : (0 ≤ x.1 ∧ x.1 ≤ 1114111 ∧ (x.1 < 55296 ∨ 57343 < x.1)) ∧ (0 ≤ x.2 ∧ x.2 ≤ 1114111 ∧ (x.2 < 55296 ∨ 57343 < x.2)) := by
  unfold endsB at h
  rw [Bool.and_eq_true] at h
  exact ⟨runeB_iff h.1, runeB_iff h.2⟩
theorem rank_lt {a b : Int} (ha : a < 55296 ∨ 57343 < a) (hb : b < 55296 ∨ 57343 < b) : rankOf a < rankOf b ↔ a < b := by
  unfold rankOf
  split <;> split <;> (try split) <;> (try split) <;> omega
theorem Spread.lt {zs : List (Int × Int)} (h : Spread zs) (i j : Nat) (x y : Int × Int) (hij : i < j) (hx : zs[i]? = some x) (hy : zs[j]? = some y) : x.2 < y.1 := by
  have a := endsB_iff (h.ends x (List.mem_of_getElem? hx)).1
  have b := endsB_iff (h.ends y (List.mem_of_getElem? hy)).1
  have := h.apart i j x y hij hx hy
  exact (rank_lt a.2.2.2 b.1.2.2).1 (by omega)
theorem Spread.los {zs : List (Int × Int)} (h : Spread zs) (i j : Nat) (x y : Int × Int) (hij : i < j) (hx : zs[i]? = some x) (hy : zs[j]? = some y) : x.1 < y.1 := by
  have := h.lt i j x y hij hx hy
  have := (h.ends x (List.mem_of_getElem? hx)).2
  omega
theorem Spread.his {zs : List (Int × Int)} (h : Spread zs) (i j : Nat) (x y : Int × Int) (hij : i < j) (hx : zs[i]? = some x) (hy : zs[j]? = some y) : x.2 < y.2 := by
  have := h.lt i j x y hij hx hy
  have := (h.ends y (List.mem_of_getElem? hy)).2
  omega
theorem rank_range {a : Int} (h0 : 0 ≤ a) (h1 : a ≤ 1114111) : 0 ≤ rankOf a ∧ rankOf a ≤ 1112063 := by
  unfold rankOf
  split <;> (try split) <;> omega
/-- What lies ahead of each span. -/
def RowA (W : World) (a : Option Addr) (zs : List (Int × Int)) : Prop := 0 < zs.length → ∃ g o, a = some ⟨g, o, none⟩ ∧ g < W.heap.size ∧ ∀ j, j < zs.length → W.cell? ⟨g, o + j, none⟩ = some (.int .i64 (total (zs.take j)))
theorem RowA.below {W W' : World} {a : Option Addr} {zs : List (Int × Int)} (h : RowA W a zs) (hb : Below W.heap.size W W') : RowA W' a zs := fun h0 => by
  obtain ⟨g, o, ha, hg, hc⟩ := h h0
  have := hb.size
  exact ⟨g, o, ha, by omega, fun j hj => (hb.cell (p := ⟨g, o + j, none⟩) hg).trans (hc j hj)⟩
theorem total_bound {zs : List (Int × Int)} (h : ∀ x ∈ zs, endsB x = true ∧ x.1 ≤ x.2) : 0 ≤ total zs ∧ total zs ≤ 1112064 * zs.length := by
  induction zs with
  | nil => simp [total]
  | cons x zs ih =>
    have := ih fun y hy => h y (List.mem_cons_of_mem _ hy)
    have hx := h x List.mem_cons_self
    have e := endsB_iff hx.1
    have r1 := rank_range e.1.1 e.1.2.1
    have r2 := rank_range e.2.1 e.2.2.1
    have := (rank_lt e.2.2.2 e.1.2.2)
    simp only [total, spanSize, List.length_cons]
    omega
/-- How many runes of the set lie below r, where the first k spans begin below it. -/
def belowK (zs : List (Int × Int)) (r : Int) : Nat → Int
  | 0 => 0
  | k + 1 => total (zs.take k) + min (rankOf r) (rankOf (zs.getD k (0, 0)).2 + 1) - rankOf (zs.getD k (0, 0)).1
theorem total_snoc (zs : List (Int × Int)) (x : Int × Int) : total (zs ++ [x]) = total zs + spanSize x := by
  induction zs with
  | nil => simp [total]
  | cons y zs ih => simp only [List.cons_append, total, ih]; omega
theorem belowK_all {zs : List (Int × Int)} (h : Spread zs) : belowK zs 1114112 zs.length = total zs := by
  rcases List.eq_nil_or_concat zs with rfl | ⟨ys, x, rfl⟩
  · rfl
  · have hx := h.ends x (by simp)
    have e := endsB_iff hx.1
    have r2 := rank_range e.2.1 e.2.2.1
    have hr : rankOf 1114112 = 1112064 := by decide
    rw [List.concat_eq_append, List.length_append, List.length_singleton, total_snoc]
    show total ((ys ++ [x]).take ys.length) + min (rankOf 1114112) (rankOf ((ys ++ [x]).getD ys.length (0, 0)).2 + 1) - rankOf ((ys ++ [x]).getD ys.length (0, 0)).1 = _
    have hg : (ys ++ [x]).getD ys.length (0, 0) = x := by simp [List.getD]
    rw [List.take_left' rfl, hg, hr]
    unfold spanSize
    omega
structure SetAt (W : World) (B : Nat) (zs : List (Int × Int)) : Prop where
  form : ∃ a ca b cb, Blk W B #[.slice a zs.length ca, .slice b zs.length cb] 105 ∧ RowP W a zs ∧ RowA W b zs
  spread : Spread zs
  len : zs.length ≤ 1112064
theorem SetAt.below {W W' : World} {B : Nat} {zs : List (Int × Int)} (h : SetAt W B zs) (hb : Below W.heap.size W W') : SetAt W' B zs := by
  obtain ⟨⟨a, ca, b, cb, h1, h2, h3⟩, hs, hl⟩ := h
  exact ⟨⟨a, ca, b, cb, h1.below hb h1.lt, h2.below hb, h3.below hb⟩, hs, hl⟩

set_option maxRecDepth 100000 in
set_option maxHeartbeats 4000000 in
theorem below_any (B : Nat) (zs : List (Int × Int)) (r : Int) (h0 : -2147483648 ≤ r) (h1 : r ≤ 2147483647) (w : World) (hs : SetAt w B zs) :
    Calls Try.prog 33 #[.pointer (some ⟨B, 0, none⟩), .int .i32 r] w fun e w' => ∃ k, e = .returned (.int .i64 (belowK zs r k)) ∧ Cut (fun x => x.1) zs r k ∧ Below w.heap.size w w' := by
  obtain ⟨⟨a, ca, b, cb, hb0, hp, ha⟩, hsp, hl⟩ := hs
  have d0 := hb0.cell 0
  have HQ := hide (fun w hr => search_los a ca zs (by omega) r (fun i j x y => hsp.los i j x y) w hr)
  have HP := hide hp
  have HA := hide ha
  have HBk := hide hb0
  have HS := hide hsp
  clear hp ha hsp hb0
  go_enter Try.func33, Try.ntmps33
  go_wp2_with fail
  refine (unhide HQ _ (unhide HP)).mono ?_
  rintro e w2 ⟨k, bb, rfl, hcut, hb⟩
  have HB := hide hb
  have HC := hide hcut
  have e0 := ((unhide HBk).below hb (unhide HBk).lt).cell 0
  have e1 := ((unhide HBk).below hb (unhide HBk).lt).cell 1
  have HP2 := hide ((unhide HP).below hb)
  have HA2 := hide ((unhide HA).below hb)
  have hk := hcut.1
  clear hb hcut
  cases k with
  | zero =>
    go_wp2
    go_ret
    exact ⟨0, rfl, unhide HC, unhide HB⟩
  | succ m =>
    obtain ⟨x, hx⟩ : ∃ x, zs[m]? = some x := ⟨_, List.getElem?_eq_getElem (by omega)⟩
    obtain ⟨g, o, rfl, hg, hc⟩ := unhide HP2 (by omega)
    obtain ⟨g', o', rfl, hg', hc'⟩ := unhide HA2 (by omega)
    have c0 := (hc m x hx).1
    have c1 := (hc m x hx).2
    have c2 := hc' m (by omega)
    have hgd : zs.getD m (0, 0) = x := by simp [List.getD, hx]
    have hex := (unhide HS).ends x (List.mem_of_getElem? hx)
    have hee := endsB_iff hex.1
    have r1 := rank_range hee.1.1 hee.1.2.1
    have r2 := rank_range hee.2.1 hee.2.2.1
    have htb := total_bound (zs := zs.take m) (fun y hy => (unhide HS).ends y (List.mem_of_mem_take hy))
    have hlt : (zs.take m).length ≤ 1112064 := by rw [List.length_take]; omega
    have HV : Hid (belowK zs r (m + 1) = total (zs.take m) + min (rankOf r) (rankOf x.2 + 1) - rankOf x.1) := hide (by show total (zs.take m) + min (rankOf r) (rankOf (zs.getD m (0, 0)).2 + 1) - rankOf (zs.getD m (0, 0)).1 = _; rw [hgd])
    have hrr : -2147483648 ≤ rankOf r ∧ rankOf r ≤ 2147483647 := by unfold rankOf; split <;> (try split) <;> omega
    have hlo : 0 ≤ x.1 ∧ x.1 ≤ 1114111 := ⟨hee.1.1, hee.1.2.1⟩
    have hhi : 0 ≤ x.2 ∧ x.2 ≤ 1114111 := ⟨hee.2.1, hee.2.2.1⟩
    generalize total (zs.take m) = tt at c2 htb HV
    have htt : 0 ≤ tt ∧ tt ≤ 1236686340096 := by have := htb.1; have := htb.2; omega
    clear hc hc' hgd hex hee htb hx
    obtain ⟨lo, hi⟩ := x
    simp only at c0 c1 HV r1 r2 hlo hhi
    have hm1 : ((m + 1 : Nat) : Int) - 1 = (m : Int) := by omega
    have hm2 : ((m : Nat) : Int).toNat = m := by omega
    have hm3 : (m : Int) < (zs.length : Int) := by omega
    have b1 := Blk.new w2 #[.int .i32 lo, .int .i32 hi] 63
    have q0 := b1.cell 0
    have q1 := b1.cell 1
    have HB1 := hide ((unhide HB).alloc (unhide HB).size (.cells #[.int .i32 lo, .int .i32 hi] 63))
    have f1 : (w2.alloc (.cells #[.int .i32 lo, .int .i32 hi] 63)).cell? ⟨B, 1, none⟩ = some (.slice (some ⟨g', o', none⟩) zs.length cb) := (((Below.refl _ w2).alloc (Nat.le_refl _) _).cell (p := ⟨B, 1, none⟩) ((unhide HBk).below (unhide HB) (unhide HBk).lt).lt).trans e1
    have f2 := (((Below.refl _ w2).alloc (Nat.le_refl _) (.cells #[.int .i32 lo, .int .i32 hi] 63)).cell (p := ⟨g', o' + m, none⟩) hg').trans c2
    clear b1
    go_wp2_with fail
    clear e0 e1 c0 c1 c2 d0 HP HA HP2 HA2 hg hg' HBk HS HQ HB
    go_quiet ((go_at_call 59; exact Calls.quiet_of_same (rank_any _ (by omega) (by omega) _)))
    go_wp2
    all_goals
      go_ret
      first
        | exact ⟨m + 1, by rw [unhide HV, show min (rankOf r) (rankOf hi + 1) = rankOf hi + 1 by omega]; rfl, unhide HC, below_drewN (unhide HB1) _⟩
        | exact ⟨m + 1, by rw [unhide HV, show min (rankOf r) (rankOf hi + 1) = rankOf r by omega]; rfl, unhide HC, below_drewN (unhide HB1) _⟩

set_option maxRecDepth 100000 in
theorem size_any (B : Nat) (zs : List (Int × Int)) (w : World) (hs : SetAt w B zs) :
    Calls Try.prog 25 #[.pointer (some ⟨B, 0, none⟩)] w fun e w' => e = .returned (.int .i64 (total zs)) ∧ Below w.heap.size w w' := by
  have HS := hide hs.spread
  have HQ := hide (below_any B zs 1114112 (by decide) (by decide) w hs)
  have HT : Hid (∀ k, Cut (fun x => x.1) zs 1114112 k → belowK zs 1114112 k = total zs) := hide (fun k hk => by
    have hkl : k = zs.length := by
      by_cases e : k = zs.length
      · exact e
      · have h1 := hk.1
        obtain ⟨x, hx⟩ : ∃ x, zs[k]? = some x := ⟨_, List.getElem?_eq_getElem (by omega)⟩
        have : (1114112 : Int) ≤ x.1 := hk.2.2 k x (Nat.le_refl _) hx
        have := (endsB_iff ((unhide HS).ends x (List.mem_of_getElem? hx)).1).1.2.1
        omega
    subst hkl
    exact belowK_all (unhide HS))
  clear hs
  go_enter Try.func25, Try.ntmps25
  go_wp2_with fail
  refine (unhide HQ).mono ?_
  rintro e w2 ⟨k, rfl, hc, hb⟩
  rw [unhide HT k hc]
  have HB := hide hb
  clear hb hc
  go_wp2
  go_ret
  exact ⟨rfl, unhide HB⟩
end Go.Proofs.Ytnphbjhikapoeaa
