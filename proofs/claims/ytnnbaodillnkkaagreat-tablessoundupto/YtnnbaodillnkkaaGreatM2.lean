/- Texts of this claim, one behind the other. -/
import Derived.Test.YtnnbaodillnkkaaGreatM1
import Derived.Maps.AppendAt
import Derived.Laws.OwnMore
import Derived.Deep.AppendLies
import Derived.Deep.RegionLaw
import Derived.ScopeJumps
import Derived.WalkMore
import Derived.Deep.RegionWith
import Derived.OwnWalk
import Derived.Test.YtnnbaodillnkkaaGreatShC
import Derived.Laws.Cover4
import Derived.Deep.QuietTactic
import Derived.BigQuiet
/- The reader of rules: the text's lists. -/
namespace Go.Proofs.YtnnbaodillnkkaaGreat
open Go.RowKit Go.Shelf
set_option linter.unusedVariables false
structure Ln where
  E : Nat
  sz : Nat
  n : Nat
  xs : List Value
theorem own_ltW {W : World} {lo E sz n : Nat} {v : Value} {xs : List Value} (h : W.ownsRow lo E sz v n xs) : ∀ k, v.ownBlock = some k → k < W.heap.size := by
  rcases h.2 with ⟨rfl, _⟩ | ⟨g, cap, cur, rfl, hl, hg, _⟩
  · intro k e; simp [Value.ownBlock] at e
  · intro k e; simp [Value.ownBlock] at e; subst e; exact (Array.getElem?_eq_some_iff.1 hg).1
theorem own_slice {W : World} {lo E sz n : Nat} {v : Value} {xs : List Value} (h : W.ownsRow lo E sz v n xs) : ∃ a c, v = .slice a n c := by
  rcases h.2 with ⟨rfl, rfl⟩ | ⟨g, cap, cur, rfl, _⟩
  · exact ⟨none, 0, rfl⟩
  · exact ⟨_, _, rfl⟩
theorem encS2_length (t : List (Int × Int)) : (encS2 t).length = t.length * 2 := by
  induction t with
  | nil => rfl
  | cons x t ih => show (encS2 t).length + 1 + 1 = (t.length + 1) * 2; omega
theorem encS2_one (t : List (Int × Int)) : ∀ u ∈ encS2 t, u.oneCell' = true := by
  induction t with
  | nil => intro u hu; cases hu
  | cons x t ih =>
    intro u hu
    rcases List.mem_cons.1 hu with rfl | hu
    · rfl
    · rcases List.mem_cons.1 hu with rfl | hu
      · rfl
      · exact ih u hu
theorem own_some {W : World} {lo E sz n : Nat} {v : Value} {xs : List Value} (h : W.ownsRow lo E sz v n xs) (h0 : n = 0 → v = .slice none 0 0) : (v = .slice none 0 0 ∧ n = 0 ∧ xs = []) ∨ ∃ g c, v = .slice (some ⟨g, 0, none⟩) n c ∧ 0 < n ∧ lo ≤ g ∧ n ≤ c ∧ ∀ j u, xs[j]? = some u → W.cell? ((⟨g, 0, none⟩ : Addr).add j) = some u := by
  by_cases hn : n = 0
  · subst hn
    exact .inl ⟨h0 rfl, rfl, by have := h.1; rw [Nat.zero_mul] at this; exact List.length_eq_zero_iff.1 this⟩
  · rcases h.2 with ⟨_, h2⟩ | ⟨g, cap, cur, rfl, hl, hg, hc, _, hcs, hx⟩
    · exact absurd h2 hn
    · refine .inr ⟨g, cap, rfl, by omega, hl, hc, fun j u hu => ?_⟩
      have hj := (List.getElem?_eq_some_iff.1 hu).1
      rw [h.1] at hj
      rw [← hx, List.getElem?_take_of_lt hj] at hu
      have ea : (⟨g, 0, none⟩ : Addr).add j = ⟨g, j, none⟩ := by cases j <;> simp [Addr.add]
      rw [ea]
      have b : Blk W g cur E := hg
      rw [b.cell j, ← hu, Array.getElem?_toList]
theorem own_lower {W : World} {lo lo' E sz n : Nat} {v : Value} {xs : List Value} (h : W.ownsRow lo E sz v n xs) (hl : lo' ≤ lo) : W.ownsRow lo' E sz v n xs := by
  refine ⟨h.1, ?_⟩
  rcases h.2 with h2 | ⟨g, cap, cur, e, hb, h3⟩
  · exact .inl h2
  · exact .inr ⟨g, cap, cur, e, by omega, h3⟩
theorem below_grown {W W' : World} {row : Option Nat} (h : Below W.heap.size W W') : W.grownBy W' row := ⟨h.os, h.tape, h.output, h.size, fun i hi _ => h.block i hi⟩
structure TV where
  sc : List (ByteArray × List (Int × Int))
  co : List (Int × Int)
  ma : List (Int × Int)
  pr : List (Int × Int × Int)
  fo : List (Int × ByteArray)
  lk : List (Int × ByteArray)
  dr : List (Int × Int)
  al : List (Int × Int)
  r1 : List (Int × Int × Int)
  r2 : List (Int × Int × Int)
  r3 : List (Int × Int × Int)
  r4 : List (Int × Int × Int)
  r5 : List (Int × Int × Int)
  r6 : List (Int × Int × Int)
  r7 : List (Int × Int × Int)
  r8 : List (Int × Int × Int)
def encM2 : List (Int × Int) → List Value
  | [] => []
  | x :: t => .int .i32 x.1 :: .int .i64 x.2 :: encM2 t
def encP3 : List (Int × Int × Int) → List Value
  | [] => []
  | x :: t => .int .i32 x.1 :: .int .i32 x.2.1 :: .int .i32 x.2.2 :: encP3 t
def encF2 : List (Int × ByteArray) → List Value
  | [] => []
  | x :: t => .int .i32 x.1 :: .string x.2 :: encF2 t
def encSc : List (ByteArray × List (Int × Int)) → List Value → List Value
  | x :: t, u :: us => .string x.1 :: u :: encSc t us
  | _, _ => []

def rankOf (r : Int) : Int := if 57344 ≤ r then r - 2048 else if 55296 < r then 55296 else r
def rankedOf (n : Int) : Int := if 55296 ≤ n then n + 2048 else n
def runeB (n : Int) : Bool := decide (0 ≤ n ∧ n ≤ 1114111 ∧ (n < 55296 ∨ 57343 < n))
theorem width_rune (z : Int) : (widthOf z == 0) = !runeB z := by
  unfold widthOf runeB
  repeat' split
  all_goals simp
  all_goals omega

theorem rank_any (r : Int) (h0 : -2147483648 ≤ r) (h1 : r ≤ 2147483647) (w : World) : Calls Tryz.prog 173 #[.int .i32 r] w fun e w' => e = .returned (.int .i64 (rankOf r)) ∧ w' = w := by
  by_cases a : 57344 ≤ r
  · have h : rankOf r = r - 2048 := by unfold rankOf; rw [if_pos a]
    rw [h]
    go_enter Tryz.func173, Tryz.ntmps173
    go_wp2
    go_ret
    exact ⟨rfl, rfl⟩
  · by_cases b : 55296 < r
    · have h : rankOf r = 55296 := by unfold rankOf; rw [if_neg a, if_pos b]
      rw [h]
      go_enter Tryz.func173, Tryz.ntmps173
      go_wp2
      go_ret
      exact ⟨rfl, rfl⟩
    · have h : rankOf r = r := by unfold rankOf; rw [if_neg a, if_neg b]
      rw [h]
      go_enter Tryz.func173, Tryz.ntmps173
      go_wp2
      go_ret
      exact ⟨rfl, rfl⟩

theorem ranked_any (n : Int) (h0 : 0 ≤ n) (h1 : n ≤ 1112063) (w : World) : Calls Tryz.prog 189 #[.int .i64 n] w fun e w' => e = .returned (.int .i32 (rankedOf n)) ∧ w' = w := by
  by_cases a : 55296 ≤ n
  · have h : rankedOf n = n + 2048 := by unfold rankedOf; rw [if_pos a]
    rw [h]
    go_enter Tryz.func189, Tryz.ntmps189
    go_wp2
    go_ret
    exact ⟨rfl, rfl⟩
  · have h : rankedOf n = n := by unfold rankedOf; rw [if_neg a]
    rw [h]
    go_enter Tryz.func189, Tryz.ntmps189
    go_wp2
    go_ret
    exact ⟨rfl, rfl⟩

abbrev spnV (x : Int × Int) : Value := .agg #[.int .i32 x.1, .int .i32 x.2]
def endsB (x : Int × Int) : Bool := runeB x.1 && runeB x.2

theorem noRunes_any (x : Int × Int) (w : World) : Calls Tryz.prog 150 #[spnV x] w fun e w' => e = .returned (.bool (!endsB x)) ∧ Below w.heap.size w w' := by
  obtain ⟨lo, hi⟩ := x
  have b := Blk.new w #[.int .i32 lo, .int .i32 hi] 68
  have c0 := b.cell 0
  have c1 := b.cell 1
  have HB := hide ((Below.refl w.heap.size w).alloc (Nat.le_refl _) (.cells #[.int .i32 lo, .int .i32 hi] 68))
  have e0 := width_rune lo
  have e1 := width_rune hi
  clear b
  show Calls Tryz.prog 150 #[.agg #[.int .i32 lo, .int .i32 hi]] w _
  cases hl : runeB lo with
  | false =>
    have HE : Hz ((!endsB (lo, hi)) = true) := hide (by simp [endsB, hl])
    rw [hl] at e0
    have e0' : (widthOf lo == 0) = true := e0
    clear hl e0
    go_enter Tryz.func150, Tryz.ntmps150
    go_wp2_with (go_at_call 35; refine (width_any _ _).mono ?_; rintro e w' ⟨rfl, rfl⟩)
    go_ret
    exact ⟨by rw [unhide HE]; rfl, unhide HB⟩
  | true =>
    have HE : Hz ((!endsB (lo, hi)) = !runeB hi) := hide (by simp [endsB, hl])
    rw [hl] at e0
    have e0' : (widthOf lo == 0) = false := e0
    clear hl e0
    generalize runeB hi = q at *
    go_enter Tryz.func150, Tryz.ntmps150
    go_wp2_with (go_at_call 35; refine (width_any _ _).mono ?_; rintro e w' ⟨rfl, rfl⟩)
    go_ret
    exact ⟨by rw [unhide HE]; rfl, unhide HB⟩

theorem falling_any (x : Int × Int) (w : World) : Calls Tryz.prog 151 #[spnV x] w fun e w' => e = .returned (.bool (decide (x.2 < x.1))) ∧ Below w.heap.size w w' := by
  obtain ⟨lo, hi⟩ := x
  have b := Blk.new w #[.int .i32 lo, .int .i32 hi] 68
  have c0 := b.cell 0
  have c1 := b.cell 1
  have HB := hide ((Below.refl w.heap.size w).alloc (Nat.le_refl _) (.cells #[.int .i32 lo, .int .i32 hi] 68))
  clear b
  show Calls Tryz.prog 151 #[.agg #[.int .i32 lo, .int .i32 hi]] w _
  go_enter Tryz.func151, Tryz.ntmps151
  go_wp2
  go_ret
  exact ⟨rfl, unhide HB⟩

def wrongOf (x : Int × Int) : Int := if endsB x then (if x.2 < x.1 then 11 else 0) else 12

theorem below_drewN {B : Nat} {a w : World} (h : Below B a w) (n : Nat) : Below B a (w.drewN n) := h.trans ⟨rfl, rfl, rfl, Nat.le_refl _, fun _ _ => rfl⟩
def RowP (W : World) (a : Option Addr) (zs : List (Int × Int)) : Prop := 0 < zs.length → ∃ g o, a = some ⟨g, o, none⟩ ∧ g < W.heap.size ∧ ∀ j x, zs[j]? = some x → W.cell? ⟨g, o + j * 2, none⟩ = some (.int .i32 x.1) ∧ W.cell? ⟨g, o + j * 2 + 1, none⟩ = some (.int .i32 x.2)
theorem RowP.below {W W' : World} {a : Option Addr} {zs : List (Int × Int)} (h : RowP W a zs) (hb : Below W.heap.size W W') : RowP W' a zs := fun h0 => by
  obtain ⟨g, o, ha, hg, hc⟩ := h h0
  have := hb.size
  exact ⟨g, o, ha, by omega, fun j x hj => ⟨(hb.cell (p := ⟨g, o + j * 2, none⟩) hg).trans (hc j x hj).1, (hb.cell (p := ⟨g, o + j * 2 + 1, none⟩) hg).trans (hc j x hj).2⟩⟩

def badRow (zs : List (Int × Int)) (j : Nat) : Int :=
  if wrongOf (zs.getD j (0, 0)) ≠ 0 then wrongOf (zs.getD j (0, 0)) else if 0 < j ∧ (zs.getD j (0, 0)).1 ≤ (zs.getD (j - 1) (0, 0)).2 then 13 else 0
def rightV (zs : List (Int × Int)) : Value := match (List.range zs.length).find? (fun j => badRow zs j != 0) with
  | some j => .tuple #[.int .i64 j, .int .i64 (badRow zs j)]
  | none => .tuple #[.int .i64 0, .int .i64 0]
theorem rightV_bad (zs : List (Int × Int)) (k : Nat) (hk : k < zs.length) (h0 : ∀ i, i < k → badRow zs i = 0) (h1 : badRow zs k ≠ 0) : rightV zs = .tuple #[.int .i64 k, .int .i64 (badRow zs k)] := by
  have : (List.range zs.length).find? (fun j => badRow zs j != 0) = some k := by
    rw [List.find?_range_eq_some]
    exact ⟨by simpa using h1, by simpa using hk, fun j hj => by simp [h0 j hj]⟩
  unfold rightV
  rw [this]
theorem rightV_ok (zs : List (Int × Int)) (h0 : ∀ i, i < zs.length → badRow zs i = 0) : rightV zs = .tuple #[.int .i64 0, .int .i64 0] := by
  have : (List.range zs.length).find? (fun j => badRow zs j != 0) = none := by
    rw [List.find?_eq_none]
    intro j hj
    simp [h0 j (by simpa using hj)]
  unfold rightV
  rw [this]

set_option maxRecDepth 100000 in
set_option maxHeartbeats 4000000 in
theorem right_any (a : Option Addr) (cap : Nat) (zs : List (Int × Int)) (hz : zs.length ≤ 1073741824) (w : World) (hr : RowP w a zs) :
    Calls Tryz.prog 138 #[.slice a zs.length cap] w fun e w' => e = .returned (rightV zs) ∧ Below w.heap.size w w' := by
  have HR := hide hr
  have hzi : (zs.length : Int) ≤ 1073741824 := by omega
  clear hr
  go_enter Tryz.func138, Tryz.ntmps138
  go_wp2
  go_loopw [8] (fun i wr => ∃ k : Nat, i = .int .i64 k ∧ k ≤ zs.length ∧ Hz (∀ i, i < k → badRow zs i = 0) ∧ Hz (Below w.heap.size w wr)) (fun i _ => zs.length - (intOf i).toNat)
  case atStart => exact ⟨0, rfl, by omega, hide (fun i hi => by omega), hide (Below.refl _ _)⟩
  case round =>
    obtain ⟨k, rfl, hk, HZ, HB⟩ := hrel
    by_cases hkn : k < zs.length
    · have hk1 : (k : Int) < (zs.length : Int) := by omega
      have hk2 : ((k : Nat) : Int).toNat = k := by omega
      obtain ⟨x, hx⟩ : ∃ x, zs[k]? = some x := ⟨_, List.getElem?_eq_getElem hkn⟩
      have hgd : zs.getD k (0, 0) = x := by simp [List.getD, hx]
      obtain ⟨g, o, rfl, hg, hc⟩ := unhide HR (by omega)
      have c0 := ((unhide HB).cell (p := ⟨g, o + k * 2, none⟩) hg).trans (hc k x hx).1
      have c1 := ((unhide HB).cell (p := ⟨g, o + k * 2 + 1, none⟩) hg).trans (hc k x hx).2
      have HN := hide (fun w => noRunes_any x w)
      have HFa := hide (fun w => falling_any x w)
      obtain ⟨lo, hi⟩ := x
      simp only at c0 c1
      have b1 := Blk.new wr #[.int .i32 lo, .int .i32 hi] 68
      have q0 := b1.cell 0
      have q1 := b1.cell 1
      have HB1 := hide ((unhide HB).alloc (unhide HB).size (.cells #[.int .i32 lo, .int .i32 hi] 68))
      have HBl := hide b1
      clear b1
      cases he : endsB (lo, hi) with
      | false =>
        have HBR : Hz (badRow zs k = 12) := hide (by unfold badRow wrongOf; rw [hgd]; simp [he])
        have HV := hide (rightV_bad zs k hkn (unhide HZ) (by rw [unhide HBR]; decide))
        rw [he] at HN
        clear he hgd hc
        go_wp2_with fail
        refine (unhide HN _).mono ?_
        rintro e w2 ⟨rfl, hb⟩
        have HB2 := hide ((unhide HB1).trans (hb.mono (unhide HB1).size))
        clear hb
        go_wp2
        go_ret2
        exact ⟨by rw [unhide HV, unhide HBR]; rfl, unhide HB2⟩
      | true =>
        rw [he] at HN
        by_cases hfl : hi < lo
        · have HBR : Hz (badRow zs k = 11) := hide (by unfold badRow wrongOf; rw [hgd]; simp [he, hfl])
          have HV := hide (rightV_bad zs k hkn (unhide HZ) (by rw [unhide HBR]; decide))
          have hfd : decide (hi < lo) = true := decide_eq_true hfl
          clear he hgd hc
          go_wp2_with fail
          refine (unhide HN _).mono ?_
          rintro e w2 ⟨rfl, hb⟩
          have HB2 := hide ((unhide HB1).trans (hb.mono (unhide HB1).size))
          have b2 := (unhide HBl).below hb (unhide HBl).lt
          have r0 := b2.cell 0
          have r1 := b2.cell 1
          clear hb b2
          go_wp2_with fail
          refine (unhide HFa _).mono ?_
          rintro e w3 ⟨rfl, hb⟩
          have HB3 := hide ((unhide HB2).trans (hb.mono (unhide HB2).size))
          clear hb
          simp only [hfd]
          go_wp2
          go_ret2
          exact ⟨by rw [unhide HV, unhide HBR]; rfl, unhide HB3⟩
        · have hfd : decide (hi < lo) = false := decide_eq_false hfl
          have hw : wrongOf (lo, hi) = 0 := by unfold wrongOf; simp [he, hfl]
          by_cases hk0 : k = 0
          · subst hk0
            simp only [Nat.zero_mul, Nat.add_zero] at c0 c1
            have HBR : Hz (badRow zs 0 = 0) := hide (by unfold badRow; rw [hgd, if_neg (by simp [hw])]; simp)
            clear he hgd hc hw
            go_wp2_with fail
            refine (unhide HN _).mono ?_
            rintro e w2 ⟨rfl, hb⟩
            have HB2 := hide ((unhide HB1).trans (hb.mono (unhide HB1).size))
            have b2 := (unhide HBl).below hb (unhide HBl).lt
            have r0 := b2.cell 0
            have r1 := b2.cell 1
            clear hb
            go_wp2_with fail
            refine (unhide HFa _).mono ?_
            rintro e w3 ⟨rfl, hb⟩
            have HB3 := hide ((unhide HB2).trans (hb.mono (unhide HB2).size))
            clear hb b2
            simp only [hfd]
            go_wp2
            go_quiet (fail)
            go_wp2
            go_roundw
            case rel => exact ⟨1, rfl, by omega, hide (fun i hi => (show i = 0 by omega) ▸ unhide HBR), hide (below_drewN (unhide HB3) _)⟩
            case measure => simp [intOf]; omega
          · obtain ⟨m, rfl⟩ : ∃ m, k = m + 1 := ⟨k - 1, by omega⟩
            obtain ⟨y, hy⟩ : ∃ y, zs[m]? = some y := ⟨_, List.getElem?_eq_getElem (by omega)⟩
            have hgy : zs.getD m (0, 0) = y := by simp [List.getD, hy]
            have hcy := (hc m y hy).2
            obtain ⟨plo, phi⟩ := y
            simp only at hcy
            have hbr : badRow zs (m + 1) = if lo ≤ phi then 13 else 0 := by
              unfold badRow
              rw [hgd, if_neg (by simp [hw]), Nat.add_sub_cancel, hgy]
              simp
            have HBR := hide hbr
            have hlt := (unhide HB).size
            have hm1 : (m : Int) < (zs.length : Int) := by omega
            have hm2 : ((m : Nat) : Int).toNat = m := by omega
            have hm3 : (m : Int) + 1 < (zs.length : Int) := by omega
            have hm4 : ((m : Int) + 1).toNat = m + 1 := by omega
            have hm5 : (m : Int) ≤ 1073741824 := by omega
            have HCY := hide hcy
            clear he hgd hc hw hbr hgy hy hcy
            go_wp2_with fail
            refine (unhide HN _).mono ?_
            rintro e w2 ⟨rfl, hb⟩
            have HB2 := hide ((unhide HB1).trans (hb.mono (unhide HB1).size))
            have b2 := (unhide HBl).below hb (unhide HBl).lt
            have r0 := b2.cell 0
            have r1 := b2.cell 1
            clear hb
            go_wp2_with fail
            refine (unhide HFa _).mono ?_
            rintro e w3 ⟨rfl, hb⟩
            have HB3 := hide ((unhide HB2).trans (hb.mono (unhide HB2).size))
            have b3 := b2.below hb b2.lt
            have s0 := b3.cell 0
            have d2 := ((unhide HB3).cell (p := ⟨g, o + m * 2 + 1, none⟩) hg).trans (unhide HCY)
            clear hb b2 b3 r0 r1 q0 q1
            simp only [hfd]
            by_cases hle : lo ≤ phi
            · have HV := hide (rightV_bad zs (m + 1) hkn (unhide HZ) (by rw [unhide HBR, if_pos hle]; decide))
              have HB13 : Hz (badRow zs (m + 1) = 13) := hide (by rw [unhide HBR, if_pos hle])
              go_wp2
              go_quiet (fail)
              go_wp2
              go_ret2
              exact ⟨by rw [unhide HV, unhide HB13]; rfl, below_drewN (unhide HB3) _⟩
            · have HB0 : Hz (badRow zs (m + 1) = 0) := hide (by rw [unhide HBR, if_neg hle])
              go_wp2
              go_quiet (fail)
              go_wp2
              go_roundw
              case rel => exact ⟨m + 1 + 1, by go_num, by omega, hide (fun i hi => by
                by_cases e : i = m + 1
                · subst e; exact unhide HB0
                · exact unhide HZ i (by omega)), hide (below_drewN (unhide HB3) _)⟩
              case measure => simp [intOf]; omega
    · have hk1 : ¬ (k : Int) < (zs.length : Int) := by omega
      obtain rfl : k = zs.length := by omega
      have HV := hide (rightV_ok zs (unhide HZ))
      go_wp2
      go_ret2
      exact ⟨by rw [unhide HV]; rfl, unhide HB⟩

def cmpOf (a b : Int) : Int := if a < b then -1 else if b < a then 1 else 0
theorem nan_any (a : Int) (w : World) : Calls Tryz.prog 137 #[.int .i32 a] w fun e w' => e = .returned (.bool false) ∧ w' = w := by
  go_enter Tryz.func137, Tryz.ntmps137
  go_wp2
  go_ret
  exact ⟨rfl, rfl⟩
theorem compare_any (a b : Int) (w : World) : Calls Tryz.prog 65 #[.int .i32 a, .int .i32 b] w fun e w' => e = .returned (.int .i64 (cmpOf a b)) ∧ w' = w := by
  have HA := hide (nan_any a w)
  have HB := hide (nan_any b w)
  by_cases h1 : a < b
  · have h : cmpOf a b = -1 := by unfold cmpOf; rw [if_pos h1]
    rw [h]
    clear h
    go_enter Tryz.func65, Tryz.ntmps65
    go_wp2_with fail
    refine (unhide HA).mono ?_
    rintro e w2 ⟨rfl, rfl⟩
    go_wp2_with fail
    refine (unhide HB).mono ?_
    rintro e w2 ⟨rfl, rfl⟩
    go_wp2
    go_ret
    exact ⟨rfl, rfl⟩
  · by_cases h2 : b < a
    · have h : cmpOf a b = 1 := by unfold cmpOf; rw [if_neg h1, if_pos h2]
      rw [h]
      clear h
      go_enter Tryz.func65, Tryz.ntmps65
      go_wp2_with fail
      refine (unhide HA).mono ?_
      rintro e w2 ⟨rfl, rfl⟩
      go_wp2_with fail
      refine (unhide HB).mono ?_
      rintro e w2 ⟨rfl, rfl⟩
      go_wp2
      go_ret
      exact ⟨rfl, rfl⟩
    · have h : cmpOf a b = 0 := by unfold cmpOf; rw [if_neg h1, if_neg h2]
      rw [h]
      clear h
      go_enter Tryz.func65, Tryz.ntmps65
      go_wp2_with fail
      refine (unhide HA).mono ?_
      rintro e w2 ⟨rfl, rfl⟩
      go_wp2_with fail
      refine (unhide HB).mono ?_
      rintro e w2 ⟨rfl, rfl⟩
      go_wp2
      go_ret
      exact ⟨rfl, rfl⟩

theorem in1_any (x : Int × Int) (r : Int) (w : World) : Calls Tryz.prog 64 #[spnV x, .int .i32 r] w fun e w' => e = .returned (.int .i64 (cmpOf x.2 r)) ∧ Below w.heap.size w w' := by
  have HC := hide (fun w => compare_any x.2 r w)
  obtain ⟨lo, hi⟩ := x
  simp only at HC
  go_enter Tryz.func64, Tryz.ntmps64
  go_wp2_with fail
  refine (unhide HC _).mono ?_
  rintro e w2 ⟨rfl, rfl⟩
  go_wp2
  go_ret
  exact ⟨rfl, (Below.refl _ w).alloc (Nat.le_refl _) _⟩
theorem below1_any (x : Int × Int) (r : Int) (w : World) : Calls Tryz.prog 190 #[spnV x, .int .i32 r] w fun e w' => e = .returned (.int .i64 (cmpOf x.1 r)) ∧ Below w.heap.size w w' := by
  have HC := hide (fun w => compare_any x.1 r w)
  obtain ⟨lo, hi⟩ := x
  simp only at HC
  go_enter Tryz.func190, Tryz.ntmps190
  go_wp2_with fail
  refine (unhide HC _).mono ?_
  rintro e w2 ⟨rfl, rfl⟩
  go_wp2
  go_ret
  exact ⟨rfl, (Below.refl _ w).alloc (Nat.le_refl _) _⟩


def Cut (key : Int × Int → Int) (zs : List (Int × Int)) (r : Int) (k : Nat) : Prop := k ≤ zs.length ∧ (∀ j x, j < k → zs[j]? = some x → key x < r) ∧ (∀ j x, k ≤ j → zs[j]? = some x → r ≤ key x)
theorem cmp_lt {a b : Int} (h : a < b) : cmpOf a b = -1 := by unfold cmpOf; rw [if_pos h]
set_option maxRecDepth 100000 in
set_option maxHeartbeats 4000000 in
theorem search_his (p : Option Addr) (cap : Nat) (zs : List (Int × Int)) (hz : zs.length ≤ 1073741824) (r : Int) (hs : ∀ (i j : Nat) (x y : Int × Int), i < j → zs[i]? = some x → zs[j]? = some y → x.2 < y.2) (w : World) (hr : RowP w p zs) :
    Calls Tryz.prog 63 #[.slice p zs.length cap, .int .i32 r, .func (.func 64) #[] #[]] w fun e w' => ∃ (k : Nat) (b : Bool), e = .returned (.tuple #[.int .i64 k, .bool b]) ∧ Cut (fun x => x.2) zs r k ∧ Below w.heap.size w w' := by
  have HR := hide hr
  have HS := hide hs
  have hzi : (zs.length : Int) ≤ 1073741824 := by omega
  clear hr hs
  go_enter Tryz.func63, Tryz.ntmps63
  go_wp2
  go_loopw [9, 10] (fun i j wr => ∃ a b : Nat, a ≤ b ∧ b ≤ zs.length ∧ i = .int .i64 a ∧ j = .int .i64 b ∧ Hz (∀ j x, j < a → zs[j]? = some x → x.2 < r) ∧ Hz (∀ j x, b ≤ j → zs[j]? = some x → r ≤ x.2) ∧ Hz (Below w.heap.size w wr)) (fun i j _ => (intOf j).toNat - (intOf i).toNat)
  case atStart => exact ⟨0, zs.length, by omega, Nat.le_refl _, rfl, rfl, hide (fun j x hj => by omega), hide (fun j x hj hx => by have := (List.getElem?_eq_some_iff.1 hx).1; omega), hide (Below.refl _ _)⟩
  case round =>
    obtain ⟨a, b, hab, hb, rfl, rfl, H1, H2, HB⟩ := hrel
    by_cases hlt : a < b
    · have h1 : (a : Int) < (b : Int) := by omega
      obtain ⟨x, hx⟩ : ∃ x, zs[(a + b) / 2]? = some x := ⟨_, List.getElem?_eq_getElem (by omega)⟩
      obtain ⟨g, o, rfl, hg, hc⟩ := unhide HR (by omega)
      have c0 := ((unhide HB).cell (p := ⟨g, o + (a + b) / 2 * 2, none⟩) hg).trans (hc _ x hx).1
      have c1 := ((unhide HB).cell (p := ⟨g, o + (a + b) / 2 * 2 + 1, none⟩) hg).trans (hc _ x hx).2
      have HN := hide (fun w => in1_any x r w)
      have HX := hide hx
      clear hx hc
      by_cases hxn : x.2 < r
      · rw [cmp_lt hxn] at HN
        have H1' : Hz (∀ j y, j < (a + b) / 2 + 1 → zs[j]? = some y → y.2 < r) := hide (fun j y hj hy => by
          by_cases e : j = (a + b) / 2
          · subst e; rw [unhide HX] at hy; cases hy; exact hxn
          · have := unhide HS j ((a + b) / 2) y x (by omega) hy (unhide HX); omega)
        clear hxn
        obtain ⟨lo, hi⟩ := x
        simp only at c0 c1
        go_wp2_with fail
        refine (unhide HN _).mono ?_
        rintro e w2 ⟨rfl, hb2⟩
        have HB2 := hide ((unhide HB).trans (hb2.mono (unhide HB).size))
        clear hb2
        go_wp2
        go_roundw
        case rel =>
          refine ⟨(a + b) / 2 + 1, b, by omega, hb, ?_, rfl, H1', H2, HB2⟩
          congr 1
        case measure => simp [intOf]; omega
      · have H2' : Hz (∀ j y, (a + b) / 2 ≤ j → zs[j]? = some y → r ≤ y.2) := hide (fun j y hj hy => by
          by_cases e : j = (a + b) / 2
          · subst e; rw [unhide HX] at hy; cases hy; omega
          · have := unhide HS ((a + b) / 2) j x y (by omega) (unhide HX) hy; omega)
        have hq : 0 ≤ cmpOf x.2 r := by unfold cmpOf; rw [if_neg hxn]; split <;> omega
        generalize cmpOf x.2 r = q at HN hq
        have hq1 : ¬ q < 0 := by omega
        clear hxn
        obtain ⟨lo, hi⟩ := x
        simp only at c0 c1
        go_wp2_with fail
        refine (unhide HN _).mono ?_
        rintro e w2 ⟨rfl, hb2⟩
        have HB2 := hide ((unhide HB).trans (hb2.mono (unhide HB).size))
        clear hb2
        go_wp2
        go_roundw
        case rel =>
          refine ⟨a, (a + b) / 2, by omega, by omega, rfl, ?_, H1, H2', HB2⟩
          congr 1
        case measure => simp [intOf]; omega
    · have h1 : ¬ (a : Int) < (b : Int) := by omega
      obtain rfl : a = b := by omega
      have HK : Hz (Cut (fun x => x.2) zs r a) := hide ⟨hb, unhide H1, unhide H2⟩
      by_cases hal : a < zs.length
      · obtain ⟨x, hx⟩ : ∃ x, zs[a]? = some x := ⟨_, List.getElem?_eq_getElem hal⟩
        obtain ⟨g, o, rfl, hg, hc⟩ := unhide HR (by omega)
        have c0 := ((unhide HB).cell (p := ⟨g, o + a * 2, none⟩) hg).trans (hc _ x hx).1
        have c1 := ((unhide HB).cell (p := ⟨g, o + a * 2 + 1, none⟩) hg).trans (hc _ x hx).2
        have HN := hide (fun w => in1_any x r w)
        have h2 : (a : Int) < (zs.length : Int) := by omega
        have h3 : ((a : Nat) : Int).toNat = a := by omega
        clear hx hc
        generalize cmpOf x.2 r = q at HN
        obtain ⟨lo, hi⟩ := x
        simp only at c0 c1
        go_wp2_with fail
        refine (unhide HN _).mono ?_
        rintro e w2 ⟨rfl, hb2⟩
        have HB2 := hide ((unhide HB).trans (hb2.mono (unhide HB).size))
        clear hb2
        by_cases hq : q = 0
        · subst hq
          go_wp2
          go_ret2
          first | exact ⟨a, _, rfl, unhide HK, unhide HB2⟩ | exact ⟨unhide HK, unhide HB2⟩
        · have hqe : (q == 0) = false := beq_eq_false_iff_ne.2 hq
          go_wp2
          go_ret2
          first | exact ⟨a, _, rfl, unhide HK, unhide HB2⟩ | exact ⟨unhide HK, unhide HB2⟩
      · have h2 : ¬ (a : Int) < (zs.length : Int) := by omega
        go_wp2
        go_ret2
        first | exact ⟨a, _, rfl, unhide HK, unhide HB⟩ | exact ⟨unhide HK, unhide HB⟩ | exact ⟨a, rfl, unhide HK, unhide HB⟩ | exact ⟨a, ⟨_, rfl⟩, unhide HK, unhide HB⟩ | exact ⟨a, false, rfl, unhide HK, unhide HB⟩ | exact ⟨a, by simp; exact ⟨unhide HK, unhide HB⟩⟩

set_option maxRecDepth 100000 in
set_option maxHeartbeats 4000000 in
theorem search_los (p : Option Addr) (cap : Nat) (zs : List (Int × Int)) (hz : zs.length ≤ 1073741824) (r : Int) (hs : ∀ (i j : Nat) (x y : Int × Int), i < j → zs[i]? = some x → zs[j]? = some y → x.1 < y.1) (w : World) (hr : RowP w p zs) :
    Calls Tryz.prog 63 #[.slice p zs.length cap, .int .i32 r, .func (.func 190) #[] #[]] w fun e w' => ∃ (k : Nat) (b : Bool), e = .returned (.tuple #[.int .i64 k, .bool b]) ∧ Cut (fun x => x.1) zs r k ∧ Below w.heap.size w w' := by
  have HR := hide hr
  have HS := hide hs
  have hzi : (zs.length : Int) ≤ 1073741824 := by omega
  clear hr hs
  go_enter Tryz.func63, Tryz.ntmps63
  go_wp2
  go_loopw [9, 10] (fun i j wr => ∃ a b : Nat, a ≤ b ∧ b ≤ zs.length ∧ i = .int .i64 a ∧ j = .int .i64 b ∧ Hz (∀ j x, j < a → zs[j]? = some x → x.1 < r) ∧ Hz (∀ j x, b ≤ j → zs[j]? = some x → r ≤ x.1) ∧ Hz (Below w.heap.size w wr)) (fun i j _ => (intOf j).toNat - (intOf i).toNat)
  case atStart => exact ⟨0, zs.length, by omega, Nat.le_refl _, rfl, rfl, hide (fun j x hj => by omega), hide (fun j x hj hx => by have := (List.getElem?_eq_some_iff.1 hx).1; omega), hide (Below.refl _ _)⟩
  case round =>
    obtain ⟨a, b, hab, hb, rfl, rfl, H1, H2, HB⟩ := hrel
    by_cases hlt : a < b
    · have h1 : (a : Int) < (b : Int) := by omega
      obtain ⟨x, hx⟩ : ∃ x, zs[(a + b) / 2]? = some x := ⟨_, List.getElem?_eq_getElem (by omega)⟩
      obtain ⟨g, o, rfl, hg, hc⟩ := unhide HR (by omega)
      have c0 := ((unhide HB).cell (p := ⟨g, o + (a + b) / 2 * 2, none⟩) hg).trans (hc _ x hx).1
      have c1 := ((unhide HB).cell (p := ⟨g, o + (a + b) / 2 * 2 + 1, none⟩) hg).trans (hc _ x hx).2
      have HN := hide (fun w => below1_any x r w)
      have HX := hide hx
      clear hx hc
      by_cases hxn : x.1 < r
      · rw [cmp_lt hxn] at HN
        have H1' : Hz (∀ j y, j < (a + b) / 2 + 1 → zs[j]? = some y → y.1 < r) := hide (fun j y hj hy => by
          by_cases e : j = (a + b) / 2
          · subst e; rw [unhide HX] at hy; cases hy; exact hxn
          · have := unhide HS j ((a + b) / 2) y x (by omega) hy (unhide HX); omega)
        clear hxn
        obtain ⟨lo, hi⟩ := x
        simp only at c0 c1
        go_wp2_with fail
        refine (unhide HN _).mono ?_
        rintro e w2 ⟨rfl, hb2⟩
        have HB2 := hide ((unhide HB).trans (hb2.mono (unhide HB).size))
        clear hb2
        go_wp2
        go_roundw
        case rel =>
          refine ⟨(a + b) / 2 + 1, b, by omega, hb, ?_, rfl, H1', H2, HB2⟩
          congr 1
        case measure => simp [intOf]; omega
      · have H2' : Hz (∀ j y, (a + b) / 2 ≤ j → zs[j]? = some y → r ≤ y.1) := hide (fun j y hj hy => by
          by_cases e : j = (a + b) / 2
          · subst e; rw [unhide HX] at hy; cases hy; omega
          · have := unhide HS ((a + b) / 2) j x y (by omega) (unhide HX) hy; omega)
        have hq : 0 ≤ cmpOf x.1 r := by unfold cmpOf; rw [if_neg hxn]; split <;> omega
        generalize cmpOf x.1 r = q at HN hq
        have hq1 : ¬ q < 0 := by omega
        clear hxn
        obtain ⟨lo, hi⟩ := x
        simp only at c0 c1
        go_wp2_with fail
        refine (unhide HN _).mono ?_
        rintro e w2 ⟨rfl, hb2⟩
        have HB2 := hide ((unhide HB).trans (hb2.mono (unhide HB).size))
        clear hb2
        go_wp2
        go_roundw
        case rel =>
          refine ⟨a, (a + b) / 2, by omega, by omega, rfl, ?_, H1, H2', HB2⟩
          congr 1
        case measure => simp [intOf]; omega
    · have h1 : ¬ (a : Int) < (b : Int) := by omega
      obtain rfl : a = b := by omega
      have HK : Hz (Cut (fun x => x.1) zs r a) := hide ⟨hb, unhide H1, unhide H2⟩
      by_cases hal : a < zs.length
      · obtain ⟨x, hx⟩ : ∃ x, zs[a]? = some x := ⟨_, List.getElem?_eq_getElem hal⟩
        obtain ⟨g, o, rfl, hg, hc⟩ := unhide HR (by omega)
        have c0 := ((unhide HB).cell (p := ⟨g, o + a * 2, none⟩) hg).trans (hc _ x hx).1
        have c1 := ((unhide HB).cell (p := ⟨g, o + a * 2 + 1, none⟩) hg).trans (hc _ x hx).2
        have HN := hide (fun w => below1_any x r w)
        have h2 : (a : Int) < (zs.length : Int) := by omega
        have h3 : ((a : Nat) : Int).toNat = a := by omega
        clear hx hc
        generalize cmpOf x.1 r = q at HN
        obtain ⟨lo, hi⟩ := x
        simp only at c0 c1
        go_wp2_with fail
        refine (unhide HN _).mono ?_
        rintro e w2 ⟨rfl, hb2⟩
        have HB2 := hide ((unhide HB).trans (hb2.mono (unhide HB).size))
        clear hb2
        by_cases hq : q = 0
        · subst hq
          go_wp2
          go_ret2
          first | exact ⟨a, _, rfl, unhide HK, unhide HB2⟩ | exact ⟨unhide HK, unhide HB2⟩
        · have hqe : (q == 0) = false := beq_eq_false_iff_ne.2 hq
          go_wp2
          go_ret2
          first | exact ⟨a, _, rfl, unhide HK, unhide HB2⟩ | exact ⟨unhide HK, unhide HB2⟩
      · have h2 : ¬ (a : Int) < (zs.length : Int) := by omega
        go_wp2
        go_ret2
        first | exact ⟨a, _, rfl, unhide HK, unhide HB⟩ | exact ⟨unhide HK, unhide HB⟩ | exact ⟨a, rfl, unhide HK, unhide HB⟩ | exact ⟨a, ⟨_, rfl⟩, unhide HK, unhide HB⟩ | exact ⟨a, false, rfl, unhide HK, unhide HB⟩ | exact ⟨a, by simp; exact ⟨unhide HK, unhide HB⟩⟩

end Go.Proofs.YtnnbaodillnkkaaGreat
