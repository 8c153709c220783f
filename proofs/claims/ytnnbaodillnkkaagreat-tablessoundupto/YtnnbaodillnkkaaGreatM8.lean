/- Texts of this claim, one behind the other. -/
import Derived.Test.YtnnbaodillnkkaaGreatM7
import Derived.Test.YtnnbaodillnkkaaGreatM1
import Derived.Test.YtnnbaodillnkkaaGreatM2
import Derived.Test.YtnnbaodillnkkaaGreatM3
import Derived.Deep.QuietTactic
/- Which tables are right: a script's name, and the rows of scripts, maps and spans. -/
namespace Go.Proofs.YtnnbaodillnkkaaGreat
open Go.RowKit Go.Shelf
set_option linter.unusedVariables false
theorem isSmallT_any (c : Nat) (w : World) : Calls Tryz.prog 168 #[.int .u8 (c : Int)] w fun e w' => e = .returned (.bool (smallC c)) ∧ w' = w := by
  go_enter Tryz.func168, Tryz.ntmps168
  go_wp2
  all_goals (go_ret; refine ⟨ret_b ?_, rfl⟩; first | (unfold smallC; rw [Bool.eq_iff_iff]; simp; omega) | (unfold smallC; simp_all))
def inSN (c : Nat) : Bool := smallC c || decide (c = 45 ∨ (48 ≤ c ∧ c ≤ 57))
theorem nameB_eq (s : ByteArray) : nameB s = (decide (1 ≤ s.size ∧ s.size ≤ 32) && (smallC (bt s 0) && (List.range s.size).all (fun i => inSN (bt s i)))) := rfl
set_option maxRecDepth 100000 in
set_option maxHeartbeats 2000000 in
theorem isScriptName_any (t : ByteArray) (ht : t.size ≤ maxLen) (w : World) : Calls Tryz.prog 139 #[.string t] w fun e w' => e = .returned (.bool (nameB t)) ∧ w' = w := by
  unfold maxLen at ht
  by_cases h0 : t.size = 0
  · have hv : nameB t = false := by rw [nameB_eq, decide_eq_false (by omega)]; rfl
    rw [hv]
    obtain rfl := toList_nil t h0
    go_enter Tryz.func139, Tryz.ntmps139
    go_wp2
    go_ret
    exact ⟨rfl, rfl⟩
  · have hp : 0 < t.size := by omega
    have hz' : ¬ ((t.size : Nat) : Int) = 0 := by omega
    have hz : (((t.size : Nat) : Int) == 0) = false := beq_eq_false_iff_ne.2 hz'
    by_cases h32 : 32 < t.size
    · have hv : nameB t = false := by rw [nameB_eq, decide_eq_false (by omega)]; rfl
      rw [hv]
      have h32' : (32 : Int) < ((t.size : Nat) : Int) := by omega
      go_enter Tryz.func139, Tryz.ntmps139
      go_wp2
      go_ret
      exact ⟨rfl, rfl⟩
    · have h32' : ¬ (32 : Int) < ((t.size : Nat) : Int) := by omega
      have hb0 := bt_get t 0 hp
      cases hsm : smallC (bt t 0) with
      | false =>
        have hv : nameB t = false := by rw [nameB_eq, hsm]; simp
        rw [hv]
        rw [hb0] at hsm
        clear hb0
        go_enter Tryz.func139, Tryz.ntmps139
        go_wp2_with (go_at_call 168; refine (isSmallT_any _ _).mono ?_; rintro e w' ⟨rfl, rfl⟩)
        go_ret
        exact ⟨rfl, rfl⟩
      | true =>
        have hv : nameB t = (List.range t.size).all (fun i => inSN (bt t i)) := by rw [nameB_eq, hsm, decide_eq_true (by omega)]; rfl
        have HV := hide hv
        rw [hb0] at hsm
        clear hb0 hv
        go_enter Tryz.func139, Tryz.ntmps139
        go_wp2_with (go_at_call 168; refine (isSmallT_any _ _).mono ?_; rintro e w' ⟨rfl, rfl⟩)
        go_loop [3, 4, 21] (fun _ _ i => ∃ k : Nat, k ≤ t.size ∧ i = .int .i64 k ∧ Hz (∀ j, j < k → inSN (bt t j) = true)) (fun _ _ i => t.size - (intOf i).toNat)
        case atStart => exact ⟨0, Nat.zero_le _, rfl, hide (fun j hj => absurd hj (Nat.not_lt_zero _))⟩
        case round =>
          obtain ⟨k, hk, rfl, HK⟩ := hrel
          clear hsm
          by_cases hkt : k < t.size
          · have hkt' : (k : Int) < (t.size : Int) := by omega
            have hi2 : ((k : Nat) : Int).toNat = k := by omega
            have hbk := bt_get t k hkt
            have HN : Hz (inSN (bt t k) = true → ∀ j, j < k + 1 → inSN (bt t j) = true) := hide (fun h j hj => by
              rcases Nat.lt_or_ge j k with h1 | h1
              · exact unhide HK j h1
              · obtain rfl : j = k := by omega
                exact h)
            have HB : Hz (inSN (bt t k) = false → nameB t = false) := hide (fun h => by
              rw [unhide HV, List.all_eq_false]
              exact ⟨k, List.mem_range.2 hkt, by simp [h]⟩)
            have hin : inSN (bt t k) = (smallC (bt t k) || decide (bt t k = 45 ∨ (48 ≤ bt t k ∧ bt t k ≤ 57))) := rfl
            rw [hin] at HN HB
            clear hin
            generalize bt t k = b at *
            subst hbk
            cases hsm : smallC ((t[k]'hkt).toNat) with
            | true =>
              have HN2 := hide (unhide HN (by rw [hsm]; rfl))
              clear HN HB
              go_wp2_with (go_at_call 168; refine (isSmallT_any _ _).mono ?_; rintro e w' ⟨rfl, rfl⟩)
              go_round
              case rel => exact ⟨k + 1, by omega, by go_num, HN2⟩
              case measure => simp [intOf]; omega
            | false =>
              rw [hsm] at HN HB
              by_cases h45 : (t[k]'hkt).toNat = 45
              · have HN2 := hide (unhide HN (by rw [h45]; rfl))
                have e45 : (((t[k]'hkt).toNat : Int) == 45) = true := by rw [h45]; rfl
                have e45' : (((t[k]'hkt).toNat : Int)) = 45 := by omega
                clear HN HB
                go_wp2_with (go_at_call 168; refine (isSmallT_any _ _).mono ?_; rintro e w' ⟨rfl, rfl⟩)
                go_round
                case rel => exact ⟨k + 1, by omega, by go_num, HN2⟩
                case measure => simp [intOf]; omega
              · have e45 : (((t[k]'hkt).toNat : Int) == 45) = false := by simp; omega
                have e45' : ¬ (((t[k]'hkt).toNat : Int)) = 45 := by omega
                by_cases h48 : (t[k]'hkt).toNat < 48
                · have e48 : (((t[k]'hkt).toNat : Int)) < 48 := by omega
                  have HB2 := hide (unhide HB (by simp; omega))
                  clear HN HB
                  go_wp2_with (go_at_call 168; refine (isSmallT_any _ _).mono ?_; rintro e w' ⟨rfl, rfl⟩)
                  go_ret
                  exact ⟨by rw [unhide HB2]; rfl, rfl⟩
                · have e48 : ¬ (((t[k]'hkt).toNat : Int)) < 48 := by omega
                  by_cases h57 : 57 < (t[k]'hkt).toNat
                  · have e57 : 57 < (((t[k]'hkt).toNat : Int)) := by omega
                    have HB2 := hide (unhide HB (by simp; omega))
                    clear HN HB
                    go_wp2_with (go_at_call 168; refine (isSmallT_any _ _).mono ?_; rintro e w' ⟨rfl, rfl⟩)
                    go_ret
                    exact ⟨by rw [unhide HB2]; rfl, rfl⟩
                  · have e57 : ¬ 57 < (((t[k]'hkt).toNat : Int)) := by omega
                    have HN2 := hide (unhide HN (by simp; omega))
                    clear HN HB
                    go_wp2_with (go_at_call 168; refine (isSmallT_any _ _).mono ?_; rintro e w' ⟨rfl, rfl⟩)
                    go_round
                    case rel => exact ⟨k + 1, by omega, by go_num, HN2⟩
                    case measure => simp [intOf]; omega
          · have hkt' : ¬ (k : Int) < (t.size : Int) := by omega
            have HV2 : Hz (nameB t = true) := hide (by
              rw [unhide HV, List.all_eq_true]
              intro j hj
              exact unhide HK j (by have := List.mem_range.1 hj; omega))
            go_wp2
            go_ret
            exact ⟨by rw [unhide HV2]; rfl, rfl⟩
theorem rowP_of {W : World} {lo : Nat} {a : Option Addr} {zs : List (Int × Int)} (h : RowC W lo a (encS2 zs)) (hl : lo ≤ W.heap.size) : RowP W a zs := fun h0 => by
  obtain ⟨g, o, e, hg, hc⟩ := h (by rw [encS2_length]; omega)
  exact ⟨g, o, e, by omega, fun j x hx => ⟨hc _ _ (encS2_at _ j x hx).1, hc _ _ (encS2_at _ j x hx).2⟩⟩
theorem right_sp (list : Int) (zs : List (Int × Int)) : rightV zs = .tuple #[.int .i64 (spW list zs).2.2, .int .i64 (spW list zs).1] := by
  unfold spW
  rcases rowsW_cases list zs.length (badRow zs) with ⟨k, h1, h2, h3, e⟩ | ⟨h1, e⟩
  · rw [e, rightV_bad zs k h1 h2 h3]
  · rw [e, rightV_ok zs h1]
theorem sp_form (list : Int) (zs : List (Int × Int)) : (spW list zs).1 ≠ 0 → spW list zs = ((spW list zs).1, list, (spW list zs).2.2) := by
  intro h
  unfold spW at *
  rcases rowsW_cases list zs.length (badRow zs) with ⟨k, h1, h2, h3, e⟩ | ⟨h1, e⟩
  · rw [e]
  · rw [e] at h; exact absurd rfl h
set_option maxRecDepth 100000 in
set_option maxHeartbeats 2000000 in
theorem spansWrong_any (list : Int) (zs : List (Int × Int)) (hz : zs.length ≤ 1000000) (a : Option Addr) (c : Nat) (W : World) (hr : RowP W a zs) :
    Calls Tryz.prog 75 #[.int .i64 list, .slice a zs.length c] W fun e w' => e = .returned (wrV (spW list zs)) ∧ Below W.heap.size W w' := by
  have hB0 : Below W.heap.size W (W.alloc (.cells #[.int .i64 0, .int .i64 0, .int .i64 0] 37)) := (Below.refl _ W).alloc (Nat.le_refl _) _
  have HC := hide (right_any a c zs (by omega) _ (hr.below hB0))
  have HB := hide (And.intro hB0 (Blk.new W #[.int .i64 0, .int .i64 0, .int .i64 0] 37))
  have HF : Hz (spW list zs = (0, 0, 0) ∧ (spW list zs).1 = 0 ∨ (spW list zs).1 ≠ 0 ∧ spW list zs = ((spW list zs).1, list, (spW list zs).2.2)) := hide (by
    by_cases h : (spW list zs).1 = 0
    · exact .inl ⟨rowsW_okW _ _ _ h, h⟩
    · exact .inr ⟨h, sp_form list zs h⟩)
  rw [right_sp list zs] at HC
  clear hr hB0
  generalize spW list zs = x at *
  obtain ⟨y, li, ro⟩ := x
  dsimp only at HC HF
  go_enter Tryz.func75, Tryz.ntmps75
  go_wp2_with fail
  generalize W.alloc (.cells #[.int .i64 0, .int .i64 0, .int .i64 0] 37) = w1 at *
  refine (unhide HC).mono ?_
  rintro e w2 ⟨rfl, hb⟩
  have HB2 := hide (And.intro ((unhide HB).1.trans (hb.mono (unhide HB).1.size)) ((unhide HB).2.below hb (unhide HB).2.lt))
  have r0 := (unhide HB2).2.cell 0
  have r1 := (unhide HB2).2.cell 1
  have r2 := (unhide HB2).2.cell 2
  have f0 := (unhide HB2).2.frozen 0
  have f1 := (unhide HB2).2.frozen 1
  have f2 := (unhide HB2).2.frozen 2
  clear hb HC HB
  rcases unhide HF with ⟨he, h0⟩ | ⟨h0, he⟩
  · obtain ⟨rfl, hh⟩ := Prod.mk.inj he
    obtain ⟨rfl, rfl⟩ := Prod.mk.inj hh
    clear he hh h0 HF
    go_wp2_with fail
    exact bodyPost_ret (v := wrV (0, 0, 0)) (ret3 Tryz.results75 rfl (blk3 (unhide HB2).2 _ _ _) rfl) rfl ⟨rfl, below3 (unhide HB2).1 (Nat.le_refl _) (unhide HB2).1.size _ _ _⟩
  · obtain ⟨_, hh⟩ := Prod.mk.inj he
    obtain ⟨rfl, _⟩ := Prod.mk.inj hh
    have q0 : (y == 0) = false := by simpa using h0
    clear he hh h0 HF
    go_wp2_with fail
    exact bodyPost_ret (v := wrV (y, li, ro)) (ret3 Tryz.results75 rfl (blk3 (unhide HB2).2 _ _ _) rfl) rfl ⟨rfl, below3 (unhide HB2).1 (Nat.le_refl _) (unhide HB2).1.size _ _ _⟩
theorem scF_or (nm : ByteArray) (sp : List (Int × Int)) : scF (nm, sp) = orE [if (!nameB nm) = true then 38 else 0, (spW 1 sp).1] := by
  unfold scF
  cases nameB nm
  · rw [orE_cons1 (by decide)]; rfl
  · rw [orE_cons0 (by rfl)]
    by_cases h : (spW 1 sp).1 = 0
    · rw [orE_cons0 h]; exact h
    · rw [orE_cons1 h]; rfl
set_option maxRecDepth 100000 in
set_option maxHeartbeats 2000000 in
theorem scriptWrong_any (nm : ByteArray) (hnm : nm.size ≤ maxLen) (sp : List (Int × Int)) (hz : sp.length ≤ 1000000) (p : Option Addr) (d : Nat) (W : World) (hr : RowP W p sp) :
    Calls Tryz.prog 74 #[.agg #[.string nm, .slice p sp.length d]] W fun e w' => e = .returned (.int .i64 (scF (nm, sp))) ∧ Below W.heap.size W w' := by
  have hB0 : Below W.heap.size W (W.alloc (.cells #[.string nm, .slice p sp.length d] 70)) := (Below.refl _ W).alloc (Nat.le_refl _) _
  have bA := Blk.new W #[.string nm, .slice p sp.length d] 70
  have HC := hide (right_any p d sp (by omega) _ (hr.below hB0))
  have HB := hide (And.intro hB0 bA)
  have a0 := bA.cell 0
  have a1 := bA.cell 1
  rw [right_sp 1 sp] at HC
  rw [scF_or]
  have HI := hide (fun w => isScriptName_any nm hnm w)
  clear hr hB0 bA
  generalize (spW 1 sp).1 = y at *
  generalize (spW 1 sp).2.2 = ro at *
  generalize nameB nm = b at *
  go_enter Tryz.func74, Tryz.ntmps74
  go_wp2_with fail
  generalize W.alloc (.cells #[.string nm, .slice p sp.length d] 70) = w1 at *
  refine (unhide HC).mono ?_
  rintro e w2 ⟨rfl, hb⟩
  have HB2 := hide (And.intro ((unhide HB).1.trans (hb.mono (unhide HB).1.size)) ((unhide HB).2.below hb (unhide HB).2.lt))
  have b0 := (unhide HB2).2.cell 0
  clear hb HC HB a0 a1
  go_wp2_with fail
  refine (unhide HI _).mono ?_
  rintro e w3 ⟨rfl, rfl⟩
  cases b with
  | false =>
    go_wp2_with fail
    refine (when_any true 38 _).mono ?_
    rw [if_pos rfl]
    rintro e w3 ⟨rfl, rfl⟩
    go_wp2_with fail
    refine (orErrno_any [38, y] (by simp) _ 0 _ _ (two_err _ _ _ _ _ (by first | rfl | simp))).mono ?_
    rintro e w3 ⟨rfl, rfl⟩
    go_wp2_with fail
    go_ret
    exact ⟨rfl, alloc_bel (unhide HB2).1 (unhide HB2).1.size _⟩
  | true =>
    go_wp2_with fail
    refine (when_any false 38 _).mono ?_
    rw [if_neg (by decide)]
    rintro e w3 ⟨rfl, rfl⟩
    go_wp2_with fail
    refine (orErrno_any [0, y] (by simp) _ 0 _ _ (two_err _ _ _ _ _ (by first | rfl | simp))).mono ?_
    rintro e w3 ⟨rfl, rfl⟩
    go_wp2_with fail
    go_ret
    exact ⟨rfl, alloc_bel (unhide HB2).1 (unhide HB2).1.size _⟩
theorem mpF_or (r : Int) (s : ByteArray) : mpF (r, s) = orE [if ([r] : List Int).all runeB then 0 else 12, if (!toB s) = true then 35 else 0] := by
  unfold mpF
  simp only [List.all_cons, List.all_nil, Bool.and_true]
  cases runeB r
  · rw [orE_cons1 (by decide)]; rfl
  · rw [orE_cons0 (by rfl)]
    cases toB s
    · rw [orE_cons1 (by decide)]; rfl
    · rw [orE_cons0 (by rfl)]; rfl
def mpD (B : Nat) (r : Int) (s : ByteArray) (b : Bool) (e1 : Int) (e2 : Int) : Nat → Value → World → Prop
  | 0, v, w => v = .pointer (some ⟨B, 0, none⟩)
  | 1, v, w => v = .int .i32 r
  | 2, v, w => ∃ g, v = .slice (some ⟨g, 0, none⟩) 1 1 ∧ RnC w w.heap.size (some ⟨g, 0, none⟩) [r]
  | 3, v, w => v = .int .i64 e1
  | 4, v, w => v = .pointer (some ⟨B, 1, none⟩)
  | 5, v, w => v = .string s
  | 6, v, w => v = .bool b
  | 7, v, w => v = .bool (!b)
  | 8, v, w => v = .int .i64 e2
  | 9, v, w => ∃ g, v = .slice (some ⟨g, 0, none⟩) 2 2 ∧ Blk w g #[.int .i64 e1, .int .i64 e2] 22
  | 10, v, w => v = .int .i64 (orE [e1, e2])
  | _, v, w => True
def mpDM (j : Nat) : Bool := false
theorem mpD_st {B : Nat} {r : Int} {s : ByteArray} {b : Bool} {e1 : Int} {e2 : Int} {w w' : World} (hb : Below w.heap.size w w') : ∀ (j : Nat) (v : Value), mpD B r s b e1 e2 j v w → mpD B r s b e1 e2 j v w'
  | 0, v, h => h
  | 1, v, h => h
  | 2, v, h => let ⟨g, e, h2⟩ := h; ⟨g, e, h2.below hb⟩
  | 3, v, h => h
  | 4, v, h => h
  | 5, v, h => h
  | 6, v, h => h
  | 7, v, h => h
  | 8, v, h => h
  | 9, v, h => let ⟨g, e, h2⟩ := h; ⟨g, e, h2.below hb h2.lt⟩
  | 10, v, h => h
  | _ + 11, v, h => h
theorem mpD_lt {B : Nat} {r : Int} {s : ByteArray} {b : Bool} {e1 : Int} {e2 : Int} {w : World} (j : Nat) (v : Value) (hm : mpDM j = true) (h : mpD B r s b e1 e2 j v w) : ∀ b, v.ownBlock = some b → b < w.heap.size := by
  cases hm
set_option maxRecDepth 100000 in
set_option maxHeartbeats 4000000 in
theorem mapWrong_any (r : Int) (s : ByteArray) (hs : s.size ≤ maxLen) (W : World) : Calls Tryz.prog 81 #[.agg #[.int .i32 r, .string s]] W fun e w' => e = .returned (.int .i64 (mpF (r, s))) ∧ Below W.heap.size W w' := by
  have hmx : Tryz.prog.follows .mixedOrders = true := by kernel_rfl
  have hB0 : Below W.heap.size W (W.alloc (.cells #[.int .i32 r, .string s] 59)).drew := ((Below.refl _ W).alloc (Nat.le_refl _) _).trans ⟨rfl, rfl, rfl, Nat.le_refl _, fun _ _ => rfl⟩
  have bA : Blk (W.alloc (.cells #[.int .i32 r, .string s] 59)).drew W.heap.size #[.int .i32 r, .string s] 59 := Blk.new W #[.int .i32 r, .string s] 59
  have HF : Hz (∀ w1, Below (W.alloc (.cells #[.int .i32 r, .string s] 59)).drew.heap.size (W.alloc (.cells #[.int .i32 r, .string s] 59)).drew w1 → Blk w1 W.heap.size #[.int .i32 r, .string s] 59) := hide (fun w1 h => bA.below h bA.lt)
  have HB := hide hB0
  have HI := hide (fun w => isTo_any s hs w)
  clear hB0 bA
  rw [mpF_or]
  generalize toB s = b at *
  obtain ⟨e1, he1⟩ : ∃ e1 : Int, (if ([r] : List Int).all runeB then 0 else 12) = e1 := ⟨_, rfl⟩
  obtain ⟨e2, he2⟩ : ∃ e2 : Int, (if (!b) = true then 35 else 0) = e2 := ⟨_, rfl⟩
  rw [he1, he2]
  have HE := hide he1
  have HE2 := hide he2
  clear he1 he2
  go_enter Tryz.func81, Tryz.ntmps81
  go_wp2_with fail
  generalize W.alloc (.cells #[.int .i32 r, .string s] 59) = w0 at *
  refine wp_region_inv hmx 11 (by decide) (by kernel_rfl) (by kernel_rfl) (fun l a w => ∃ U : Nat → Value, a = { tmps := #[.agg #[.int .i32 r, .string s], .pointer (some ⟨W.heap.size, 0, none⟩), .int .i64 0, U 0, U 1, U 2, U 3, U 4, U 5, U 6, U 7, U 8, U 9, U 10], defers := [] } ∧ RgJ (w0.drew) (w0.drew.heap.size) (mpD W.heap.size r s b e1 e2) mpDM l U w) ⟨fun _ => undef, rfl, RgJ.start _ _ (Nat.le_refl _)⟩ ?_ ?_
  · rintro l a w i ⟨U, rfl, hJ⟩ hl hi hif
    have h0 := (mem_ready.1 hi).1
    have hlt := rg_lt hl h0
    have HJ := hide hJ
    clear hJ hl
    replace hlt : i < 12 := hlt
    obtain rfl | rfl | rfl | rfl | rfl | rfl | rfl | rfl | rfl | rfl | rfl : i = 0 ∨ i = 1 ∨ i = 2 ∨ i = 3 ∨ i = 4 ∨ i = 5 ∨ i = 6 ∨ i = 7 ∨ i = 8 ∨ i = 9 ∨ i = 10 := by omega
    · refine wpOp_step rfl (fun K hK => ?_)
      clear hlt hif
      go_simp
      exact hK _ _ ⟨slotPut U 0 _, rfl, (unhide HJ).put 0 _ h0 (Below.refl _ _) (mpD_st (Below.refl _ _)) rfl mpD_lt (fun h => absurd h (by decide))⟩
    · refine wpOp_step rfl (fun K hK => ?_)
      clear hlt hif
      have d0 : U 0 = .pointer (some ⟨W.heap.size, 0, none⟩) := (unhide HJ).val 0 (rg_dep hi 0 (by kernel_rfl))
      have q0 := (unhide HF w (unhide HJ).bel).cell 0
      go_simp
      exact hK _ _ ⟨slotPut U 1 _, (by rw [slotEq d0]; rfl), (unhide HJ).put 1 _ h0 (Below.refl _ _) (mpD_st (Below.refl _ _)) rfl mpD_lt (fun h => absurd h (by decide))⟩
    · refine wpOp_step rfl (fun K hK => ?_)
      clear hlt hif
      have d1 : U 1 = .int .i32 r := (unhide HJ).val 1 (rg_dep hi 1 (by kernel_rfl))
      go_simp
      exact hK _ _ ⟨slotPut U 2 _, (by rw [slotEq d1]; rfl), (unhide HJ).put 2 _ h0 ((Below.refl _ _).alloc (Nat.le_refl _) _) (mpD_st ((Below.refl _ _).alloc (Nat.le_refl _) _)) ⟨_, rfl, one_rn w _ r _ rfl⟩ mpD_lt (fun h => absurd h (by decide))⟩
    · refine wpOp_step rfl (fun K hK => ?_)
      clear hlt hif
      obtain ⟨g2, d2, h2⟩ := (unhide HJ).val 2 (rg_dep hi 2 (by kernel_rfl))
      go_simp
      refine (noRune_any [r] (by simp) _ _ _ h2).mono ?_
      rw [unhide HE]
      rintro e w' ⟨rfl, hb⟩
      exact hK _ _ ⟨slotPut U 3 _, (by rw [slotEq d2]; rfl), (unhide HJ).put 3 _ h0 hb (mpD_st hb) rfl mpD_lt (fun h => absurd h (by decide))⟩
    · refine wpOp_step rfl (fun K hK => ?_)
      clear hlt hif
      go_simp
      exact hK _ _ ⟨slotPut U 4 _, rfl, (unhide HJ).put 4 _ h0 (Below.refl _ _) (mpD_st (Below.refl _ _)) rfl mpD_lt (fun h => absurd h (by decide))⟩
    · refine wpOp_step rfl (fun K hK => ?_)
      clear hlt hif
      have d4 : U 4 = .pointer (some ⟨W.heap.size, 1, none⟩) := (unhide HJ).val 4 (rg_dep hi 4 (by kernel_rfl))
      have q1 := (unhide HF w (unhide HJ).bel).cell 1
      go_simp
      exact hK _ _ ⟨slotPut U 5 _, (by rw [slotEq d4]; rfl), (unhide HJ).put 5 _ h0 (Below.refl _ _) (mpD_st (Below.refl _ _)) rfl mpD_lt (fun h => absurd h (by decide))⟩
    · refine wpOp_step rfl (fun K hK => ?_)
      clear hlt hif
      have d5 : U 5 = .string s := (unhide HJ).val 5 (rg_dep hi 5 (by kernel_rfl))
      go_simp
      refine (unhide HI _).mono ?_
      rintro e w' ⟨rfl, hb⟩
      exact hK _ _ ⟨slotPut U 6 _, (by rw [slotEq d5]; rfl), (unhide HJ).put 6 _ h0 hb (mpD_st hb) rfl mpD_lt (fun h => absurd h (by decide))⟩
    · refine wpOp_step rfl (fun K hK => ?_)
      clear hlt hif
      have d6 : U 6 = .bool b := (unhide HJ).val 6 (rg_dep hi 6 (by kernel_rfl))
      go_simp
      exact hK _ _ ⟨slotPut U 7 _, (by rw [slotEq d6]; rfl), (unhide HJ).put 7 _ h0 (Below.refl _ _) (mpD_st (Below.refl _ _)) rfl mpD_lt (fun h => absurd h (by decide))⟩
    · refine wpOp_step rfl (fun K hK => ?_)
      clear hlt hif
      have d7 : U 7 = .bool (!b) := (unhide HJ).val 7 (rg_dep hi 7 (by kernel_rfl))
      go_simp
      refine (when_any (!b) 35 _).mono ?_
      rw [unhide HE2]
      rintro e w' ⟨rfl, rfl⟩
      exact hK _ _ ⟨slotPut U 8 _, (by rw [slotEq d7]; rfl), (unhide HJ).put 8 _ h0 (Below.refl _ _) (mpD_st (Below.refl _ _)) rfl mpD_lt (fun h => absurd h (by decide))⟩
    · refine wpOp_step rfl (fun K hK => ?_)
      clear hlt hif
      have d3 : U 3 = .int .i64 e1 := (unhide HJ).val 3 (rg_dep hi 3 (by kernel_rfl))
      have d8 : U 8 = .int .i64 e2 := (unhide HJ).val 8 (rg_dep hi 8 (by kernel_rfl))
      go_simp
      exact hK _ _ ⟨slotPut U 9 _, (by rw [slotEq d3, slotEq d8]; rfl), (unhide HJ).put 9 _ h0 ((Below.refl _ _).alloc (Nat.le_refl _) _) (mpD_st ((Below.refl _ _).alloc (Nat.le_refl _) _)) ⟨_, rfl, Blk.new w _ _⟩ mpD_lt (fun h => absurd h (by decide))⟩
    · refine wpOp_step rfl (fun K hK => ?_)
      clear hlt hif
      obtain ⟨g9, d9, h9⟩ := (unhide HJ).val 9 (rg_dep hi 9 (by kernel_rfl))
      go_simp
      refine (orErrno_any [e1, e2] (by simp) _ 0 _ _ (two_blk h9)).mono ?_
      rintro e w' ⟨rfl, rfl⟩
      exact hK _ _ ⟨slotPut U 10 _, (by rw [slotEq d9]; rfl), (unhide HJ).put 10 _ h0 (Below.refl _ _) (mpD_st (Below.refl _ _)) rfl mpD_lt (fun h => absurd h (by decide))⟩
  · rintro l a w ⟨U, rfl, hJ⟩ hall
    have d10 : U 10 = .int .i64 (orE [e1, e2]) := hJ.val 10 (hall 10 (by decide) (by decide))
    have HBJ := hide ((unhide HB).trans (hJ.bel.mono (unhide HB).size))
    clear hJ hall
    refine wpOp_step rfl (fun K hK => ?_)
    go_simp
    refine hK _ _ ?_
    clear hK
    go_wp2_with fail
    go_ret
    exact ⟨rfl, unhide HBJ⟩
def noX : Nat → Prop := fun _ => False
def manyF (x : ByteArray × List (Int × Int)) : Int := if 1024 < x.2.length then 4 else 0
theorem many_eq (T : TV) : rowsW 1 T.sc.length (fun i => if 1024 < (T.sc.getD i (ByteArray.empty, [])).2.length then 4 else 0) = eachW 1 T.sc sc0 manyF := rfl
theorem getD_of {α : Type} {l : List α} {i : Nat} {x : α} (d : α) (h : l[i]? = some x) : l.getD i d = x := by rw [List.getD_eq_getElem?_getD, h]; rfl
theorem ent_tooMany_1 : ∀ args w, (callFunc 72 args).run Tryz.prog w = .ok (.enter 72 args) w := enters_of Tryz.func72 (by kernel_rfl) rfl
theorem ent_scriptWrong : ∀ args w, (callFunc 74 args).run Tryz.prog w = .ok (.enter 74 args) w := enters_of Tryz.func74 (by kernel_rfl) rfl
theorem ent_markWrong : ∀ args w, (callFunc 77 args).run Tryz.prog w = .ok (.enter 77 args) w := enters_of Tryz.func77 (by kernel_rfl) rfl
theorem ent_pairWrong : ∀ args w, (callFunc 79 args).run Tryz.prog w = .ok (.enter 79 args) w := enters_of Tryz.func79 (by kernel_rfl) rfl
theorem ent_mapWrong : ∀ args w, (callFunc 81 args).run Tryz.prog w = .ok (.enter 81 args) w := enters_of Tryz.func81 (by kernel_rfl) rfl
def ScR (W : World) (sc : List (ByteArray × List (Int × Int))) (us : List Value) : Prop := ∀ (j : Nat) (x : ByteArray × List (Int × Int)) (u : Value), sc[j]? = some x → us[j]? = some u → ∃ b d, u = .slice b x.2.length d ∧ RowC W W.heap.size b (encS2 x.2)
theorem ScR.sl {W : World} {sc : List (ByteArray × List (Int × Int))} {us : List Value} (h : ScR W sc us) (hus : us.length = sc.length) : ∀ (j : Nat) (u : Value), us[j]? = some u → ∃ p n d, u = Value.slice p n d := fun j u hu => by
  have hj := (List.getElem?_eq_some_iff.1 hu).1
  obtain ⟨b, d, e, _⟩ := h j _ u (List.getElem?_eq_getElem (by omega)) hu
  exact ⟨b, _, d, e⟩
theorem ScR.below {W w : World} {sc : List (ByteArray × List (Int × Int))} {us : List Value} (h : ScR W sc us) (hb : Below W.heap.size W w) : ScR w sc us := fun j x u hx hu => by
  obtain ⟨b, d, e, hr⟩ := h j x u hx hu
  exact ⟨b, d, e, hr.below hb hb.size⟩
theorem fr_many (sc : List (ByteArray × List (Int × Int))) (us : List Value) (hus : us.length = sc.length) (hn : sc.length ≤ 1000000) (a : Option Addr) (c : Nat) (W : World) (hr : RowC W W.heap.size a (encSc sc us)) (hs : ScR W sc us) :
    Calls Tryz.prog 71 #[.int .i64 1, .slice a sc.length c, .func (.func 72) #[] #[]] W fun e w' => e = .returned (wrV (eachW 1 sc sc0 manyF)) ∧ Below W.heap.size W w' :=
  (firstRow_Script 1 sc us hus (hs.sl hus) hn a c 72 #[] ent_tooMany_1 (fun i => manyF (sc.getD i sc0)) noX (fun _ _ => True) W.heap.size W (Nat.le_refl _) (fun b h => h.elim) hr trivial (fun _ _ _ _ _ => trivial) (fun i x u w hx hu hk _ => by
    obtain ⟨b, d, rfl, _⟩ := hs i x u hx hu
    show Calls Tryz.prog _ _ w fun e w' => e = .returned (.int .i64 (manyF (sc.getD i sc0))) ∧ _
    rw [getD_of sc0 hx]
    exact (tooMany1_any x.1 b x.2.length d w).mono (fun e w' ⟨he, hb⟩ => ⟨he, trivial, keptX_of hb noX⟩))).mono (fun e w' ⟨he, hk⟩ => ⟨he, hk.below⟩)
theorem fr_script (sc : List (ByteArray × List (Int × Int))) (us : List Value) (hus : us.length = sc.length) (hn : sc.length ≤ 1000000) (hz : ∀ x ∈ sc, x.1.size ≤ maxLen ∧ x.2.length ≤ 1000000) (a : Option Addr) (c : Nat) (W : World) (hr : RowC W W.heap.size a (encSc sc us)) (hs : ScR W sc us) :
    Calls Tryz.prog 71 #[.int .i64 1, .slice a sc.length c, .func (.func 74) #[] #[]] W fun e w' => e = .returned (wrV (eachW 1 sc sc0 scF)) ∧ Below W.heap.size W w' :=
  (firstRow_Script 1 sc us hus (hs.sl hus) hn a c 74 #[] ent_scriptWrong (fun i => scF (sc.getD i sc0)) noX (fun _ _ => True) W.heap.size W (Nat.le_refl _) (fun b h => h.elim) hr trivial (fun _ _ _ _ _ => trivial) (fun i x u w hx hu hk _ => by
    obtain ⟨b, d, rfl, hrx⟩ := hs i x u hx hu
    show Calls Tryz.prog _ _ w fun e w' => e = .returned (.int .i64 (scF (sc.getD i sc0))) ∧ _
    rw [getD_of sc0 hx]
    have hm := hz x (List.mem_of_getElem? hx)
    exact (scriptWrong_any x.1 hm.1 x.2 hm.2 b d w (rowP_of (hrx.below hk.below hk.size) (Nat.le_refl _))).mono (fun e w' ⟨he, hb⟩ => ⟨he, trivial, keptX_of hb noX⟩))).mono (fun e w' ⟨he, hk⟩ => ⟨he, hk.below⟩)
theorem fr_mark (zs : List (Int × Int)) (hn : zs.length ≤ 1000000) (a : Option Addr) (c : Nat) (W : World) (hr : RowC W W.heap.size a (encM2 zs)) :
    Calls Tryz.prog 76 #[.int .i64 3, .slice a zs.length c, .func (.func 77) #[] #[]] W fun e w' => e = .returned (wrV (eachW 3 zs ma0 maF)) ∧ Below W.heap.size W w' :=
  (firstRow_Mark 3 zs hn a c 77 #[] ent_markWrong (fun i => maF (zs.getD i ma0)) noX (fun _ _ => True) W.heap.size W (Nat.le_refl _) (fun b h => h.elim) hr trivial (fun _ _ _ _ _ => trivial) (fun i x w hx hk _ => by
    show Calls Tryz.prog _ _ w fun e w' => e = .returned (.int .i64 (maF (zs.getD i ma0))) ∧ _
    rw [getD_of ma0 hx]
    exact (markWrong_any x.1 x.2 w).mono (fun e w' ⟨he, hb⟩ => ⟨he, trivial, keptX_of hb noX⟩))).mono (fun e w' ⟨he, hk⟩ => ⟨he, hk.below⟩)
theorem fr_pair (zs : List (Int × Int × Int)) (hn : zs.length ≤ 1000000) (a : Option Addr) (c : Nat) (W : World) (hr : RowC W W.heap.size a (encP3 zs)) :
    Calls Tryz.prog 78 #[.int .i64 4, .slice a zs.length c, .func (.func 79) #[] #[]] W fun e w' => e = .returned (wrV (eachW 4 zs pr0 prF)) ∧ Below W.heap.size W w' :=
  (firstRow_Pair 4 zs hn a c 79 #[] ent_pairWrong (fun i => prF (zs.getD i pr0)) noX (fun _ _ => True) W.heap.size W (Nat.le_refl _) (fun b h => h.elim) hr trivial (fun _ _ _ _ _ => trivial) (fun i x w hx hk _ => by
    show Calls Tryz.prog _ _ w fun e w' => e = .returned (.int .i64 (prF (zs.getD i pr0))) ∧ _
    rw [getD_of pr0 hx]
    exact (pairWrong_any x.1 x.2.1 x.2.2 w).mono (fun e w' ⟨he, hb⟩ => ⟨he, trivial, keptX_of hb noX⟩))).mono (fun e w' ⟨he, hk⟩ => ⟨he, hk.below⟩)
theorem fr_map (list : Int) (zs : List (Int × ByteArray)) (hn : zs.length ≤ 1000000) (hz : ∀ x ∈ zs, x.2.size ≤ maxLen) (a : Option Addr) (c : Nat) (W : World) (hr : RowC W W.heap.size a (encF2 zs)) :
    Calls Tryz.prog 80 #[.int .i64 list, .slice a zs.length c, .func (.func 81) #[] #[]] W fun e w' => e = .returned (wrV (eachW list zs mp0 mpF)) ∧ Below W.heap.size W w' :=
  (firstRow_Map list zs hn a c 81 #[] ent_mapWrong (fun i => mpF (zs.getD i mp0)) noX (fun _ _ => True) W.heap.size W (Nat.le_refl _) (fun b h => h.elim) hr trivial (fun _ _ _ _ _ => trivial) (fun i x w hx hk _ => by
    show Calls Tryz.prog _ _ w fun e w' => e = .returned (.int .i64 (mpF (zs.getD i mp0))) ∧ _
    rw [getD_of mp0 hx]
    exact (mapWrong_any x.1 x.2 (hz x (List.mem_of_getElem? hx)) w).mono (fun e w' ⟨he, hb⟩ => ⟨he, trivial, keptX_of hb noX⟩))).mono (fun e w' ⟨he, hk⟩ => ⟨he, hk.below⟩)
theorem TabIn.lower {W W' : World} {T : TV} {a0 a1 a2 a3 a4 a5 a6 a7 : Option Addr} {us : List Value} (h : TabIn W T a0 a1 a2 a3 a4 a5 a6 a7 us) (hb : Below W.heap.size W W') : TabIn W' T a0 a1 a2 a3 a4 a5 a6 a7 us :=
  ⟨h.lu, h.r0.below hb hb.size, h.r1.below hb hb.size, h.r2.below hb hb.size, h.r3.below hb hb.size, h.r4.below hb hb.size, h.r5.below hb hb.size, h.r6.below hb hb.size, h.r7.below hb hb.size, fun j x u hx hu => by
    obtain ⟨b, d, e, hr⟩ := h.rs j x u hx hu
    exact ⟨b, d, e, hr.below hb hb.size⟩⟩
end Go.Proofs.YtnnbaodillnkkaaGreat
