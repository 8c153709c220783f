/- The reference's Meet of the fewest spans. -/
import Derived.Test.YtodikfaddfojgaaRefTwo
import Derived.Test.YtodikfaddfojgaaSetMeet
namespace Go.Proofs.Ytodikfaddfojgaa
open Go.RowKit Go.Shelf
set_option linter.unusedVariables false
theorem own_base {W : World} {base base' e size n : Nat} {v : Value} {xs : List Value} (h : W.ownsRow base e size v n xs) (hb : base' ≤ base) : W.ownsRow base' e size v n xs :=
  ⟨h.1, h.2.imp id fun ⟨g, cap, cur, h1, h2, h3⟩ => ⟨g, cap, cur, h1, Nat.le_trans hb h2, h3⟩⟩
theorem small_out {m n i j l : Nat} (hm : m ≤ 200) (hn : n ≤ 200) (hi : i ≤ m) (hj : j ≤ n) (h : l ≤ i * n + j) : l ≤ 900000 := by
  have h1 : i * n ≤ 200 * 200 := Nat.mul_le_mul (by omega) hn
  omega
set_option maxRecDepth 100000 in
set_option maxHeartbeats 8000000 in
theorem refMeet_any (a b : Option Addr) (ca cb : Nat) (zs ys : List (Int × Int)) (hz : zs.length ≤ 200) (hy : ys.length ≤ 200) (hS : Spread zs) (hY : Spread ys) (w : World) (hr : RowP w a zs) (hq : RowP w b ys) :
    Calls Try.prog 17 #[.slice a zs.length ca, .slice b ys.length cb] w fun e w' => ∃ (v : Value) (os : List (Int × Int)), e = .returned v ∧ w'.ownsRow w.heap.size 33 2 v os.length (encP os) ∧ Spread os ∧ (∀ r, memB os r = (memB zs r && memB ys r)) ∧ Below w.heap.size w w' := by
  have HR := hide hr
  have HQ := hide hq
  have HS := hide hS
  have HY := hide hY
  have hzi : (zs.length : Int) ≤ 200 := by omega
  have hyi : (ys.length : Int) ≤ 200 := by omega
  clear hr hq hS hY
  go_enter Try.func17, Try.ntmps17
  go_wp2
  go_loopw [5, 6] (fun v i wr => ∃ (k : Nat) (out : List (Int × Int)), i = .int .i64 k ∧ k ≤ zs.length ∧ Hid (RMeet zs ys k 0 out) ∧ Hid (wr.ownsRow w.heap.size 33 2 v out.length (encP out)) ∧ Hid (Below w.heap.size w wr)) (fun _ i _ => zs.length - (intOf i).toNat)
  case atStart => exact ⟨0, [], rfl, by omega, hide (rmeet_start zs ys), hide (World.ownsRow_nil _ _ _ _), hide (Below.refl _ _)⟩
  case round =>
    obtain ⟨k, out0, rfl, hk, HI0, HO0, HB0⟩ := hrel
    obtain ⟨va, vc, rfl, hvr, _, _⟩ := own_row (unhide HO0)
    have HVR := hide hvr
    clear hvr
    by_cases hkn : k < zs.length
    · have hk1 : (k : Int) < (zs.length : Int) := by omega
      have hk2 : ((k : Nat) : Int).toNat = k := by omega
      obtain ⟨x, hx⟩ : ∃ x, zs[k]? = some x := ⟨_, List.getElem?_eq_getElem hkn⟩
      obtain ⟨g, o, rfl, hg, hc⟩ := unhide HR (by omega)
      have HC := hide (hc k x hx)
      have HGg := hide hg
      have HX := hide hx
      clear hc hx HVR
      obtain ⟨w4, hw4⟩ : ∃ w4, w4 = wr := ⟨_, rfl⟩
      rw [← hw4] at HO0 HB0 ⊢
      clear hw4
      go_wp2
      go_loopw [5, 7] (fun v jv wr2 => ∃ (j : Nat) (out : List (Int × Int)), jv = .int .i64 j ∧ j ≤ ys.length ∧ Hid (RMeet zs ys k j out) ∧ Hid (wr2.ownsRow w.heap.size 33 2 v out.length (encP out)) ∧ Hid (Below w.heap.size w wr2)) (fun _ jv _ => ys.length - (intOf jv).toNat)
      case atStart => exact ⟨0, out0, rfl, by omega, HI0, HO0, HB0⟩
      case round =>
        obtain ⟨j, out, rfl, hj, HI, HO, HB⟩ := hrel
        obtain ⟨vb, vd, rfl, _, _, _⟩ := own_row (unhide HO)
        clear HI0 HO0 HB0
        by_cases hjn : j < ys.length
        · have hj1 : (j : Int) < (ys.length : Int) := by omega
          have hj2 : ((j : Nat) : Int).toNat = j := by omega
          have hol : out.length ≤ 900000 := small_out hz hy hk hj (unhide HI).len
          obtain ⟨y, hy'⟩ : ∃ y, ys[j]? = some y := ⟨_, List.getElem?_eq_getElem hjn⟩
          obtain ⟨g', o', rfl, hg', hc'⟩ := unhide HQ (by omega)
          have HN := hide (rmeet_step (unhide HS) (unhide HY) (unhide HI) (unhide HX) hy')
          have c0 := ((unhide HB).cell (p := ⟨g, o + k * 2, none⟩) (unhide HGg)).trans (unhide HC).1
          have c1 := ((unhide HB).cell (p := ⟨g, o + k * 2 + 1, none⟩) (unhide HGg)).trans (unhide HC).2
          have e0 := ((unhide HB).cell (p := ⟨g', o' + j * 2, none⟩) hg').trans (hc' j y hy').1
          have e1 := ((unhide HB).cell (p := ⟨g', o' + j * 2 + 1, none⟩) hg').trans (hc' j y hy').2
          obtain ⟨al, ah⟩ := x
          obtain ⟨bl, bh⟩ := y
          simp only at c0 c1 e0 e1
          have e01 := alloc1 e0
          have e11 := alloc1 e1
          clear hc' hy' HI hg' e0 e1
          by_cases hA : al < bl
          · by_cases hB : bh < ah
            · by_cases hC : bl ≤ bh
              · have hbo : bothOf (al, ah) (bl, bh) = (bl, bh) := by unfold bothOf; congr 1 <;> omega
                rw [hbo] at HN
                clear hbo
                have HOx := hide (own_below (unhide HO) ((Below.refl _ _).alloc (Nat.le_refl _) (.cells #[.int .i32 bl, .int .i32 bh] 33)).drew.drew)
                have HBx := hide ((unhide HB).alloc (unhide HB).size (.cells #[.int .i32 bl, .int .i32 bh] 33)).drew.drew
                rw [if_pos (by simp only; omega)] at HN
                go_wp2_with fail
                go_big_region
                go_wp2_with fail
                go_big_region
                go_wp2_with (at_builtin; refine append_oneP rfl _ _ rfl rfl w.heap.size _ out rfl hol ((wr.alloc (.cells #[.int .i32 bl, .int .i32 bh] 33)).drew.drew) (bl, bh) rfl (unhide HOx) (unhide HBx).size (wr.heap.size + 1) (World.size_alloc wr _).symm rfl ?_)
                intro v' w5 hown hb
                have HO2 : Hid (w5.ownsRow w.heap.size 33 2 v' (out ++ [(bl, bh)]).length (encP (out ++ [(bl, bh)]))) := hide (by rw [List.length_append, List.length_singleton]; exact hown)
                have HB2 := hide ((unhide HBx).trans hb)
                clear hown hb
                go_wp2
                go_roundw
                case rel => exact ⟨j + 1, _, by congr 1, by omega, HN, HO2, HB2⟩
                case measure => simp [intOf]; omega
              · have hbo : bothOf (al, ah) (bl, bh) = (bl, bh) := by unfold bothOf; congr 1 <;> omega
                rw [hbo] at HN
                clear hbo
                have HOx := hide (own_below (unhide HO) ((Below.refl _ _).alloc (Nat.le_refl _) (.cells #[.int .i32 bl, .int .i32 bh] 33)).drew.drew)
                have HBx := hide ((unhide HB).alloc (unhide HB).size (.cells #[.int .i32 bl, .int .i32 bh] 33)).drew.drew
                rw [if_neg (by simp only; omega)] at HN
                go_wp2_with fail
                go_big_region
                go_wp2_with fail
                go_big_region
                go_wp2
                go_roundw
                case rel => exact ⟨j + 1, _, by congr 1, by omega, HN, HOx, HBx⟩
                case measure => simp [intOf]; omega
            · by_cases hC : bl ≤ ah
              · have hbo : bothOf (al, ah) (bl, bh) = (bl, ah) := by unfold bothOf; congr 1 <;> omega
                rw [hbo] at HN
                clear hbo
                have HOx := hide (own_below (unhide HO) ((Below.refl _ _).alloc (Nat.le_refl _) (.cells #[.int .i32 bl, .int .i32 ah] 33)).drew.drew)
                have HBx := hide ((unhide HB).alloc (unhide HB).size (.cells #[.int .i32 bl, .int .i32 ah] 33)).drew.drew
                rw [if_pos (by simp only; omega)] at HN
                go_wp2_with fail
                go_big_region
                go_wp2_with fail
                go_big_region
                go_wp2_with (at_builtin; refine append_oneP rfl _ _ rfl rfl w.heap.size _ out rfl hol ((wr.alloc (.cells #[.int .i32 bl, .int .i32 ah] 33)).drew.drew) (bl, ah) rfl (unhide HOx) (unhide HBx).size (wr.heap.size + 1) (World.size_alloc wr _).symm rfl ?_)
                intro v' w5 hown hb
                have HO2 : Hid (w5.ownsRow w.heap.size 33 2 v' (out ++ [(bl, ah)]).length (encP (out ++ [(bl, ah)]))) := hide (by rw [List.length_append, List.length_singleton]; exact hown)
                have HB2 := hide ((unhide HBx).trans hb)
                clear hown hb
                go_wp2
                go_roundw
                case rel => exact ⟨j + 1, _, by congr 1, by omega, HN, HO2, HB2⟩
                case measure => simp [intOf]; omega
              · have hbo : bothOf (al, ah) (bl, bh) = (bl, ah) := by unfold bothOf; congr 1 <;> omega
                rw [hbo] at HN
                clear hbo
                have HOx := hide (own_below (unhide HO) ((Below.refl _ _).alloc (Nat.le_refl _) (.cells #[.int .i32 bl, .int .i32 ah] 33)).drew.drew)
                have HBx := hide ((unhide HB).alloc (unhide HB).size (.cells #[.int .i32 bl, .int .i32 ah] 33)).drew.drew
                rw [if_neg (by simp only; omega)] at HN
                go_wp2_with fail
                go_big_region
                go_wp2_with fail
                go_big_region
                go_wp2
                go_roundw
                case rel => exact ⟨j + 1, _, by congr 1, by omega, HN, HOx, HBx⟩
                case measure => simp [intOf]; omega
          · by_cases hB : bh < ah
            · by_cases hC : al ≤ bh
              · have hbo : bothOf (al, ah) (bl, bh) = (al, bh) := by unfold bothOf; congr 1 <;> omega
                rw [hbo] at HN
                clear hbo
                have HOx := hide (own_below (unhide HO) ((Below.refl _ _).alloc (Nat.le_refl _) (.cells #[.int .i32 al, .int .i32 bh] 33)).drew.drew)
                have HBx := hide ((unhide HB).alloc (unhide HB).size (.cells #[.int .i32 al, .int .i32 bh] 33)).drew.drew
                rw [if_pos (by simp only; omega)] at HN
                go_wp2_with fail
                go_big_region
                go_wp2_with fail
                go_big_region
                go_wp2_with (at_builtin; refine append_oneP rfl _ _ rfl rfl w.heap.size _ out rfl hol ((wr.alloc (.cells #[.int .i32 al, .int .i32 bh] 33)).drew.drew) (al, bh) rfl (unhide HOx) (unhide HBx).size (wr.heap.size + 1) (World.size_alloc wr _).symm rfl ?_)
                intro v' w5 hown hb
                have HO2 : Hid (w5.ownsRow w.heap.size 33 2 v' (out ++ [(al, bh)]).length (encP (out ++ [(al, bh)]))) := hide (by rw [List.length_append, List.length_singleton]; exact hown)
                have HB2 := hide ((unhide HBx).trans hb)
                clear hown hb
                go_wp2
                go_roundw
                case rel => exact ⟨j + 1, _, by congr 1, by omega, HN, HO2, HB2⟩
                case measure => simp [intOf]; omega
              · have hbo : bothOf (al, ah) (bl, bh) = (al, bh) := by unfold bothOf; congr 1 <;> omega
                rw [hbo] at HN
                clear hbo
                have HOx := hide (own_below (unhide HO) ((Below.refl _ _).alloc (Nat.le_refl _) (.cells #[.int .i32 al, .int .i32 bh] 33)).drew.drew)
                have HBx := hide ((unhide HB).alloc (unhide HB).size (.cells #[.int .i32 al, .int .i32 bh] 33)).drew.drew
                rw [if_neg (by simp only; omega)] at HN
                go_wp2_with fail
                go_big_region
                go_wp2_with fail
                go_big_region
                go_wp2
                go_roundw
                case rel => exact ⟨j + 1, _, by congr 1, by omega, HN, HOx, HBx⟩
                case measure => simp [intOf]; omega
            · by_cases hC : al ≤ ah
              · have hbo : bothOf (al, ah) (bl, bh) = (al, ah) := by unfold bothOf; congr 1 <;> omega
                rw [hbo] at HN
                clear hbo
                have HOx := hide (own_below (unhide HO) ((Below.refl _ _).alloc (Nat.le_refl _) (.cells #[.int .i32 al, .int .i32 ah] 33)).drew.drew)
                have HBx := hide ((unhide HB).alloc (unhide HB).size (.cells #[.int .i32 al, .int .i32 ah] 33)).drew.drew
                rw [if_pos (by simp only; omega)] at HN
                go_wp2_with fail
                go_big_region
                go_wp2_with fail
                go_big_region
                go_wp2_with (at_builtin; refine append_oneP rfl _ _ rfl rfl w.heap.size _ out rfl hol ((wr.alloc (.cells #[.int .i32 al, .int .i32 ah] 33)).drew.drew) (al, ah) rfl (unhide HOx) (unhide HBx).size (wr.heap.size + 1) (World.size_alloc wr _).symm rfl ?_)
                intro v' w5 hown hb
                have HO2 : Hid (w5.ownsRow w.heap.size 33 2 v' (out ++ [(al, ah)]).length (encP (out ++ [(al, ah)]))) := hide (by rw [List.length_append, List.length_singleton]; exact hown)
                have HB2 := hide ((unhide HBx).trans hb)
                clear hown hb
                go_wp2
                go_roundw
                case rel => exact ⟨j + 1, _, by congr 1, by omega, HN, HO2, HB2⟩
                case measure => simp [intOf]; omega
              · have hbo : bothOf (al, ah) (bl, bh) = (al, ah) := by unfold bothOf; congr 1 <;> omega
                rw [hbo] at HN
                clear hbo
                have HOx := hide (own_below (unhide HO) ((Below.refl _ _).alloc (Nat.le_refl _) (.cells #[.int .i32 al, .int .i32 ah] 33)).drew.drew)
                have HBx := hide ((unhide HB).alloc (unhide HB).size (.cells #[.int .i32 al, .int .i32 ah] 33)).drew.drew
                rw [if_neg (by simp only; omega)] at HN
                go_wp2_with fail
                go_big_region
                go_wp2_with fail
                go_big_region
                go_wp2
                go_roundw
                case rel => exact ⟨j + 1, _, by congr 1, by omega, HN, HOx, HBx⟩
                case measure => simp [intOf]; omega
        · have hj1 : ¬ (j : Int) < (ys.length : Int) := by omega
          have HN := hide (rmeet_next (unhide HI) (unhide HX) (by omega))
          go_wp2
          go_roundw
          case rel => exact ⟨k + 1, out, by congr 1, by omega, HN, HO, HB⟩
          case measure => simp [intOf]; omega
    · have hk1 : ¬ (k : Int) < (zs.length : Int) := by omega
      have hol : out0.length ≤ 900000 := small_out hz hy hk (Nat.zero_le _) (unhide HI0).len
      have HE := hide (rmeet_end (unhide HI0) (by omega))
      go_wp2_with fail
      refine (refSpans_any va vc out0 (by omega) (unhide HI0).right wr (unhide HVR)).mono ?_
      rintro e w2 ⟨v, os, rfl, hown, hsp, hmem, hb⟩
      have HO2 := hide (own_base hown (unhide HB0).size)
      have HSP := hide hsp
      have HM := hide (fun r => (hmem r).trans (unhide HE r))
      have HB2 := hide ((unhide HB0).trans (hb.mono (unhide HB0).size))
      clear hown hsp hmem hb
      go_wp2
      go_ret
      first
        | exact ⟨_, os, rfl, unhide HO2, unhide HSP, unhide HM, unhide HB2⟩
        | exact ⟨_, rfl, os, unhide HO2, unhide HSP, unhide HM, unhide HB2⟩
end Go.Proofs.Ytodikfaddfojgaa
