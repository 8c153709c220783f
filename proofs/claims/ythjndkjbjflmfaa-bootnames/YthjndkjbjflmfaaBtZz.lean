/- The reference's Decode: its loops. -/
import Derived.Laws.AppendOwnNone
import Derived.Test.YthjndkjbjflmfaaBtY
namespace Go.Proofs.Ythjndkjbjflmfaa
open Go.RowKit Go.Shelf
set_option linter.unusedVariables false
set_option maxRecDepth 100000 in
set_option maxHeartbeats 8000000 in
theorem refDec_main {p : Pm} (hp : rightB p = true) (a : ByteArray) (hl : ¬ 65536 < a.size) (w : World) : Calls Try.prog 19 #[.agg (cellsP p), .string a] w fun e w' => e = .returned (encD (decV p a)) ∧ Below w.heap.size w w' := by
  have hr := fun w => refRight_any p w
  rw [hp] at hr
  have HR := hide hr
  clear hr
  have HP := hide ((rightB_iff p).1 hp)
  have hl2 : ¬ (65536 : Int) < (a.size : Int) := by omega
  obtain ⟨DV, hDV⟩ : ∃ DV, decV p a = DV := ⟨_, rfl⟩
  rw [hDV]
  unfold decV at hDV
  rw [if_neg (by rw [hp]; decide), if_neg hl] at hDV
  have HDV := hide hDV
  clear hDV hp
  have hfi := width_bd (unhide HP).2.2.2.2.2.2.2.2.2.2.2.2
  obtain ⟨B, lo, hi, sk, da, bi, fi⟩ := p
  dsimp only [cellsP] at *
  go_enter Try.func19, Try.ntmps19
  go_wp2_with (go_at_call 16; refine (unhide HR _).mono ?_; rintro e w2 ⟨rfl, hb⟩)
  have hb0 : w.heap.size < w2.heap.size := by have := hb.size; simp at this; omega
  have BL := hide (((Below.refl _ w).alloc (Nat.le_refl _) _).trans (hb.mono (by simp)))
  have PB := hide ((Blk.new w (cellsP ⟨B, lo, hi, sk, da, bi, fi⟩) 24).below hb (by simp))
  clear hb
  go_loopw [7] (fun x wr => ∃ k : Int, x = .int .i64 k ∧ -1 ≤ k ∧ k < a.size ∧ Hz (∀ j : Nat, k < j → j < a.size → bt a j ≠ 45) ∧ wr = w2) (fun x _ => (intOf x + 1).toNat)
  case atStart => exact ⟨(a.size : Int) - 1, rfl, by omega, by omega, hide (fun j h1 h2 => by omega), rfl⟩
  case round =>
    obtain ⟨k, rfl, k0, k1, KH, rfl⟩ := hrel
    by_cases hk : 0 ≤ k ∧ bt a k.toNat ≠ 45
    · obtain ⟨i, rfl⟩ : ∃ i : Nat, k = i := ⟨k.toNat, by omega⟩
      have hia : i < a.size := by omega
      have h45 : (((a[i]'hia).toNat : Int) != 45) = true := by
        have := hk.2
        rw [Int.toNat_natCast, bt_get a i hia] at this
        rw [bne_iff_ne]; omega
      have h0i : (0 : Int) ≤ (i : Int) := by omega
      have hne := hide hk.2
      clear hk
      go_wp2_with fail
      go_roundw
      case rel => exact ⟨(i : Int) - 1, rfl, by omega, by omega, hide (fun j h1 h2 => by
        by_cases e : j = i
        · rw [e]; have := unhide hne; rwa [Int.toNat_natCast] at this
        · exact unhide KH j (by omega) h2), trivial⟩
      case measure => simp [intOf]
    · have hL : lastH a = k := lastH_of (unhide KH) (by
        by_cases h0 : 0 ≤ k
        · refine .inr ⟨k.toNat, by omega, by omega, ?_⟩
          exact Classical.byContradiction fun h => hk ⟨h0, h⟩
        · exact .inl (by omega))
      have HL := hide hL
      clear hL
      by_cases hkn : 0 ≤ k
      · obtain ⟨i, rfl⟩ : ∃ i : Nat, k = i := ⟨k.toNat, by omega⟩
        have hia : i < a.size := by omega
        have h45 : (((a[i]'hia).toNat : Int) != 45) = false := by
          have h1 : bt a i = 45 := by
            refine Classical.byContradiction fun h => hk ⟨hkn, ?_⟩
            rwa [Int.toNat_natCast]
          rw [bt_get a i hia] at h1
          rw [h1]; rfl
        clear hk
        by_cases hi0 : i = 0
        · subst hi0
          obtain rfl : DV = (⟨#[]⟩, 0, 52) := by
            rw [← unhide HDV, if_pos (by rw [unhide HL]; rfl)]
          go_wp2_with fail
          go_ret3
          exact ⟨rfl, unhide BL⟩
        · have hi1 : ¬ ((i : Nat) : Int) = 0 := by omega
          have hi2 : ((i : Int) == 0) = false := by rw [beq_eq_false_iff_ne]; omega
          have hm : i ≤ a.size := by omega
          have hLm : ((i : Int) = -1 ∧ i = 0) ∨ (i : Int) = (i : Nat) := .inr rfl
          have hSm : headH a = a.extract 0 i := by unfold headH; rw [unhide HL]; rfl
          have hj0 : (lastH a + 1).toNat = i + 1 := by rw [unhide HL]; omega
          have hL0 : lastH a ≠ 0 := by rw [unhide HL]; exact hi1
          obtain ⟨m, hmi⟩ : ∃ m, m = i := ⟨_, rfl⟩
          obtain ⟨j0, hj00⟩ : ∃ j0 : Nat, j0 = i + 1 := ⟨_, rfl⟩
          rw [← hj00] at hj0
          rw [← hmi] at hm hSm
          have hLI : (i : Int) + 1 = (j0 : Int) := by omega
          have hj0a : j0 ≤ a.size := by omega
          have hq : ∀ q : Nat, (q < m) ↔ ((q : Int) < (i : Int)) := fun q => by omega
          clear hLm hmi hj00
          obtain ⟨S, hS⟩ : ∃ S, headH a = S := ⟨_, rfl⟩
          have hSz : S.size = m := by rw [← hS, hSm, ByteArray.size_extract]; omega
          have hSb : ∀ q, q < m → bt S q = bt a q := fun q hq => by rw [← hS, hSm]; exact bt_head a m q hm hq
          obtain ⟨R, hR⟩ : ∃ R, refV S = R := ⟨_, rfl⟩
          have hRV : refF S m 0 = R := by rw [← hR]; unfold refV; rw [hSz]
          have hDV2 := unhide HDV
          rw [if_neg hL0, hS, hR] at hDV2
          have HDV2 := hide hDV2
          have HS := hide (And.intro hS (And.intro hSz hSb))
          have HR2 := hide hR
          have HJ0 := hide hj0
          have HQ := hide hq
          have HLI := hide hLI
          obtain ⟨i0, hif, hz0, hz1, hz2⟩ := info_parts infoRb
          have HI := hide (And.intro hif (And.intro hz0 (And.intro hz1 hz2)))
          have hnil : wr.ownsRow w.heap.size 21 1 (.slice none 0 0) 0 (encRb (bytesH S 0)) := World.ownsRow_nil _ _ _ _
          have HNIL := hide hnil
          clear hDV2 hS hR hj0 hSz hSb hSm hL0 hif hz0 hz1 hz2 hq hLI hnil
          have HRV := hide hRV
          clear hRV
          go_wp2_with fail
          go_loopw [8, 9] (fun l x wr => ∃ (q f : Nat), x = .int .i64 q ∧ f + q = m ∧ Hz (wr.ownsRow w.heap.size 21 1 l q (encRb (bytesH S q))) ∧ Hz (refF S f q = R) ∧ Hz (∀ j, j < q → basicB (bt S j) = true) ∧ q ≤ 4096 ∧ Hz (Below w.heap.size w wr) ∧ Hz (Blk wr w.heap.size (cellsP ⟨B, lo, hi, sk, da, bi, fi⟩) 24)) (fun _ x _ => m - (intOf x).toNat)
          case atStart => exact ⟨0, m, rfl, by omega, HNIL, HRV, hide (fun j h => absurd h (Nat.not_lt_zero _)), by omega, BL, PB⟩
          case round =>
            obtain ⟨q, f, rfl, hf, HO, HF, HBS, hq4, BLr, PBr⟩ := hrel
            clear HNIL HRV BL PB
            obtain ⟨xa, xc, rfl⟩ : ∃ xa xc, u8 = .slice xa q xc := by
              rcases (unhide HO).2 with ⟨rfl, h0⟩ | ⟨g, cap, cur, rfl, _⟩
              · exact ⟨none, 0, by rw [h0]⟩
              · exact ⟨_, cap, rfl⟩
            have hbl := (unhide PBr).lt
            by_cases hqm : q < m
            · have hqI : (q : Int) < (i : Int) := (unhide HQ q).1 hqm
              have hqn : ¬ S.size ≤ q := by rw [(unhide HS).2.1]; omega
              have hqa : q < a.size := by omega
              have hqa1 : (q : Int) < (a.size : Int) := by omega
              obtain ⟨g, rfl⟩ : ∃ g, f = g + 1 := ⟨f - 1, by omega⟩
              have hbq : (bt S q : Int) = ((a[q]'hqa).toNat : Int) := by rw [(unhide HS).2.2 q hqm, bt_get a q hqa]
              by_cases h4 : q = 4096
              · obtain rfl : R = (q, 4) := (unhide HF).symm.trans (refF_many hqn h4)
                obtain rfl : DV = (⟨#[]⟩, q, 4) := by
                  rw [← unhide HDV2, if_pos (show ¬ ((4 : Int) = 0) by decide)]
                subst h4
                go_wp2_with fail
                go_ret3
                exact ⟨rfl, unhide BLr⟩
              · have h4n : ((q : Int) == 4096) = false := by rw [beq_eq_false_iff_ne]; omega
                have BA := fun w => refBasic_any ((a[q]'hqa).toNat : Int) w
                rw [← hbq] at BA
                obtain ⟨c, hc⟩ : ∃ c, basicB (bt S q) = c := ⟨_, rfl⟩
                rw [hc] at BA
                have hrb := refF_bad (f := g) hqn h4
                have hrn := refF_next (f := g) hqn h4
                rw [hc] at hrb hrn
                have hc8 : ((a[q]'hqa).toNat : Int) < 256 := by have := UInt8.toNat_lt (a[q]'hqa); omega
                obtain ⟨bq, hbq2⟩ : ∃ bq : Int, (bt S q : Int) = bq := ⟨_, rfl⟩
                rw [hbq2] at BA hbq
                have hb256 : bq < 256 := by omega
                have hb0' : 0 ≤ bq := by omega
                have HBQ := hide hbq2
                have HRB := hide hrb
                have HRN := hide hrn
                have hbq3 := hbq.symm
                have hsn := bytesH_snoc S q
                rw [hbq2] at hsn
                have HSN := hide hsn
                have HC := hide hc
                have HBA := hide BA
                clear hrb hrn hbq2 hbq BA hsn hc
                cases c with
                | false =>
                  obtain rfl : R = (q, 50) := (unhide HF).symm.trans (unhide HRB (by trivial))
                  obtain rfl : DV = (⟨#[]⟩, q, 50) := by
                    rw [← unhide HDV2, if_pos (show ¬ ((50 : Int) = 0) by decide)]
                  go_wp2_with (go_at_call 34; refine (unhide HBA _).mono ?_; rintro e w3 ⟨rfl, hw3⟩; have hw4 := hw3.symm; clear hw3; subst hw4)
                  go_ret3
                  exact ⟨rfl, unhide BLr⟩
                | true =>
                  go_wp2_with (first
                    | (go_at_call 34; refine (unhide HBA _).mono ?_; rintro e w3 ⟨rfl, hw3⟩; have hw4 := hw3.symm; clear hw3; subst hw4)
                    | (at_builtin; refine wpList_append_own _ rfl _ _ 59 rfl w.heap.size 21 i0 (.int .i32 0) 1 4 Try.underlying59 (unhide HI).1 (unhide HI).2.1 (unhide HI).2.2.1 (unhide HI).2.2.2 rfl (by decide) _ _ _ rfl ((unhide HO).alloc _) ⟨wr.heap.size, 0, none⟩ 1 1 [.int .i32 bq] rfl rfl ?c1 ?c2 ?c3 ?c4 ?c5 ?_))
                  case c1 =>
                    intro j u hj
                    rw [addRb, (Blk.new wr #[.int .i32 bq] 21).cell (0 + j), ← hj]
                    simp
                  case c2 => intro u hu; simp at hu; rw [hu]; rfl
                  case c3 => unfold maxLen; omega
                  case c4 => omega
                  case c5 => simp; omega
                  intro v' w3 h1 h2 _
                  have PB3 := hide (Blk.kept (Blk.alloc (unhide PBr) (.cells #[.int .i32 bq] 21)) h2 (fun e => own_neC (unhide HO) (unhide PBr) (by decide) e.symm))
                  have BL3 := hide (((unhide BLr).alloc (by omega) (.cells #[.int .i32 bq] 21)).grown h2 (by simp; omega) (fun k e => (own_ltB (unhide HO) k e).1))
                  have HO3 := hide (show w3.ownsRow w.heap.size 21 1 v' (q + 1) (encRb (bytesH S (q + 1))) by rw [unhide HSN]; simp only [encRb, List.map_append, List.map_cons, List.map_nil]; exact h1)
                  clear h1 h2
                  go_wp2_with fail
                  go_roundw
                  case rel => exact ⟨q + 1, g, by go_num, by omega, HO3, hide ((unhide HRN (by trivial)).symm.trans (unhide HF)), hide (fun j hj => by
                    by_cases e : j = q
                    · rw [e]; exact unhide HC
                    · exact unhide HBS j (by omega)), by omega, BL3, PB3⟩
                  case measure => simp [intOf]; omega
            · have hqI : ¬ (q : Int) < (i : Int) := fun h => hqm ((unhide HQ q).2 h)
              have hqe : q = m := by omega
              obtain rfl : R = (0, 0) := (unhide HF).symm.trans (refF_end (by rw [(unhide HS).2.1]; omega))
              have hRS : runesL S = bytesH S q := by
                have h1 : ∀ j, j < S.size → bt S j < 128 := fun j hj => by
                  have := (basic_lo (unhide HBS j (by rw [(unhide HS).2.1] at hj; omega))).2
                  omega
                rw [runesL_lo h1, (unhide HS).2.1, hqe]
              have hD3 := unhide HDV2
              rw [if_neg (by decide)] at hD3
              obtain ⟨T, hT⟩ : ∃ T, tailD ⟨B, lo, hi, sk, da, bi, fi⟩ a = T := ⟨_, rfl⟩
              rw [hT] at hD3
              unfold tailD at hT
              rw [(unhide HS).1, hRS, unhide HJ0] at hT
              have hlen := bytesH_len S q
              have hwd : ∀ z ∈ bytesH S q, widthOf z ≠ 0 := by rw [← hRS]; exact runesL_runes S
              generalize bytesH S q = RS at *
              have HD3 := hide hD3
              have HT := hide hT
              have HWD := hide hwd
              have HLN := hide hlen
              have hLI := unhide HLI
              have HQ4 := hq4
              clear hD3 hT hwd hlen hRS HDV2 HF HBS HQ HS HR2 HDV hqm hqe
              have c0 : wr.cell? ⟨w.heap.size, 0, none⟩ = some (.int .i64 B) := (unhide PBr).cell 0
              have c1 : wr.cell? ⟨w.heap.size, 1, none⟩ = some (.int .i64 lo) := (unhide PBr).cell 1
              have c2 : wr.cell? ⟨w.heap.size, 2, none⟩ = some (.int .i64 hi) := (unhide PBr).cell 2
              have c3 : wr.cell? ⟨w.heap.size, 3, none⟩ = some (.int .i64 sk) := (unhide PBr).cell 3
              have c4 : wr.cell? ⟨w.heap.size, 4, none⟩ = some (.int .i64 da) := (unhide PBr).cell 4
              have c5 : wr.cell? ⟨w.heap.size, 5, none⟩ = some (.int .i64 bi) := (unhide PBr).cell 5
              have c6 : wr.cell? ⟨w.heap.size, 6, none⟩ = some (.int .i32 fi) := (unhide PBr).cell 6
              have hfi2 := hfi
              go_wp2_with fail
              go_loopw [8, 10, 11, 12, 13, 14] (fun l b n jv fb x ws => ∃ (zs : List Int) (L' j f : Nat) (bias d nn jj : Int) (fbv : Bool), zs.length = L' ∧ b = .int .i64 bias ∧ n = .int .i32 nn ∧ jv = .int .i64 jj ∧ fb = .bool fbv ∧ x = .int .i64 j ∧ j ≤ a.size ∧ a.size < f + j ∧ Hz (ws.ownsRow w.heap.size 21 1 l L' (encRb zs)) ∧ Hz (Below w.heap.size w ws) ∧ Hz (Blk ws w.heap.size (cellsP ⟨B, lo, hi, sk, da, bi, fi⟩) 24) ∧ (0 ≤ bias ∧ bias ≤ 4000) ∧ ((fbv = true ∧ d = da) ∨ (fbv = false ∧ d = 2)) ∧ L' ≤ 4096 ∧ (0 ≤ nn ∧ nn ≤ 1114111) ∧ (0 ≤ jj + 1 ∧ jj + 1 ≤ 5000) ∧ Hz (∀ z ∈ zs, widthOf z ≠ 0) ∧ Hz (layF ⟨B, lo, hi, sk, da, bi, fi⟩ a f zs j bias d nn (jj + 1) = T)) (fun _ _ _ _ _ x _ => a.size - (intOf x).toNat)
              case atStart =>
                have hpp := unhide HP
                have hbiA : 0 ≤ bi ∧ bi ≤ 4000 := ⟨hpp.2.2.2.2.2.2.2.2.2.1, Int.le_trans hpp.2.2.2.2.2.2.2.2.2.2.1 (by decide)⟩
                exact ⟨RS, q, j0, a.size + 1, bi, da, fi, -1, true, unhide HLN, rfl, rfl, rfl, rfl, rfl, hj0a, by omega, HO, BLr, PBr, hbiA, .inl ⟨rfl, rfl⟩, HQ4, hfi2, by omega, HWD, HT⟩
              case round =>
                clear HO BLr PBr HWD HT HLN c0 c1 c2 c3 c4 c5 c6
                obtain ⟨zs, L', j, f, bias, d, nn, jj, fbv, g1, rfl, rfl, rfl, rfl, rfl, g2, g3, OS, BLs, PBs, g9, g10, g11, g12, g13, WD, G15⟩ := hrel
                have HZL := hide g1
                clear g1
                obtain ⟨xa, xc, rfl⟩ : ∃ xa xc, u8 = .slice xa L' xc := by
                  rcases (unhide OS).2 with ⟨rfl, h0⟩ | ⟨g, cap, cur, rfl, _⟩
                  · exact ⟨none, 0, by rw [h0]⟩
                  · exact ⟨_, cap, rfl⟩
                have hbs := (unhide PBs).lt
                have hd1 : 1 ≤ d := by have := (unhide HP).2.2.2.2.2.2.2.1; have e : (Pm.mk B lo hi sk da bi fi).da = da := rfl; rcases g10 with h | h <;> omega
                have s0 : wr.cell? ⟨w.heap.size, 0, none⟩ = some (.int .i64 B) := (unhide PBs).cell 0
                have s1 : wr.cell? ⟨w.heap.size, 1, none⟩ = some (.int .i64 lo) := (unhide PBs).cell 1
                have s2 : wr.cell? ⟨w.heap.size, 2, none⟩ = some (.int .i64 hi) := (unhide PBs).cell 2
                have s3 : wr.cell? ⟨w.heap.size, 3, none⟩ = some (.int .i64 sk) := (unhide PBs).cell 3
                have s4 : wr.cell? ⟨w.heap.size, 4, none⟩ = some (.int .i64 da) := (unhide PBs).cell 4
                have s5 : wr.cell? ⟨w.heap.size, 5, none⟩ = some (.int .i64 bi) := (unhide PBs).cell 5
                have s6 : wr.cell? ⟨w.heap.size, 6, none⟩ = some (.int .i32 fi) := (unhide PBs).cell 6
                by_cases hja : j < a.size
                · have hj1 : (j : Int) < (a.size : Int) := by omega
                  have hjn : ¬ a.size ≤ j := by omega
                  obtain ⟨f, rfl⟩ : ∃ f', f = f' + 1 := ⟨f - 1, by omega⟩
                  by_cases h4 : L' = 4096
                  · subst h4
                    obtain rfl : T = ([], j, 4) := (unhide G15).symm.trans (layF_many hjn (unhide HZL))
                    obtain rfl : DV = (⟨#[]⟩, j, 4) := by rw [← unhide HD3, if_pos (show ¬ ((4 : Int) = 0) by decide)]
                    go_wp2_with fail
                    go_ret3
                    exact ⟨rfl, unhide BLs⟩
                  · have h4n : ((L' : Int) == 4096) = false := by rw [beq_eq_false_iff_ne]; omega
                    have hok := rdN_ok (bias := bias) (h := (L' : Int)) (n := nn) (nx := jj + 1) (a := a) (unhide HP) (a.size - j) j 1 0 1 (by omega) (by omega) g2
                    obtain ⟨⟨rv, re, ree⟩, hr⟩ : ∃ r, rdN ⟨B, lo, hi, sk, da, bi, fi⟩ bias L' nn (jj + 1) a (a.size - j) j 1 0 1 = r := ⟨_, rfl⟩
                    have NU := fun w => refNum_any (unhide HP) g9 ⟨by omega, by omega⟩ g12 g13 a (by omega) j g2 rv re ree hr w
                    rw [hr] at hok
                    dsimp only at hok
                    have hlb := layF_bad (p := ⟨B, lo, hi, sk, da, bi, fi⟩) (a := a) (f := f) (l := zs) (j := j) (bias := bias) (d := d) (n := nn) (nx := jj + 1) (r := (rv, re, ree)) hjn (by rw [unhide HZL]; exact h4) (by rw [unhide HZL]; exact hr)
                    have hlr := layF_rune (p := ⟨B, lo, hi, sk, da, bi, fi⟩) (a := a) (f := f) (l := zs) (j := j) (bias := bias) (d := d) (n := nn) (nx := jj + 1) (r := (rv, re, ree)) hjn (by rw [unhide HZL]; exact h4) (by rw [unhide HZL]; exact hr)
                    have hln := layF_next (p := ⟨B, lo, hi, sk, da, bi, fi⟩) (a := a) (f := f) (l := zs) (j := j) (bias := bias) (d := d) (n := nn) (nx := jj + 1) (r := (rv, re, ree)) hjn (by rw [unhide HZL]; exact h4) (by rw [unhide HZL]; exact hr)
                    rw [unhide HZL] at hlr hln
                    dsimp only at hlb hlr hln
                    have HNU := hide NU
                    have HLB := hide hlb
                    have HLR := hide hlr
                    have HLN2 := hide hln
                    clear NU hlb hlr hln hr
                    by_cases hee : ree = 0
                    · subst hee
                      obtain ⟨k0, k1, -⟩ := hok
                      obtain ⟨k1, k2, k3, k4⟩ := k1 rfl
                      have q1 : 1 ≤ (L' : Int) + 1 := by omega
                      have q5 : ¬ (L' : Int) + 1 = 0 := by omega
                      have k5 := not_over k4 g12.1 g13.1 ⟨by omega, by omega⟩ k3
                      have ec : rv + (jj + 1) = jj + 1 + rv := by omega
                      rw [ec] at k4
                      have hlr := unhide HLR
                      have hln := unhide HLN2
                      rw [ec] at hlr hln
                      have q2 : 0 ≤ (jj + 1 + rv) / ((L' : Int) + 1) := Int.ediv_nonneg (by omega) (by omega)
                      have q3 : 0 ≤ (jj + 1 + rv) % ((L' : Int) + 1) := Int.emod_nonneg _ (by omega)
                      have q4 : (jj + 1 + rv) % ((L' : Int) + 1) < (L' : Int) + 1 := Int.emod_lt_of_pos _ (by omega)
                      have q6 : 0 ≤ jj + 1 + rv := by omega
                      obtain ⟨z, hz⟩ : ∃ z, nn + (jj + 1 + rv) / ((L' : Int) + 1) = z := ⟨_, rfl⟩
                      obtain ⟨i, hi'⟩ : ∃ i : Nat, (jj + 1 + rv) % ((L' : Int) + 1) = (i : Int) := ⟨((jj + 1 + rv) % ((L' : Int) + 1)).toNat, by omega⟩
                      have hz2 : 0 ≤ z ∧ z ≤ 1114111 := by omega
                      have hi2 : i ≤ L' := by omega
                      have qq : (jj + 1 + rv) / ((L' : Int) + 1) ≤ 1114111 := by omega
                      have HLR3 := hide hlr
                      have HLN3 := hide hln
                      clear HLB HLR HLN2 hlr hln k4 ec
                      by_cases hwz : widthOf z = 0
                      · obtain rfl : T = ([], re, 12) := (unhide G15).symm.trans (unhide HLR3 (by trivial) (by rw [hz]; exact hwz))
                        obtain rfl : DV = (⟨#[]⟩, re, 12) := by rw [← unhide HD3, if_pos (show ¬ ((12 : Int) = 0) by decide)]
                        have hwb : (widthOf z == 0) = true := by rw [hwz]; rfl
                        go_wp2_with (first | (go_at_call 37; refine (unhide HNU _).mono ?_; rintro e w3 ⟨⟨K, rfl, hKa, hKb⟩, hb3⟩; have HB3 := hide hb3; have PB3 := hide ((unhide PBs).below hb3 (unhide PBs).lt); have t0 : w3.cell? ⟨w.heap.size, 0, none⟩ = some (.int .i64 B) := (unhide PB3).cell 0; have t1 : w3.cell? ⟨w.heap.size, 1, none⟩ = some (.int .i64 lo) := (unhide PB3).cell 1; have t2 : w3.cell? ⟨w.heap.size, 2, none⟩ = some (.int .i64 hi) := (unhide PB3).cell 2; have t3 : w3.cell? ⟨w.heap.size, 3, none⟩ = some (.int .i64 sk) := (unhide PB3).cell 3; have t4 : w3.cell? ⟨w.heap.size, 4, none⟩ = some (.int .i64 da) := (unhide PB3).cell 4; have t5 : w3.cell? ⟨w.heap.size, 5, none⟩ = some (.int .i64 bi) := (unhide PB3).cell 5; have t6 : w3.cell? ⟨w.heap.size, 6, none⟩ = some (.int .i32 fi) := (unhide PB3).cell 6; have hK2 : (j : Int) + K = (re : Int) + 1 := (by have := hKa (by trivial); omega); clear hb3 hKa hKb) | (go_at_call 32; refine (refWidth_any _ _).mono ?_; rintro e w4 ⟨rfl, hw4⟩; have hw5 := hw4.symm; clear hw4; subst hw5))
                        go_ret3
                        exact ⟨rfl, (unhide BLs).trans ((unhide HB3).mono (by omega))⟩
                      · have hwb : (widthOf z == 0) = false := by rw [beq_eq_false_iff_ne]; exact hwz
                        have G15' := hide ((unhide HLN3 (by trivial) hz hwz hi').symm.trans (unhide G15))
                        have AD := fun w => (show Calls Try.prog 36 #[.agg (cellsP ⟨B, lo, hi, sk, da, bi, fi⟩), .int .i64 rv, .int .i64 ((L' : Int) + 1), .bool fbv] w fun e w' => e = .returned (.int .i64 (adp ⟨B, lo, hi, sk, da, bi, fi⟩ rv ((L' : Int) + 1) d)) ∧ Below w.heap.size w w' from by
                          rcases g10 with ⟨rfl, rfl⟩ | ⟨rfl, rfl⟩
                          · exact refAdp_first (unhide HP) (by omega) (by omega) w
                          · exact refAdp_more (unhide HP) (by omega) (by omega) w)
                        have HAD := hide AD
                        have H1C := hide (show ∀ u ∈ encRb zs, u.oneCell' = true from fun u hu => by obtain ⟨y, _, rfl⟩ := List.mem_map.1 hu; rfl)
                        clear AD g10 HLR3 HLN3
                        dsimp only [cellsP] at HAD HNU
                        rcases (unhide OS).2 with ⟨hxa, hL0⟩ | ⟨g, cap, cur, hxa, hgl, hgh, hgc, _⟩
                        · cases hxa
                          have hi0 : i = 0 := by omega
                          subst hi0
                          have hz3 : nn + (jj + 1 + rv) = z := by rw [← hz]; simp
                          have ad := unhide HAD
                          rw [show (((0 : Nat) : Int) + 1) = 1 from rfl] at ad
                          have HAD2 := hide ad
                          have g15 := unhide G15'
                          rw [show (((0 : Nat) : Int) + 1) = 1 from rfl] at g15
                          clear G15'
                          have G15' := hide g15
                          clear ad g15
                          have N0 : w.heap.size ≤ wr.heap.size := by omega
                          go_wp2_with (first | (go_at_call 37; refine (unhide HNU _).mono ?_; rintro e w3 ⟨⟨K, rfl, hKa, hKb⟩, hb3⟩; have HB3 := hide hb3; have PB3 := hide ((unhide PBs).below hb3 (unhide PBs).lt); have t0 : w3.cell? ⟨w.heap.size, 0, none⟩ = some (.int .i64 B) := (unhide PB3).cell 0; have t1 : w3.cell? ⟨w.heap.size, 1, none⟩ = some (.int .i64 lo) := (unhide PB3).cell 1; have t2 : w3.cell? ⟨w.heap.size, 2, none⟩ = some (.int .i64 hi) := (unhide PB3).cell 2; have t3 : w3.cell? ⟨w.heap.size, 3, none⟩ = some (.int .i64 sk) := (unhide PB3).cell 3; have t4 : w3.cell? ⟨w.heap.size, 4, none⟩ = some (.int .i64 da) := (unhide PB3).cell 4; have t5 : w3.cell? ⟨w.heap.size, 5, none⟩ = some (.int .i64 bi) := (unhide PB3).cell 5; have t6 : w3.cell? ⟨w.heap.size, 6, none⟩ = some (.int .i32 fi) := (unhide PB3).cell 6; have hK2 : (j : Int) + K = (re : Int) + 1 := (by have := hKa (by trivial); omega); clear hb3 hKa hKb) | (go_at_call 32; refine (refWidth_any _ _).mono ?_; rintro e w4 ⟨rfl, hw4⟩; have hw5 := hw4.symm; clear hw4; subst hw5) | (at_builtin; refine wpList_append_own_none rfl _ _ 59 rfl wr.heap.size 21 i0 1 Try.underlying59 (unhide HI).1 _ 0 _ rfl (World.ownsRow_nil _ _ _ _) rfl ?_) | (at_builtin; refine wpList_append_own _ rfl _ _ 59 rfl wr.heap.size 21 i0 (.int .i32 0) 1 4 Try.underlying59 (unhide HI).1 (unhide HI).2.1 (unhide HI).2.2.1 (unhide HI).2.2.2 rfl (by decide) _ 0 _ rfl (World.ownsRow_nil _ _ _ _) ⟨w3.heap.size, 0, none⟩ 1 1 [.int .i32 z] rfl rfl ?c1 ?c2 ?c3 ?c4 ?c5 ?_))
                          case c1 =>
                            intro j u hj
                            rw [addRb, (Blk.new w3 #[.int .i32 z] 21).cell (0 + j), ← hj]
                            simp
                          case c2 => intro u hu; rw [List.mem_singleton.1 hu]; rfl
                          case c3 => unfold maxLen; omega
                          case c4 => omega
                          case c5 => have := (unhide HB3).size; simp; omega
                          intro v5 w5 h1 h2 _
                          have z3 := (unhide HB3).size
                          have HO5 := hide (show w5.ownsRow wr.heap.size 21 1 v5 1 [.int .i32 z] from h1)
                          have BL5 := hide ((((unhide BLs).trans ((unhide HB3).mono (by omega))).alloc (by omega) (.cells #[.int .i32 z] 21)).grown h2 (by simp; omega) (fun k e => by cases e))
                          have PB5 := hide (Blk.kept (Blk.alloc (unhide PB3) (.cells #[.int .i32 z] 21)) h2 (fun e => by cases e))
                          have z5 := (unhide BL5).size
                          obtain ⟨va5, vc5, rfl⟩ : ∃ va vc, v5 = .slice va 1 vc := by
                            rcases (unhide HO5).2 with ⟨rfl, h0⟩ | ⟨g, cap, cur, rfl, _⟩
                            · omega
                            · exact ⟨_, cap, rfl⟩
                          clear h1 h2
                          have x0 : w5.cell? ⟨w.heap.size, 0, none⟩ = some (.int .i64 B) := (unhide PB5).cell 0
                          have x1 : w5.cell? ⟨w.heap.size, 1, none⟩ = some (.int .i64 lo) := (unhide PB5).cell 1
                          have x2 : w5.cell? ⟨w.heap.size, 2, none⟩ = some (.int .i64 hi) := (unhide PB5).cell 2
                          have x3 : w5.cell? ⟨w.heap.size, 3, none⟩ = some (.int .i64 sk) := (unhide PB5).cell 3
                          have x4 : w5.cell? ⟨w.heap.size, 4, none⟩ = some (.int .i64 da) := (unhide PB5).cell 4
                          have x5 : w5.cell? ⟨w.heap.size, 5, none⟩ = some (.int .i64 bi) := (unhide PB5).cell 5
                          have x6 : w5.cell? ⟨w.heap.size, 6, none⟩ = some (.int .i32 fi) := (unhide PB5).cell 6
                          go_wp2_with (first | (at_builtin; refine wpList_append_own_none rfl _ _ 59 rfl wr.heap.size 21 i0 1 Try.underlying59 (unhide HI).1 _ 1 _ rfl (unhide HO5) rfl ?_) | (go_at_call 36; refine (unhide HAD2 _).mono ?_; rintro e w7 ⟨rfl, hb7⟩; have HB7 := hide hb7; clear hb7))
                          have OF := hide (show w7.ownsRow wr.heap.size 21 1 (.slice va5 1 vc5) (0 + 1) (encRb (zs.take 0 ++ z :: zs.drop 0)) by
                            have e1 : zs = [] := List.length_eq_zero_iff.1 (unhide HZL)
                            rw [e1]
                            simpa using (unhide HO5).kept (grown_of_below (unhide HB7)) (by cases va5 <;> simp [Value.ownBlock]))
                          have BLF := hide ((unhide BL5).trans ((unhide HB7).mono (by have := (unhide PB5).lt; omega)))
                          have PBF := hide ((unhide PB5).below (unhide HB7) (unhide PB5).lt)
                          go_roundw
                          case rel =>
                            refine ⟨zs.take 0 ++ z :: zs.drop 0, 0 + 1, re + 1, f, _, 2, z, ((0 : Nat) : Int), false, ?_, rfl, rfl, rfl, rfl, by go_num, by omega, by omega, hide (own_baseB (unhide OF) N0), BLF, PBF, adp_in (unhide HP) k3 (show rv < 2 ^ 60 by omega) q1 hd1, .inr ⟨rfl, rfl⟩, by omega, hz2, by omega, ?_, G15'⟩
                            · have := unhide HZL
                              rw [List.length_append, List.length_cons, List.length_take, List.length_drop]; omega
                            · refine hide (fun y hy => ?_)
                              rcases List.mem_append.1 hy with h | h
                              · exact unhide WD y (List.mem_of_mem_take h)
                              · rcases List.mem_cons.1 h with rfl | h
                                · exact hwz
                                · exact unhide WD y (List.mem_of_mem_drop h)
                          case measure => simp [intOf]; omega
                        · cases hxa
                          have hgN : g < wr.heap.size := by exact (Array.getElem?_eq_some_iff.1 hgh).1
                          clear hgh
                          have hc1 : (i : Int) ≤ (xc : Int) := by omega
                          have hc2 : ¬ (xc : Int) < (i : Int) := by omega
                          have hc3 : (i : Int) ≤ (L' : Int) := by omega
                          by_cases hxi : xc = i
                          · have e1 : L' = xc := by omega
                            subst e1
                            have e2 : L' = i := by omega
                            subst e2
                            clear hxi
                            have N0 : w.heap.size ≤ wr.heap.size := by omega
                            go_wp2_with (first | (go_at_call 37; refine (unhide HNU _).mono ?_; rintro e w3 ⟨⟨K, rfl, hKa, hKb⟩, hb3⟩; have HB3 := hide hb3; have PB3 := hide ((unhide PBs).below hb3 (unhide PBs).lt); have t0 : w3.cell? ⟨w.heap.size, 0, none⟩ = some (.int .i64 B) := (unhide PB3).cell 0; have t1 : w3.cell? ⟨w.heap.size, 1, none⟩ = some (.int .i64 lo) := (unhide PB3).cell 1; have t2 : w3.cell? ⟨w.heap.size, 2, none⟩ = some (.int .i64 hi) := (unhide PB3).cell 2; have t3 : w3.cell? ⟨w.heap.size, 3, none⟩ = some (.int .i64 sk) := (unhide PB3).cell 3; have t4 : w3.cell? ⟨w.heap.size, 4, none⟩ = some (.int .i64 da) := (unhide PB3).cell 4; have t5 : w3.cell? ⟨w.heap.size, 5, none⟩ = some (.int .i64 bi) := (unhide PB3).cell 5; have t6 : w3.cell? ⟨w.heap.size, 6, none⟩ = some (.int .i32 fi) := (unhide PB3).cell 6; have hK2 : (j : Int) + K = (re : Int) + 1 := (by have := hKa (by trivial); omega); clear hb3 hKa hKb) | (go_at_call 32; refine (refWidth_any _ _).mono ?_; rintro e w4 ⟨rfl, hw4⟩; have hw5 := hw4.symm; clear hw4; subst hw5) | (at_builtin; refine wpList_append_own _ rfl _ _ 59 rfl wr.heap.size 21 i0 (.int .i32 0) 1 4 Try.underlying59 (unhide HI).1 (unhide HI).2.1 (unhide HI).2.2.1 (unhide HI).2.2.2 rfl (by decide) _ 0 _ rfl (World.ownsRow_nil _ _ _ _) ⟨g, 0, none⟩ L' L' ((encRb zs).take L') rfl (by rw [List.length_take, List.length_map, unhide HZL]; omega) ?c1 ?c2 ?c3 ?c4 ?c5 ?_))
                            case c1 =>
                              intro j u hj
                              rw [List.getElem?_take] at hj
                              split at hj
                              · exact (World.ownsRow.kept (unhide OS) (grown_of_below (unhide HB3)) (.inr (by simp [Value.ownBlock]))).cells (g := g) rfl j u hj
                              · cases hj
                            case c2 => exact fun u hu => unhide H1C u (List.mem_of_mem_take hu)
                            case c3 => unfold maxLen; omega
                            case c4 => omega
                            case c5 => have := (unhide HB3).size; omega
                            intro v4 w4 h1 h2 _
                            have z3 := (unhide HB3).size
                            have HO4 := hide (show w4.ownsRow wr.heap.size 21 1 v4 L' ((encRb zs).take L') by simpa using h1)
                            have OS4 := hide ((World.ownsRow.kept (unhide OS) (grown_of_below (unhide HB3)) (.inr (by simp [Value.ownBlock]))).kept h2 (.inr (by simp [Value.ownBlock])))
                            have BL4 := hide (((unhide BLs).trans ((unhide HB3).mono (by omega))).grown h2 (by omega) (fun k e => by cases e))
                            have PB4 := hide (Blk.kept (unhide PB3) h2 (fun e => by cases e))
                            have z4 := h2.size
                            obtain ⟨va4, vc4, rfl⟩ : ∃ va vc, v4 = .slice va L' vc := by
                              rcases (unhide HO4).2 with ⟨rfl, h0⟩ | ⟨g, cap, cur, rfl, _⟩
                              · exact ⟨none, 0, by rw [h0]⟩
                              · exact ⟨_, cap, rfl⟩
                            have NE4 := hide (show (Value.slice va4 L' vc4).ownBlock ≠ some g from fun e => by have := (own_ltB (unhide HO4) g e).1; omega)
                            clear h1 h2
                            go_wp2_with (at_builtin; refine wpList_append_own _ rfl _ _ 59 rfl wr.heap.size 21 i0 (.int .i32 0) 1 4 Try.underlying59 (unhide HI).1 (unhide HI).2.1 (unhide HI).2.2.1 (unhide HI).2.2.2 rfl (by decide) _ L' _ rfl ((unhide HO4).alloc _) ⟨w4.heap.size, 0, none⟩ 1 1 [.int .i32 z] rfl rfl ?c1 ?c2 ?c3 ?c4 ?c5 ?_)
                            case c1 =>
                              intro j u hj
                              rw [addRb, (Blk.new w4 #[.int .i32 z] 21).cell (0 + j), ← hj]
                              simp
                            case c2 => intro u hu; rw [List.mem_singleton.1 hu]; rfl
                            case c3 => unfold maxLen; omega
                            case c4 => omega
                            case c5 => simp; omega
                            intro v5 w5 h1 h2 _
                            have HO5 := hide (show w5.ownsRow wr.heap.size 21 1 v5 (L' + 1) ((encRb zs).take L' ++ [.int .i32 z]) from h1)
                            have OS5 := hide (((unhide OS4).alloc (.cells #[.int .i32 z] 21)).kept h2 (.inr (fun e => unhide NE4 e.symm)))
                            have BL5 := hide (((unhide BL4).alloc (by omega) (.cells #[.int .i32 z] 21)).grown h2 (by simp; omega) (fun k e => by have := (own_ltB (unhide HO4) k e).1; omega))
                            have PB5 := hide (Blk.kept (Blk.alloc (unhide PB4) (.cells #[.int .i32 z] 21)) h2 (fun e => by have := (own_ltB (unhide HO4) _ e.symm).1; omega))
                            have z5 := h2.size
                            simp only [World.size_alloc] at z5
                            obtain ⟨va5, vc5, rfl⟩ : ∃ va vc, v5 = .slice va (L' + 1) vc := by
                              rcases (unhide HO5).2 with ⟨rfl, h0⟩ | ⟨g, cap, cur, rfl, _⟩
                              · omega
                              · exact ⟨_, cap, rfl⟩
                            have NE5 := hide (show (Value.slice va5 (L' + 1) vc5).ownBlock ≠ some g from fun e => by have := (own_ltB (unhide HO5) g e).1; omega)
                            clear h1 h2
                            go_wp2_with (at_builtin; refine wpList_append_own _ rfl _ _ 59 rfl wr.heap.size 21 i0 (.int .i32 0) 1 4 Try.underlying59 (unhide HI).1 (unhide HI).2.1 (unhide HI).2.2.1 (unhide HI).2.2.2 rfl (by decide) _ (L' + 1) _ rfl (unhide HO5) ⟨g, 0, none⟩ 0 0 [] rfl rfl ?c1 ?c2 ?c3 ?c4 ?c5 ?_)
                            case c1 => intro j u hj; cases hj
                            case c2 => intro u hu; cases hu
                            case c3 => unfold maxLen; omega
                            case c4 => omega
                            case c5 => omega
                            intro v6 w6 h1 h2 _
                            have HO6 := hide (show w6.ownsRow wr.heap.size 21 1 v6 (L' + 1) (encRb (zs.take L' ++ z :: zs.drop L')) by
                              first | rw [Nat.add_zero, List.append_nil] at h1 | skip
                              have e1 : zs.take L' = zs := List.take_of_length_le (by rw [unhide HZL]; omega)
                              have e2 : zs.drop L' = [] := List.drop_of_length_le (by rw [unhide HZL]; omega)
                              rw [e1, e2]
                              have e3 : (encRb zs).take L' = encRb zs := List.take_of_length_le (by rw [List.length_map, unhide HZL]; omega)
                              rw [e3] at h1
                              simpa using h1)
                            have BL6 := hide ((unhide BL5).grown h2 (by omega) (fun k e => by have := (own_ltB (unhide HO5) k e).1; omega))
                            have PB6 := hide (Blk.kept (unhide PB5) h2 (fun e => by have := (own_ltB (unhide HO5) _ e.symm).1; omega))
                            have z6 := h2.size
                            obtain ⟨va6, vc6, rfl⟩ : ∃ va vc, v6 = .slice va (L' + 1) vc := by
                              rcases (unhide HO6).2 with ⟨rfl, h0⟩ | ⟨g, cap, cur, rfl, _⟩
                              · omega
                              · exact ⟨_, cap, rfl⟩
                            clear h1 h2
                            have x0 : w6.cell? ⟨w.heap.size, 0, none⟩ = some (.int .i64 B) := (unhide PB6).cell 0
                            have x1 : w6.cell? ⟨w.heap.size, 1, none⟩ = some (.int .i64 lo) := (unhide PB6).cell 1
                            have x2 : w6.cell? ⟨w.heap.size, 2, none⟩ = some (.int .i64 hi) := (unhide PB6).cell 2
                            have x3 : w6.cell? ⟨w.heap.size, 3, none⟩ = some (.int .i64 sk) := (unhide PB6).cell 3
                            have x4 : w6.cell? ⟨w.heap.size, 4, none⟩ = some (.int .i64 da) := (unhide PB6).cell 4
                            have x5 : w6.cell? ⟨w.heap.size, 5, none⟩ = some (.int .i64 bi) := (unhide PB6).cell 5
                            have x6 : w6.cell? ⟨w.heap.size, 6, none⟩ = some (.int .i32 fi) := (unhide PB6).cell 6
                            go_wp2_with (go_at_call 36; refine (unhide HAD _).mono ?_; rintro e w7 ⟨rfl, hb7⟩; have HB7 := hide hb7; clear hb7)
                            have OF := hide ((unhide HO6).kept (grown_of_below (unhide HB7)) (by cases va6 <;> simp [Value.ownBlock]))
                            have BLF := hide ((unhide BL6).trans ((unhide HB7).mono (by have := (unhide PB6).lt; omega)))
                            have PBF := hide ((unhide PB6).below (unhide HB7) (unhide PB6).lt)
                            go_roundw
                            case rel =>
                              refine ⟨zs.take L' ++ z :: zs.drop L', L' + 1, re + 1, f, _, 2, z, (L' : Int), false, ?_, rfl, rfl, rfl, rfl, by go_num, by omega, by omega, hide (own_baseB (unhide OF) N0), BLF, PBF, adp_in (unhide HP) k3 (show rv < 2 ^ 60 by omega) q1 hd1, .inr ⟨rfl, rfl⟩, by omega, hz2, by omega, ?_, G15'⟩
                              · have := unhide HZL
                                rw [List.length_append, List.length_cons, List.length_take, List.length_drop]; omega
                              · refine hide (fun y hy => ?_)
                                rcases List.mem_append.1 hy with h | h
                                · exact unhide WD y (List.mem_of_mem_take h)
                                · rcases List.mem_cons.1 h with rfl | h
                                  · exact hwz
                                  · exact unhide WD y (List.mem_of_mem_drop h)
                            case measure => simp [intOf]; omega
                          · have hxi2 : ¬ i = xc := fun e => hxi e.symm
                            have N0 : w.heap.size ≤ wr.heap.size := by omega
                            go_wp2_with (first | (go_at_call 37; refine (unhide HNU _).mono ?_; rintro e w3 ⟨⟨K, rfl, hKa, hKb⟩, hb3⟩; have HB3 := hide hb3; have PB3 := hide ((unhide PBs).below hb3 (unhide PBs).lt); have t0 : w3.cell? ⟨w.heap.size, 0, none⟩ = some (.int .i64 B) := (unhide PB3).cell 0; have t1 : w3.cell? ⟨w.heap.size, 1, none⟩ = some (.int .i64 lo) := (unhide PB3).cell 1; have t2 : w3.cell? ⟨w.heap.size, 2, none⟩ = some (.int .i64 hi) := (unhide PB3).cell 2; have t3 : w3.cell? ⟨w.heap.size, 3, none⟩ = some (.int .i64 sk) := (unhide PB3).cell 3; have t4 : w3.cell? ⟨w.heap.size, 4, none⟩ = some (.int .i64 da) := (unhide PB3).cell 4; have t5 : w3.cell? ⟨w.heap.size, 5, none⟩ = some (.int .i64 bi) := (unhide PB3).cell 5; have t6 : w3.cell? ⟨w.heap.size, 6, none⟩ = some (.int .i32 fi) := (unhide PB3).cell 6; have hK2 : (j : Int) + K = (re : Int) + 1 := (by have := hKa (by trivial); omega); clear hb3 hKa hKb) | (go_at_call 32; refine (refWidth_any _ _).mono ?_; rintro e w4 ⟨rfl, hw4⟩; have hw5 := hw4.symm; clear hw4; subst hw5) | (at_builtin; refine wpList_append_own _ rfl _ _ 59 rfl wr.heap.size 21 i0 (.int .i32 0) 1 4 Try.underlying59 (unhide HI).1 (unhide HI).2.1 (unhide HI).2.2.1 (unhide HI).2.2.2 rfl (by decide) _ 0 _ rfl (World.ownsRow_nil _ _ _ _) ⟨g, 0, none⟩ i xc ((encRb zs).take i) rfl (by rw [List.length_take, List.length_map, unhide HZL]; omega) ?c1 ?c2 ?c3 ?c4 ?c5 ?_))
                            case c1 =>
                              intro j u hj
                              rw [List.getElem?_take] at hj
                              split at hj
                              · exact (World.ownsRow.kept (unhide OS) (grown_of_below (unhide HB3)) (.inr (by simp [Value.ownBlock]))).cells (g := g) rfl j u hj
                              · cases hj
                            case c2 => exact fun u hu => unhide H1C u (List.mem_of_mem_take hu)
                            case c3 => unfold maxLen; omega
                            case c4 => omega
                            case c5 => have := (unhide HB3).size; omega
                            intro v4 w4 h1 h2 _
                            have z3 := (unhide HB3).size
                            have HO4 := hide (show w4.ownsRow wr.heap.size 21 1 v4 i ((encRb zs).take i) by simpa using h1)
                            have OS4 := hide ((World.ownsRow.kept (unhide OS) (grown_of_below (unhide HB3)) (.inr (by simp [Value.ownBlock]))).kept h2 (.inr (by simp [Value.ownBlock])))
                            have BL4 := hide (((unhide BLs).trans ((unhide HB3).mono (by omega))).grown h2 (by omega) (fun k e => by cases e))
                            have PB4 := hide (Blk.kept (unhide PB3) h2 (fun e => by cases e))
                            have z4 := h2.size
                            obtain ⟨va4, vc4, rfl⟩ : ∃ va vc, v4 = .slice va i vc := by
                              rcases (unhide HO4).2 with ⟨rfl, h0⟩ | ⟨g, cap, cur, rfl, _⟩
                              · exact ⟨none, 0, by rw [h0]⟩
                              · exact ⟨_, cap, rfl⟩
                            have NE4 := hide (show (Value.slice va4 i vc4).ownBlock ≠ some g from fun e => by have := (own_ltB (unhide HO4) g e).1; omega)
                            clear h1 h2
                            go_wp2_with (at_builtin; refine wpList_append_own _ rfl _ _ 59 rfl wr.heap.size 21 i0 (.int .i32 0) 1 4 Try.underlying59 (unhide HI).1 (unhide HI).2.1 (unhide HI).2.2.1 (unhide HI).2.2.2 rfl (by decide) _ i _ rfl ((unhide HO4).alloc _) ⟨w4.heap.size, 0, none⟩ 1 1 [.int .i32 z] rfl rfl ?c1 ?c2 ?c3 ?c4 ?c5 ?_)
                            case c1 =>
                              intro j u hj
                              rw [addRb, (Blk.new w4 #[.int .i32 z] 21).cell (0 + j), ← hj]
                              simp
                            case c2 => intro u hu; rw [List.mem_singleton.1 hu]; rfl
                            case c3 => unfold maxLen; omega
                            case c4 => omega
                            case c5 => simp; omega
                            intro v5 w5 h1 h2 _
                            have HO5 := hide (show w5.ownsRow wr.heap.size 21 1 v5 (i + 1) ((encRb zs).take i ++ [.int .i32 z]) from h1)
                            have OS5 := hide (((unhide OS4).alloc (.cells #[.int .i32 z] 21)).kept h2 (.inr (fun e => unhide NE4 e.symm)))
                            have BL5 := hide (((unhide BL4).alloc (by omega) (.cells #[.int .i32 z] 21)).grown h2 (by simp; omega) (fun k e => by have := (own_ltB (unhide HO4) k e).1; omega))
                            have PB5 := hide (Blk.kept (Blk.alloc (unhide PB4) (.cells #[.int .i32 z] 21)) h2 (fun e => by have := (own_ltB (unhide HO4) _ e.symm).1; omega))
                            have z5 := h2.size
                            simp only [World.size_alloc] at z5
                            obtain ⟨va5, vc5, rfl⟩ : ∃ va vc, v5 = .slice va (i + 1) vc := by
                              rcases (unhide HO5).2 with ⟨rfl, h0⟩ | ⟨g, cap, cur, rfl, _⟩
                              · omega
                              · exact ⟨_, cap, rfl⟩
                            have NE5 := hide (show (Value.slice va5 (i + 1) vc5).ownBlock ≠ some g from fun e => by have := (own_ltB (unhide HO5) g e).1; omega)
                            clear h1 h2
                            go_wp2_with (at_builtin; refine wpList_append_own _ rfl _ _ 59 rfl wr.heap.size 21 i0 (.int .i32 0) 1 4 Try.underlying59 (unhide HI).1 (unhide HI).2.1 (unhide HI).2.2.1 (unhide HI).2.2.2 rfl (by decide) _ (i + 1) _ rfl (unhide HO5) ⟨g, i, none⟩ (L' - i) (xc - i) ((encRb zs).drop i) rfl (by rw [List.length_drop, List.length_map, unhide HZL]; omega) ?c1 ?c2 ?c3 ?c4 ?c5 ?_)
                            case c1 =>
                              intro j u hj
                              rw [List.getElem?_drop] at hj
                              have h3 := (unhide OS5).cells (g := g) rfl (i + j) u hj
                              rw [addRb] at h3 ⊢
                              simpa [Nat.add_assoc] using h3
                            case c2 => exact fun u hu => unhide H1C u (List.mem_of_mem_drop hu)
                            case c3 => unfold maxLen; omega
                            case c4 => omega
                            case c5 => omega
                            intro v6 w6 h1 h2 _
                            have HO6 := hide (show w6.ownsRow wr.heap.size 21 1 v6 (L' + 1) (encRb (zs.take i ++ z :: zs.drop i)) by
                              rw [show L' + 1 = i + 1 + (L' - i) by omega]
                              simpa [encRb, List.map_take, List.map_drop] using h1)
                            have BL6 := hide ((unhide BL5).grown h2 (by omega) (fun k e => by have := (own_ltB (unhide HO5) k e).1; omega))
                            have PB6 := hide (Blk.kept (unhide PB5) h2 (fun e => by have := (own_ltB (unhide HO5) _ e.symm).1; omega))
                            have z6 := h2.size
                            obtain ⟨va6, vc6, rfl⟩ : ∃ va vc, v6 = .slice va (L' + 1) vc := by
                              rcases (unhide HO6).2 with ⟨rfl, h0⟩ | ⟨g, cap, cur, rfl, _⟩
                              · omega
                              · exact ⟨_, cap, rfl⟩
                            clear h1 h2
                            have x0 : w6.cell? ⟨w.heap.size, 0, none⟩ = some (.int .i64 B) := (unhide PB6).cell 0
                            have x1 : w6.cell? ⟨w.heap.size, 1, none⟩ = some (.int .i64 lo) := (unhide PB6).cell 1
                            have x2 : w6.cell? ⟨w.heap.size, 2, none⟩ = some (.int .i64 hi) := (unhide PB6).cell 2
                            have x3 : w6.cell? ⟨w.heap.size, 3, none⟩ = some (.int .i64 sk) := (unhide PB6).cell 3
                            have x4 : w6.cell? ⟨w.heap.size, 4, none⟩ = some (.int .i64 da) := (unhide PB6).cell 4
                            have x5 : w6.cell? ⟨w.heap.size, 5, none⟩ = some (.int .i64 bi) := (unhide PB6).cell 5
                            have x6 : w6.cell? ⟨w.heap.size, 6, none⟩ = some (.int .i32 fi) := (unhide PB6).cell 6
                            go_wp2_with (go_at_call 36; refine (unhide HAD _).mono ?_; rintro e w7 ⟨rfl, hb7⟩; have HB7 := hide hb7; clear hb7)
                            have OF := hide ((unhide HO6).kept (grown_of_below (unhide HB7)) (by cases va6 <;> simp [Value.ownBlock]))
                            have BLF := hide ((unhide BL6).trans ((unhide HB7).mono (by have := (unhide PB6).lt; omega)))
                            have PBF := hide ((unhide PB6).below (unhide HB7) (unhide PB6).lt)
                            go_roundw
                            case rel =>
                              refine ⟨zs.take i ++ z :: zs.drop i, L' + 1, re + 1, f, _, 2, z, (i : Int), false, ?_, rfl, rfl, rfl, rfl, by go_num, by omega, by omega, hide (own_baseB (unhide OF) N0), BLF, PBF, adp_in (unhide HP) k3 (show rv < 2 ^ 60 by omega) q1 hd1, .inr ⟨rfl, rfl⟩, by omega, hz2, by omega, ?_, G15'⟩
                              · have := unhide HZL
                                rw [List.length_append, List.length_cons, List.length_take, List.length_drop]; omega
                              · refine hide (fun y hy => ?_)
                                rcases List.mem_append.1 hy with h | h
                                · exact unhide WD y (List.mem_of_mem_take h)
                                · rcases List.mem_cons.1 h with rfl | h
                                  · exact hwz
                                  · exact unhide WD y (List.mem_of_mem_drop h)
                            case measure => simp [intOf]; omega
                    · have he2 : (ree != 0) = true := by simpa using hee
                      obtain rfl : T = ([], re, ree) := (unhide G15).symm.trans (unhide HLB hee)
                      obtain rfl : DV = (⟨#[]⟩, re, ree) := by rw [← unhide HD3, if_pos hee]
                      dsimp only [cellsP] at HNU
                      go_wp2_with (go_at_call 37; refine (unhide HNU _).mono ?_; rintro e w3 ⟨⟨K, rfl, hKa, hKb⟩, hb3⟩; have HB3 := hide hb3; have PB3 := hide ((unhide PBs).below hb3 (unhide PBs).lt); have t0 : w3.cell? ⟨w.heap.size, 0, none⟩ = some (.int .i64 B) := (unhide PB3).cell 0; have t1 : w3.cell? ⟨w.heap.size, 1, none⟩ = some (.int .i64 lo) := (unhide PB3).cell 1; have t2 : w3.cell? ⟨w.heap.size, 2, none⟩ = some (.int .i64 hi) := (unhide PB3).cell 2; have t3 : w3.cell? ⟨w.heap.size, 3, none⟩ = some (.int .i64 sk) := (unhide PB3).cell 3; have t4 : w3.cell? ⟨w.heap.size, 4, none⟩ = some (.int .i64 da) := (unhide PB3).cell 4; have t5 : w3.cell? ⟨w.heap.size, 5, none⟩ = some (.int .i64 bi) := (unhide PB3).cell 5; have t6 : w3.cell? ⟨w.heap.size, 6, none⟩ = some (.int .i32 fi) := (unhide PB3).cell 6; have hK2 : K = (re : Int) := hKb hee; subst hK2; clear hb3 hKa hKb)
                      go_ret3
                      exact ⟨rfl, (unhide BLs).trans ((unhide HB3).mono (by omega))⟩
                · have hj1 : ¬ (j : Int) < (a.size : Int) := by omega
                  obtain rfl : T = (zs, 0, 0) := (unhide G15).symm.trans (layF_end (by omega))
                  obtain rfl : DV = (runesBytes zs, 0, 0) := by rw [← unhide HD3, if_neg (show ¬ ((0 : Int) ≠ 0) by decide)]
                  have TX := refTxt_any (unhide HZL) (unhide OS) (unhide WD) (by omega)
                  have HTX := hide TX
                  clear TX
                  go_wp2_with (go_at_call 38; refine (unhide HTX).mono ?_; rintro e w3 ⟨rfl, hb3⟩; have HB3 := hide hb3; clear hb3)
                  go_ret3
                  exact ⟨rfl, (unhide BLs).trans ((unhide HB3).mono (by omega))⟩

      ·
        have hk1 : k = -1 := by omega
        subst hk1
        clear hk hkn
        have hj0 : (lastH a + 1).toNat = 0 := by rw [unhide HL]; rfl
        have hL0 : lastH a ≠ 0 := by rw [unhide HL]; decide
        obtain ⟨m, hmi⟩ : ∃ m, m = (0 : Nat) := ⟨_, rfl⟩
        obtain ⟨j0, hj00⟩ : ∃ j0 : Nat, j0 = 0 := ⟨_, rfl⟩
        rw [← hj00] at hj0
        have hm : m ≤ a.size := by omega
        have hSm : headH a = a.extract 0 m := by unfold headH; rw [unhide HL, hmi]; rfl
        have HM0 := hide hmi
        have hLI : (-1 : Int) + 1 = (j0 : Int) := by omega
        have hj0a : j0 ≤ a.size := by omega
        have hq : ∀ q : Nat, (q < m) ↔ ((q : Int) < (-1 : Int)) := fun q => by omega
        clear hmi hj00
        obtain ⟨S, hS⟩ : ∃ S, headH a = S := ⟨_, rfl⟩
        have hSz : S.size = m := by rw [← hS, hSm, ByteArray.size_extract]; omega
        have hSb : ∀ q, q < m → bt S q = bt a q := fun q hq => by rw [← hS, hSm]; exact bt_head a m q hm hq
        obtain ⟨R, hR⟩ : ∃ R, refV S = R := ⟨_, rfl⟩
        have hRV : refF S m 0 = R := by rw [← hR]; unfold refV; rw [hSz]
        have hDV2 := unhide HDV
        rw [if_neg hL0, hS, hR] at hDV2
        have HDV2 := hide hDV2
        have HS := hide (And.intro hS (And.intro hSz hSb))
        have HR2 := hide hR
        have HJ0 := hide hj0
        have HQ := hide hq
        have HLI := hide hLI
        obtain ⟨i0, hif, hz0, hz1, hz2⟩ := info_parts infoRb
        have HI := hide (And.intro hif (And.intro hz0 (And.intro hz1 hz2)))
        have hnil : wr.ownsRow w.heap.size 21 1 (.slice none 0 0) 0 (encRb (bytesH S 0)) := World.ownsRow_nil _ _ _ _
        have HNIL := hide hnil
        clear hDV2 hS hR hj0 hSz hSb hSm hL0 hif hz0 hz1 hz2 hq hLI hnil
        have HRV := hide hRV
        clear hRV
        go_wp2_with fail
        go_loopw [8, 9] (fun l x wr => ∃ (q f : Nat), x = .int .i64 q ∧ f + q = m ∧ Hz (wr.ownsRow w.heap.size 21 1 l q (encRb (bytesH S q))) ∧ Hz (refF S f q = R) ∧ Hz (∀ j, j < q → basicB (bt S j) = true) ∧ q ≤ 4096 ∧ Hz (Below w.heap.size w wr) ∧ Hz (Blk wr w.heap.size (cellsP ⟨B, lo, hi, sk, da, bi, fi⟩) 24)) (fun _ x _ => m - (intOf x).toNat)
        case atStart => exact ⟨0, m, rfl, by omega, HNIL, HRV, hide (fun j h => absurd h (Nat.not_lt_zero _)), by omega, BL, PB⟩
        case round =>
          obtain ⟨q, f, rfl, hf, HO, HF, HBS, hq4, BLr, PBr⟩ := hrel
          clear HNIL HRV BL PB
          obtain ⟨xa, xc, rfl⟩ : ∃ xa xc, u8 = .slice xa q xc := by
            rcases (unhide HO).2 with ⟨rfl, h0⟩ | ⟨g, cap, cur, rfl, _⟩
            · exact ⟨none, 0, by rw [h0]⟩
            · exact ⟨_, cap, rfl⟩
          have hbl := (unhide PBr).lt
          by_cases hqm : q < m
          · exact absurd hqm (by have := unhide HM0; omega)
          · have hqI : ¬ (q : Int) < (-1 : Int) := fun h => hqm ((unhide HQ q).2 h)
            have hqe : q = m := by omega
            obtain rfl : R = (0, 0) := (unhide HF).symm.trans (refF_end (by rw [(unhide HS).2.1]; omega))
            have hRS : runesL S = bytesH S q := by
              have h1 : ∀ j, j < S.size → bt S j < 128 := fun j hj => by
                have := (basic_lo (unhide HBS j (by rw [(unhide HS).2.1] at hj; omega))).2
                omega
              rw [runesL_lo h1, (unhide HS).2.1, hqe]
            have hD3 := unhide HDV2
            rw [if_neg (by decide)] at hD3
            obtain ⟨T, hT⟩ : ∃ T, tailD ⟨B, lo, hi, sk, da, bi, fi⟩ a = T := ⟨_, rfl⟩
            rw [hT] at hD3
            unfold tailD at hT
            rw [(unhide HS).1, hRS, unhide HJ0] at hT
            have hlen := bytesH_len S q
            have hwd : ∀ z ∈ bytesH S q, widthOf z ≠ 0 := by rw [← hRS]; exact runesL_runes S
            generalize bytesH S q = RS at *
            have HD3 := hide hD3
            have HT := hide hT
            have HWD := hide hwd
            have HLN := hide hlen
            have hLI := unhide HLI
            have HQ4 := hq4
            clear hD3 hT hwd hlen hRS HDV2 HF HBS HQ HS HR2 HDV hqm hqe
            have c0 : wr.cell? ⟨w.heap.size, 0, none⟩ = some (.int .i64 B) := (unhide PBr).cell 0
            have c1 : wr.cell? ⟨w.heap.size, 1, none⟩ = some (.int .i64 lo) := (unhide PBr).cell 1
            have c2 : wr.cell? ⟨w.heap.size, 2, none⟩ = some (.int .i64 hi) := (unhide PBr).cell 2
            have c3 : wr.cell? ⟨w.heap.size, 3, none⟩ = some (.int .i64 sk) := (unhide PBr).cell 3
            have c4 : wr.cell? ⟨w.heap.size, 4, none⟩ = some (.int .i64 da) := (unhide PBr).cell 4
            have c5 : wr.cell? ⟨w.heap.size, 5, none⟩ = some (.int .i64 bi) := (unhide PBr).cell 5
            have c6 : wr.cell? ⟨w.heap.size, 6, none⟩ = some (.int .i32 fi) := (unhide PBr).cell 6
            have hfi2 := hfi
            go_wp2_with fail
            go_loopw [8, 10, 11, 12, 13, 14] (fun l b n jv fb x ws => ∃ (zs : List Int) (L' j f : Nat) (bias d nn jj : Int) (fbv : Bool), zs.length = L' ∧ b = .int .i64 bias ∧ n = .int .i32 nn ∧ jv = .int .i64 jj ∧ fb = .bool fbv ∧ x = .int .i64 j ∧ j ≤ a.size ∧ a.size < f + j ∧ Hz (ws.ownsRow w.heap.size 21 1 l L' (encRb zs)) ∧ Hz (Below w.heap.size w ws) ∧ Hz (Blk ws w.heap.size (cellsP ⟨B, lo, hi, sk, da, bi, fi⟩) 24) ∧ (0 ≤ bias ∧ bias ≤ 4000) ∧ ((fbv = true ∧ d = da) ∨ (fbv = false ∧ d = 2)) ∧ L' ≤ 4096 ∧ (0 ≤ nn ∧ nn ≤ 1114111) ∧ (0 ≤ jj + 1 ∧ jj + 1 ≤ 5000) ∧ Hz (∀ z ∈ zs, widthOf z ≠ 0) ∧ Hz (layF ⟨B, lo, hi, sk, da, bi, fi⟩ a f zs j bias d nn (jj + 1) = T)) (fun _ _ _ _ _ x _ => a.size - (intOf x).toNat)
            case atStart =>
              have hpp := unhide HP
              have hbiA : 0 ≤ bi ∧ bi ≤ 4000 := ⟨hpp.2.2.2.2.2.2.2.2.2.1, Int.le_trans hpp.2.2.2.2.2.2.2.2.2.2.1 (by decide)⟩
              exact ⟨RS, q, j0, a.size + 1, bi, da, fi, -1, true, unhide HLN, rfl, rfl, rfl, rfl, rfl, hj0a, by omega, HO, BLr, PBr, hbiA, .inl ⟨rfl, rfl⟩, HQ4, hfi2, by omega, HWD, HT⟩
            case round =>
              clear HO BLr PBr HWD HT HLN c0 c1 c2 c3 c4 c5 c6
              obtain ⟨zs, L', j, f, bias, d, nn, jj, fbv, g1, rfl, rfl, rfl, rfl, rfl, g2, g3, OS, BLs, PBs, g9, g10, g11, g12, g13, WD, G15⟩ := hrel
              have HZL := hide g1
              clear g1
              obtain ⟨xa, xc, rfl⟩ : ∃ xa xc, u8 = .slice xa L' xc := by
                rcases (unhide OS).2 with ⟨rfl, h0⟩ | ⟨g, cap, cur, rfl, _⟩
                · exact ⟨none, 0, by rw [h0]⟩
                · exact ⟨_, cap, rfl⟩
              have hbs := (unhide PBs).lt
              have hd1 : 1 ≤ d := by have := (unhide HP).2.2.2.2.2.2.2.1; have e : (Pm.mk B lo hi sk da bi fi).da = da := rfl; rcases g10 with h | h <;> omega
              have s0 : wr.cell? ⟨w.heap.size, 0, none⟩ = some (.int .i64 B) := (unhide PBs).cell 0
              have s1 : wr.cell? ⟨w.heap.size, 1, none⟩ = some (.int .i64 lo) := (unhide PBs).cell 1
              have s2 : wr.cell? ⟨w.heap.size, 2, none⟩ = some (.int .i64 hi) := (unhide PBs).cell 2
              have s3 : wr.cell? ⟨w.heap.size, 3, none⟩ = some (.int .i64 sk) := (unhide PBs).cell 3
              have s4 : wr.cell? ⟨w.heap.size, 4, none⟩ = some (.int .i64 da) := (unhide PBs).cell 4
              have s5 : wr.cell? ⟨w.heap.size, 5, none⟩ = some (.int .i64 bi) := (unhide PBs).cell 5
              have s6 : wr.cell? ⟨w.heap.size, 6, none⟩ = some (.int .i32 fi) := (unhide PBs).cell 6
              by_cases hja : j < a.size
              · have hj1 : (j : Int) < (a.size : Int) := by omega
                have hjn : ¬ a.size ≤ j := by omega
                obtain ⟨f, rfl⟩ : ∃ f', f = f' + 1 := ⟨f - 1, by omega⟩
                by_cases h4 : L' = 4096
                · subst h4
                  obtain rfl : T = ([], j, 4) := (unhide G15).symm.trans (layF_many hjn (unhide HZL))
                  obtain rfl : DV = (⟨#[]⟩, j, 4) := by rw [← unhide HD3, if_pos (show ¬ ((4 : Int) = 0) by decide)]
                  go_wp2_with fail
                  go_ret3
                  exact ⟨rfl, unhide BLs⟩
                · have h4n : ((L' : Int) == 4096) = false := by rw [beq_eq_false_iff_ne]; omega
                  have hok := rdN_ok (bias := bias) (h := (L' : Int)) (n := nn) (nx := jj + 1) (a := a) (unhide HP) (a.size - j) j 1 0 1 (by omega) (by omega) g2
                  obtain ⟨⟨rv, re, ree⟩, hr⟩ : ∃ r, rdN ⟨B, lo, hi, sk, da, bi, fi⟩ bias L' nn (jj + 1) a (a.size - j) j 1 0 1 = r := ⟨_, rfl⟩
                  have NU := fun w => refNum_any (unhide HP) g9 ⟨by omega, by omega⟩ g12 g13 a (by omega) j g2 rv re ree hr w
                  rw [hr] at hok
                  dsimp only at hok
                  have hlb := layF_bad (p := ⟨B, lo, hi, sk, da, bi, fi⟩) (a := a) (f := f) (l := zs) (j := j) (bias := bias) (d := d) (n := nn) (nx := jj + 1) (r := (rv, re, ree)) hjn (by rw [unhide HZL]; exact h4) (by rw [unhide HZL]; exact hr)
                  have hlr := layF_rune (p := ⟨B, lo, hi, sk, da, bi, fi⟩) (a := a) (f := f) (l := zs) (j := j) (bias := bias) (d := d) (n := nn) (nx := jj + 1) (r := (rv, re, ree)) hjn (by rw [unhide HZL]; exact h4) (by rw [unhide HZL]; exact hr)
                  have hln := layF_next (p := ⟨B, lo, hi, sk, da, bi, fi⟩) (a := a) (f := f) (l := zs) (j := j) (bias := bias) (d := d) (n := nn) (nx := jj + 1) (r := (rv, re, ree)) hjn (by rw [unhide HZL]; exact h4) (by rw [unhide HZL]; exact hr)
                  rw [unhide HZL] at hlr hln
                  dsimp only at hlb hlr hln
                  have HNU := hide NU
                  have HLB := hide hlb
                  have HLR := hide hlr
                  have HLN2 := hide hln
                  clear NU hlb hlr hln hr
                  by_cases hee : ree = 0
                  · subst hee
                    obtain ⟨k0, k1, -⟩ := hok
                    obtain ⟨k1, k2, k3, k4⟩ := k1 rfl
                    have q1 : 1 ≤ (L' : Int) + 1 := by omega
                    have q5 : ¬ (L' : Int) + 1 = 0 := by omega
                    have k5 := not_over k4 g12.1 g13.1 ⟨by omega, by omega⟩ k3
                    have ec : rv + (jj + 1) = jj + 1 + rv := by omega
                    rw [ec] at k4
                    have hlr := unhide HLR
                    have hln := unhide HLN2
                    rw [ec] at hlr hln
                    have q2 : 0 ≤ (jj + 1 + rv) / ((L' : Int) + 1) := Int.ediv_nonneg (by omega) (by omega)
                    have q3 : 0 ≤ (jj + 1 + rv) % ((L' : Int) + 1) := Int.emod_nonneg _ (by omega)
                    have q4 : (jj + 1 + rv) % ((L' : Int) + 1) < (L' : Int) + 1 := Int.emod_lt_of_pos _ (by omega)
                    have q6 : 0 ≤ jj + 1 + rv := by omega
                    obtain ⟨z, hz⟩ : ∃ z, nn + (jj + 1 + rv) / ((L' : Int) + 1) = z := ⟨_, rfl⟩
                    obtain ⟨i, hi'⟩ : ∃ i : Nat, (jj + 1 + rv) % ((L' : Int) + 1) = (i : Int) := ⟨((jj + 1 + rv) % ((L' : Int) + 1)).toNat, by omega⟩
                    have hz2 : 0 ≤ z ∧ z ≤ 1114111 := by omega
                    have hi2 : i ≤ L' := by omega
                    have qq : (jj + 1 + rv) / ((L' : Int) + 1) ≤ 1114111 := by omega
                    have HLR3 := hide hlr
                    have HLN3 := hide hln
                    clear HLB HLR HLN2 hlr hln k4 ec
                    by_cases hwz : widthOf z = 0
                    · obtain rfl : T = ([], re, 12) := (unhide G15).symm.trans (unhide HLR3 (by trivial) (by rw [hz]; exact hwz))
                      obtain rfl : DV = (⟨#[]⟩, re, 12) := by rw [← unhide HD3, if_pos (show ¬ ((12 : Int) = 0) by decide)]
                      have hwb : (widthOf z == 0) = true := by rw [hwz]; rfl
                      go_wp2_with (first | (go_at_call 37; refine (unhide HNU _).mono ?_; rintro e w3 ⟨⟨K, rfl, hKa, hKb⟩, hb3⟩; have HB3 := hide hb3; have PB3 := hide ((unhide PBs).below hb3 (unhide PBs).lt); have t0 : w3.cell? ⟨w.heap.size, 0, none⟩ = some (.int .i64 B) := (unhide PB3).cell 0; have t1 : w3.cell? ⟨w.heap.size, 1, none⟩ = some (.int .i64 lo) := (unhide PB3).cell 1; have t2 : w3.cell? ⟨w.heap.size, 2, none⟩ = some (.int .i64 hi) := (unhide PB3).cell 2; have t3 : w3.cell? ⟨w.heap.size, 3, none⟩ = some (.int .i64 sk) := (unhide PB3).cell 3; have t4 : w3.cell? ⟨w.heap.size, 4, none⟩ = some (.int .i64 da) := (unhide PB3).cell 4; have t5 : w3.cell? ⟨w.heap.size, 5, none⟩ = some (.int .i64 bi) := (unhide PB3).cell 5; have t6 : w3.cell? ⟨w.heap.size, 6, none⟩ = some (.int .i32 fi) := (unhide PB3).cell 6; have hK2 : (j : Int) + K = (re : Int) + 1 := (by have := hKa (by trivial); omega); clear hb3 hKa hKb) | (go_at_call 32; refine (refWidth_any _ _).mono ?_; rintro e w4 ⟨rfl, hw4⟩; have hw5 := hw4.symm; clear hw4; subst hw5))
                      go_ret3
                      exact ⟨rfl, (unhide BLs).trans ((unhide HB3).mono (by omega))⟩
                    · have hwb : (widthOf z == 0) = false := by rw [beq_eq_false_iff_ne]; exact hwz
                      have G15' := hide ((unhide HLN3 (by trivial) hz hwz hi').symm.trans (unhide G15))
                      have AD := fun w => (show Calls Try.prog 36 #[.agg (cellsP ⟨B, lo, hi, sk, da, bi, fi⟩), .int .i64 rv, .int .i64 ((L' : Int) + 1), .bool fbv] w fun e w' => e = .returned (.int .i64 (adp ⟨B, lo, hi, sk, da, bi, fi⟩ rv ((L' : Int) + 1) d)) ∧ Below w.heap.size w w' from by
                        rcases g10 with ⟨rfl, rfl⟩ | ⟨rfl, rfl⟩
                        · exact refAdp_first (unhide HP) (by omega) (by omega) w
                        · exact refAdp_more (unhide HP) (by omega) (by omega) w)
                      have HAD := hide AD
                      have H1C := hide (show ∀ u ∈ encRb zs, u.oneCell' = true from fun u hu => by obtain ⟨y, _, rfl⟩ := List.mem_map.1 hu; rfl)
                      clear AD g10 HLR3 HLN3
                      dsimp only [cellsP] at HAD HNU
                      rcases (unhide OS).2 with ⟨hxa, hL0⟩ | ⟨g, cap, cur, hxa, hgl, hgh, hgc, _⟩
                      · cases hxa
                        have hi0 : i = 0 := by omega
                        subst hi0
                        have hz3 : nn + (jj + 1 + rv) = z := by rw [← hz]; simp
                        have ad := unhide HAD
                        rw [show (((0 : Nat) : Int) + 1) = 1 from rfl] at ad
                        have HAD2 := hide ad
                        have g15 := unhide G15'
                        rw [show (((0 : Nat) : Int) + 1) = 1 from rfl] at g15
                        clear G15'
                        have G15' := hide g15
                        clear ad g15
                        have N0 : w.heap.size ≤ wr.heap.size := by omega
                        go_wp2_with (first | (go_at_call 37; refine (unhide HNU _).mono ?_; rintro e w3 ⟨⟨K, rfl, hKa, hKb⟩, hb3⟩; have HB3 := hide hb3; have PB3 := hide ((unhide PBs).below hb3 (unhide PBs).lt); have t0 : w3.cell? ⟨w.heap.size, 0, none⟩ = some (.int .i64 B) := (unhide PB3).cell 0; have t1 : w3.cell? ⟨w.heap.size, 1, none⟩ = some (.int .i64 lo) := (unhide PB3).cell 1; have t2 : w3.cell? ⟨w.heap.size, 2, none⟩ = some (.int .i64 hi) := (unhide PB3).cell 2; have t3 : w3.cell? ⟨w.heap.size, 3, none⟩ = some (.int .i64 sk) := (unhide PB3).cell 3; have t4 : w3.cell? ⟨w.heap.size, 4, none⟩ = some (.int .i64 da) := (unhide PB3).cell 4; have t5 : w3.cell? ⟨w.heap.size, 5, none⟩ = some (.int .i64 bi) := (unhide PB3).cell 5; have t6 : w3.cell? ⟨w.heap.size, 6, none⟩ = some (.int .i32 fi) := (unhide PB3).cell 6; have hK2 : (j : Int) + K = (re : Int) + 1 := (by have := hKa (by trivial); omega); clear hb3 hKa hKb) | (go_at_call 32; refine (refWidth_any _ _).mono ?_; rintro e w4 ⟨rfl, hw4⟩; have hw5 := hw4.symm; clear hw4; subst hw5) | (at_builtin; refine wpList_append_own_none rfl _ _ 59 rfl wr.heap.size 21 i0 1 Try.underlying59 (unhide HI).1 _ 0 _ rfl (World.ownsRow_nil _ _ _ _) rfl ?_) | (at_builtin; refine wpList_append_own _ rfl _ _ 59 rfl wr.heap.size 21 i0 (.int .i32 0) 1 4 Try.underlying59 (unhide HI).1 (unhide HI).2.1 (unhide HI).2.2.1 (unhide HI).2.2.2 rfl (by decide) _ 0 _ rfl (World.ownsRow_nil _ _ _ _) ⟨w3.heap.size, 0, none⟩ 1 1 [.int .i32 z] rfl rfl ?c1 ?c2 ?c3 ?c4 ?c5 ?_))
                        case c1 =>
                          intro j u hj
                          rw [addRb, (Blk.new w3 #[.int .i32 z] 21).cell (0 + j), ← hj]
                          simp
                        case c2 => intro u hu; rw [List.mem_singleton.1 hu]; rfl
                        case c3 => unfold maxLen; omega
                        case c4 => omega
                        case c5 => have := (unhide HB3).size; simp; omega
                        intro v5 w5 h1 h2 _
                        have z3 := (unhide HB3).size
                        have HO5 := hide (show w5.ownsRow wr.heap.size 21 1 v5 1 [.int .i32 z] from h1)
                        have BL5 := hide ((((unhide BLs).trans ((unhide HB3).mono (by omega))).alloc (by omega) (.cells #[.int .i32 z] 21)).grown h2 (by simp; omega) (fun k e => by cases e))
                        have PB5 := hide (Blk.kept (Blk.alloc (unhide PB3) (.cells #[.int .i32 z] 21)) h2 (fun e => by cases e))
                        have z5 := (unhide BL5).size
                        obtain ⟨va5, vc5, rfl⟩ : ∃ va vc, v5 = .slice va 1 vc := by
                          rcases (unhide HO5).2 with ⟨rfl, h0⟩ | ⟨g, cap, cur, rfl, _⟩
                          · omega
                          · exact ⟨_, cap, rfl⟩
                        clear h1 h2
                        have x0 : w5.cell? ⟨w.heap.size, 0, none⟩ = some (.int .i64 B) := (unhide PB5).cell 0
                        have x1 : w5.cell? ⟨w.heap.size, 1, none⟩ = some (.int .i64 lo) := (unhide PB5).cell 1
                        have x2 : w5.cell? ⟨w.heap.size, 2, none⟩ = some (.int .i64 hi) := (unhide PB5).cell 2
                        have x3 : w5.cell? ⟨w.heap.size, 3, none⟩ = some (.int .i64 sk) := (unhide PB5).cell 3
                        have x4 : w5.cell? ⟨w.heap.size, 4, none⟩ = some (.int .i64 da) := (unhide PB5).cell 4
                        have x5 : w5.cell? ⟨w.heap.size, 5, none⟩ = some (.int .i64 bi) := (unhide PB5).cell 5
                        have x6 : w5.cell? ⟨w.heap.size, 6, none⟩ = some (.int .i32 fi) := (unhide PB5).cell 6
                        go_wp2_with (first | (at_builtin; refine wpList_append_own_none rfl _ _ 59 rfl wr.heap.size 21 i0 1 Try.underlying59 (unhide HI).1 _ 1 _ rfl (unhide HO5) rfl ?_) | (go_at_call 36; refine (unhide HAD2 _).mono ?_; rintro e w7 ⟨rfl, hb7⟩; have HB7 := hide hb7; clear hb7))
                        have OF := hide (show w7.ownsRow wr.heap.size 21 1 (.slice va5 1 vc5) (0 + 1) (encRb (zs.take 0 ++ z :: zs.drop 0)) by
                          have e1 : zs = [] := List.length_eq_zero_iff.1 (unhide HZL)
                          rw [e1]
                          simpa using (unhide HO5).kept (grown_of_below (unhide HB7)) (by cases va5 <;> simp [Value.ownBlock]))
                        have BLF := hide ((unhide BL5).trans ((unhide HB7).mono (by have := (unhide PB5).lt; omega)))
                        have PBF := hide ((unhide PB5).below (unhide HB7) (unhide PB5).lt)
                        go_roundw
                        case rel =>
                          refine ⟨zs.take 0 ++ z :: zs.drop 0, 0 + 1, re + 1, f, _, 2, z, ((0 : Nat) : Int), false, ?_, rfl, rfl, rfl, rfl, by go_num, by omega, by omega, hide (own_baseB (unhide OF) N0), BLF, PBF, adp_in (unhide HP) k3 (show rv < 2 ^ 60 by omega) q1 hd1, .inr ⟨rfl, rfl⟩, by omega, hz2, by omega, ?_, G15'⟩
                          · have := unhide HZL
                            rw [List.length_append, List.length_cons, List.length_take, List.length_drop]; omega
                          · refine hide (fun y hy => ?_)
                            rcases List.mem_append.1 hy with h | h
                            · exact unhide WD y (List.mem_of_mem_take h)
                            · rcases List.mem_cons.1 h with rfl | h
                              · exact hwz
                              · exact unhide WD y (List.mem_of_mem_drop h)
                        case measure => simp [intOf]; omega
                      · cases hxa
                        have hgN : g < wr.heap.size := by exact (Array.getElem?_eq_some_iff.1 hgh).1
                        clear hgh
                        have hc1 : (i : Int) ≤ (xc : Int) := by omega
                        have hc2 : ¬ (xc : Int) < (i : Int) := by omega
                        have hc3 : (i : Int) ≤ (L' : Int) := by omega
                        by_cases hxi : xc = i
                        · have e1 : L' = xc := by omega
                          subst e1
                          have e2 : L' = i := by omega
                          subst e2
                          clear hxi
                          have N0 : w.heap.size ≤ wr.heap.size := by omega
                          go_wp2_with (first | (go_at_call 37; refine (unhide HNU _).mono ?_; rintro e w3 ⟨⟨K, rfl, hKa, hKb⟩, hb3⟩; have HB3 := hide hb3; have PB3 := hide ((unhide PBs).below hb3 (unhide PBs).lt); have t0 : w3.cell? ⟨w.heap.size, 0, none⟩ = some (.int .i64 B) := (unhide PB3).cell 0; have t1 : w3.cell? ⟨w.heap.size, 1, none⟩ = some (.int .i64 lo) := (unhide PB3).cell 1; have t2 : w3.cell? ⟨w.heap.size, 2, none⟩ = some (.int .i64 hi) := (unhide PB3).cell 2; have t3 : w3.cell? ⟨w.heap.size, 3, none⟩ = some (.int .i64 sk) := (unhide PB3).cell 3; have t4 : w3.cell? ⟨w.heap.size, 4, none⟩ = some (.int .i64 da) := (unhide PB3).cell 4; have t5 : w3.cell? ⟨w.heap.size, 5, none⟩ = some (.int .i64 bi) := (unhide PB3).cell 5; have t6 : w3.cell? ⟨w.heap.size, 6, none⟩ = some (.int .i32 fi) := (unhide PB3).cell 6; have hK2 : (j : Int) + K = (re : Int) + 1 := (by have := hKa (by trivial); omega); clear hb3 hKa hKb) | (go_at_call 32; refine (refWidth_any _ _).mono ?_; rintro e w4 ⟨rfl, hw4⟩; have hw5 := hw4.symm; clear hw4; subst hw5) | (at_builtin; refine wpList_append_own _ rfl _ _ 59 rfl wr.heap.size 21 i0 (.int .i32 0) 1 4 Try.underlying59 (unhide HI).1 (unhide HI).2.1 (unhide HI).2.2.1 (unhide HI).2.2.2 rfl (by decide) _ 0 _ rfl (World.ownsRow_nil _ _ _ _) ⟨g, 0, none⟩ L' L' ((encRb zs).take L') rfl (by rw [List.length_take, List.length_map, unhide HZL]; omega) ?c1 ?c2 ?c3 ?c4 ?c5 ?_))
                          case c1 =>
                            intro j u hj
                            rw [List.getElem?_take] at hj
                            split at hj
                            · exact (World.ownsRow.kept (unhide OS) (grown_of_below (unhide HB3)) (.inr (by simp [Value.ownBlock]))).cells (g := g) rfl j u hj
                            · cases hj
                          case c2 => exact fun u hu => unhide H1C u (List.mem_of_mem_take hu)
                          case c3 => unfold maxLen; omega
                          case c4 => omega
                          case c5 => have := (unhide HB3).size; omega
                          intro v4 w4 h1 h2 _
                          have z3 := (unhide HB3).size
                          have HO4 := hide (show w4.ownsRow wr.heap.size 21 1 v4 L' ((encRb zs).take L') by simpa using h1)
                          have OS4 := hide ((World.ownsRow.kept (unhide OS) (grown_of_below (unhide HB3)) (.inr (by simp [Value.ownBlock]))).kept h2 (.inr (by simp [Value.ownBlock])))
                          have BL4 := hide (((unhide BLs).trans ((unhide HB3).mono (by omega))).grown h2 (by omega) (fun k e => by cases e))
                          have PB4 := hide (Blk.kept (unhide PB3) h2 (fun e => by cases e))
                          have z4 := h2.size
                          obtain ⟨va4, vc4, rfl⟩ : ∃ va vc, v4 = .slice va L' vc := by
                            rcases (unhide HO4).2 with ⟨rfl, h0⟩ | ⟨g, cap, cur, rfl, _⟩
                            · exact ⟨none, 0, by rw [h0]⟩
                            · exact ⟨_, cap, rfl⟩
                          have NE4 := hide (show (Value.slice va4 L' vc4).ownBlock ≠ some g from fun e => by have := (own_ltB (unhide HO4) g e).1; omega)
                          clear h1 h2
                          go_wp2_with (at_builtin; refine wpList_append_own _ rfl _ _ 59 rfl wr.heap.size 21 i0 (.int .i32 0) 1 4 Try.underlying59 (unhide HI).1 (unhide HI).2.1 (unhide HI).2.2.1 (unhide HI).2.2.2 rfl (by decide) _ L' _ rfl ((unhide HO4).alloc _) ⟨w4.heap.size, 0, none⟩ 1 1 [.int .i32 z] rfl rfl ?c1 ?c2 ?c3 ?c4 ?c5 ?_)
                          case c1 =>
                            intro j u hj
                            rw [addRb, (Blk.new w4 #[.int .i32 z] 21).cell (0 + j), ← hj]
                            simp
                          case c2 => intro u hu; rw [List.mem_singleton.1 hu]; rfl
                          case c3 => unfold maxLen; omega
                          case c4 => omega
                          case c5 => simp; omega
                          intro v5 w5 h1 h2 _
                          have HO5 := hide (show w5.ownsRow wr.heap.size 21 1 v5 (L' + 1) ((encRb zs).take L' ++ [.int .i32 z]) from h1)
                          have OS5 := hide (((unhide OS4).alloc (.cells #[.int .i32 z] 21)).kept h2 (.inr (fun e => unhide NE4 e.symm)))
                          have BL5 := hide (((unhide BL4).alloc (by omega) (.cells #[.int .i32 z] 21)).grown h2 (by simp; omega) (fun k e => by have := (own_ltB (unhide HO4) k e).1; omega))
                          have PB5 := hide (Blk.kept (Blk.alloc (unhide PB4) (.cells #[.int .i32 z] 21)) h2 (fun e => by have := (own_ltB (unhide HO4) _ e.symm).1; omega))
                          have z5 := h2.size
                          simp only [World.size_alloc] at z5
                          obtain ⟨va5, vc5, rfl⟩ : ∃ va vc, v5 = .slice va (L' + 1) vc := by
                            rcases (unhide HO5).2 with ⟨rfl, h0⟩ | ⟨g, cap, cur, rfl, _⟩
                            · omega
                            · exact ⟨_, cap, rfl⟩
                          have NE5 := hide (show (Value.slice va5 (L' + 1) vc5).ownBlock ≠ some g from fun e => by have := (own_ltB (unhide HO5) g e).1; omega)
                          clear h1 h2
                          go_wp2_with (at_builtin; refine wpList_append_own _ rfl _ _ 59 rfl wr.heap.size 21 i0 (.int .i32 0) 1 4 Try.underlying59 (unhide HI).1 (unhide HI).2.1 (unhide HI).2.2.1 (unhide HI).2.2.2 rfl (by decide) _ (L' + 1) _ rfl (unhide HO5) ⟨g, 0, none⟩ 0 0 [] rfl rfl ?c1 ?c2 ?c3 ?c4 ?c5 ?_)
                          case c1 => intro j u hj; cases hj
                          case c2 => intro u hu; cases hu
                          case c3 => unfold maxLen; omega
                          case c4 => omega
                          case c5 => omega
                          intro v6 w6 h1 h2 _
                          have HO6 := hide (show w6.ownsRow wr.heap.size 21 1 v6 (L' + 1) (encRb (zs.take L' ++ z :: zs.drop L')) by
                            first | rw [Nat.add_zero, List.append_nil] at h1 | skip
                            have e1 : zs.take L' = zs := List.take_of_length_le (by rw [unhide HZL]; omega)
                            have e2 : zs.drop L' = [] := List.drop_of_length_le (by rw [unhide HZL]; omega)
                            rw [e1, e2]
                            have e3 : (encRb zs).take L' = encRb zs := List.take_of_length_le (by rw [List.length_map, unhide HZL]; omega)
                            rw [e3] at h1
                            simpa using h1)
                          have BL6 := hide ((unhide BL5).grown h2 (by omega) (fun k e => by have := (own_ltB (unhide HO5) k e).1; omega))
                          have PB6 := hide (Blk.kept (unhide PB5) h2 (fun e => by have := (own_ltB (unhide HO5) _ e.symm).1; omega))
                          have z6 := h2.size
                          obtain ⟨va6, vc6, rfl⟩ : ∃ va vc, v6 = .slice va (L' + 1) vc := by
                            rcases (unhide HO6).2 with ⟨rfl, h0⟩ | ⟨g, cap, cur, rfl, _⟩
                            · omega
                            · exact ⟨_, cap, rfl⟩
                          clear h1 h2
                          have x0 : w6.cell? ⟨w.heap.size, 0, none⟩ = some (.int .i64 B) := (unhide PB6).cell 0
                          have x1 : w6.cell? ⟨w.heap.size, 1, none⟩ = some (.int .i64 lo) := (unhide PB6).cell 1
                          have x2 : w6.cell? ⟨w.heap.size, 2, none⟩ = some (.int .i64 hi) := (unhide PB6).cell 2
                          have x3 : w6.cell? ⟨w.heap.size, 3, none⟩ = some (.int .i64 sk) := (unhide PB6).cell 3
                          have x4 : w6.cell? ⟨w.heap.size, 4, none⟩ = some (.int .i64 da) := (unhide PB6).cell 4
                          have x5 : w6.cell? ⟨w.heap.size, 5, none⟩ = some (.int .i64 bi) := (unhide PB6).cell 5
                          have x6 : w6.cell? ⟨w.heap.size, 6, none⟩ = some (.int .i32 fi) := (unhide PB6).cell 6
                          go_wp2_with (go_at_call 36; refine (unhide HAD _).mono ?_; rintro e w7 ⟨rfl, hb7⟩; have HB7 := hide hb7; clear hb7)
                          have OF := hide ((unhide HO6).kept (grown_of_below (unhide HB7)) (by cases va6 <;> simp [Value.ownBlock]))
                          have BLF := hide ((unhide BL6).trans ((unhide HB7).mono (by have := (unhide PB6).lt; omega)))
                          have PBF := hide ((unhide PB6).below (unhide HB7) (unhide PB6).lt)
                          go_roundw
                          case rel =>
                            refine ⟨zs.take L' ++ z :: zs.drop L', L' + 1, re + 1, f, _, 2, z, (L' : Int), false, ?_, rfl, rfl, rfl, rfl, by go_num, by omega, by omega, hide (own_baseB (unhide OF) N0), BLF, PBF, adp_in (unhide HP) k3 (show rv < 2 ^ 60 by omega) q1 hd1, .inr ⟨rfl, rfl⟩, by omega, hz2, by omega, ?_, G15'⟩
                            · have := unhide HZL
                              rw [List.length_append, List.length_cons, List.length_take, List.length_drop]; omega
                            · refine hide (fun y hy => ?_)
                              rcases List.mem_append.1 hy with h | h
                              · exact unhide WD y (List.mem_of_mem_take h)
                              · rcases List.mem_cons.1 h with rfl | h
                                · exact hwz
                                · exact unhide WD y (List.mem_of_mem_drop h)
                          case measure => simp [intOf]; omega
                        · have hxi2 : ¬ i = xc := fun e => hxi e.symm
                          have N0 : w.heap.size ≤ wr.heap.size := by omega
                          go_wp2_with (first | (go_at_call 37; refine (unhide HNU _).mono ?_; rintro e w3 ⟨⟨K, rfl, hKa, hKb⟩, hb3⟩; have HB3 := hide hb3; have PB3 := hide ((unhide PBs).below hb3 (unhide PBs).lt); have t0 : w3.cell? ⟨w.heap.size, 0, none⟩ = some (.int .i64 B) := (unhide PB3).cell 0; have t1 : w3.cell? ⟨w.heap.size, 1, none⟩ = some (.int .i64 lo) := (unhide PB3).cell 1; have t2 : w3.cell? ⟨w.heap.size, 2, none⟩ = some (.int .i64 hi) := (unhide PB3).cell 2; have t3 : w3.cell? ⟨w.heap.size, 3, none⟩ = some (.int .i64 sk) := (unhide PB3).cell 3; have t4 : w3.cell? ⟨w.heap.size, 4, none⟩ = some (.int .i64 da) := (unhide PB3).cell 4; have t5 : w3.cell? ⟨w.heap.size, 5, none⟩ = some (.int .i64 bi) := (unhide PB3).cell 5; have t6 : w3.cell? ⟨w.heap.size, 6, none⟩ = some (.int .i32 fi) := (unhide PB3).cell 6; have hK2 : (j : Int) + K = (re : Int) + 1 := (by have := hKa (by trivial); omega); clear hb3 hKa hKb) | (go_at_call 32; refine (refWidth_any _ _).mono ?_; rintro e w4 ⟨rfl, hw4⟩; have hw5 := hw4.symm; clear hw4; subst hw5) | (at_builtin; refine wpList_append_own _ rfl _ _ 59 rfl wr.heap.size 21 i0 (.int .i32 0) 1 4 Try.underlying59 (unhide HI).1 (unhide HI).2.1 (unhide HI).2.2.1 (unhide HI).2.2.2 rfl (by decide) _ 0 _ rfl (World.ownsRow_nil _ _ _ _) ⟨g, 0, none⟩ i xc ((encRb zs).take i) rfl (by rw [List.length_take, List.length_map, unhide HZL]; omega) ?c1 ?c2 ?c3 ?c4 ?c5 ?_))
                          case c1 =>
                            intro j u hj
                            rw [List.getElem?_take] at hj
                            split at hj
                            · exact (World.ownsRow.kept (unhide OS) (grown_of_below (unhide HB3)) (.inr (by simp [Value.ownBlock]))).cells (g := g) rfl j u hj
                            · cases hj
                          case c2 => exact fun u hu => unhide H1C u (List.mem_of_mem_take hu)
                          case c3 => unfold maxLen; omega
                          case c4 => omega
                          case c5 => have := (unhide HB3).size; omega
                          intro v4 w4 h1 h2 _
                          have z3 := (unhide HB3).size
                          have HO4 := hide (show w4.ownsRow wr.heap.size 21 1 v4 i ((encRb zs).take i) by simpa using h1)
                          have OS4 := hide ((World.ownsRow.kept (unhide OS) (grown_of_below (unhide HB3)) (.inr (by simp [Value.ownBlock]))).kept h2 (.inr (by simp [Value.ownBlock])))
                          have BL4 := hide (((unhide BLs).trans ((unhide HB3).mono (by omega))).grown h2 (by omega) (fun k e => by cases e))
                          have PB4 := hide (Blk.kept (unhide PB3) h2 (fun e => by cases e))
                          have z4 := h2.size
                          obtain ⟨va4, vc4, rfl⟩ : ∃ va vc, v4 = .slice va i vc := by
                            rcases (unhide HO4).2 with ⟨rfl, h0⟩ | ⟨g, cap, cur, rfl, _⟩
                            · exact ⟨none, 0, by rw [h0]⟩
                            · exact ⟨_, cap, rfl⟩
                          have NE4 := hide (show (Value.slice va4 i vc4).ownBlock ≠ some g from fun e => by have := (own_ltB (unhide HO4) g e).1; omega)
                          clear h1 h2
                          go_wp2_with (at_builtin; refine wpList_append_own _ rfl _ _ 59 rfl wr.heap.size 21 i0 (.int .i32 0) 1 4 Try.underlying59 (unhide HI).1 (unhide HI).2.1 (unhide HI).2.2.1 (unhide HI).2.2.2 rfl (by decide) _ i _ rfl ((unhide HO4).alloc _) ⟨w4.heap.size, 0, none⟩ 1 1 [.int .i32 z] rfl rfl ?c1 ?c2 ?c3 ?c4 ?c5 ?_)
                          case c1 =>
                            intro j u hj
                            rw [addRb, (Blk.new w4 #[.int .i32 z] 21).cell (0 + j), ← hj]
                            simp
                          case c2 => intro u hu; rw [List.mem_singleton.1 hu]; rfl
                          case c3 => unfold maxLen; omega
                          case c4 => omega
                          case c5 => simp; omega
                          intro v5 w5 h1 h2 _
                          have HO5 := hide (show w5.ownsRow wr.heap.size 21 1 v5 (i + 1) ((encRb zs).take i ++ [.int .i32 z]) from h1)
                          have OS5 := hide (((unhide OS4).alloc (.cells #[.int .i32 z] 21)).kept h2 (.inr (fun e => unhide NE4 e.symm)))
                          have BL5 := hide (((unhide BL4).alloc (by omega) (.cells #[.int .i32 z] 21)).grown h2 (by simp; omega) (fun k e => by have := (own_ltB (unhide HO4) k e).1; omega))
                          have PB5 := hide (Blk.kept (Blk.alloc (unhide PB4) (.cells #[.int .i32 z] 21)) h2 (fun e => by have := (own_ltB (unhide HO4) _ e.symm).1; omega))
                          have z5 := h2.size
                          simp only [World.size_alloc] at z5
                          obtain ⟨va5, vc5, rfl⟩ : ∃ va vc, v5 = .slice va (i + 1) vc := by
                            rcases (unhide HO5).2 with ⟨rfl, h0⟩ | ⟨g, cap, cur, rfl, _⟩
                            · omega
                            · exact ⟨_, cap, rfl⟩
                          have NE5 := hide (show (Value.slice va5 (i + 1) vc5).ownBlock ≠ some g from fun e => by have := (own_ltB (unhide HO5) g e).1; omega)
                          clear h1 h2
                          go_wp2_with (at_builtin; refine wpList_append_own _ rfl _ _ 59 rfl wr.heap.size 21 i0 (.int .i32 0) 1 4 Try.underlying59 (unhide HI).1 (unhide HI).2.1 (unhide HI).2.2.1 (unhide HI).2.2.2 rfl (by decide) _ (i + 1) _ rfl (unhide HO5) ⟨g, i, none⟩ (L' - i) (xc - i) ((encRb zs).drop i) rfl (by rw [List.length_drop, List.length_map, unhide HZL]; omega) ?c1 ?c2 ?c3 ?c4 ?c5 ?_)
                          case c1 =>
                            intro j u hj
                            rw [List.getElem?_drop] at hj
                            have h3 := (unhide OS5).cells (g := g) rfl (i + j) u hj
                            rw [addRb] at h3 ⊢
                            simpa [Nat.add_assoc] using h3
                          case c2 => exact fun u hu => unhide H1C u (List.mem_of_mem_drop hu)
                          case c3 => unfold maxLen; omega
                          case c4 => omega
                          case c5 => omega
                          intro v6 w6 h1 h2 _
                          have HO6 := hide (show w6.ownsRow wr.heap.size 21 1 v6 (L' + 1) (encRb (zs.take i ++ z :: zs.drop i)) by
                            rw [show L' + 1 = i + 1 + (L' - i) by omega]
                            simpa [encRb, List.map_take, List.map_drop] using h1)
                          have BL6 := hide ((unhide BL5).grown h2 (by omega) (fun k e => by have := (own_ltB (unhide HO5) k e).1; omega))
                          have PB6 := hide (Blk.kept (unhide PB5) h2 (fun e => by have := (own_ltB (unhide HO5) _ e.symm).1; omega))
                          have z6 := h2.size
                          obtain ⟨va6, vc6, rfl⟩ : ∃ va vc, v6 = .slice va (L' + 1) vc := by
                            rcases (unhide HO6).2 with ⟨rfl, h0⟩ | ⟨g, cap, cur, rfl, _⟩
                            · omega
                            · exact ⟨_, cap, rfl⟩
                          clear h1 h2
                          have x0 : w6.cell? ⟨w.heap.size, 0, none⟩ = some (.int .i64 B) := (unhide PB6).cell 0
                          have x1 : w6.cell? ⟨w.heap.size, 1, none⟩ = some (.int .i64 lo) := (unhide PB6).cell 1
                          have x2 : w6.cell? ⟨w.heap.size, 2, none⟩ = some (.int .i64 hi) := (unhide PB6).cell 2
                          have x3 : w6.cell? ⟨w.heap.size, 3, none⟩ = some (.int .i64 sk) := (unhide PB6).cell 3
                          have x4 : w6.cell? ⟨w.heap.size, 4, none⟩ = some (.int .i64 da) := (unhide PB6).cell 4
                          have x5 : w6.cell? ⟨w.heap.size, 5, none⟩ = some (.int .i64 bi) := (unhide PB6).cell 5
                          have x6 : w6.cell? ⟨w.heap.size, 6, none⟩ = some (.int .i32 fi) := (unhide PB6).cell 6
                          go_wp2_with (go_at_call 36; refine (unhide HAD _).mono ?_; rintro e w7 ⟨rfl, hb7⟩; have HB7 := hide hb7; clear hb7)
                          have OF := hide ((unhide HO6).kept (grown_of_below (unhide HB7)) (by cases va6 <;> simp [Value.ownBlock]))
                          have BLF := hide ((unhide BL6).trans ((unhide HB7).mono (by have := (unhide PB6).lt; omega)))
                          have PBF := hide ((unhide PB6).below (unhide HB7) (unhide PB6).lt)
                          go_roundw
                          case rel =>
                            refine ⟨zs.take i ++ z :: zs.drop i, L' + 1, re + 1, f, _, 2, z, (i : Int), false, ?_, rfl, rfl, rfl, rfl, by go_num, by omega, by omega, hide (own_baseB (unhide OF) N0), BLF, PBF, adp_in (unhide HP) k3 (show rv < 2 ^ 60 by omega) q1 hd1, .inr ⟨rfl, rfl⟩, by omega, hz2, by omega, ?_, G15'⟩
                            · have := unhide HZL
                              rw [List.length_append, List.length_cons, List.length_take, List.length_drop]; omega
                            · refine hide (fun y hy => ?_)
                              rcases List.mem_append.1 hy with h | h
                              · exact unhide WD y (List.mem_of_mem_take h)
                              · rcases List.mem_cons.1 h with rfl | h
                                · exact hwz
                                · exact unhide WD y (List.mem_of_mem_drop h)
                          case measure => simp [intOf]; omega
                  · have he2 : (ree != 0) = true := by simpa using hee
                    obtain rfl : T = ([], re, ree) := (unhide G15).symm.trans (unhide HLB hee)
                    obtain rfl : DV = (⟨#[]⟩, re, ree) := by rw [← unhide HD3, if_pos hee]
                    dsimp only [cellsP] at HNU
                    go_wp2_with (go_at_call 37; refine (unhide HNU _).mono ?_; rintro e w3 ⟨⟨K, rfl, hKa, hKb⟩, hb3⟩; have HB3 := hide hb3; have PB3 := hide ((unhide PBs).below hb3 (unhide PBs).lt); have t0 : w3.cell? ⟨w.heap.size, 0, none⟩ = some (.int .i64 B) := (unhide PB3).cell 0; have t1 : w3.cell? ⟨w.heap.size, 1, none⟩ = some (.int .i64 lo) := (unhide PB3).cell 1; have t2 : w3.cell? ⟨w.heap.size, 2, none⟩ = some (.int .i64 hi) := (unhide PB3).cell 2; have t3 : w3.cell? ⟨w.heap.size, 3, none⟩ = some (.int .i64 sk) := (unhide PB3).cell 3; have t4 : w3.cell? ⟨w.heap.size, 4, none⟩ = some (.int .i64 da) := (unhide PB3).cell 4; have t5 : w3.cell? ⟨w.heap.size, 5, none⟩ = some (.int .i64 bi) := (unhide PB3).cell 5; have t6 : w3.cell? ⟨w.heap.size, 6, none⟩ = some (.int .i32 fi) := (unhide PB3).cell 6; have hK2 : K = (re : Int) := hKb hee; subst hK2; clear hb3 hKa hKb)
                    go_ret3
                    exact ⟨rfl, (unhide BLs).trans ((unhide HB3).mono (by omega))⟩
              · have hj1 : ¬ (j : Int) < (a.size : Int) := by omega
                obtain rfl : T = (zs, 0, 0) := (unhide G15).symm.trans (layF_end (by omega))
                obtain rfl : DV = (runesBytes zs, 0, 0) := by rw [← unhide HD3, if_neg (show ¬ ((0 : Int) ≠ 0) by decide)]
                have TX := refTxt_any (unhide HZL) (unhide OS) (unhide WD) (by omega)
                have HTX := hide TX
                clear TX
                go_wp2_with (go_at_call 38; refine (unhide HTX).mono ?_; rintro e w3 ⟨rfl, hb3⟩; have HB3 := hide hb3; clear hb3)
                go_ret3
                exact ⟨rfl, (unhide BLs).trans ((unhide HB3).mono (by omega))⟩

end Go.Proofs.Ythjndkjbjflmfaa
