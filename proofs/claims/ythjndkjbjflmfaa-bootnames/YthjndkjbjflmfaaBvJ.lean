/- The law of Right: any parameters. -/
import Derived.Test.YthjndkjbjflmfaaBvI
namespace Go.Proofs.Ythjndkjbjflmfaa
open Go.RowKit Go.Shelf
set_option linter.unusedVariables false
abbrev sa1 : ByteArray := ⟨#[97]⟩
abbrev ta1 : ByteArray := ⟨#[97, 45]⟩
theorem sa1_starts : starts sa1 = [0] := by decide +kernel
theorem sa1_rune : rn sa1 0 = 97 := by decide +kernel
theorem dec_a {p : Pm} (hp : rightB p = true) : decV p ta1 = (sa1, 0, 0) := by
  have h1 : lastH ta1 = 1 := by decide +kernel
  have h3 : (refV (headH ta1)).2 = 0 := by decide +kernel
  have h4 : tailD p ta1 = ([97], 0, 0) := by
    unfold tailD
    rw [show runesL (headH ta1) = [97] by decide +kernel, h1]
    rfl
  unfold decV
  rw [if_neg (by simp [hp]), if_neg (by decide), if_neg (by rw [h1]; decide), if_neg (by rw [h3]; simp), if_neg (by rw [h4]; simp), h4]
  decide +kernel
theorem dec_na {p : Pm} (hp : rightB p = false) : decV p ta1 = (⟨#[]⟩, 0, 1) := by
  unfold decV
  rw [if_pos hp]
theorem enc_a {p : Pm} (hp : rightB p = true) (w : World) : Calls Try.prog 14 #[.agg (cellsP p), .string sa1] w fun e w' => e = .returned (.tuple #[.string ta1, .int .i64 0]) ∧ Below w.heap.size w w' :=
  enc_low hp sa1 (by decide) (by rw [sa1_starts]; intro i hi; simp at hi; subst hi; rw [sa1_rune]; decide) (b := [97]) (a := [0]) (n := 1) rfl rfl (by decide) (by decide) ta1 (by decide) (by rfl) (by
    rw [sa1_starts, ptF, if_neg (by decide), if_pos (by rw [sa1_rune]; decide), ptF, sa1_rune]; rfl) w
set_option maxRecDepth 100000 in
set_option maxHeartbeats 4000000 in
theorem right17_t (p : Pm) (h : rightB p = true) (w : World) : Calls Try.prog 4 #[.agg (cellsP p)] w fun e w' => e = .returned (.bool true) ∧ Below w.heap.size w w' := by
  have he : ∀ w, Calls Try.prog 14 #[.agg (cellsP p), .string sa1] w fun e w' => e = .returned (.tuple #[.string ta1, .int .i64 0]) ∧ Below w.heap.size w w' := fun w => enc_a h w
  have hd := fun w => dec_any p ta1 (by decide) w
  rw [dec_a h] at hd
  dsimp only [encD] at hd
  have hr := fun w => refRight_any p w
  have hb := fun w => right_any p w
  rw [h] at hr hb
  have hp := fun w => plain_any p w
  obtain ⟨B, lo, hi, sk, da, bi, fi⟩ := p
  dsimp only [cellsP] at *
  have HE := hide he
  have HD := hide hd
  have HR := hide hr
  have HB := hide hb
  have HPL := hide hp
  have PB0 := hide (Blk.new w #[.int .i64 B, .int .i64 lo, .int .i64 hi, .int .i64 sk, .int .i64 da, .int .i64 bi, .int .i32 fi] 26)
  clear he hd hr hb hp h
  go_enter Try.func4, Try.ntmps4
  go_wp2_with fail
  refine (unhide HE _).mono ?_
  rintro e w2 ⟨rfl, hb2⟩
  have L2 : Hz (w.heap.size < w2.heap.size) := hide (by have := hb2.size; simp at this; omega)
  have P2 := hide ((unhide PB0).below hb2 (by simp))
  have B2 := hide (((Below.refl _ w).alloc (Nat.le_refl _) _).trans (hb2.mono (by simp)))
  have p0 : w2.cell? ⟨w.heap.size, 0, none⟩ = some (.int .i64 B) := (unhide P2).cell 0
  have p1 : w2.cell? ⟨w.heap.size, 1, none⟩ = some (.int .i64 lo) := (unhide P2).cell 1
  have p2 : w2.cell? ⟨w.heap.size, 2, none⟩ = some (.int .i64 hi) := (unhide P2).cell 2
  have p3 : w2.cell? ⟨w.heap.size, 3, none⟩ = some (.int .i64 sk) := (unhide P2).cell 3
  have p4 : w2.cell? ⟨w.heap.size, 4, none⟩ = some (.int .i64 da) := (unhide P2).cell 4
  have p5 : w2.cell? ⟨w.heap.size, 5, none⟩ = some (.int .i64 bi) := (unhide P2).cell 5
  have p6 : w2.cell? ⟨w.heap.size, 6, none⟩ = some (.int .i32 fi) := (unhide P2).cell 6
  clear hb2
  go_wp2_with fail
  clear p0 p1 p2 p3 p4 p5 p6
  refine (unhide HD _).mono ?_
  rintro e w3 ⟨rfl, hb3⟩
  have L3 := hide (Nat.lt_of_lt_of_le (unhide L2) hb3.size)
  have P3 := hide ((unhide P2).below hb3 (unhide L2))
  have B3 := hide ((unhide B2).trans (hb3.mono (unhide B2).size))
  have p0 : w3.cell? ⟨w.heap.size, 0, none⟩ = some (.int .i64 B) := (unhide P3).cell 0
  have p1 : w3.cell? ⟨w.heap.size, 1, none⟩ = some (.int .i64 lo) := (unhide P3).cell 1
  have p2 : w3.cell? ⟨w.heap.size, 2, none⟩ = some (.int .i64 hi) := (unhide P3).cell 2
  have p3 : w3.cell? ⟨w.heap.size, 3, none⟩ = some (.int .i64 sk) := (unhide P3).cell 3
  have p4 : w3.cell? ⟨w.heap.size, 4, none⟩ = some (.int .i64 da) := (unhide P3).cell 4
  have p5 : w3.cell? ⟨w.heap.size, 5, none⟩ = some (.int .i64 bi) := (unhide P3).cell 5
  have p6 : w3.cell? ⟨w.heap.size, 6, none⟩ = some (.int .i32 fi) := (unhide P3).cell 6
  clear hb3
  go_wp2_with (go_at_call 10; refine (unhide HPL _).mono ?_; rintro e w4 ⟨rfl, hb4⟩; have L4 := hide (Nat.lt_of_lt_of_le (unhide L3) hb4.size); have P4 := hide ((unhide P3).below hb4 (unhide L3)); have B4 := hide ((unhide B3).trans (hb4.mono (unhide B3).size)); clear hb4)
  clear p0 p1 p2 p3 p4 p5 p6
  refine (unhide HR _).mono ?_
  rintro e w5 ⟨rfl, hb5⟩
  have L5 := hide (Nat.lt_of_lt_of_le (unhide L4) hb5.size)
  have P5 := hide ((unhide P4).below hb5 (unhide L4))
  have B5 := hide ((unhide B4).trans (hb5.mono (unhide B4).size))
  have p0 : w5.cell? ⟨w.heap.size, 0, none⟩ = some (.int .i64 B) := (unhide P5).cell 0
  have p1 : w5.cell? ⟨w.heap.size, 1, none⟩ = some (.int .i64 lo) := (unhide P5).cell 1
  have p2 : w5.cell? ⟨w.heap.size, 2, none⟩ = some (.int .i64 hi) := (unhide P5).cell 2
  have p3 : w5.cell? ⟨w.heap.size, 3, none⟩ = some (.int .i64 sk) := (unhide P5).cell 3
  have p4 : w5.cell? ⟨w.heap.size, 4, none⟩ = some (.int .i64 da) := (unhide P5).cell 4
  have p5 : w5.cell? ⟨w.heap.size, 5, none⟩ = some (.int .i64 bi) := (unhide P5).cell 5
  have p6 : w5.cell? ⟨w.heap.size, 6, none⟩ = some (.int .i32 fi) := (unhide P5).cell 6
  clear hb5
  go_wp2_with (first | (go_at_call 13; refine (unhide HB _).mono ?_; rintro e w6 ⟨rfl, hb6⟩; have B6 := hide ((unhide B5).trans (hb6.mono (unhide B5).size)); clear hb6) | (go_at_call 9; refine (known_any _).mono ?_; rintro e w7 ⟨rfl, hb7⟩; have B7 := hide ((unhide B6).trans (hb7.mono (unhide B6).size)); clear hb7))
  go_ret
  exact ⟨rfl, unhide B7⟩
set_option maxRecDepth 100000 in
set_option maxHeartbeats 4000000 in
theorem right17_f (p : Pm) (h : rightB p = false) (w : World) : Calls Try.prog 4 #[.agg (cellsP p)] w fun e w' => e = .returned (.bool true) ∧ Below w.heap.size w w' := by
  have he : ∀ w, Calls Try.prog 14 #[.agg (cellsP p), .string sa1] w fun e w' => e = .returned (.tuple #[.string ⟨#[]⟩, .int .i64 1]) ∧ Below w.heap.size w w' := fun w => enc_wrong h sa1 w
  have hd := fun w => dec_any p ta1 (by decide) w
  rw [dec_na h] at hd
  dsimp only [encD] at hd
  have hr := fun w => refRight_any p w
  have hb := fun w => right_any p w
  rw [h] at hr hb
  have hp := fun w => plain_any p w
  obtain ⟨B, lo, hi, sk, da, bi, fi⟩ := p
  dsimp only [cellsP] at *
  have HE := hide he
  have HD := hide hd
  have HR := hide hr
  have HB := hide hb
  have HPL := hide hp
  have PB0 := hide (Blk.new w #[.int .i64 B, .int .i64 lo, .int .i64 hi, .int .i64 sk, .int .i64 da, .int .i64 bi, .int .i32 fi] 26)
  clear he hd hr hb hp h
  go_enter Try.func4, Try.ntmps4
  go_wp2_with fail
  refine (unhide HE _).mono ?_
  rintro e w2 ⟨rfl, hb2⟩
  have L2 : Hz (w.heap.size < w2.heap.size) := hide (by have := hb2.size; simp at this; omega)
  have P2 := hide ((unhide PB0).below hb2 (by simp))
  have B2 := hide (((Below.refl _ w).alloc (Nat.le_refl _) _).trans (hb2.mono (by simp)))
  have p0 : w2.cell? ⟨w.heap.size, 0, none⟩ = some (.int .i64 B) := (unhide P2).cell 0
  have p1 : w2.cell? ⟨w.heap.size, 1, none⟩ = some (.int .i64 lo) := (unhide P2).cell 1
  have p2 : w2.cell? ⟨w.heap.size, 2, none⟩ = some (.int .i64 hi) := (unhide P2).cell 2
  have p3 : w2.cell? ⟨w.heap.size, 3, none⟩ = some (.int .i64 sk) := (unhide P2).cell 3
  have p4 : w2.cell? ⟨w.heap.size, 4, none⟩ = some (.int .i64 da) := (unhide P2).cell 4
  have p5 : w2.cell? ⟨w.heap.size, 5, none⟩ = some (.int .i64 bi) := (unhide P2).cell 5
  have p6 : w2.cell? ⟨w.heap.size, 6, none⟩ = some (.int .i32 fi) := (unhide P2).cell 6
  clear hb2
  go_wp2_with fail
  clear p0 p1 p2 p3 p4 p5 p6
  refine (unhide HD _).mono ?_
  rintro e w3 ⟨rfl, hb3⟩
  have L3 := hide (Nat.lt_of_lt_of_le (unhide L2) hb3.size)
  have P3 := hide ((unhide P2).below hb3 (unhide L2))
  have B3 := hide ((unhide B2).trans (hb3.mono (unhide B2).size))
  have p0 : w3.cell? ⟨w.heap.size, 0, none⟩ = some (.int .i64 B) := (unhide P3).cell 0
  have p1 : w3.cell? ⟨w.heap.size, 1, none⟩ = some (.int .i64 lo) := (unhide P3).cell 1
  have p2 : w3.cell? ⟨w.heap.size, 2, none⟩ = some (.int .i64 hi) := (unhide P3).cell 2
  have p3 : w3.cell? ⟨w.heap.size, 3, none⟩ = some (.int .i64 sk) := (unhide P3).cell 3
  have p4 : w3.cell? ⟨w.heap.size, 4, none⟩ = some (.int .i64 da) := (unhide P3).cell 4
  have p5 : w3.cell? ⟨w.heap.size, 5, none⟩ = some (.int .i64 bi) := (unhide P3).cell 5
  have p6 : w3.cell? ⟨w.heap.size, 6, none⟩ = some (.int .i32 fi) := (unhide P3).cell 6
  clear hb3
  go_wp2_with (go_at_call 10; refine (unhide HPL _).mono ?_; rintro e w4 ⟨rfl, hb4⟩; have L4 := hide (Nat.lt_of_lt_of_le (unhide L3) hb4.size); have P4 := hide ((unhide P3).below hb4 (unhide L3)); have B4 := hide ((unhide B3).trans (hb4.mono (unhide B3).size)); clear hb4)
  clear p0 p1 p2 p3 p4 p5 p6
  refine (unhide HR _).mono ?_
  rintro e w5 ⟨rfl, hb5⟩
  have L5 := hide (Nat.lt_of_lt_of_le (unhide L4) hb5.size)
  have P5 := hide ((unhide P4).below hb5 (unhide L4))
  have B5 := hide ((unhide B4).trans (hb5.mono (unhide B4).size))
  have p0 : w5.cell? ⟨w.heap.size, 0, none⟩ = some (.int .i64 B) := (unhide P5).cell 0
  have p1 : w5.cell? ⟨w.heap.size, 1, none⟩ = some (.int .i64 lo) := (unhide P5).cell 1
  have p2 : w5.cell? ⟨w.heap.size, 2, none⟩ = some (.int .i64 hi) := (unhide P5).cell 2
  have p3 : w5.cell? ⟨w.heap.size, 3, none⟩ = some (.int .i64 sk) := (unhide P5).cell 3
  have p4 : w5.cell? ⟨w.heap.size, 4, none⟩ = some (.int .i64 da) := (unhide P5).cell 4
  have p5 : w5.cell? ⟨w.heap.size, 5, none⟩ = some (.int .i64 bi) := (unhide P5).cell 5
  have p6 : w5.cell? ⟨w.heap.size, 6, none⟩ = some (.int .i32 fi) := (unhide P5).cell 6
  clear hb5
  go_wp2_with (first | (go_at_call 13; refine (unhide HB _).mono ?_; rintro e w6 ⟨rfl, hb6⟩; have B6 := hide ((unhide B5).trans (hb6.mono (unhide B5).size)); clear hb6) | (go_at_call 9; refine (known_any _).mono ?_; rintro e w7 ⟨rfl, hb7⟩; have B7 := hide ((unhide B6).trans (hb7.mono (unhide B6).size)); clear hb7))
  go_ret
  exact ⟨rfl, unhide B7⟩
theorem right17 (p : Pm) (w : World) : Calls Try.prog 4 #[.agg (cellsP p)] w fun e w' => e = .returned (.bool true) ∧ Below w.heap.size w w' := by
  cases h : rightB p
  · exact right17_f p h w
  · exact right17_t p h w
end Go.Proofs.Ythjndkjbjflmfaa
