/- The closed sentence of the names. -/
import Derived.Test.YthjndkjbjflmfaaBvK
namespace Go.Proofs.Ythjndkjbjflmfaa
open Go.RowKit Go.Shelf
set_option linter.unusedVariables false
abbrev nB : ByteArray := ⟨#[97, 98, 99]⟩
abbrev nBf : ByteArray := ⟨#[97, 98, 99, 45]⟩
abbrev nC : ByteArray := ⟨#[65]⟩
abbrev nD : ByteArray := ⟨#[45]⟩
abbrev nE : ByteArray := ⟨#[122]⟩
abbrev nF : ByteArray := ⟨#[97, 45, 45]⟩
abbrev nG : ByteArray := ⟨#[97, 45]⟩
abbrev zeroP : Pm := ⟨0, 0, 0, 0, 0, 0, 0⟩
theorem nm_b (w : World) : Calls Try.prog 14 #[.agg (cellsP houseP), .string nB] w fun e w' => e = .returned (.tuple #[.string nBf, .int .i64 0]) ∧ Below w.heap.size w w' :=
  have hst : starts nB = [0, 1, 2] := by decide +kernel
  have h0 : rn nB 0 = 97 := by decide +kernel
  have h1 : rn nB 1 = 98 := by decide +kernel
  have h2 : rn nB 2 = 99 := by decide +kernel
  enc_low house_right nB (by decide) (by rw [hst]; intro i hi; simp at hi; rcases hi with rfl | rfl | rfl <;> simp [h0, h1, h2]) (b := [97, 98, 99]) (a := [0, 1, 2]) (n := 3) rfl rfl (by decide) (by decide) nBf (by decide) (by rfl) (by
    rw [hst, ptF, ptF, ptF, ptF, h0, h1, h2]; decide +kernel) w
theorem nm_e (w : World) : Calls Try.prog 14 #[.agg (cellsP houseP), .string ⟨#[]⟩] w fun e w' => e = .returned (.tuple #[.string ⟨#[]⟩, .int .i64 0]) ∧ Below w.heap.size w w' :=
  have hst : starts (⟨#[]⟩ : ByteArray) = [] := by decide +kernel
  enc_none house_right ⟨#[]⟩ (by decide) (by rw [hst]; simp) (by rw [hst]; rfl) w
theorem nm_c (w : World) : Calls Try.prog 14 #[.agg (cellsP houseP), .string nC] w fun e w' => e = .returned (.tuple #[.string ⟨#[]⟩, .int .i64 50]) ∧ Below w.heap.size w w' :=
  have hst : starts nC = [0] := by decide +kernel
  have h0 : rn nC 0 = 65 := by decide +kernel
  enc_err house_right nC (by decide) (by rw [hst]; intro i hi; simp at hi; subst hi; rw [h0]; decide) (E := 50) (by decide) (by
    rw [hst, ptF, h0]; decide +kernel) w
theorem nm_d (w : World) : Calls Try.prog 15 #[.agg (cellsP houseP), .string nD] w fun e w' => e = .returned (.tuple #[.string ⟨#[]⟩, .int .i64 0, .int .i64 52]) ∧ Below w.heap.size w w' := by
  have h := dec_any houseP nD (by decide) w
  rw [show decV houseP nD = (⟨#[]⟩, 0, 52) by decide +kernel] at h
  exact h
theorem nm_z (w : World) : Calls Try.prog 15 #[.agg (cellsP houseP), .string nE] w fun e w' => e = .returned (.tuple #[.string ⟨#[]⟩, .int .i64 1, .int .i64 21]) ∧ Below w.heap.size w w' := by
  have h := dec_any houseP nE (by decide) w
  rw [show decV houseP nE = (⟨#[]⟩, 1, 21) by decide +kernel] at h
  exact h
theorem nm_f (w : World) : Calls Try.prog 15 #[.agg (cellsP houseP), .string nF] w fun e w' => e = .returned (.tuple #[.string nG, .int .i64 0, .int .i64 0]) ∧ Below w.heap.size w w' := by
  have h := dec_any houseP nF (by decide) w
  rw [show decV houseP nF = (nG, 0, 0) by decide +kernel] at h
  exact h
theorem nm_r (w : World) : Calls Try.prog 13 #[.agg (cellsP houseP)] w fun e w' => e = .returned (.bool true) ∧ Below w.heap.size w w' := by
  have h := right_any houseP w
  rw [house_right] at h
  exact h
theorem nm_0 (w : World) : Calls Try.prog 13 #[.agg (cellsP zeroP)] w fun e w' => e = .returned (.bool false) ∧ Below w.heap.size w w' := by
  have h := right_any zeroP w
  rw [show rightB zeroP = false by decide +kernel] at h
  exact h
set_option maxRecDepth 100000 in
set_option maxHeartbeats 4000000 in
theorem names17 (w : World) : Calls Try.prog 3 #[] w fun e w' => e = .returned (.bool true) ∧ Below w.heap.size w w' := by
  have HH := hide house_any
  have HRH := hide refHouse_any
  have HPL := hide (fun w => plain_any houseP w)
  have HR := hide nm_r
  have HR0 := hide nm_0
  have HB := hide nm_b
  have HE := hide nm_e
  have HC := hide nm_c
  have HD := hide nm_d
  have HZ := hide nm_z
  have HF := hide nm_f
  dsimp only [cellsP] at HH HRH HPL HR HR0 HB HE HC HD HZ HF
  have BB := hide (Below.refl w.heap.size w)
  go_enter Try.func3, Try.ntmps3
  go_wp2_with (first
    | (go_at_call 9; refine (known_any _).mono ?_; rintro e w1 ⟨rfl, hb1⟩; replace BB := hide ((unhide BB).trans (hb1.mono (unhide BB).size)); clear hb1)
    | (go_at_call 11; refine (unhide HH _).mono ?_; rintro e w2 ⟨rfl, hb2⟩; replace BB := hide ((unhide BB).trans (hb2.mono (unhide BB).size)); clear hb2)
    | (go_at_call 10; refine (unhide HPL _).mono ?_; rintro e w2 ⟨rfl, hb2⟩; replace BB := hide ((unhide BB).trans (hb2.mono (unhide BB).size)); clear hb2))
  refine (unhide HRH _).mono ?_
  rintro e w4 ⟨rfl, hb4⟩
  replace BB := hide ((unhide BB).trans (hb4.mono (unhide BB).size))
  clear hb4
  go_wp2_with fail
  refine (unhide HH _).mono ?_
  rintro e w5 ⟨rfl, hb5⟩
  replace BB := hide ((unhide BB).trans (hb5.mono (unhide BB).size))
  clear hb5
  go_wp2_with fail
  refine (unhide HR _).mono ?_
  rintro e w6 ⟨rfl, hb6⟩
  replace BB := hide ((unhide BB).trans (hb6.mono (unhide BB).size))
  clear hb6
  go_wp2_with fail
  refine (unhide HR0 _).mono ?_
  rintro e w7 ⟨rfl, hb7⟩
  replace BB := hide ((unhide BB).trans (hb7.mono (unhide BB).size))
  clear hb7
  go_wp2_with fail
  refine (unhide HH _).mono ?_
  rintro e w8 ⟨rfl, hb8⟩
  replace BB := hide ((unhide BB).trans (hb8.mono (unhide BB).size))
  clear hb8
  go_wp2_with fail
  have PB0 := hide (Blk.new w8 #[.int .i64 36, .int .i64 2, .int .i64 24, .int .i64 40, .int .i64 600, .int .i64 64, .int .i32 128] 26)
  refine (unhide HB _).mono ?_
  rintro e w9 ⟨rfl, hb9⟩
  have L9 : Hz (w8.heap.size < w9.heap.size) := hide (by have := hb9.size; simp at this; omega)
  have P9 := hide ((unhide PB0).below hb9 (by simp))
  have B9 := hide (((unhide BB).alloc (unhide BB).size (.cells #[.int .i64 36, .int .i64 2, .int .i64 24, .int .i64 40, .int .i64 600, .int .i64 64, .int .i32 128] 26)).trans (hb9.mono (by have := (unhide BB).size; simp; omega)))
  clear hb9
  have p0 : w9.cell? ⟨w8.heap.size, 0, none⟩ = some (.int .i64 36) := (unhide P9).cell 0
  have p1 : w9.cell? ⟨w8.heap.size, 1, none⟩ = some (.int .i64 2) := (unhide P9).cell 1
  have p2 : w9.cell? ⟨w8.heap.size, 2, none⟩ = some (.int .i64 24) := (unhide P9).cell 2
  have p3 : w9.cell? ⟨w8.heap.size, 3, none⟩ = some (.int .i64 40) := (unhide P9).cell 3
  have p4 : w9.cell? ⟨w8.heap.size, 4, none⟩ = some (.int .i64 600) := (unhide P9).cell 4
  have p5 : w9.cell? ⟨w8.heap.size, 5, none⟩ = some (.int .i64 64) := (unhide P9).cell 5
  have p6 : w9.cell? ⟨w8.heap.size, 6, none⟩ = some (.int .i32 128) := (unhide P9).cell 6
  go_wp2_with fail
  clear p0 p1 p2 p3 p4 p5 p6
  refine (unhide HE _).mono ?_
  rintro e w10 ⟨rfl, hb10⟩
  have L10 := hide (Nat.lt_of_lt_of_le (unhide L9) hb10.size)
  have P10 := hide ((unhide P9).below hb10 (unhide L9))
  have B10 := hide ((unhide B9).trans (hb10.mono (unhide B9).size))
  clear hb10
  have p0 : w10.cell? ⟨w8.heap.size, 0, none⟩ = some (.int .i64 36) := (unhide P10).cell 0
  have p1 : w10.cell? ⟨w8.heap.size, 1, none⟩ = some (.int .i64 2) := (unhide P10).cell 1
  have p2 : w10.cell? ⟨w8.heap.size, 2, none⟩ = some (.int .i64 24) := (unhide P10).cell 2
  have p3 : w10.cell? ⟨w8.heap.size, 3, none⟩ = some (.int .i64 40) := (unhide P10).cell 3
  have p4 : w10.cell? ⟨w8.heap.size, 4, none⟩ = some (.int .i64 600) := (unhide P10).cell 4
  have p5 : w10.cell? ⟨w8.heap.size, 5, none⟩ = some (.int .i64 64) := (unhide P10).cell 5
  have p6 : w10.cell? ⟨w8.heap.size, 6, none⟩ = some (.int .i32 128) := (unhide P10).cell 6
  go_wp2_with fail
  clear p0 p1 p2 p3 p4 p5 p6
  refine (unhide HC _).mono ?_
  rintro e w11 ⟨rfl, hb11⟩
  have L11 := hide (Nat.lt_of_lt_of_le (unhide L10) hb11.size)
  have P11 := hide ((unhide P10).below hb11 (unhide L10))
  have B11 := hide ((unhide B10).trans (hb11.mono (unhide B10).size))
  clear hb11
  have p0 : w11.cell? ⟨w8.heap.size, 0, none⟩ = some (.int .i64 36) := (unhide P11).cell 0
  have p1 : w11.cell? ⟨w8.heap.size, 1, none⟩ = some (.int .i64 2) := (unhide P11).cell 1
  have p2 : w11.cell? ⟨w8.heap.size, 2, none⟩ = some (.int .i64 24) := (unhide P11).cell 2
  have p3 : w11.cell? ⟨w8.heap.size, 3, none⟩ = some (.int .i64 40) := (unhide P11).cell 3
  have p4 : w11.cell? ⟨w8.heap.size, 4, none⟩ = some (.int .i64 600) := (unhide P11).cell 4
  have p5 : w11.cell? ⟨w8.heap.size, 5, none⟩ = some (.int .i64 64) := (unhide P11).cell 5
  have p6 : w11.cell? ⟨w8.heap.size, 6, none⟩ = some (.int .i32 128) := (unhide P11).cell 6
  go_wp2_with fail
  clear p0 p1 p2 p3 p4 p5 p6
  refine (unhide HD _).mono ?_
  rintro e w12 ⟨rfl, hb12⟩
  have L12 := hide (Nat.lt_of_lt_of_le (unhide L11) hb12.size)
  have P12 := hide ((unhide P11).below hb12 (unhide L11))
  have B12 := hide ((unhide B11).trans (hb12.mono (unhide B11).size))
  clear hb12
  have p0 : w12.cell? ⟨w8.heap.size, 0, none⟩ = some (.int .i64 36) := (unhide P12).cell 0
  have p1 : w12.cell? ⟨w8.heap.size, 1, none⟩ = some (.int .i64 2) := (unhide P12).cell 1
  have p2 : w12.cell? ⟨w8.heap.size, 2, none⟩ = some (.int .i64 24) := (unhide P12).cell 2
  have p3 : w12.cell? ⟨w8.heap.size, 3, none⟩ = some (.int .i64 40) := (unhide P12).cell 3
  have p4 : w12.cell? ⟨w8.heap.size, 4, none⟩ = some (.int .i64 600) := (unhide P12).cell 4
  have p5 : w12.cell? ⟨w8.heap.size, 5, none⟩ = some (.int .i64 64) := (unhide P12).cell 5
  have p6 : w12.cell? ⟨w8.heap.size, 6, none⟩ = some (.int .i32 128) := (unhide P12).cell 6
  go_wp2_with fail
  clear p0 p1 p2 p3 p4 p5 p6
  refine (unhide HZ _).mono ?_
  rintro e w13 ⟨rfl, hb13⟩
  have L13 := hide (Nat.lt_of_lt_of_le (unhide L12) hb13.size)
  have P13 := hide ((unhide P12).below hb13 (unhide L12))
  have B13 := hide ((unhide B12).trans (hb13.mono (unhide B12).size))
  clear hb13
  have p0 : w13.cell? ⟨w8.heap.size, 0, none⟩ = some (.int .i64 36) := (unhide P13).cell 0
  have p1 : w13.cell? ⟨w8.heap.size, 1, none⟩ = some (.int .i64 2) := (unhide P13).cell 1
  have p2 : w13.cell? ⟨w8.heap.size, 2, none⟩ = some (.int .i64 24) := (unhide P13).cell 2
  have p3 : w13.cell? ⟨w8.heap.size, 3, none⟩ = some (.int .i64 40) := (unhide P13).cell 3
  have p4 : w13.cell? ⟨w8.heap.size, 4, none⟩ = some (.int .i64 600) := (unhide P13).cell 4
  have p5 : w13.cell? ⟨w8.heap.size, 5, none⟩ = some (.int .i64 64) := (unhide P13).cell 5
  have p6 : w13.cell? ⟨w8.heap.size, 6, none⟩ = some (.int .i32 128) := (unhide P13).cell 6
  go_wp2_with fail
  clear p0 p1 p2 p3 p4 p5 p6
  refine (unhide HF _).mono ?_
  rintro e w14 ⟨rfl, hb14⟩
  have L14 := hide (Nat.lt_of_lt_of_le (unhide L13) hb14.size)
  have P14 := hide ((unhide P13).below hb14 (unhide L13))
  have B14 := hide ((unhide B13).trans (hb14.mono (unhide B13).size))
  clear hb14
  have p0 : w14.cell? ⟨w8.heap.size, 0, none⟩ = some (.int .i64 36) := (unhide P14).cell 0
  have p1 : w14.cell? ⟨w8.heap.size, 1, none⟩ = some (.int .i64 2) := (unhide P14).cell 1
  have p2 : w14.cell? ⟨w8.heap.size, 2, none⟩ = some (.int .i64 24) := (unhide P14).cell 2
  have p3 : w14.cell? ⟨w8.heap.size, 3, none⟩ = some (.int .i64 40) := (unhide P14).cell 3
  have p4 : w14.cell? ⟨w8.heap.size, 4, none⟩ = some (.int .i64 600) := (unhide P14).cell 4
  have p5 : w14.cell? ⟨w8.heap.size, 5, none⟩ = some (.int .i64 64) := (unhide P14).cell 5
  have p6 : w14.cell? ⟨w8.heap.size, 6, none⟩ = some (.int .i32 128) := (unhide P14).cell 6
  go_wp2_with fail
  go_ret
  exact ⟨rfl, unhide B14⟩
end Go.Proofs.Ythjndkjbjflmfaa
