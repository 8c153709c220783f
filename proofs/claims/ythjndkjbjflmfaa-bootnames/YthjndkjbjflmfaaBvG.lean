/- Some of the chapter's runs. -/
import Derived.Test.YthjndkjbjflmfaaBvF
import Derived.Test.YthjndkjbjflmfaaBtS
namespace Go.Proofs.Ythjndkjbjflmfaa
open Go.RowKit Go.Shelf
set_option linter.unusedVariables false
abbrev houseP : Pm := ⟨36, 2, 24, 40, 600, 64, 128⟩
theorem house_right : rightB houseP = true := by decide +kernel
theorem house_any (w : World) : Calls Try.prog 11 #[] w fun e w' => e = .returned (.agg (cellsP houseP)) ∧ Below w.heap.size w w' := by
  go_enter Try.func11, Try.ntmps11
  go_wp2_with fail
  exact bodyPost_ret (v := .agg (cellsP houseP)) (results_cell_row Try.results11 _ _ w.heap.size _ (cellsP houseP) _ _ rfl (Blk.new w (cellsP houseP) 26) Try.underlying26 rfl (by kernel_rfl)) rfl ⟨rfl, (Below.refl _ _).alloc (Nat.le_refl _) _⟩
theorem refHouse_any (w : World) : Calls Try.prog 12 #[] w fun e w' => e = .returned (.agg (cellsP houseP)) ∧ Below w.heap.size w w' := by
  go_enter Try.func12, Try.ntmps12
  go_wp2_with fail
  exact bodyPost_ret (v := .agg (cellsP houseP)) (results_cell_row Try.results12 _ _ w.heap.size _ (cellsP houseP) _ _ rfl (Blk.new w (cellsP houseP) 24) Try.underlying24 rfl (by kernel_rfl)) rfl ⟨rfl, (Below.refl _ _).alloc (Nat.le_refl _) _⟩
set_option maxRecDepth 100000 in
set_option maxHeartbeats 4000000 in
theorem plain_any (p : Pm) (w : World) : Calls Try.prog 10 #[.agg (cellsP p)] w fun e w' => e = .returned (.agg (cellsP p)) ∧ Below w.heap.size w w' := by
  obtain ⟨B, lo, hi, sk, da, bi, fi⟩ := p
  dsimp only [cellsP]
  have hb : Blk ((w.alloc (.cells #[.int .i64 B, .int .i64 lo, .int .i64 hi, .int .i64 sk, .int .i64 da, .int .i64 bi, .int .i32 fi] 26)).alloc (.cells #[.int .i64 B, .int .i64 lo, .int .i64 hi, .int .i64 sk, .int .i64 da, .int .i64 bi, .int .i32 fi] 24)) (w.heap.size + 1) #[.int .i64 B, .int .i64 lo, .int .i64 hi, .int .i64 sk, .int .i64 da, .int .i64 bi, .int .i32 fi] 24 := by
    have h1 := Blk.new (w.alloc (.cells #[.int .i64 B, .int .i64 lo, .int .i64 hi, .int .i64 sk, .int .i64 da, .int .i64 bi, .int .i32 fi] 26)) #[.int .i64 B, .int .i64 lo, .int .i64 hi, .int .i64 sk, .int .i64 da, .int .i64 bi, .int .i32 fi] 24
    rwa [show (w.alloc (.cells #[.int .i64 B, .int .i64 lo, .int .i64 hi, .int .i64 sk, .int .i64 da, .int .i64 bi, .int .i32 fi] 26)).heap.size = w.heap.size + 1 by simp] at h1
  have HB := hide hb
  clear hb
  go_enter Try.func10, Try.ntmps10
  go_wp2_with fail
  exact bodyPost_ret (results_cell_row Try.results10 _ _ (w.heap.size + 1) _ _ _ _ rfl (unhide HB) Try.underlying24 rfl (by kernel_rfl)) rfl ⟨rfl, ((Below.refl _ _).alloc (Nat.le_refl _) _).alloc (by simp) _⟩
abbrev sA : ByteArray := ⟨#[97, 194, 128]⟩
abbrev fA : ByteArray := ⟨#[97, 45, 98]⟩
theorem sA_starts : starts sA = [0, 1] := by decide +kernel
theorem sA_runes : rn sA 0 = 97 ∧ rn sA 1 = 128 := by decide +kernel
theorem kn_enc (w : World) : Calls Try.prog 14 #[.agg (cellsP houseP), .string sA] w fun e w' => e = .returned (.tuple #[.string fA, .int .i64 0]) ∧ Below w.heap.size w w' :=
  enc_one (p := houseP) house_right sA (by decide) (by rw [sA_starts]; intro i hi; simp at hi; rcases hi with rfl | rfl <;> simp [sA_runes.1, sA_runes.2]) (x := 97) (v0 := 0) (t := 1) (by decide) (by decide) fA (by decide) (by rfl) (by
    rw [sA_starts, ptF, ptF, ptF, sA_runes.1, sA_runes.2]
    decide +kernel) w
theorem kn_dec (w : World) : Calls Try.prog 15 #[.agg (cellsP houseP), .string fA] w fun e w' => e = .returned (.tuple #[.string sA, .int .i64 0, .int .i64 0]) ∧ Below w.heap.size w w' := by
  have h := dec_any houseP fA (by decide) w
  rw [show decV houseP fA = (sA, 0, 0) by decide +kernel] at h
  exact h
set_option maxRecDepth 100000 in
set_option maxHeartbeats 4000000 in
theorem known_any (w : World) : Calls Try.prog 9 #[] w fun e w' => e = .returned (.bool true) ∧ Below w.heap.size w w' := by
  have HE := hide kn_enc
  have HD := hide kn_dec
  have HH := hide house_any
  have e1 : (fA == fA) = true := by decide +kernel
  have e2 : (sA == sA) = true := by decide +kernel
  dsimp only [cellsP] at HE HD HH
  go_enter Try.func9, Try.ntmps9
  go_wp2_with (go_at_call 11; refine (unhide HH _).mono ?_; rintro e w1 ⟨rfl, hb1⟩; have B1 := hide hb1; clear hb1)
  refine (unhide HE _).mono ?_
  rintro e w2 ⟨rfl, hb2⟩
  have B2 := hide ((unhide B1).trans (hb2.mono (unhide B1).size))
  clear hb2 B1
  go_wp2_with (go_at_call 11; refine (unhide HH _).mono ?_; rintro e w3 ⟨rfl, hb3⟩; have B3 := hide ((unhide B2).trans (hb3.mono (unhide B2).size)); clear hb3)
  refine (unhide HD _).mono ?_
  rintro e w4 ⟨rfl, hb4⟩
  have B4 := hide ((unhide B3).trans (hb4.mono (unhide B3).size))
  clear hb4
  go_wp2_with fail
  go_ret
  exact ⟨rfl, unhide B4⟩
end Go.Proofs.Ythjndkjbjflmfaa
