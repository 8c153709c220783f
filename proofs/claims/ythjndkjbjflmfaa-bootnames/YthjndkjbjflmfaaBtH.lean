/- Whether a rune is written as it is. -/
import Derived.Laws.Runes
import Derived.Scope
import Derived.WalkMore
import Derived.Test.YthjndkjbjflmfaaBtE
import Derived.Test.YthjndkjbjflmfaaEnc
import Derived.Test.YthjndkjbjflmfaaBtG
namespace Go.Proofs.Ythjndkjbjflmfaa
open Go.RowKit Go.Shelf
set_option linter.unusedVariables false
/-- Is it a small letter, a digit, a hyphen? -/
def basicB (r : Int) : Bool := decide (r = 45 ∨ (97 ≤ r ∧ r ≤ 122) ∨ (48 ≤ r ∧ r ≤ 57))
theorem idx36 (c : Nat) (hc : c < 256) : Lib.indexByte dgs.data.toList c.toUInt8 = digV 36 c := by
  have e2 := idxK_eq dgs.data.toList c.toUInt8 0 (by omega)
  rw [idx_dgs c hc] at e2
  by_cases h : Lib.indexByte dgs.data.toList c.toUInt8 = -1
  · rw [if_pos h] at e2; rw [h]; exact e2.symm
  · rw [if_neg h, Int.add_zero] at e2; exact e2.symm
theorem contains_lo (r : Int) (h0 : 0 ≤ r) (h1 : r < 128) (hne : r ≠ 45) (w : World) : Calls Try.prog 60 #[.string dgs, .int .i32 r] w fun e w' => e = .returned (.bool (basicB r)) ∧ w' = w :=
  (Any.strings_ContainsRune_ascii lay151 dgs r w h0 h1).mono fun e w' ⟨h2, h3⟩ => ⟨by
    have hd := idx36 r.toNat (by omega)
    have : decide (0 ≤ Lib.indexByte dgs.data.toList r.toNat.toUInt8) = basicB r := by
      rw [hd]
      unfold basicB digV
      apply decide_eq_decide.2
      repeat' split
      all_goals omega
    rw [h2, this], h3⟩
theorem width_bdH {r : Int} (h : widthOf r ≠ 0) : 0 ≤ r ∧ r ≤ 1114111 := by
  unfold widthOf at h
  split at h
  · exact absurd rfl h
  · omega
theorem validRune_t {r : Int} (h : widthOf r ≠ 0) (w : World) : Calls Try.prog 85 #[.int .i32 r] w fun e w' => e = .returned (.bool true) ∧ w' = w := by
  have hb : (0 ≤ r ∧ r < 55296) ∨ (57343 < r ∧ r ≤ 1114111) := by
    unfold widthOf at h
    split at h
    · exact absurd rfl h
    · omega
  rcases hb with ⟨h1, h2⟩ | ⟨h1, h2⟩
  · go_enter Try.func85, Try.ntmps85
    go_wp2_with fail
    go_ret
    exact ⟨rfl, rfl⟩
  · have h3 : ¬ r < 55296 := by omega
    go_enter Try.func85, Try.ntmps85
    go_wp2_with fail
    go_ret
    exact ⟨rfl, rfl⟩
theorem indexByte_none : ∀ (l : List UInt8) (c : UInt8), (∀ b ∈ l, b ≠ c) → Lib.indexByte l c = -1
  | [], c, h => rfl
  | b :: l, c, h => by
    unfold Lib.indexByte
    have h1 : ¬ (b == c) = true := by simpa using h b (List.mem_cons_self ..)
    rw [if_neg h1, indexByte_none l c (fun x hx => h x (List.mem_cons_of_mem _ hx))]
    rfl
/-- The bytes of a rune from 0x80 on: from two to four, the last from 0x80 on. -/
theorem enc_hi {r : Int} (h : widthOf r ≠ 0) (h1 : 128 ≤ r) : 2 ≤ (Utf8.encode r).size ∧ (Utf8.encode r).size ≤ 4 ∧ ∀ (k : Nat) (hk : k < (Utf8.encode r).size), k + 1 = (Utf8.encode r).size → 128 ≤ ((Utf8.encode r)[k]'hk).toNat := by
  by_cases h2 : r < 2048
  · rw [enc2 h h1 h2]
    exact ⟨show 2 ≤ 2 by decide, show 2 ≤ 4 by decide, fun k hk e => by
      obtain rfl : k = 1 := by have e' : k + 1 = 2 := e; omega
      show 128 ≤ (UInt8.ofNat (0x80 + r.toNat % 64)).toNat
      rw [u8n _ (by omega)]; omega⟩
  by_cases h3 : r < 65536
  · rw [enc3 h (by omega) h3]
    exact ⟨show 2 ≤ 3 by decide, show 3 ≤ 4 by decide, fun k hk e => by
      obtain rfl : k = 2 := by have e' : k + 1 = 3 := e; omega
      show 128 ≤ (UInt8.ofNat (0x80 + r.toNat % 64)).toNat
      rw [u8n _ (by omega)]; omega⟩
  · rw [enc4 h (by omega)]
    exact ⟨show 2 ≤ 4 by decide, show 4 ≤ 4 by decide, fun k hk e => by
      obtain rfl : k = 3 := by have e' : k + 1 = 4 := e; omega
      show 128 ≤ (UInt8.ofNat (0x80 + r.toNat % 64)).toNat
      rw [u8n _ (by omega)]; omega⟩
set_option maxRecDepth 100000 in
set_option maxHeartbeats 4000000 in
theorem indexRune_hi {r : Int} (h : widthOf r ≠ 0) (h1 : 128 ≤ r) (hne : r ≠ 65533) (w : World) : Calls Try.prog 76 #[.string dgs, .int .i32 r] w fun e w' => e = .returned (.int .i64 (-1)) ∧ ∃ q, w' = w.drewN q := by
  obtain ⟨e1, e2, e3⟩ := enc_hi h h1
  have VR := hide (fun w => validRune_t h w)
  have h2 : ¬ r < 128 := by omega
  have h3 : 0 ≤ r := by omega
  have hcv : ∀ w : World, (convert 21 9 (.int .i32 r)).run Try.prog w = .ok (.string (Utf8.encode r)) w := fun w => run_convert_int_string (P := Try.prog) w 21 9 .i32 r (by rw [Try.underlying21]; rfl) Try.underlying9
  generalize Utf8.encode r = E at *
  have IB : ∀ (i : Nat) (c : UInt8) (w : World), 128 ≤ c.toNat → Calls Try.prog 69 #[.string (dgs.extract i 36), .int .u8 c.toNat] w fun e w' => e = .returned (.int .i64 (-1)) ∧ w' = w := fun i c w hc => (Any.strings_IndexByte lay137 (dgs.extract i 36) c.toNat w).mono fun e w' ⟨k1, k2⟩ => ⟨by
    rw [k1, indexByte_none]
    intro b hb e
    have hb' : b ∈ dgs.data.toList := by
      have : (dgs.extract i 36).data.toList = (dgs.data.toList.drop i).take (36 - i) := by simp
      rw [this] at hb
      exact List.mem_of_mem_drop (List.mem_of_mem_take hb)
    have hlt : ∀ b ∈ dgs.data.toList, b.toNat < 128 := by decide +kernel
    have := hlt b hb'
    rw [e] at this
    simp at this
    omega, k2⟩
  have HIB := hide IB
  clear IB
  have hS : dgs.size = 36 := rfl
  have hA : ∀ (j : Nat) (hj : j < dgs.size), (dgs[j]'hj).toNat < 128 := by decide +kernel
  obtain ⟨k, hk⟩ : ∃ k, E.size = k + 1 := ⟨E.size - 1, by omega⟩
  have k1 : 1 ≤ k ∧ k ≤ 3 := by omega
  have hkE : k < E.size := by omega
  have hkS : k < dgs.size := by rw [hS]; omega
  have hc := e3 k hkE hk.symm
  have hd := hA k hkS
  have hneq : (((dgs[k]'hkS).toNat : Int) != ((E[k]'hkE).toNat : Int)) = true := by rw [bne_iff_ne]; omega
  have HIBk := hide (fun w => unhide HIB (k + 1) (E[k]'hkE) w hc)
  have hneg : ((-1 : Int) < 0) := by decide
  have hkI : (E.size : Int) - 1 = (k : Int) := by omega
  have hkJ : (k : Int) < (E.size : Int) := by omega
  clear e3 hA hd hc e1 e2 HIB hk
  generalize hDG : dgs = D at *
  clear hDG
  go_enter Try.func76, Try.ntmps76
  go_wp2_with (first | (go_at_call 85; refine (unhide VR _).mono ?_; rintro e w1 ⟨rfl, rfl⟩))
  refine wp_scope_straight ?_
  go_wp2_with fail
  refine wp_loop_rounds 1 ?_
  rw [rounds_succ]
  go_wp2_with fail
  refine wp_scope_straight ?_
  go_wp2_with fail
  go_quiet (fail)
  go_wp2_with fail
  go_quiet (exact (unhide HIBk _).mono fun e w h => ⟨h.1, _, h.2⟩)
  go_wp2_with fail
  dsimp only [Exit.noGoto, Exit.inBlock, Exit.then]
  go_ret
  exact ⟨rfl, _, rfl⟩
set_option maxRecDepth 100000 in
theorem contains_hi {r : Int} (h : widthOf r ≠ 0) (h1 : 128 ≤ r) (hne : r ≠ 65533) (w : World) : Calls Try.prog 60 #[.string dgs, .int .i32 r] w fun e w' => e = .returned (.bool false) ∧ ∃ q, w' = w.drewN q := by
  have H := hide (fun w => indexRune_hi h h1 hne w)
  generalize dgs = D at *
  go_enter Try.func60, Try.ntmps60
  go_wp2_with (go_at_call 76; refine (unhide H _).mono ?_; rintro e w1 ⟨rfl, q, rfl⟩)
  go_ret
  exact ⟨rfl, _, rfl⟩
set_option maxRecDepth 100000 in
theorem isBasic_any {r : Int} (h : widthOf r ≠ 0) (hne : r ≠ 65533) (w : World) : Calls Try.prog 40 #[.int .i32 r] w fun e w' => e = .returned (.bool (basicB r)) ∧ ∃ q, w' = w.drewN q := by
  by_cases h45 : r = 45
  · subst h45
    rw [show basicB 45 = true by decide]
    go_enter Try.func40, Try.ntmps40
    go_wp2_with fail
    go_ret
    exact ⟨rfl, 0, rfl⟩
  · have hb := width_bdH h
    have H45 : (r == 45) = false := by rw [beq_eq_false_iff_ne]; exact h45
    by_cases h1 : r < 128
    · have H := hide (fun w => contains_lo r hb.1 h1 h45 w)
      generalize basicB r = b at *
      go_enter Try.func40, Try.ntmps40
      go_wp2_with (go_at_call 60; refine (unhide H _).mono ?_; rintro e w1 ⟨rfl, rfl⟩)
      go_ret
      exact ⟨rfl, 0, rfl⟩
    · have H := hide (fun w => contains_hi h (by omega) hne w)
      rw [show basicB r = false by unfold basicB; exact decide_eq_false (by omega)]
      go_enter Try.func40, Try.ntmps40
      go_wp2_with (go_at_call 60; refine (unhide H _).mono ?_; rintro e w1 ⟨rfl, q, rfl⟩)
      go_ret
      exact ⟨rfl, _, rfl⟩
end Go.Proofs.Ythjndkjbjflmfaa
