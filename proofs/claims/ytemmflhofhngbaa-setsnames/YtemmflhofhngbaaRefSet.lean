/- The reference's Of, up, size, Size; Of of wrong spans. -/
import Derived.Test.YtemmflhofhngbaaSetOf
namespace Go.Proofs.Ytemmflhofhngbaa
open Go.RowKit Go.Shelf
set_option linter.unusedVariables false
/-- Why spans make no set. -/
def errOf (l : List (Int × Int)) : Int := if l.any (fun x => !endsB x) then 12 else if l.any (fun x => decide (x.2 < x.1)) then 11 else 0
theorem errOf_12 {l : List (Int × Int)} (h : ∃ x ∈ l, endsB x = false) : errOf l = 12 := by
  unfold errOf
  rw [if_pos (by obtain ⟨x, hx, e⟩ := h; exact List.any_eq_true.2 ⟨x, hx, by simp [e]⟩)]
theorem errOf_11 {l : List (Int × Int)} (h0 : ∀ x ∈ l, endsB x = true) (h : ∃ x ∈ l, x.2 < x.1) : errOf l = 11 := by
  unfold errOf
  rw [if_neg (by rw [List.any_eq_true]; rintro ⟨x, hx, e⟩; simp [h0 x hx] at e), if_pos (by obtain ⟨x, hx, e⟩ := h; exact List.any_eq_true.2 ⟨x, hx, by simp [e]⟩)]
theorem errOf_0 {l : List (Int × Int)} (h0 : ∀ x ∈ l, endsB x = true) (h : ∀ x ∈ l, ¬ x.2 < x.1) : errOf l = 0 := by
  unfold errOf
  rw [if_neg (by rw [List.any_eq_true]; rintro ⟨x, hx, e⟩; simp [h0 x hx] at e), if_neg (by rw [List.any_eq_true]; rintro ⟨x, hx, e⟩; have := h x hx; simp at e; omega)]
theorem errOf_cases (l : List (Int × Int)) : (errOf l = 0 ∧ RightL l) ∨ (errOf l = 11 ∧ (l.any (fun x => !endsB x)) = false ∧ (l.any fun x => decide (x.2 < x.1)) = true) ∨ (errOf l = 12 ∧ (l.any (fun x => !endsB x)) = true) := by
  unfold errOf
  cases h1 : l.any (fun x => !endsB x) with
  | true => exact .inr (.inr ⟨by simp, rfl⟩)
  | false =>
    cases h2 : l.any (fun x => decide (x.2 < x.1)) with
    | true => exact .inr (.inl ⟨by simp, rfl, rfl⟩)
    | false =>
      refine .inl ⟨by simp, fun x hx => ?_⟩
      rw [List.any_eq_false] at h1 h2
      have a := h1 x hx
      have b := h2 x hx
      simp at a b
      exact ⟨a, b⟩
set_option maxRecDepth 100000 in
set_option maxHeartbeats 4000000 in
theorem of_wrong (a : Option Addr) (cap : Nat) (l : List (Int × Int)) (hl : l.length ≤ 1000000) (hR : errOf l ≠ 0) (w : World) (hr : RowP w a l) :
    Calls Try.prog 7 #[.slice a l.length cap] w fun e w' => e = .returned (.tuple #[.pointer none, .int .i64 (errOf l)]) ∧ Below w.heap.size w w' := by
  have HN := hide (contains_noRunes a cap l (by omega) w hr)
  have HF := hide (fun w hr => contains_falling a cap l (by omega) w hr)
  have HR := hide hr
  rcases errOf_cases l with ⟨h, _⟩ | ⟨h, h1, h2⟩ | ⟨h, h1⟩
  · exact absurd h hR
  · rw [h]
    rw [h1] at HN
    rw [h2] at HF
    clear hr hR h h1 h2
    go_enter Try.func7, Try.ntmps7
    go_wp2_with fail
    refine (unhide HN).mono ?_
    rintro e w1 ⟨rfl, hb1⟩
    have HB1 := hide hb1
    clear hb1
    go_wp2_with fail
    refine (unhide HF w1 ((unhide HR).below (unhide HB1))).mono ?_
    rintro e w2 ⟨rfl, hb2⟩
    have HB2 := hide ((unhide HB1).trans (hb2.mono (unhide HB1).size))
    clear hb2
    go_wp2
    go_ret2
    exact ⟨rfl, unhide HB2⟩
  · rw [h]
    rw [h1] at HN
    clear hr hR h h1
    go_enter Try.func7, Try.ntmps7
    go_wp2_with fail
    refine (unhide HN).mono ?_
    rintro e w1 ⟨rfl, hb1⟩
    have HB1 := hide hb1
    clear hb1
    go_wp2
    go_ret2
    exact ⟨rfl, unhide HB1⟩
theorem refUp_any (n : Int) (h0 : -2147483648 ≤ n) (h1 : n < 2147483647) (w : World) : Calls Try.prog 55 #[.int .i32 n] w fun e w' => e = .returned (.int .i32 (upOf n)) ∧ w' = w := by
  by_cases a : n = 55295
  · subst a
    rw [show upOf 55295 = 57344 by decide]
    go_enter Try.func55, Try.ntmps55
    go_wp2
    go_ret
    exact ⟨rfl, rfl⟩
  · rw [show upOf n = n + 1 by unfold upOf; rw [if_neg a]]
    have h : (n == 55295) = false := beq_eq_false_iff_ne.2 a
    go_enter Try.func55, Try.ntmps55
    go_wp2
    go_ret
    exact ⟨rfl, rfl⟩
theorem wrong_12 {x : Int × Int} : (wrongOf x == 12) = !endsB x := by
  unfold wrongOf
  cases endsB x with
  | true => simp only [if_true]; split <;> rfl
  | false => rfl
theorem wrong_11 {x : Int × Int} (h : endsB x = true) : (wrongOf x == 11) = decide (x.2 < x.1) := by
  unfold wrongOf
  rw [h]
  simp only [if_true]
  by_cases e : x.2 < x.1
  · rw [if_pos e]; simp [e]
  · rw [if_neg e]; simp [e]
end Go.Proofs.Ytemmflhofhngbaa
