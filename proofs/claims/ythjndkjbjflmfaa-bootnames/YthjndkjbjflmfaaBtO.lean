/- boot.Decode, told for every text. -/
import Derived.Test.YthjndkjbjflmfaaBtN
import Derived.Test.YthjndkjbjflmfaaText
import Derived.Test.YthjndkjbjflmfaaClean
namespace Go.Proofs.Ythjndkjbjflmfaa
open Go.RowKit Go.Shelf
set_option linter.unusedVariables false
theorem runesB_own (s : ByteArray) (hs : s.size ≤ 70368744177664) (w : World) : Calls Try.prog 30 #[.string s] w fun e w' => ∃ cap, e = .returned (.slice (some ⟨w.heap.size, 0, none⟩) (runesL s).length cap) ∧
    w'.ownsRow w.heap.size 21 1 (.slice (some ⟨w.heap.size, 0, none⟩) (runesL s).length cap) (runesL s).length (encRb (runesL s)) ∧ Below w.heap.size w w' := by
  have hl : (Conv.runesFrom s s.size 0 #[]).size = (runesL s).length := by rw [runesFrom_all]; simp
  have h46 : (Conv.runesFrom s s.size 0 #[]).size ≤ 70368744177664 := by
    have := starts_length s; rw [hl, runesL_length]; omega
  have kc := run_runes_of_string (P := Try.prog) w 9 59 21 s Try.underlying9 Try.underlying59 Try.underlying21 h46
  have hge := grownCap_ge w (Conv.runesFrom s s.size 0 #[]).size 0 21
  have hle := grownCap_le_maxLen w (Conv.runesFrom s s.size 0 #[]).size 0 21 (by unfold maxLen; omega)
  rw [hl] at hge hle
  rw [hl, runesFrom_all] at kc
  generalize grownCap w (runesL s).length 0 21 = cap at kc hge hle
  obtain ⟨cs, hcs⟩ : ∃ cs, cs = Array.replicate (cap - (runesL s).length) (Value.int IntKind.i32 0) := ⟨_, rfl⟩
  have hsz : cs.size = cap - (runesL s).length := by rw [hcs]; simp
  rw [← hcs] at kc
  have HSZ := hide hsz
  clear h46 hl hcs hsz
  go_enter Try.func30, Try.ntmps30
  go_wp2
  go_ret
  refine ⟨cap, rfl, ⟨by simp [encRb], .inr ⟨w.heap.size, cap, _, rfl, Nat.le_refl _, World.alloc_heap_new w.drew _, hge, hle, ?_, ?_⟩⟩, ((Below.refl _ _).drew).alloc (Nat.le_refl _) _⟩
  · have := unhide HSZ
    simp
    omega
  · simp [encRb]
theorem textB_nil (c l : Nat) (hl : l = 0) (w : World) : Calls Try.prog 31 #[.slice none l c] w fun e w' => e = .returned (runesTV []) ∧ w' = w := by
  subst hl
  have kc := run_convert_runes_nil (P := Try.prog) w 59 9 21 0 c Try.underlying59 Try.underlying21 Try.underlying9
  have HKC := hide kc
  clear kc
  go_enter Try.func31, Try.ntmps31
  go_wp2
  go_loop [8] (fun i => i = .int .i64 0) (fun i => 0)
  case atStart => rfl
  case round =>
    obtain rfl := hrel
    have kc := unhide HKC
    go_wp2
    go_ret2
    exact ⟨rfl, rfl⟩
theorem textB_own {W : World} {lo : Nat} {v : Value} {zs : List Int} (h : W.ownsRow lo 21 1 v zs.length (encRb zs)) (hz : zs.length ≤ 9223372036854775807) : Calls Try.prog 31 #[v] W fun e w' => e = .returned (runesTV zs) ∧ w' = W := by
  have hc := fun g => h.cells (g := g)
  rcases h.2 with ⟨rfl, h0⟩ | ⟨g, cap, cur, rfl, _, hgb, _⟩
  · obtain rfl : zs = [] := List.length_eq_zero_iff.1 h0
    exact textB_nil 0 0 rfl W
  · refine text_any g 0 cap zs hz W (fun j hj => ?_)
    have := hc g rfl j (.int .i32 (zs.getD j 0)) (by rw [List.getElem?_map, List.getD, List.getElem?_eq_getElem hj]; rfl)
    rw [show ((⟨g, 0, none⟩ : Addr).add j) = ⟨g, 0 + j, none⟩ by unfold Addr.add; split <;> simp_all] at this
    exact this
/-- Where the last hyphen stands; -1: nowhere. -/
def lastH (a : ByteArray) : Int := Lib.lastIndexByte a 45
theorem lastH_in (a : ByteArray) : lastH a = -1 ∨ ∃ i : Nat, i < a.size ∧ lastH a = i := by
  rcases Lib.lastIndexByte_spec a 45 with ⟨h, _⟩ | ⟨i, h1, h2, _⟩
  · exact .inl h
  · exact .inr ⟨i, h1, h2⟩
/-- What stands ahead of it. -/
def headH (a : ByteArray) : ByteArray := a.extract 0 (lastH a).toNat
def tailD (p : Pm) (a : ByteArray) : List Int × Nat × Int := layF p a (a.size + 1) (runesL (headH a)) (lastH a + 1).toNat p.bi p.da p.fi 0
/-- What Decode answers: the text, a byte, why. -/
def decV (p : Pm) (a : ByteArray) : ByteArray × Nat × Int :=
  if rightB p = false then (⟨#[]⟩, 0, 1) else if 65536 < a.size then (⟨#[]⟩, 0, 3) else if lastH a = 0 then (⟨#[]⟩, 0, 52) else
  if (refV (headH a)).2 ≠ 0 then (⟨#[]⟩, (refV (headH a)).1, (refV (headH a)).2) else
  if (tailD p a).2.2 ≠ 0 then (⟨#[]⟩, (tailD p a).2.1, (tailD p a).2.2) else (runesBytes (tailD p a).1, 0, 0)
theorem refF_ok {s : ByteArray} : ∀ f i, s.size ≤ i + f → i ≤ 4096 → (refF s f i).2 = 0 → s.size ≤ 4096 ∧ ∀ j, i ≤ j → j < s.size → basicB (bt s j) = true
  | 0, i, h, h4, h0 => ⟨by omega, fun j h1 h2 => by omega⟩
  | f + 1, i, h, h4, h0 => by
    by_cases h1 : s.size ≤ i
    · exact ⟨by omega, fun j h2 h3 => by omega⟩
    by_cases h2 : i = 4096
    · rw [refF_many h1 h2] at h0; exact absurd h0 (show ¬ (_ : Int) = 0 from by intro h; cases h)
    cases hb : basicB (bt s i) with
    | false => rw [refF_bad h1 h2 hb] at h0; exact absurd h0 (show ¬ (_ : Int) = 0 from by intro h; cases h)
    | true =>
      rw [refF_next h1 h2 hb] at h0
      have := refF_ok f (i + 1) (by omega) (by omega) h0
      exact ⟨this.1, fun j h3 h4 => by
        by_cases h5 : j = i
        · rw [h5]; exact hb
        · exact this.2 j (by omega) h4⟩
theorem refV_ok {s : ByteArray} (h : (refV s).2 = 0) : s.size ≤ 4096 ∧ ∀ j, j < s.size → basicB (bt s j) = true := by
  have := refF_ok s.size 0 (by omega) (by omega) h
  exact ⟨this.1, fun j hj => this.2 j (Nat.zero_le _) hj⟩
end Go.Proofs.Ythjndkjbjflmfaa
