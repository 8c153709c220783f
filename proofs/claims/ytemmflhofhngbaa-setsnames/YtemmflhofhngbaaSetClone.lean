/- slices.Clone at a list of spans; Spans of a set. -/
import Derived.Test.YtemmflhofhngbaaM3
import Derived.Laws.AppendOwn
import Derived.Laws.MakeOwn
import Derived.Laws.OwnMore
import Derived.Lib.SliceRun
import Derived.Lib.Walk
import Derived.Shelf.RegionOpenPlain
namespace Go.Proofs.Ytemmflhofhngbaa
open Go.RowKit Go.Shelf Go.Lib
set_option linter.unusedVariables false

/-- The cells of a list of spans. -/
def encP : List (Int × Int) → List Value
  | [] => []
  | x :: zs => .int .i32 x.1 :: .int .i32 x.2 :: encP zs
theorem encP_length (zs : List (Int × Int)) : (encP zs).length = zs.length * 2 := by
  induction zs with
  | nil => rfl
  | cons x zs ih => simp only [encP, List.length_cons, ih]; omega
theorem encP_at (zs : List (Int × Int)) (j : Nat) (x : Int × Int) (h : zs[j]? = some x) : (encP zs)[j * 2]? = some (.int .i32 x.1) ∧ (encP zs)[j * 2 + 1]? = some (.int .i32 x.2) := by
  induction zs generalizing j with
  | nil => simp at h
  | cons y zs ih =>
    cases j with
    | zero => simp at h; subst h; simp [encP]
    | succ j =>
      simp at h
      have := ih j h
      rw [show (j + 1) * 2 = j * 2 + 1 + 1 by omega]
      simpa [encP] using this
theorem encP_append (xs ys : List (Int × Int)) : encP (xs ++ ys) = encP xs ++ encP ys := by
  induction xs with
  | nil => rfl
  | cons x xs ih => simp only [List.cons_append, encP, ih]
theorem encP_one (zs : List (Int × Int)) : ∀ u ∈ encP zs, u.oneCell' = true := by
  induction zs with
  | nil => simp [encP]
  | cons x zs ih =>
    intro u hu
    simp only [encP, List.mem_cons] at hu
    rcases hu with rfl | rfl | hu
    · rfl
    · rfl
    · exact ih u hu
theorem encP_cells {W : World} {g o : Nat} {zs : List (Int × Int)} (hc : ∀ j x, zs[j]? = some x → W.cell? ⟨g, o + j * 2, none⟩ = some (.int .i32 x.1) ∧ W.cell? ⟨g, o + j * 2 + 1, none⟩ = some (.int .i32 x.2)) (j : Nat) (u : Value) (hu : (encP zs)[j]? = some u) : W.cell? ⟨g, o + j, none⟩ = some u := by
  have hl := (List.getElem?_eq_some_iff.1 hu).1
  rw [encP_length] at hl
  obtain ⟨x, hx⟩ : ∃ x, zs[j / 2]? = some x := ⟨_, List.getElem?_eq_getElem (by omega)⟩
  have h1 := encP_at zs _ x hx
  have h2 := hc _ x hx
  rcases Nat.mod_two_eq_zero_or_one j with e | e
  · have : j = j / 2 * 2 := by omega
    rw [← this] at h1 h2
    rw [h1.1] at hu
    cases hu
    exact h2.1
  · have : j = j / 2 * 2 + 1 := by omega
    rw [show o + j / 2 * 2 + 1 = o + j by omega] at h2
    rw [← this] at h1
    rw [h1.2] at hu
    cases hu
    exact h2.2
theorem own_row {W : World} {base n : Nat} {v : Value} {zs : List (Int × Int)} (h : W.ownsRow base 28 2 v n (encP zs)) : ∃ a c, v = .slice a zs.length c ∧ RowP W a zs ∧ n = zs.length ∧ zs.length ≤ c := by
  obtain ⟨hl, h⟩ := h
  rw [encP_length] at hl
  have hn : n = zs.length := by omega
  subst hn
  rcases h with ⟨rfl, h0⟩ | ⟨g, cap, cur, rfl, hb, hg, h1, h2, h3, h4⟩
  · exact ⟨none, 0, by rw [h0], fun h => by omega, rfl, by omega⟩
  · refine ⟨_, cap, rfl, fun h0 => ⟨g, 0, rfl, (Array.getElem?_eq_some_iff.1 hg).1, fun j x hj => ?_⟩, rfl, h1⟩
    have hbk : Blk W g cur 28 := hg
    have e := encP_at zs j x hj
    rw [← h4] at e
    have hjl := (List.getElem?_eq_some_iff.1 hj).1
    rw [List.getElem?_take, if_pos (by omega), List.getElem?_take, if_pos (by omega)] at e
    rw [Nat.zero_add, Blk.cell hbk, Blk.cell hbk]
    simpa using e

theorem alloc_cell {w : World} {a : Addr} {v : Value} (o : Obj) (h : w.cell? a = some v) : (w.alloc o).cell? a = some v := Lib.cell?_alloc_some _ h
theorem infoP : (Try.prog.info? 28).map (fun i => (i.zero, i.size, i.bytes)) = some (some (.agg #[.int .i32 0, .int .i32 0]), 2, 8) := by kernel_rfl

set_option maxRecDepth 100000 in
set_option maxHeartbeats 2000000 in
theorem clone_any (a : Option Addr) (cap : Nat) (zs : List (Int × Int)) (hz : zs.length ≤ 1073741824) (w : World) (hr : RowP w a zs) :
    Calls Try.prog 31 #[.slice a zs.length cap] w fun e w' => ∃ v, e = .returned v ∧ w'.ownsRow w.heap.size 28 2 v zs.length (encP zs) ∧ Below w.heap.size w w' := by
  have q22 : ∀ (w : World) (a : Option Addr) (n c n' c' : Nat), (binOp .eql 30 (.slice a n c) (.slice none n' c')).run Try.prog w = .ok (.bool a.isNone) w := fun w a n c n' c' => Lib.run_eql_slice_nil w _ _ a n c n' c' Try.underlying30
  obtain ⟨i0, hi, hz0, hz1, hz2⟩ := info_parts infoP
  have HI := hide (show _ ∧ _ ∧ _ ∧ _ from ⟨hi, hz0, hz1, hz2⟩)
  have HR := hide hr
  clear hi hz0 hz1 hz2 hr
  cases a with
  | none =>
    have h0 : zs = [] := by
      by_cases e : 0 < zs.length
      · obtain ⟨g, o, h, _⟩ := unhide HR e; cases h
      · exact List.eq_nil_of_length_eq_zero (by omega)
    subst h0
    go_enter Try.func31, Try.ntmps31
    go_wp2
    go_ret
    exact ⟨_, rfl, World.ownsRow_nil _ _ _ _, Below.refl _ _⟩
  | some p =>
    have HN : Hz (∀ j u, (encP zs)[j]? = some u → w.cell? (p.add j) = some u) := hide (fun j u hu => by
      have hl := (List.getElem?_eq_some_iff.1 hu).1
      rw [encP_length] at hl
      obtain ⟨g, o, h, hg, hc⟩ := unhide HR (by omega)
      cases h
      rw [add_none']
      exact encP_cells hc j u hu)
    have hb8 : zs.length * 8 ≤ 140737488355328 := by omega
    go_enter Try.func31, Try.ntmps31
    go_wp2_with (at_builtin; refine wpList_append_own _ rfl _ _ 30 rfl w.heap.size 28 i0 (.agg #[.int .i32 0, .int .i32 0]) 2 8 Try.underlying30 (unhide HI).1 (unhide HI).2.1 (unhide HI).2.2.1 (unhide HI).2.2.2 rfl (by decide) _ _ _ rfl (World.ownsRow_made w #[] 0 (Nat.le_refl _) (Nat.zero_le _) (by simp)) p zs.length cap (encP zs) rfl ?qc1 ?qc2 ?qc3 ?qc4 ?qc5 ?qc6 ?_)
    case qc1 => exact encP_length zs
    case qc2 => exact fun j u hj => alloc_cell _ (unhide HN j u hj)
    case qc3 => exact encP_one zs
    case qc4 => rw [Nat.zero_add]; unfold maxLen; omega
    case qc5 => rw [Nat.zero_add]; exact hb8
    case qc6 => simp
    intro v' w1 hown hgrow hnil
    have HO := hide hown
    have HG := hide hgrow
    clear hown hgrow hnil
    go_wp2
    go_ret
    refine ⟨v', rfl, by simpa using unhide HO, ?_⟩
    exact ((Below.refl _ w).alloc (Nat.le_refl _) _).grown (unhide HG) (by simp) (by intro k hk; simp [Value.ownBlock] at hk; omega)

theorem spans_any (B : Nat) (zs : List (Int × Int)) (w : World) (hs : SetAt w B zs) :
    Calls Try.prog 9 #[.pointer (some ⟨B, 0, none⟩)] w fun e w' => ∃ v, e = .returned v ∧ w'.ownsRow w.heap.size 28 2 v zs.length (encP zs) ∧ Below w.heap.size w w' := by
  obtain ⟨⟨a, ca, b, cb, hb0, hp, ha⟩, hsp, hl⟩ := hs
  have d0 := hb0.cell 0
  have HQ := hide (clone_any a ca zs (by omega) w hp)
  clear hp ha hsp hb0
  go_enter Try.func9, Try.ntmps9
  go_wp2_with fail
  refine (unhide HQ).mono ?_
  rintro e w2 ⟨v, rfl, ho, hb⟩
  have HO := hide ho
  have HB := hide hb
  clear ho hb
  go_wp2
  go_ret
  exact ⟨v, rfl, unhide HO, unhide HB⟩
end Go.Proofs.Ytemmflhofhngbaa
