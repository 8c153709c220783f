/- A text's tables: lists that are copied. -/
import Derived.Test.YtbbnppcpjpdpaaaGreatDoorM17
import Derived.Test.YtbbnppcpjpdpaaaGreatDoorRdJ
import Derived.Test.YtbbnppcpjpdpaaaGreatDoorShK
namespace Go.Proofs.YtbbnppcpjpdpaaaGreatDoor
open Go.RowKit Go.Shelf
set_option linter.unusedVariables false
theorem encM2_one (t : List (Int × Int)) : ∀ u ∈ encM2 t, u.oneCell' = true := by
  induction t with
  | nil => intro u hu; cases hu
  | cons x t ih =>
    intro u hu
    rcases List.mem_cons.1 hu with rfl | hu
    · rfl
    · rcases List.mem_cons.1 hu with rfl | hu
      · rfl
      · exact ih u hu
theorem encF2_one (t : List (Int × ByteArray)) : ∀ u ∈ encF2 t, u.oneCell' = true := by
  induction t with
  | nil => intro u hu; cases hu
  | cons x t ih =>
    intro u hu
    rcases List.mem_cons.1 hu with rfl | hu
    · rfl
    · rcases List.mem_cons.1 hu with rfl | hu
      · rfl
      · exact ih u hu
theorem encP3_one (t : List (Int × Int × Int)) : ∀ u ∈ encP3 t, u.oneCell' = true := by
  induction t with
  | nil => intro u hu; cases hu
  | cons x t ih =>
    intro u hu
    rcases List.mem_cons.1 hu with rfl | hu
    · rfl
    · rcases List.mem_cons.1 hu with rfl | hu
      · rfl
      · rcases List.mem_cons.1 hu with rfl | hu
        · rfl
        · exact ih u hu
theorem encSc_one (t : List (ByteArray × List (Int × Int))) (us : List Value) (hu : ∀ u ∈ us, u.oneCell' = true) : ∀ u ∈ encSc t us, u.oneCell' = true := by
  induction t generalizing us with
  | nil => intro u h; cases us <;> cases h
  | cons x t ih => cases us with
    | nil => intro u h; cases h
    | cons v us =>
      intro u h
      rcases List.mem_cons.1 h with rfl | h
      · rfl
      · rcases List.mem_cons.1 h with rfl | h
        · exact hu _ List.mem_cons_self
        · exact ih us (fun y hy => hu y (List.mem_cons_of_mem _ hy)) u h
theorem encSc_at (t : List (ByteArray × List (Int × Int))) (us : List Value) (h : us.length = t.length) (j : Nat) : (encSc t us)[2 * j + 1]? = us[j]? := by
  induction t generalizing us j with
  | nil => cases us with
    | nil => simp [encSc]
    | cons v us => cases h
  | cons x t ih => cases us with
    | nil => cases h
    | cons v us => cases j with
      | zero => rfl
      | succ j => show (_ :: _ :: encSc t us)[2 * j + 1 + 2]? = _; rw [List.getElem?_cons_succ, List.getElem?_cons_succ, List.getElem?_cons_succ]; exact ih us (by simpa using h) j
theorem encSc_set (t : List (ByteArray × List (Int × Int))) (us : List Value) (h : us.length = t.length) (j : Nat) (v : Value) : (encSc t us).set (2 * j + 1) v = encSc t (us.set j v) := by
  induction t generalizing us j with
  | nil => cases us with
    | nil => simp [encSc]
    | cons v us => cases h
  | cons x t ih => cases us with
    | nil => cases h
    | cons u us => cases j with
      | zero => rfl
      | succ j => show (_ :: _ :: encSc t us).set (2 * j + 1 + 2) v = _ :: _ :: encSc t (us.set j v); rw [List.set_cons_succ, List.set_cons_succ, ih us (by simpa using h) j]
theorem encSc_length (t : List (ByteArray × List (Int × Int))) (us : List Value) (h : us.length = t.length) : (encSc t us).length = t.length * 2 := by
  induction t generalizing us with
  | nil => cases us <;> rfl
  | cons x t ih => cases us with
    | nil => cases h
    | cons u us => show (encSc t us).length + 1 + 1 = (t.length + 1) * 2; rw [ih us (by simpa using h)]; omega
theorem own_set {W : World} {lo E sz n g cap : Nat} {xs : List Value} (h : W.ownsRow lo E sz (.slice (some ⟨g, 0, none⟩) n cap) n xs) (i : Nat) (hi : i < n * sz) (u : Value) : (W.setCell ⟨g, i, none⟩ u).ownsRow lo E sz (.slice (some ⟨g, 0, none⟩) n cap) n (xs.set i u) := by
  refine ⟨by rw [List.length_set]; exact h.1, ?_⟩
  rcases h.2 with ⟨e, _⟩ | ⟨g', cap', cur, e, hb, hg, hc, hm, hcs, hx⟩
  · cases e
  · injection e with e1 e2 e3
    injection e1 with e1
    injection e1 with e1
    subst e1 e3
    have b := (show Blk W g cur E from hg).set i u
    refine .inr ⟨g, cap, _, rfl, hb, b, hc, hm, by rw [Array.size_setIfInBounds]; exact hcs, ?_⟩
    rw [Array.toList_setIfInBounds, List.take_set, hx]
theorem cloneScript_any (lo n : Nat) (v : Value) (xs : List Value) (w : World) (h : w.ownsRow lo 52 2 v n xs) (hn : n ≤ 2000000) (h1 : ∀ u ∈ xs, u.oneCell' = true) : Calls Tryz.prog 53 #[v] w fun e w' => ∃ v', e = .returned v' ∧ w'.ownsRow w.heap.size 52 2 v' n xs ∧ Below w.heap.size w w' := by
  obtain ⟨i0, hi, hz0, hz1, hz2⟩ := info_parts infoScript
  rcases h.2 with ⟨rfl, rfl⟩ | ⟨g, cap, cur, rfl, hl, hg, hc, hm, hcs, hx⟩
  · refine (show Calls Tryz.prog 53 #[.slice none 0 0] w _ from AnyE.slices_Clone_nil cloneScript 0 0 w).mono ?_
    rintro e w' ⟨rfl, rfl⟩
    exact ⟨_, rfl, ⟨h.1, .inl ⟨rfl, rfl⟩⟩, Below.refl _ _⟩
  · refine (show Calls Tryz.prog 53 #[.slice (some ⟨g, 0, none⟩) n cap] w _ from AnyE.slices_Clone cloneScript i0 (.agg #[.string ⟨#[]⟩, .slice none 0 0]) 2 40 hi hz0 hz1 hz2 rfl (by decide) Tryz.sizeOf52 g 0 n cap xs w h.1 (by unfold maxLen; omega) (by omega) (fun j u hu => ?_) h1).mono ?_
    · have hj := (List.getElem?_eq_some_iff.1 hu).1
      rw [h.1] at hj
      rw [← hx, List.getElem?_take_of_lt hj] at hu
      rw [Nat.zero_add]
      have b : Blk w g cur 52 := hg
      rw [b.cell j, ← hu, Array.getElem?_toList]
    · rintro e w' ⟨v', rfl, h2, _, h3⟩
      exact ⟨v', rfl, h2, h3⟩
theorem cloneSpan_any (lo n : Nat) (v : Value) (xs : List Value) (w : World) (h : w.ownsRow lo 54 2 v n xs) (hn : n ≤ 2000000) (h1 : ∀ u ∈ xs, u.oneCell' = true) : Calls Tryz.prog 31 #[v] w fun e w' => ∃ v', e = .returned v' ∧ w'.ownsRow w.heap.size 54 2 v' n xs ∧ Below w.heap.size w w' := by
  obtain ⟨i0, hi, hz0, hz1, hz2⟩ := info_parts infoSpan
  rcases h.2 with ⟨rfl, rfl⟩ | ⟨g, cap, cur, rfl, hl, hg, hc, hm, hcs, hx⟩
  · refine (show Calls Tryz.prog 31 #[.slice none 0 0] w _ from AnyE.slices_Clone_nil cloneSpan 0 0 w).mono ?_
    rintro e w' ⟨rfl, rfl⟩
    exact ⟨_, rfl, ⟨h.1, .inl ⟨rfl, rfl⟩⟩, Below.refl _ _⟩
  · refine (show Calls Tryz.prog 31 #[.slice (some ⟨g, 0, none⟩) n cap] w _ from AnyE.slices_Clone cloneSpan i0 (.agg #[.int .i32 0, .int .i32 0]) 2 8 hi hz0 hz1 hz2 rfl (by decide) Tryz.sizeOf54 g 0 n cap xs w h.1 (by unfold maxLen; omega) (by omega) (fun j u hu => ?_) h1).mono ?_
    · have hj := (List.getElem?_eq_some_iff.1 hu).1
      rw [h.1] at hj
      rw [← hx, List.getElem?_take_of_lt hj] at hu
      rw [Nat.zero_add]
      have b : Blk w g cur 54 := hg
      rw [b.cell j, ← hu, Array.getElem?_toList]
    · rintro e w' ⟨v', rfl, h2, _, h3⟩
      exact ⟨v', rfl, h2, h3⟩
theorem cloneMark_any (lo n : Nat) (v : Value) (xs : List Value) (w : World) (h : w.ownsRow lo 72 2 v n xs) (hn : n ≤ 2000000) (h1 : ∀ u ∈ xs, u.oneCell' = true) : Calls Tryz.prog 32 #[v] w fun e w' => ∃ v', e = .returned v' ∧ w'.ownsRow w.heap.size 72 2 v' n xs ∧ Below w.heap.size w w' := by
  obtain ⟨i0, hi, hz0, hz1, hz2⟩ := info_parts infoMark
  rcases h.2 with ⟨rfl, rfl⟩ | ⟨g, cap, cur, rfl, hl, hg, hc, hm, hcs, hx⟩
  · refine (show Calls Tryz.prog 32 #[.slice none 0 0] w _ from AnyE.slices_Clone_nil cloneMark 0 0 w).mono ?_
    rintro e w' ⟨rfl, rfl⟩
    exact ⟨_, rfl, ⟨h.1, .inl ⟨rfl, rfl⟩⟩, Below.refl _ _⟩
  · refine (show Calls Tryz.prog 32 #[.slice (some ⟨g, 0, none⟩) n cap] w _ from AnyE.slices_Clone cloneMark i0 (.agg #[.int .i32 0, .int .i64 0]) 2 16 hi hz0 hz1 hz2 rfl (by decide) Tryz.sizeOf72 g 0 n cap xs w h.1 (by unfold maxLen; omega) (by omega) (fun j u hu => ?_) h1).mono ?_
    · have hj := (List.getElem?_eq_some_iff.1 hu).1
      rw [h.1] at hj
      rw [← hx, List.getElem?_take_of_lt hj] at hu
      rw [Nat.zero_add]
      have b : Blk w g cur 72 := hg
      rw [b.cell j, ← hu, Array.getElem?_toList]
    · rintro e w' ⟨v', rfl, h2, _, h3⟩
      exact ⟨v', rfl, h2, h3⟩
theorem clonePair_any (lo n : Nat) (v : Value) (xs : List Value) (w : World) (h : w.ownsRow lo 76 3 v n xs) (hn : n ≤ 2000000) (h1 : ∀ u ∈ xs, u.oneCell' = true) : Calls Tryz.prog 33 #[v] w fun e w' => ∃ v', e = .returned v' ∧ w'.ownsRow w.heap.size 76 3 v' n xs ∧ Below w.heap.size w w' := by
  obtain ⟨i0, hi, hz0, hz1, hz2⟩ := info_parts infoPair
  rcases h.2 with ⟨rfl, rfl⟩ | ⟨g, cap, cur, rfl, hl, hg, hc, hm, hcs, hx⟩
  · refine (show Calls Tryz.prog 33 #[.slice none 0 0] w _ from AnyE.slices_Clone_nil clonePair 0 0 w).mono ?_
    rintro e w' ⟨rfl, rfl⟩
    exact ⟨_, rfl, ⟨h.1, .inl ⟨rfl, rfl⟩⟩, Below.refl _ _⟩
  · refine (show Calls Tryz.prog 33 #[.slice (some ⟨g, 0, none⟩) n cap] w _ from AnyE.slices_Clone clonePair i0 (.agg #[.int .i32 0, .int .i32 0, .int .i32 0]) 3 12 hi hz0 hz1 hz2 rfl (by decide) Tryz.sizeOf76 g 0 n cap xs w h.1 (by unfold maxLen; omega) (by omega) (fun j u hu => ?_) h1).mono ?_
    · have hj := (List.getElem?_eq_some_iff.1 hu).1
      rw [h.1] at hj
      rw [← hx, List.getElem?_take_of_lt hj] at hu
      rw [Nat.zero_add]
      have b : Blk w g cur 76 := hg
      rw [b.cell j, ← hu, Array.getElem?_toList]
    · rintro e w' ⟨v', rfl, h2, _, h3⟩
      exact ⟨v', rfl, h2, h3⟩
theorem cloneMap_any (lo n : Nat) (v : Value) (xs : List Value) (w : World) (h : w.ownsRow lo 56 2 v n xs) (hn : n ≤ 2000000) (h1 : ∀ u ∈ xs, u.oneCell' = true) : Calls Tryz.prog 34 #[v] w fun e w' => ∃ v', e = .returned v' ∧ w'.ownsRow w.heap.size 56 2 v' n xs ∧ Below w.heap.size w w' := by
  obtain ⟨i0, hi, hz0, hz1, hz2⟩ := info_parts infoMap
  rcases h.2 with ⟨rfl, rfl⟩ | ⟨g, cap, cur, rfl, hl, hg, hc, hm, hcs, hx⟩
  · refine (show Calls Tryz.prog 34 #[.slice none 0 0] w _ from AnyE.slices_Clone_nil cloneMap 0 0 w).mono ?_
    rintro e w' ⟨rfl, rfl⟩
    exact ⟨_, rfl, ⟨h.1, .inl ⟨rfl, rfl⟩⟩, Below.refl _ _⟩
  · refine (show Calls Tryz.prog 34 #[.slice (some ⟨g, 0, none⟩) n cap] w _ from AnyE.slices_Clone cloneMap i0 (.agg #[.int .i32 0, .string ⟨#[]⟩]) 2 24 hi hz0 hz1 hz2 rfl (by decide) Tryz.sizeOf56 g 0 n cap xs w h.1 (by unfold maxLen; omega) (by omega) (fun j u hu => ?_) h1).mono ?_
    · have hj := (List.getElem?_eq_some_iff.1 hu).1
      rw [h.1] at hj
      rw [← hx, List.getElem?_take_of_lt hj] at hu
      rw [Nat.zero_add]
      have b : Blk w g cur 56 := hg
      rw [b.cell j, ← hu, Array.getElem?_toList]
    · rintro e w' ⟨v', rfl, h2, _, h3⟩
      exact ⟨v', rfl, h2, h3⟩
/-- The scripts that are being copied: the first i of them have spans of their own. -/
structure OsSt (W wr : World) (g cap : Nat) (sc : List (ByteArray × List (Int × Int))) (us : List Value) (i : Nat) (cu : List Value) : Prop where
  row : wr.ownsRow W.heap.size 52 2 (.slice (some ⟨g, 0, none⟩) sc.length cap) sc.length (encSc sc cu)
  len : cu.length = sc.length
  old : ∀ j, i ≤ j → cu[j]? = us[j]?
  new : ∀ (j : Nat) (x : Value) (s : ByteArray × List (Int × Int)), j < i → cu[j]? = some x → sc[j]? = some s → wr.ownsRow W.heap.size 54 2 x s.2.length (encS2 s.2)
  apart : ∀ (j k : Nat) (x y : Value), j < i → k < i → j ≠ k → cu[j]? = some x → cu[k]? = some y → x.ownBlock = none ∨ x.ownBlock ≠ y.ownBlock
  bel : Below W.heap.size W wr
theorem OsSt.next {W wr w1 : World} {g cap : Nat} {sc : List (ByteArray × List (Int × Int))} {us : List Value} {i : Nat} {cu : List Value} {v' : Value} {s : ByteArray × List (Int × Int)} (h : OsSt W wr g cap sc us i cu) (hs : sc[i]? = some s) (hn : w1.ownsRow wr.heap.size 54 2 v' s.2.length (encS2 s.2)) (hb : Below wr.heap.size wr w1) :
    OsSt W (w1.setCell ⟨g, 2 * i + 1, none⟩ v') g cap sc us (i + 1) (cu.set i v') := by
  have hi := (List.getElem?_eq_some_iff.1 hs).1
  have hlen := h.len
  have hsz := h.bel.size
  have hgl : g < wr.heap.size := own_ltW h.row g rfl
  have hgb : W.heap.size ≤ g := rd_from h.row g rfl
  have hg1 : wr.grownBy w1 none := below_grown hb
  have hq := grown_set' w1 g (2 * i + 1) v'
  have hvg : v'.ownBlock = none ∨ v'.ownBlock ≠ some g := .inr fun e => by have := rd_from hn g e; omega
  refine ⟨?_, by rw [List.length_set]; exact hlen, fun j hj => by rw [List.getElem?_set_ne (by omega)]; exact h.old j (by omega), ?_, ?_, ?_⟩
  · have r1 := own_set (rd_other h.row hg1 (.inr (by simp [Value.ownBlock]))) (2 * i + 1) (by omega) v'
    rw [encSc_set _ _ hlen] at r1
    exact r1
  · intro j x t hj hx ht
    by_cases e : j = i
    · subst e
      rw [List.getElem?_set_self (by omega)] at hx
      obtain rfl := Option.some.inj hx
      obtain rfl := Option.some.inj (hs.symm.trans ht)
      exact rd_other (own_lower hn hsz) hq hvg
    · rw [List.getElem?_set_ne (Ne.symm e)] at hx
      have o1 := h.new j x t (by omega) hx ht
      refine rd_other (rd_other o1 hg1 (by cases hxb : x.ownBlock with | none => exact .inl rfl | some b => exact .inr (by simp))) hq ?_
      exact rd_apart (rd_other o1 hg1 (by cases hxb : x.ownBlock with | none => exact .inl rfl | some b => exact .inr (by simp))) (rd_other h.row hg1 (.inr (by simp [Value.ownBlock]))) (by decide)
  · intro j k x y hj hk hjk hx hy
    by_cases e : j = i
    · subst e
      rw [List.getElem?_set_self (by omega)] at hx
      rw [List.getElem?_set_ne hjk] at hy
      obtain rfl := Option.some.inj hx
      obtain ⟨t, ht⟩ : ∃ t, sc[k]? = some t := ⟨_, List.getElem?_eq_getElem (by omega)⟩
      cases hvb : v'.ownBlock with
      | none => exact .inl rfl
      | some b =>
        refine .inr fun e2 => ?_
        have h3 := rd_from hn b hvb
        have h4 := own_ltW (h.new k y t (by omega) hy ht) b e2.symm
        omega
    · rw [List.getElem?_set_ne (Ne.symm e)] at hx
      by_cases e3 : k = i
      · subst e3
        rw [List.getElem?_set_self (by omega)] at hy
        obtain rfl := Option.some.inj hy
        obtain ⟨t, ht⟩ : ∃ t, sc[j]? = some t := ⟨_, List.getElem?_eq_getElem (by omega)⟩
        cases hxb : x.ownBlock with
        | none => exact .inl rfl
        | some b =>
          refine .inr fun e2 => ?_
          have h3 := rd_from hn b e2.symm
          have h4 := own_ltW (h.new j x t (by omega) hx ht) b hxb
          omega
      · rw [List.getElem?_set_ne (Ne.symm e3)] at hy
        exact h.apart j k x y (by omega) (by omega) hjk hx hy
  · exact (h.bel.trans (hb.mono hsz)).setCell (p := ⟨g, 2 * i + 1, none⟩) hgb v'
/-- Scripts in memory of their own. -/
def OsPost (W w' : World) (sc : List (ByteArray × List (Int × Int))) (v' : Value) : Prop := ∃ us', us'.length = sc.length ∧ w'.ownsRow W.heap.size 52 2 v' sc.length (encSc sc us') ∧ (∀ (j : Nat) (x : Value) (s : ByteArray × List (Int × Int)), us'[j]? = some x → sc[j]? = some s → w'.ownsRow W.heap.size 54 2 x s.2.length (encS2 s.2)) ∧ (∀ (j k : Nat) (x y : Value), j ≠ k → us'[j]? = some x → us'[k]? = some y → x.ownBlock = none ∨ x.ownBlock ≠ y.ownBlock) ∧ Below W.heap.size W w'
/-- The number in a slot. -/
def cntI : Value → Nat
  | .int _ n => n.toNat
  | _ => 0
set_option maxRecDepth 100000 in
set_option maxHeartbeats 4000000 in
theorem ownScripts_any (lo : Nat) (v : Value) (sc : List (ByteArray × List (Int × Int))) (us : List Value) (W : World) (h : W.ownsRow lo 52 2 v sc.length (encSc sc us)) (hl : us.length = sc.length) (hn : sc.length ≤ 1000000) (hu : ∀ (j : Nat) (x : Value) (s : ByteArray × List (Int × Int)), us[j]? = some x → sc[j]? = some s → W.ownsRow lo 54 2 x s.2.length (encS2 s.2) ∧ s.2.length ≤ 1000000) :
    Calls Tryz.prog 30 #[v] W fun e w' => ∃ v', e = .returned v' ∧ OsPost W w' sc v' := by
  have h1 : ∀ u ∈ encSc sc us, u.oneCell' = true := encSc_one sc us (fun u hm => by
    obtain ⟨j, hj⟩ := List.mem_iff_getElem?.1 hm
    obtain ⟨s, hs⟩ : ∃ s, sc[j]? = some s := ⟨_, List.getElem?_eq_getElem (by have := (List.getElem?_eq_some_iff.1 hj).1; omega)⟩
    obtain ⟨a, c, rfl⟩ := own_slice (hu j u s hj hs).1
    rfl)
  have HC := hide (cloneScript_any lo sc.length v (encSc sc us) W h (by omega) h1)
  go_enter Tryz.func30, Tryz.ntmps30
  go_wp2_with fail
  refine (unhide HC).mono ?_
  rintro e w1 ⟨v1, rfl, hown, hb1⟩
  rcases Nat.eq_zero_or_pos sc.length with h0 | h0
  · obtain rfl := List.length_eq_zero_iff.1 h0
    obtain rfl := List.length_eq_zero_iff.1 hl
    obtain ⟨a1, c1, hv1⟩ := own_slice hown
    have hv1 : v1 = .slice a1 0 c1 := hv1
    subst hv1
    have HOWN := hide (And.intro hown hb1)
    clear hown hb1 h0 hu h1 h HC hl hn
    go_wp2_with fail
    refine wp_loop_rounds 1 ?_
    rw [rounds_succ]
    go_wp2_with fail
    go_ret
    exact ⟨_, rfl, [], rfl, (unhide HOWN).1, fun j x s hx _ => by simp at hx, fun j k x y _ hx _ => by simp at hx, (unhide HOWN).2⟩
  · rcases hown.2 with ⟨_, h2⟩ | ⟨g, cap, cur, rfl, hgl, _⟩
    · omega
    · obtain ⟨N, hN⟩ : ∃ N, N = sc.length := ⟨_, rfl⟩
      have H0 : Hz (OsSt W w1 g cap sc us 0 us) := hide ⟨hown, hl, fun _ _ => rfl, fun j x s hj => absurd hj (Nat.not_lt_zero j), fun j k x y hj => absurd hj (Nat.not_lt_zero j), hb1⟩
      have HU := hide hu
      have HL := hide hl
      have HN := hide hN
      rw [← hN]
      have hN1 : N ≤ 1000000 := by omega
      clear hown hb1 hu hl h HC h1 hN hn h0 hgl
      go_wp2_with fail
      go_loopw [3, 8] (fun u3 u8 wr => ∃ (i : Nat) (cu : List Value), u8 = .int .i64 (i : Int) ∧ i ≤ N ∧ Hz (OsSt W wr g cap sc us i cu)) (fun _ u8 _ => N - cntI u8)
      case atStart => exact ⟨0, us, rfl, Nat.zero_le _, H0⟩
      case round =>
        obtain ⟨i, cu, rfl, hi, HQ⟩ := hrel
        clear H0
        by_cases hlt : i < N
        · have hlt2 : (i : Int) < (N : Int) := by omega
          have hi0 : (0 : Int) ≤ (i : Int) := by omega
          obtain ⟨s, hs⟩ : ∃ s, sc[i]? = some s := ⟨_, List.getElem?_eq_getElem (by have := unhide HN; omega)⟩
          obtain ⟨x, hx⟩ : ∃ x, us[i]? = some x := ⟨_, List.getElem?_eq_getElem (by have := unhide HN; have := unhide HL; omega)⟩
          have hcx : cu[i]? = some x := ((unhide HQ).old i (Nat.le_refl _)).trans hx
          obtain ⟨hox, hsl⟩ := unhide HU i x s hx hs
          obtain ⟨xa, xc, rfl⟩ := own_slice hox
          have hox2 := rd_other hox (below_grown (row := none) (unhide HQ).bel) (by cases hxb : Value.ownBlock (.slice xa s.2.length xc) with | none => exact .inl rfl | some b => exact .inr (by simp))
          have HC := hide (cloneSpan_any lo s.2.length (.slice xa s.2.length xc) (encS2 s.2) wr hox2 (by omega) (encS2_one s.2))
          have hcell : wr.cell? ⟨g, i * 2 + 1, none⟩ = some (.slice xa s.2.length xc) := by
            rcases own_some (unhide HQ).row (fun e => by have := unhide HN; omega) with ⟨e, _⟩ | ⟨g', c', e, _, _, _, hc⟩
            · cases e
            · injection e with e1
              injection e1 with e1
              injection e1 with e1
              subst e1
              have := hc (2 * i + 1) _ (by rw [encSc_at _ _ (unhide HQ).len]; exact hcx)
              rwa [show ((⟨g, 0, none⟩ : Addr).add (2 * i + 1)) = ⟨g, i * 2 + 1, none⟩ by simp [Addr.add]; omega] at this
          have HS := hide hs
          clear hox hox2 hsl hx hcx hs
          have HNEXT := hide (fun (w2 : World) (v2 : Value) => (unhide HQ).next (w1 := w2) (v' := v2) (unhide HS))
          have HROW := hide (unhide HQ).row
          go_wp2_with fail
          refine (unhide HC).mono ?_
          rintro e w2 ⟨v2, rfl, hown2, hb2⟩
          obtain ⟨va2, vc2, rfl⟩ := own_slice hown2
          have hq2 := unhide HNEXT w2 _ hown2 hb2
          have hrow2 := rd_other (unhide HROW) (below_grown (row := none) hb2) (.inr (by simp [Value.ownBlock]))
          have hgl2 : g < wr.heap.size := own_ltW (unhide HROW) g rfl
          have hcell2 : w2.cell? ⟨g, i * 2 + 1, none⟩ = some (.slice xa s.2.length xc) := (hb2.cell (p := ⟨g, i * 2 + 1, none⟩) hgl2).trans hcell
          have hfr2 : w2.frozen? ⟨g, i * 2 + 1, none⟩ = false := by
            rcases hrow2.2 with ⟨e, _⟩ | ⟨g', cap', cur', e, _, hg', _⟩
            · cases e
            · injection e with e1
              injection e1 with e1
              injection e1 with e1
              subst e1
              exact (show Blk w2 g cur' 52 from hg').frozen _
          rw [show 2 * i + 1 = i * 2 + 1 by omega] at hq2
          have HQ2 := hide hq2
          clear hq2 hrow2 hown2 hb2 HNEXT HROW HQ hgl2
          go_wp2_with fail
          go_roundw
          case rel => exact ⟨i + 1, _, rfl, hlt, HQ2⟩
          case measure => show N - ((i : Int) + 1).toNat < N - (i : Int).toNat; omega
        · have hle : ¬ ((i : Int) < (N : Int)) := by omega
          have hiN : i = N := by omega
          go_wp2_with fail
          go_ret
          exact ⟨_, rfl, cu, by have := (unhide HQ).len; exact this, by rw [unhide HN]; exact (unhide HQ).row, fun j y s hy hs => (unhide HQ).new j y s (by have := (List.getElem?_eq_some_iff.1 hs).1; have := unhide HN; omega) hy hs, fun j k y z hjk hy hz => (unhide HQ).apart j k y z (by have := (List.getElem?_eq_some_iff.1 hy).1; have := (unhide HQ).len; have := unhide HN; omega) (by have := (List.getElem?_eq_some_iff.1 hz).1; have := (unhide HQ).len; have := unhide HN; omega) hjk hy hz, (unhide HQ).bel⟩
end Go.Proofs.YtbbnppcpjpdpaaaGreatDoor
