/- Texts of this claim, one behind the other. -/
import Derived.Test.YtjgfmobmilgapaaGreatDoorM12
import Derived.Test.YtjgfmobmilgapaaGreatDoorM11
import Derived.Test.YtjgfmobmilgapaaGreatDoorShK
import Derived.Test.YtjgfmobmilgapaaGreatDoorM8
/- A text's tables: lists that are copied. -/
namespace Go.Proofs.YtjgfmobmilgapaaGreatDoor
open Go.RowKit Go.Shelf
set_option linter.unusedVariables false
theorem encM2_one (t : List (Int × Int)) : ∀ u ∈ encM2 t, u.oneCell' = true := by
  induction t with
  | nil => intro u hu; cases hu
  | cons x t ih =>
    intro u hu
    rcases List.mem_cons.1 hu with rfl | hu
    · rfl
    · rcases List.mem_cons.1 hu with rfl | hu
      · rfl
      · exact ih u hu
theorem encF2_one (t : List (Int × ByteArray)) : ∀ u ∈ encF2 t, u.oneCell' = true := by
  induction t with
  | nil => intro u hu; cases hu
  | cons x t ih =>
    intro u hu
    rcases List.mem_cons.1 hu with rfl | hu
    · rfl
    · rcases List.mem_cons.1 hu with rfl | hu
      · rfl
      · exact ih u hu
theorem encP3_one (t : List (Int × Int × Int)) : ∀ u ∈ encP3 t, u.oneCell' = true := by
  induction t with
  | nil => intro u hu; cases hu
  | cons x t ih =>
    intro u hu
    rcases List.mem_cons.1 hu with rfl | hu
    · rfl
    · rcases List.mem_cons.1 hu with rfl | hu
      · rfl
      · rcases List.mem_cons.1 hu with rfl | hu
        · rfl
        · exact ih u hu
theorem encSc_one (t : List (ByteArray × List (Int × Int))) (us : List Value) (hu : ∀ u ∈ us, u.oneCell' = true) : ∀ u ∈ encSc t us, u.oneCell' = true := by
  induction t generalizing us with
  | nil => intro u h; cases us <;> cases h
  | cons x t ih => cases us with
    | nil => intro u h; cases h
    | cons v us =>
      intro u h
      rcases List.mem_cons.1 h with rfl | h
      · rfl
      · rcases List.mem_cons.1 h with rfl | h
        · exact hu _ List.mem_cons_self
        · exact ih us (fun y hy => hu y (List.mem_cons_of_mem _ hy)) u h
theorem encSc_at (t : List (ByteArray × List (Int × Int))) (us : List Value) (h : us.length = t.length) (j : Nat) : (encSc t us)[2 * j + 1]? = us[j]? := by
  induction t generalizing us j with
  | nil => cases us with
    | nil => simp [encSc]
    | cons v us => cases h
  | cons x t ih => cases us with
    | nil => cases h
    | cons v us => cases j with
      | zero => rfl
      | succ j => show (_ :: _ :: encSc t us)[2 * j + 1 + 2]? = _; rw [List.getElem?_cons_succ, List.getElem?_cons_succ, List.getElem?_cons_succ]; exact ih us (by simpa using h) j
theorem encSc_set (t : List (ByteArray × List (Int × Int))) (us : List Value) (h : us.length = t.length) (j : Nat) (v : Value) : (encSc t us).set (2 * j + 1) v = encSc t (us.set j v) := by
  induction t generalizing us j with
  | nil => cases us with
    | nil => simp [encSc]
    | cons v us => cases h
  | cons x t ih => cases us with
    | nil => cases h
    | cons u us => cases j with
      | zero => rfl
      | succ j => show (_ :: _ :: encSc t us).set (2 * j + 1 + 2) v = _ :: _ :: encSc t (us.set j v); rw [List.set_cons_succ, List.set_cons_succ, ih us (by simpa using h) j]
theorem encSc_length (t : List (ByteArray × List (Int × Int))) (us : List Value) (h : us.length = t.length) : (encSc t us).length = t.length * 2 := by
  induction t generalizing us with
  | nil => cases us <;> rfl
  | cons x t ih => cases us with
    | nil => cases h
    | cons u us => show (encSc t us).length + 1 + 1 = (t.length + 1) * 2; rw [ih us (by simpa using h)]; omega
theorem own_set {W : World} {lo E sz n g cap : Nat} {xs : List Value} (h : W.ownsRow lo E sz (.slice (some ⟨g, 0, none⟩) n cap) n xs) (i : Nat) (hi : i < n * sz) (u : Value) : (W.setCell ⟨g, i, none⟩ u).ownsRow lo E sz (.slice (some ⟨g, 0, none⟩) n cap) n (xs.set i u) := by
  refine ⟨by rw [List.length_set]; exact h.1, ?_⟩
  rcases h.2 with ⟨e, _⟩ | ⟨g', cap', cur, e, hb, hg, hc, hm, hcs, hx⟩
  · cases e
  · injection e with e1 e2 e3
    injection e1 with e1
    injection e1 with e1
    subst e1 e3
    have b := (show Blk W g cur E from hg).set i u
    refine .inr ⟨g, cap, _, rfl, hb, b, hc, hm, by rw [Array.size_setIfInBounds]; exact hcs, ?_⟩
    rw [Array.toList_setIfInBounds, List.take_set, hx]
theorem cloneScript_any (lo n : Nat) (v : Value) (xs : List Value) (w : World) (h : w.ownsRow lo 64 2 v n xs) (hn : n ≤ 2000000) (h1 : ∀ u ∈ xs, u.oneCell' = true) : Calls Tryz.prog 46 #[v] w fun e w' => ∃ v', e = .returned v' ∧ w'.ownsRow w.heap.size 64 2 v' n xs ∧ Below w.heap.size w w' := by
  obtain ⟨i0, hi, hz0, hz1, hz2⟩ := info_parts infoScript
  rcases h.2 with ⟨rfl, rfl⟩ | ⟨g, cap, cur, rfl, hl, hg, hc, hm, hcs, hx⟩
  · refine (show Calls Tryz.prog 46 #[.slice none 0 0] w _ from AnyE.slices_Clone_nil cloneScript 0 0 w).mono ?_
    rintro e w' ⟨rfl, rfl⟩
    exact ⟨_, rfl, ⟨h.1, .inl ⟨rfl, rfl⟩⟩, Below.refl _ _⟩
  · refine (show Calls Tryz.prog 46 #[.slice (some ⟨g, 0, none⟩) n cap] w _ from AnyE.slices_Clone cloneScript i0 (.agg #[.string ⟨#[]⟩, .slice none 0 0]) 2 40 hi hz0 hz1 hz2 rfl (by decide) Tryz.sizeOf64 g 0 n cap xs w h.1 (by unfold maxLen; omega) (by omega) (fun j u hu => ?_) h1).mono ?_
    · have hj := (List.getElem?_eq_some_iff.1 hu).1
      rw [h.1] at hj
      rw [← hx, List.getElem?_take_of_lt hj] at hu
      rw [Nat.zero_add]
      have b : Blk w g cur 64 := hg
      rw [b.cell j, ← hu, Array.getElem?_toList]
    · rintro e w' ⟨v', rfl, h2, _, h3⟩
      exact ⟨v', rfl, h2, h3⟩
theorem cloneSpan_any (lo n : Nat) (v : Value) (xs : List Value) (w : World) (h : w.ownsRow lo 68 2 v n xs) (hn : n ≤ 2000000) (h1 : ∀ u ∈ xs, u.oneCell' = true) : Calls Tryz.prog 23 #[v] w fun e w' => ∃ v', e = .returned v' ∧ w'.ownsRow w.heap.size 68 2 v' n xs ∧ Below w.heap.size w w' := by
  obtain ⟨i0, hi, hz0, hz1, hz2⟩ := info_parts infoSpan
  rcases h.2 with ⟨rfl, rfl⟩ | ⟨g, cap, cur, rfl, hl, hg, hc, hm, hcs, hx⟩
  · refine (show Calls Tryz.prog 23 #[.slice none 0 0] w _ from AnyE.slices_Clone_nil cloneSpan 0 0 w).mono ?_
    rintro e w' ⟨rfl, rfl⟩
    exact ⟨_, rfl, ⟨h.1, .inl ⟨rfl, rfl⟩⟩, Below.refl _ _⟩
  · refine (show Calls Tryz.prog 23 #[.slice (some ⟨g, 0, none⟩) n cap] w _ from AnyE.slices_Clone cloneSpan i0 (.agg #[.int .i32 0, .int .i32 0]) 2 8 hi hz0 hz1 hz2 rfl (by decide) Tryz.sizeOf68 g 0 n cap xs w h.1 (by unfold maxLen; omega) (by omega) (fun j u hu => ?_) h1).mono ?_
    · have hj := (List.getElem?_eq_some_iff.1 hu).1
      rw [h.1] at hj
      rw [← hx, List.getElem?_take_of_lt hj] at hu
      rw [Nat.zero_add]
      have b : Blk w g cur 68 := hg
      rw [b.cell j, ← hu, Array.getElem?_toList]
    · rintro e w' ⟨v', rfl, h2, _, h3⟩
      exact ⟨v', rfl, h2, h3⟩
theorem cloneMark_any (lo n : Nat) (v : Value) (xs : List Value) (w : World) (h : w.ownsRow lo 71 2 v n xs) (hn : n ≤ 2000000) (h1 : ∀ u ∈ xs, u.oneCell' = true) : Calls Tryz.prog 24 #[v] w fun e w' => ∃ v', e = .returned v' ∧ w'.ownsRow w.heap.size 71 2 v' n xs ∧ Below w.heap.size w w' := by
  obtain ⟨i0, hi, hz0, hz1, hz2⟩ := info_parts infoMark
  rcases h.2 with ⟨rfl, rfl⟩ | ⟨g, cap, cur, rfl, hl, hg, hc, hm, hcs, hx⟩
  · refine (show Calls Tryz.prog 24 #[.slice none 0 0] w _ from AnyE.slices_Clone_nil cloneMark 0 0 w).mono ?_
    rintro e w' ⟨rfl, rfl⟩
    exact ⟨_, rfl, ⟨h.1, .inl ⟨rfl, rfl⟩⟩, Below.refl _ _⟩
  · refine (show Calls Tryz.prog 24 #[.slice (some ⟨g, 0, none⟩) n cap] w _ from AnyE.slices_Clone cloneMark i0 (.agg #[.int .i32 0, .int .i64 0]) 2 16 hi hz0 hz1 hz2 rfl (by decide) Tryz.sizeOf71 g 0 n cap xs w h.1 (by unfold maxLen; omega) (by omega) (fun j u hu => ?_) h1).mono ?_
    · have hj := (List.getElem?_eq_some_iff.1 hu).1
      rw [h.1] at hj
      rw [← hx, List.getElem?_take_of_lt hj] at hu
      rw [Nat.zero_add]
      have b : Blk w g cur 71 := hg
      rw [b.cell j, ← hu, Array.getElem?_toList]
    · rintro e w' ⟨v', rfl, h2, _, h3⟩
      exact ⟨v', rfl, h2, h3⟩
theorem clonePair_any (lo n : Nat) (v : Value) (xs : List Value) (w : World) (h : w.ownsRow lo 74 3 v n xs) (hn : n ≤ 2000000) (h1 : ∀ u ∈ xs, u.oneCell' = true) : Calls Tryz.prog 25 #[v] w fun e w' => ∃ v', e = .returned v' ∧ w'.ownsRow w.heap.size 74 3 v' n xs ∧ Below w.heap.size w w' := by
  obtain ⟨i0, hi, hz0, hz1, hz2⟩ := info_parts infoPair
  rcases h.2 with ⟨rfl, rfl⟩ | ⟨g, cap, cur, rfl, hl, hg, hc, hm, hcs, hx⟩
  · refine (show Calls Tryz.prog 25 #[.slice none 0 0] w _ from AnyE.slices_Clone_nil clonePair 0 0 w).mono ?_
    rintro e w' ⟨rfl, rfl⟩
    exact ⟨_, rfl, ⟨h.1, .inl ⟨rfl, rfl⟩⟩, Below.refl _ _⟩
  · refine (show Calls Tryz.prog 25 #[.slice (some ⟨g, 0, none⟩) n cap] w _ from AnyE.slices_Clone clonePair i0 (.agg #[.int .i32 0, .int .i32 0, .int .i32 0]) 3 12 hi hz0 hz1 hz2 rfl (by decide) Tryz.sizeOf74 g 0 n cap xs w h.1 (by unfold maxLen; omega) (by omega) (fun j u hu => ?_) h1).mono ?_
    · have hj := (List.getElem?_eq_some_iff.1 hu).1
      rw [h.1] at hj
      rw [← hx, List.getElem?_take_of_lt hj] at hu
      rw [Nat.zero_add]
      have b : Blk w g cur 74 := hg
      rw [b.cell j, ← hu, Array.getElem?_toList]
    · rintro e w' ⟨v', rfl, h2, _, h3⟩
      exact ⟨v', rfl, h2, h3⟩
theorem cloneMap_any (lo n : Nat) (v : Value) (xs : List Value) (w : World) (h : w.ownsRow lo 77 2 v n xs) (hn : n ≤ 2000000) (h1 : ∀ u ∈ xs, u.oneCell' = true) : Calls Tryz.prog 26 #[v] w fun e w' => ∃ v', e = .returned v' ∧ w'.ownsRow w.heap.size 77 2 v' n xs ∧ Below w.heap.size w w' := by
  obtain ⟨i0, hi, hz0, hz1, hz2⟩ := info_parts infoMap
  rcases h.2 with ⟨rfl, rfl⟩ | ⟨g, cap, cur, rfl, hl, hg, hc, hm, hcs, hx⟩
  · refine (show Calls Tryz.prog 26 #[.slice none 0 0] w _ from AnyE.slices_Clone_nil cloneMap 0 0 w).mono ?_
    rintro e w' ⟨rfl, rfl⟩
    exact ⟨_, rfl, ⟨h.1, .inl ⟨rfl, rfl⟩⟩, Below.refl _ _⟩
  · refine (show Calls Tryz.prog 26 #[.slice (some ⟨g, 0, none⟩) n cap] w _ from AnyE.slices_Clone cloneMap i0 (.agg #[.int .i32 0, .string ⟨#[]⟩]) 2 24 hi hz0 hz1 hz2 rfl (by decide) Tryz.sizeOf77 g 0 n cap xs w h.1 (by unfold maxLen; omega) (by omega) (fun j u hu => ?_) h1).mono ?_
    · have hj := (List.getElem?_eq_some_iff.1 hu).1
      rw [h.1] at hj
      rw [← hx, List.getElem?_take_of_lt hj] at hu
      rw [Nat.zero_add]
      have b : Blk w g cur 77 := hg
      rw [b.cell j, ← hu, Array.getElem?_toList]
    · rintro e w' ⟨v', rfl, h2, _, h3⟩
      exact ⟨v', rfl, h2, h3⟩
structure OsSt (W wr : World) (g cap : Nat) (sc : List (ByteArray × List (Int × Int))) (us : List Value) (i : Nat) (cu : List Value) : Prop where
  row : wr.ownsRow W.heap.size 64 2 (.slice (some ⟨g, 0, none⟩) sc.length cap) sc.length (encSc sc cu)
  len : cu.length = sc.length
  old : ∀ j, i ≤ j → cu[j]? = us[j]?
  new : ∀ (j : Nat) (x : Value) (s : ByteArray × List (Int × Int)), j < i → cu[j]? = some x → sc[j]? = some s → wr.ownsRow W.heap.size 68 2 x s.2.length (encS2 s.2)
  apart : ∀ (j k : Nat) (x y : Value), j < i → k < i → j ≠ k → cu[j]? = some x → cu[k]? = some y → x.ownBlock = none ∨ x.ownBlock ≠ y.ownBlock
  bel : Below W.heap.size W wr
theorem OsSt.next {W wr w1 : World} {g cap : Nat} {sc : List (ByteArray × List (Int × Int))} {us : List Value} {i : Nat} {cu : List Value} {v' : Value} {s : ByteArray × List (Int × Int)} (h : OsSt W wr g cap sc us i cu) (hs : sc[i]? = some s) (hn : w1.ownsRow wr.heap.size 68 2 v' s.2.length (encS2 s.2)) (hb : Below wr.heap.size wr w1) :
    OsSt W (w1.setCell ⟨g, 2 * i + 1, none⟩ v') g cap sc us (i + 1) (cu.set i v') := by
  have hi := (List.getElem?_eq_some_iff.1 hs).1
  have hlen := h.len
  have hsz := h.bel.size
  have hgl : g < wr.heap.size := own_ltW h.row g rfl
  have hgb : W.heap.size ≤ g := rd_from h.row g rfl
  have hg1 : wr.grownBy w1 none := below_grown hb
  have hq := grown_set' w1 g (2 * i + 1) v'
  have hvg : v'.ownBlock = none ∨ v'.ownBlock ≠ some g := .inr fun e => by have := rd_from hn g e; omega
  refine ⟨?_, by rw [List.length_set]; exact hlen, fun j hj => by rw [List.getElem?_set_ne (by omega)]; exact h.old j (by omega), ?_, ?_, ?_⟩
  · have r1 := own_set (rd_other h.row hg1 (.inr (by simp [Value.ownBlock]))) (2 * i + 1) (by omega) v'
    rw [encSc_set _ _ hlen] at r1
    exact r1
  · intro j x t hj hx ht
    by_cases e : j = i
    · subst e
      rw [List.getElem?_set_self (by omega)] at hx
      obtain rfl := Option.some.inj hx
      obtain rfl := Option.some.inj (hs.symm.trans ht)
      exact rd_other (own_lower hn hsz) hq hvg
    · rw [List.getElem?_set_ne (Ne.symm e)] at hx
      have o1 := h.new j x t (by omega) hx ht
      refine rd_other (rd_other o1 hg1 (by cases hxb : x.ownBlock with | none => exact .inl rfl | some b => exact .inr (by simp))) hq ?_
      exact rd_apart (rd_other o1 hg1 (by cases hxb : x.ownBlock with | none => exact .inl rfl | some b => exact .inr (by simp))) (rd_other h.row hg1 (.inr (by simp [Value.ownBlock]))) (by decide)
  · intro j k x y hj hk hjk hx hy
    by_cases e : j = i
    · subst e
      rw [List.getElem?_set_self (by omega)] at hx
      rw [List.getElem?_set_ne hjk] at hy
      obtain rfl := Option.some.inj hx
      obtain ⟨t, ht⟩ : ∃ t, sc[k]? = some t := ⟨_, List.getElem?_eq_getElem (by omega)⟩
      cases hvb : v'.ownBlock with
      | none => exact .inl rfl
      | some b =>
        refine .inr fun e2 => ?_
        have h3 := rd_from hn b hvb
        have h4 := own_ltW (h.new k y t (by omega) hy ht) b e2.symm
        omega
    · rw [List.getElem?_set_ne (Ne.symm e)] at hx
      by_cases e3 : k = i
      · subst e3
        rw [List.getElem?_set_self (by omega)] at hy
        obtain rfl := Option.some.inj hy
        obtain ⟨t, ht⟩ : ∃ t, sc[j]? = some t := ⟨_, List.getElem?_eq_getElem (by omega)⟩
        cases hxb : x.ownBlock with
        | none => exact .inl rfl
        | some b =>
          refine .inr fun e2 => ?_
          have h3 := rd_from hn b e2.symm
          have h4 := own_ltW (h.new j x t (by omega) hx ht) b hxb
          omega
      · rw [List.getElem?_set_ne (Ne.symm e3)] at hy
        exact h.apart j k x y (by omega) (by omega) hjk hx hy
  · exact (h.bel.trans (hb.mono hsz)).setCell (p := ⟨g, 2 * i + 1, none⟩) hgb v'
def OsPost (W w' : World) (sc : List (ByteArray × List (Int × Int))) (v' : Value) : Prop := ∃ us', us'.length = sc.length ∧ w'.ownsRow W.heap.size 64 2 v' sc.length (encSc sc us') ∧ (∀ (j : Nat) (x : Value) (s : ByteArray × List (Int × Int)), us'[j]? = some x → sc[j]? = some s → w'.ownsRow W.heap.size 68 2 x s.2.length (encS2 s.2)) ∧ (∀ (j k : Nat) (x y : Value), j ≠ k → us'[j]? = some x → us'[k]? = some y → x.ownBlock = none ∨ x.ownBlock ≠ y.ownBlock) ∧ Below W.heap.size W w'
def cntI : Value → Nat
  | .int _ n => n.toNat
  | _ => 0
set_option maxRecDepth 100000 in
set_option maxHeartbeats 4000000 in
theorem ownScripts_any (lo : Nat) (v : Value) (sc : List (ByteArray × List (Int × Int))) (us : List Value) (W : World) (h : W.ownsRow lo 64 2 v sc.length (encSc sc us)) (hl : us.length = sc.length) (hn : sc.length ≤ 1000000) (hu : ∀ (j : Nat) (x : Value) (s : ByteArray × List (Int × Int)), us[j]? = some x → sc[j]? = some s → W.ownsRow lo 68 2 x s.2.length (encS2 s.2) ∧ s.2.length ≤ 1000000) :
    Calls Tryz.prog 22 #[v] W fun e w' => ∃ v', e = .returned v' ∧ OsPost W w' sc v' := by
  have h1 : ∀ u ∈ encSc sc us, u.oneCell' = true := encSc_one sc us (fun u hm => by
    obtain ⟨j, hj⟩ := List.mem_iff_getElem?.1 hm
    obtain ⟨s, hs⟩ : ∃ s, sc[j]? = some s := ⟨_, List.getElem?_eq_getElem (by have := (List.getElem?_eq_some_iff.1 hj).1; omega)⟩
    obtain ⟨a, c, rfl⟩ := own_slice (hu j u s hj hs).1
    rfl)
  have HC := hide (cloneScript_any lo sc.length v (encSc sc us) W h (by omega) h1)
  go_enter Tryz.func22, Tryz.ntmps22
  go_wp2_with fail
  refine (unhide HC).mono ?_
  rintro e w1 ⟨v1, rfl, hown, hb1⟩
  rcases Nat.eq_zero_or_pos sc.length with h0 | h0
  · obtain rfl := List.length_eq_zero_iff.1 h0
    obtain rfl := List.length_eq_zero_iff.1 hl
    obtain ⟨a1, c1, hv1⟩ := own_slice hown
    have hv1 : v1 = .slice a1 0 c1 := hv1
    subst hv1
    have HOWN := hide (And.intro hown hb1)
    clear hown hb1 h0 hu h1 h HC hl hn
    go_wp2_with fail
    refine wp_loop_rounds 1 ?_
    rw [rounds_succ]
    go_wp2_with fail
    go_ret
    exact ⟨_, rfl, [], rfl, (unhide HOWN).1, fun j x s hx _ => by simp at hx, fun j k x y _ hx _ => by simp at hx, (unhide HOWN).2⟩
  · rcases hown.2 with ⟨_, h2⟩ | ⟨g, cap, cur, rfl, hgl, _⟩
    · omega
    · obtain ⟨N, hN⟩ : ∃ N, N = sc.length := ⟨_, rfl⟩
      have H0 : Hz (OsSt W w1 g cap sc us 0 us) := hide ⟨hown, hl, fun _ _ => rfl, fun j x s hj => absurd hj (Nat.not_lt_zero j), fun j k x y hj => absurd hj (Nat.not_lt_zero j), hb1⟩
      have HU := hide hu
      have HL := hide hl
      have HN := hide hN
      rw [← hN]
      have hN1 : N ≤ 1000000 := by omega
      clear hown hb1 hu hl h HC h1 hN hn h0 hgl
      go_wp2_with fail
      go_loopw [3, 8] (fun u3 u8 wr => ∃ (i : Nat) (cu : List Value), u8 = .int .i64 (i : Int) ∧ i ≤ N ∧ Hz (OsSt W wr g cap sc us i cu)) (fun _ u8 _ => N - cntI u8)
      case atStart => exact ⟨0, us, rfl, Nat.zero_le _, H0⟩
      case round =>
        obtain ⟨i, cu, rfl, hi, HQ⟩ := hrel
        clear H0
        by_cases hlt : i < N
        · have hlt2 : (i : Int) < (N : Int) := by omega
          have hi0 : (0 : Int) ≤ (i : Int) := by omega
          obtain ⟨s, hs⟩ : ∃ s, sc[i]? = some s := ⟨_, List.getElem?_eq_getElem (by have := unhide HN; omega)⟩
          obtain ⟨x, hx⟩ : ∃ x, us[i]? = some x := ⟨_, List.getElem?_eq_getElem (by have := unhide HN; have := unhide HL; omega)⟩
          have hcx : cu[i]? = some x := ((unhide HQ).old i (Nat.le_refl _)).trans hx
          obtain ⟨hox, hsl⟩ := unhide HU i x s hx hs
          obtain ⟨xa, xc, rfl⟩ := own_slice hox
          have hox2 := rd_other hox (below_grown (row := none) (unhide HQ).bel) (by cases hxb : Value.ownBlock (.slice xa s.2.length xc) with | none => exact .inl rfl | some b => exact .inr (by simp))
          have HC := hide (cloneSpan_any lo s.2.length (.slice xa s.2.length xc) (encS2 s.2) wr hox2 (by omega) (encS2_one s.2))
          have hcell : wr.cell? ⟨g, i * 2 + 1, none⟩ = some (.slice xa s.2.length xc) := by
            rcases own_some (unhide HQ).row (fun e => by have := unhide HN; omega) with ⟨e, _⟩ | ⟨g', c', e, _, _, _, hc⟩
            · cases e
            · injection e with e1
              injection e1 with e1
              injection e1 with e1
              subst e1
              have := hc (2 * i + 1) _ (by rw [encSc_at _ _ (unhide HQ).len]; exact hcx)
              rwa [show ((⟨g, 0, none⟩ : Addr).add (2 * i + 1)) = ⟨g, i * 2 + 1, none⟩ by simp [Addr.add]; omega] at this
          have HS := hide hs
          clear hox hox2 hsl hx hcx hs
          have HNEXT := hide (fun (w2 : World) (v2 : Value) => (unhide HQ).next (w1 := w2) (v' := v2) (unhide HS))
          have HROW := hide (unhide HQ).row
          go_wp2_with fail
          refine (unhide HC).mono ?_
          rintro e w2 ⟨v2, rfl, hown2, hb2⟩
          obtain ⟨va2, vc2, rfl⟩ := own_slice hown2
          have hq2 := unhide HNEXT w2 _ hown2 hb2
          have hrow2 := rd_other (unhide HROW) (below_grown (row := none) hb2) (.inr (by simp [Value.ownBlock]))
          have hgl2 : g < wr.heap.size := own_ltW (unhide HROW) g rfl
          have hcell2 : w2.cell? ⟨g, i * 2 + 1, none⟩ = some (.slice xa s.2.length xc) := (hb2.cell (p := ⟨g, i * 2 + 1, none⟩) hgl2).trans hcell
          have hfr2 : w2.frozen? ⟨g, i * 2 + 1, none⟩ = false := by
            rcases hrow2.2 with ⟨e, _⟩ | ⟨g', cap', cur', e, _, hg', _⟩
            · cases e
            · injection e with e1
              injection e1 with e1
              injection e1 with e1
              subst e1
              exact (show Blk w2 g cur' 64 from hg').frozen _
          rw [show 2 * i + 1 = i * 2 + 1 by omega] at hq2
          have HQ2 := hide hq2
          clear hq2 hrow2 hown2 hb2 HNEXT HROW HQ hgl2
          go_wp2_with fail
          go_roundw
          case rel => exact ⟨i + 1, _, rfl, hlt, HQ2⟩
          case measure => show N - ((i : Int) + 1).toNat < N - (i : Int).toNat; omega
        · have hle : ¬ ((i : Int) < (N : Int)) := by omega
          have hiN : i = N := by omega
          go_wp2_with fail
          go_ret
          exact ⟨_, rfl, cu, by have := (unhide HQ).len; exact this, by rw [unhide HN]; exact (unhide HQ).row, fun j y s hy hs => (unhide HQ).new j y s (by have := (List.getElem?_eq_some_iff.1 hs).1; have := unhide HN; omega) hy hs, fun j k y z hjk hy hz => (unhide HQ).apart j k y z (by have := (List.getElem?_eq_some_iff.1 hy).1; have := (unhide HQ).len; have := unhide HN; omega) (by have := (List.getElem?_eq_some_iff.1 hz).1; have := (unhide HQ).len; have := unhide HN; omega) hjk hy hz, (unhide HQ).bel⟩
def PnOk (p : Pn) : Prop := p.t.length ≤ 264000
theorem put1_ok {p : Pn} (h : PnOk p) (w : ByteArray) (hw : w.size ≤ 1000) : PnOk (put1 p w) := by
  unfold put1
  cases hE : endedB p with
  | true => rw [if_pos rfl]; exact h
  | false =>
    rw [if_neg (by decide)]
    have h1 : p.t.length ≤ 262144 := by
      unfold endedB at hE
      rw [Bool.or_eq_false_iff] at hE
      have := of_decide_eq_false hE.2
      omega
    show ((if p.bg then p.t ++ [32] else p.t) ++ w.data.toList).length ≤ 264000
    rw [List.length_append, show w.data.toList.length = w.size from rfl]
    split <;> (try rw [List.length_append]) <;> (try simp only [List.length_singleton]) <;> omega
theorem putV_ok {p : Pn} (h : PnOk p) (ws : List ByteArray) (hw : ∀ w ∈ ws, w.size ≤ 1000) : PnOk (putV p ws) := by
  induction ws generalizing p with
  | nil => exact h
  | cons w ws ih => exact ih (put1_ok h w (hw w List.mem_cons_self)) (fun x hx => hw x (List.mem_cons_of_mem _ hx))
theorem line_ok {p : Pn} (h : PnOk p) : PnOk (lineV p) := by
  show (if endedB p then p.t else p.t ++ [10]).length ≤ 264000
  cases hE : endedB p with
  | true => rw [if_pos rfl]; exact h
  | false =>
    rw [if_neg (by decide)]
    have h1 : p.t.length ≤ 262144 := by
      unfold endedB at hE
      rw [Bool.or_eq_false_iff] at hE
      have := of_decide_eq_false hE.2
      omega
    rw [List.length_append, List.length_singleton]
    omega
theorem put1_wr (p : Pn) (w : ByteArray) : (put1 p w).wr = p.wr := by
  unfold put1
  split <;> rfl
theorem putV_wr (p : Pn) (ws : List ByteArray) : (putV p ws).wr = p.wr := by
  induction ws generalizing p with
  | nil => rfl
  | cons w ws ih => exact (ih (put1 p w)).trans (put1_wr p w)
theorem putV_take (p : Pn) (ws : List ByteArray) (j : Nat) (x : ByteArray) (hx : ws[j]? = some x) : putV p (ws.take (j + 1)) = put1 (putV p (ws.take j)) x := by
  have hj := (List.getElem?_eq_some_iff.1 hx).1
  have he : ws.take (j + 1) = ws.take j ++ [x] := by
    rw [List.take_add_one, hx]
    rfl
  rw [he]
  unfold putV
  rw [List.foldl_append]
  rfl
theorem putV_stop (p : Pn) (ws : List ByteArray) (j : Nat) (h : endedB (putV p (ws.take j)) = true) : putV p ws = putV p (ws.take j) := by
  have : putV p ws = putV (putV p (ws.take j)) (ws.drop j) := by
    unfold putV
    rw [← List.foldl_append, List.take_append_drop]
  rw [this, putV_ended h]
theorem not_ended {p : Pn} (h : endedB p = false) : p.wr = false ∧ p.t.length ≤ 262144 := by
  unfold endedB at h
  rw [Bool.or_eq_false_iff] at h
  have := of_decide_eq_false h.2
  exact ⟨h.1, by omega⟩
set_option maxRecDepth 100000 in
set_option maxHeartbeats 4000000 in
theorem pn_put (lo N g : Nat) (p : Pn) (ws : List ByteArray) (hp : PnOk p) (hw : ∀ w ∈ ws, p.wr = true ∨ w.size ≤ 1000) (hn : ws.length ≤ 100) (hgN : g ≠ N) (W : World) (h : PnAt W lo N p) (hb : Blk W g (ws.map Value.string).toArray 9) :
    Calls Tryz.prog 57 #[.pointer (some ⟨N, 0, none⟩), .slice (some ⟨g, 0, none⟩) ws.length ws.length] W fun e w' => (∃ r, e = .returned r) ∧ PnAt w' lo N (putV p ws) ∧ PF lo N W w' := by
  obtain ⟨n, hN⟩ : ∃ n, n = ws.length := ⟨_, rfl⟩
  rw [← hN]
  have hn1 : n ≤ 100 := by omega
  have H : Hz (PnAt W lo N (putV p (ws.take 0)) ∧ PnOk (putV p (ws.take 0)) ∧ PF lo N W W) := hide ⟨h, hp, PF.refl _ _ _⟩
  have HB := hide hb
  have HN := hide hN
  have HW := hide hw
  clear h hb hN hw hp hn
  go_enter Tryz.func57, Tryz.ntmps57
  go_wp2_with fail
  go_loopw [5, 8] (fun _ u8 wr => ∃ (j : Nat), u8 = .int .i64 (j : Int) ∧ j ≤ n ∧ Hz (PnAt wr lo N (putV p (ws.take j)) ∧ PnOk (putV p (ws.take j)) ∧ PF lo N W wr)) (fun _ u8 _ => n - cntI u8)
  case atStart => exact ⟨0, rfl, Nat.zero_le _, H⟩
  case round =>
    obtain ⟨j, rfl, hj, HQ⟩ := hrel
    clear H
    by_cases hlt : j < n
    · have hlt2 : (j : Int) < (n : Int) := by omega
      have hj0 : (0 : Int) ≤ (j : Int) := by omega
      obtain ⟨x, hx⟩ : ∃ x, ws[j]? = some x := ⟨_, List.getElem?_eq_getElem (by have := unhide HN; omega)⟩
      have hcell : wr.cell? ⟨g, j, none⟩ = some (.string x) := by
        have b := (unhide HQ).2.2.kp g _ _ hgN (by decide) (unhide HB)
        rw [b.cell j, List.getElem?_toArray, List.getElem?_map, hx]
        rfl
      have HX := hide (putV_take p ws j x hx)
      have HXW := hide (unhide HW x (List.mem_of_getElem? hx))
      have HST := hide (putV_stop p ws j)
      have HWR := hide (putV_wr p (ws.take j))
      clear hx
      obtain ⟨q, hq⟩ : ∃ q, q = putV p (ws.take j) := ⟨_, rfl⟩
      rw [← hq] at HQ HX HST HWR
      clear hq
      have hok : q.t.length ≤ 264000 := (unhide HQ).2.1
      have HEn := hide (pn_ended lo N q (by omega) wr (unhide HQ).1)
      cases hE : endedB q with
      | true =>
        rw [hE] at HEn
        go_wp2_with fail
        refine (unhide HEn).mono ?_
        rintro e w1 ⟨rfl, hw1⟩
        rw [hw1]
        clear hw1
        go_wp2_with fail
        exact bodyPost_ret (results_none rfl _ _ _) rfl ⟨⟨_, rfl⟩, by rw [unhide HST hE]; exact (unhide HQ).1, (unhide HQ).2.2⟩
      | false =>
        rw [hE] at HEn
        have hne := not_ended hE
        have hxs : x.size ≤ 1000 := by
          rcases unhide HXW with h1 | h1
          · rw [← unhide HWR] at h1
            rw [h1] at hne
            exact absurd hne.1 (by decide)
          · exact h1
        have hqt : q.t.length ≤ 262144 := hne.2
        have HOK := hide (put1_ok (unhide HQ).2.1 x hxs)
        have hp1 : put1 q x = ⟨(if q.bg then q.t ++ [32] else q.t) ++ x.data.toList, true, q.wr⟩ := if_neg (by rw [hE]; decide)
        obtain ⟨qt, qb, qw⟩ := q
        dsimp only at hqt hp1
        obtain ⟨qa, va, hba, hpa, hoa⟩ := (unhide HQ).1.blk
        have cb := hba.cell 2
        clear hba hpa hoa hne
        have HP1 := hide hp1
        clear hp1 hE
        cases qb with
        | true =>
          have HWB := hide (pn_byte lo N qt true qw 32 (by omega) wr (unhide HQ).1)
          go_wp2_with fail
          refine (unhide HEn).mono ?_
          rintro e w1 ⟨rfl, hw1⟩
          rw [hw1]
          clear hw1
          go_wp2_with fail
          refine (show Calls Tryz.prog 97 #[.pointer (some ⟨N, 0, none⟩), .int .u8 32] wr _ from unhide HWB).mono ?_
          rintro e w2 ⟨⟨r, rfl⟩, hp2, hf2⟩
          have HS2 := hide (pn_string lo N (qt ++ [32]) true qw x (by rw [List.length_append, List.length_singleton]; omega) w2 hp2)
          have HF2 := hide hf2
          clear hp2 hf2
          go_wp2_with fail
          refine (unhide HS2).mono ?_
          rintro e w3 ⟨⟨r, rfl⟩, hp3, hf3⟩
          obtain ⟨q3, v3, hb3, _, _⟩ := hp3.blk
          have c2 := hb3.cell 2
          have f2 := hb3.frozen 2
          have hbe := hp3.begun true
          have HQ4 : Hz (PnAt (w3.setCell ⟨N, 2, none⟩ (.bool true)) lo N (putV p (ws.take (j + 1))) ∧ PnOk (putV p (ws.take (j + 1))) ∧ PF lo N W (w3.setCell ⟨N, 2, none⟩ (.bool true))) := hide (by
            rw [unhide HX]
            refine ⟨?_, unhide HOK, (((unhide HQ).2.2.trans (unhide HF2)).trans hf3).trans hbe.2⟩
            rw [unhide HP1]
            exact hbe.1)
          clear hb3 hbe hp3 hf3
          go_wp2_with fail
          go_roundw
          case rel => exact ⟨j + 1, rfl, hlt, HQ4⟩
          case measure => show n - ((j : Int) + 1).toNat < n - (j : Int).toNat; omega
        | false =>
          have HS2 := hide (pn_string lo N qt false qw x (by omega) wr (unhide HQ).1)
          go_wp2_with fail
          refine (unhide HEn).mono ?_
          rintro e w1 ⟨rfl, hw1⟩
          rw [hw1]
          clear hw1
          go_wp2_with fail
          refine (unhide HS2).mono ?_
          rintro e w3 ⟨⟨r, rfl⟩, hp3, hf3⟩
          obtain ⟨q3, v3, hb3, _, _⟩ := hp3.blk
          have c2 := hb3.cell 2
          have f2 := hb3.frozen 2
          have hbe := hp3.begun true
          have HQ4 : Hz (PnAt (w3.setCell ⟨N, 2, none⟩ (.bool true)) lo N (putV p (ws.take (j + 1))) ∧ PnOk (putV p (ws.take (j + 1))) ∧ PF lo N W (w3.setCell ⟨N, 2, none⟩ (.bool true))) := hide (by
            rw [unhide HX]
            refine ⟨?_, unhide HOK, ((unhide HQ).2.2.trans hf3).trans hbe.2⟩
            rw [unhide HP1]
            exact hbe.1)
          clear hb3 hbe hp3 hf3
          go_wp2_with fail
          go_roundw
          case rel => exact ⟨j + 1, rfl, hlt, HQ4⟩
          case measure => show n - ((j : Int) + 1).toNat < n - (j : Int).toNat; omega
    · have hle : ¬ ((j : Int) < (n : Int)) := by omega
      have hjn : j = ws.length := by have := unhide HN; omega
      have HJ := hide hjn
      clear hjn
      go_wp2_with fail
      go_end0
      exact ⟨⟨_, rfl⟩, by have := (unhide HQ).1; rw [unhide HJ, List.take_length] at this; exact this, (unhide HQ).2.2⟩
theorem putV_ok2 {p : Pn} (h : PnOk p) (ws : List ByteArray) (hw : ∀ w ∈ ws, p.wr = true ∨ w.size ≤ 1000) : PnOk (putV p ws) := by
  cases hwr : p.wr with
  | true => rw [putV_ended (by unfold endedB; rw [hwr]; rfl)]; exact h
  | false => exact putV_ok h ws (fun w hm => by rcases hw w hm with e | e; rw [hwr] at e; cases e; exact e)
structure PS (W0 W : World) (lo N : Nat) (p : Pn) : Prop where
  here : PnAt W lo N p
  ok : PnOk p
  pf : PF lo N W0 W
  tab : W.cell? ⟨11, 15, none⟩ = some (.int .u8 4)
  low : 11 < lo
  off : 11 ≠ N
theorem Fr.cell {lo R Tx : Nat} {W W' : World} (h : Fr lo R Tx W W') {b i : Nat} {v : Value} (hb : b < lo) (h1 : b ≠ R) (h2 : b ≠ Tx) (hc : W.cell? ⟨b, i, none⟩ = some v) : W'.cell? ⟨b, i, none⟩ = some v := by
  have e := h.block b hb h1 h2
  have : W'.cell? ⟨b, i, none⟩ = W.cell? ⟨b, i, none⟩ := by
    unfold World.cell?
    rw [e]
  rw [this]
  exact hc
theorem PS.step {W0 W W' : World} {lo N : Nat} {p p' : Pn} (h : PS W0 W lo N p) (h1 : PnAt W' lo N p') (h2 : PnOk p') (h3 : PF lo N W W') : PS W0 W' lo N p' := ⟨h1, h2, h.pf.trans h3, h3.fr.cell h.low h.off h.off h.tab, h.low, h.off⟩
theorem PrAt.fresh {W W' : World} {lo N : Nat} {t : List UInt8} {bg wr : Bool} (h : PrAt W lo N t bg wr) (hg : W.grownBy W' Option.none) : PrAt W' lo N t bg wr := by
  obtain ⟨p, v, hb, hp, ho⟩ := h.blk
  exact ⟨⟨p, v, hb.kept hg (by simp), hp, rd_other ho hg (by cases v.ownBlock with | none => exact .inl rfl | some b => exact .inr (by simp))⟩, h.lt, Nat.le_trans h.lw hg.size⟩
theorem PS.fresh {W0 W W' : World} {lo N : Nat} {p : Pn} (h : PS W0 W lo N p) (hb : Below W.heap.size W W') : PS W0 W' lo N p := h.step (PrAt.fresh h.here (below_grown2 hb)) h.ok (PF.below h.here.lw hb)
theorem PS.alloc {W0 W : World} {lo N : Nat} {p : Pn} (h : PS W0 W lo N p) (o : Obj) : PS W0 (W.alloc o) lo N p := h.fresh ((Below.refl _ W).alloc (Nat.le_refl _) o)
theorem ps_put (lo N : Nat) (p : Pn) (ws : List ByteArray) (hw : ∀ w ∈ ws, p.wr = true ∨ w.size ≤ 1000) (hn : ws.length ≤ 100) (W0 W : World) (h : PS W0 W lo N p) :
    Calls Tryz.prog 57 #[.pointer (some ⟨N, 0, none⟩), .slice (some ⟨W.heap.size, 0, none⟩) ws.length ws.length] (W.alloc (.cells (ws.map Value.string).toArray 9)) fun e w' => (∃ r, e = .returned r) ∧ PS W0 w' lo N (putV p ws) ∧ PF lo N W w' := by
  have hlt := h.here.lt
  have hlw := h.here.lw
  refine (pn_put lo N W.heap.size p ws h.ok hw hn (by omega) _ (h.alloc _).here (Blk.new W _ _)).mono ?_
  rintro e w' ⟨h1, h2, h3⟩
  have hpa : PF lo N W (W.alloc (.cells (ws.map Value.string).toArray 9)) := PF.below hlw ((Below.refl _ W).alloc (Nat.le_refl _) _)
  exact ⟨h1, h.step h2 (putV_ok2 h.ok ws hw) (hpa.trans h3), hpa.trans h3⟩
theorem ps_line (lo N : Nat) (p : Pn) (W0 W : World) (h : PS W0 W lo N p) :
    Calls Tryz.prog 61 #[.pointer (some ⟨N, 0, none⟩)] W fun e w' => (∃ r, e = .returned r) ∧ PS W0 w' lo N (lineV p) ∧ PF lo N W w' := by
  refine (pn_line lo N p (by have := h.ok; unfold PnOk at this; omega) W h.here).mono ?_
  rintro e w' ⟨h1, h2, h3⟩
  exact ⟨h1, h.step h2 (line_ok h.ok) h3, h3⟩
theorem ps_need (lo N : Nat) (p : Pn) (ok : Bool) (W0 W : World) (h : PS W0 W lo N p) :
    Calls Tryz.prog 55 #[.pointer (some ⟨N, 0, none⟩), .bool ok] W fun e w' => (∃ r, e = .returned r) ∧ PS W0 w' lo N (needV p ok) ∧ PF lo N W w' := by
  refine (pn_need lo N p ok W h.here).mono ?_
  rintro e w' ⟨h1, h2, h3⟩
  exact ⟨h1, h.step h2 h.ok h3, h3⟩
def runeV (p : Pn) (r : Int) : Pn := putV (needV p ((textV r).2 == 0)) [(textV r).1]
theorem textV_size (r : Int) : (textV r).1.size ≤ 1000 := by
  unfold textV
  split
  · show (⟨#[]⟩ : ByteArray).size ≤ 1000; decide
  · rename_i hw
    split
    · have := encode_size_le r
      show ((⟨#[39]⟩ : ByteArray) ++ Utf8.encode r ++ ⟨#[39]⟩).size ≤ 1000
      rw [ByteArray.size_append, ByteArray.size_append]
      show 1 + _ + 1 ≤ 1000
      omega
    · have hb := width_bound r hw
      have h1 := upS_size r.toNat (by omega)
      have h2 := rep_size (4 - (upS r.toNat).size) (by omega)
      show ((⟨#[85, 43]⟩ : ByteArray) ++ ⟨(Lib.repeatL [48] (4 - (upS r.toNat).size)).toArray⟩ ++ upS r.toNat).size ≤ 1000
      rw [ByteArray.size_append, ByteArray.size_append, h2]
      show 2 + _ + _ ≤ 1000
      omega
set_option maxRecDepth 100000 in
set_option maxHeartbeats 4000000 in
theorem ps_rune (lo N : Nat) (p : Pn) (r : Int) (W0 W : World) (h : PS W0 W lo N p) :
    Calls Tryz.prog 59 #[.pointer (some ⟨N, 0, none⟩), .int .i32 r] W fun e w' => (∃ r, e = .returned r) ∧ PS W0 w' lo N (runeV p r) ∧ PF lo N W w' := by
  have H := hide h
  have hts := textV_size r
  have HT := hide (text_scan r W h.tab)
  have HV : Hz (runeV p r = putV (needV p ((textV r).2 == 0)) [(textV r).1]) := hide rfl
  generalize runeV p r = V at *
  generalize textV r = tv at *
  obtain ⟨tt, te⟩ := tv
  dsimp only at hts HT HV
  clear h
  go_enter Tryz.func59, Tryz.ntmps59
  go_wp2_with fail
  refine (unhide HT).mono ?_
  rintro e w1 ⟨rfl, hb1⟩
  have H1 := hide ((unhide H).fresh hb1)
  have HF1 := hide (PF.below (N := N) (unhide H).here.lw hb1)
  clear hb1 HT H
  have HNd := hide (ps_need lo N p (te == 0) W0 w1 (unhide H1))
  go_wp2_with fail
  refine (unhide HNd).mono ?_
  rintro e w2 ⟨⟨r2, rfl⟩, h2, hf2⟩
  have HPt := hide (ps_put lo N (needV p (te == 0)) [tt] (fun w hw => .inr (by rw [List.mem_singleton.1 hw]; exact hts)) (by simp) W0 w2 h2)
  have HF2 := hide hf2
  clear h2 hf2 HNd
  go_wp2_with fail
  refine (show Calls Tryz.prog 57 #[.pointer (some ⟨N, 0, none⟩), .slice (some ⟨w2.heap.size, 0, none⟩) 1 1] (w2.alloc (.cells #[.string tt] 9)) _ from unhide HPt).mono ?_
  rintro e w3 ⟨⟨r3, rfl⟩, h3, hf3⟩
  have HF3 := hide (And.intro h3 hf3)
  clear h3 hf3
  go_wp2_with fail
  go_end0
  exact ⟨⟨_, rfl⟩, by rw [unhide HV]; exact (unhide HF3).1, ((unhide HF1).trans (unhide HF2)).trans (unhide HF3).2⟩
end Go.Proofs.YtjgfmobmilgapaaGreatDoor
