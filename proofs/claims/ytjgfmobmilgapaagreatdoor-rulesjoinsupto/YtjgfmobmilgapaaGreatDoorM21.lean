/- Texts of this claim, one behind the other. -/
import Derived.Test.YtjgfmobmilgapaaGreatDoorM18
import Derived.Deep.DeepAppendRoom
import Derived.Deep.QuietTactic
/- A list in new memory, eight marks behind it (guisekeep6.roomy). -/
namespace Go.Proofs.YtjgfmobmilgapaaGreatDoor
open Go.RowKit Go.Shelf
set_option linter.unusedVariables false
def mkN (cs : List Value) : Nat → List Value
  | 0 => []
  | k + 1 => mkN cs k ++ cs
theorem run_none_cap {P : Program} {w : World} (base : Nat) (t ty e : TypeId) (i : TypeInfo) (size c : Nat) (ht : P.underlying t = some (.slice e)) (hi : P.info? e = some i) (v : Value) (n : Nat) (xs : List Value) (hown : w.ownsRow base e size v n xs) :
    (Builtin.append_ #[t, t] ty #[v, .slice none 0 c]).run P w = .ok v w := by
  rcases hown.2 with ⟨rfl, rfl⟩ | ⟨g, cap, cur, rfl, _, _, hnc, _⟩
  · simp [Builtin.append_, run_underlying ht, sizeOf, typeInfo, hi, Builtin.lenOf, Builtin.firstCells]
  · simp [Builtin.append_, run_underlying ht, sizeOf, typeInfo, hi, Builtin.lenOf, Builtin.firstCells, hnc, storeCells]
theorem append_list {P : Program} {w : World} {ops : Array Oper} {rest : List Oper} {o : Oper} {a : Act} {Q : Exit → Act → World → Prop} (hgd : o.guard = none) (s x : Operand) (T : TypeId)
    (ho : o.op = .call { callee := .builtin .append, args := #[s, x], argTypes := #[T, T] }) (base : Nat) (E : TypeId) (i : TypeInfo) (sz : Nat) (hT : P.underlying T = some (.slice E)) (hi : P.info? E = some i) (hsz : i.size = sz) (hs0 : 0 < sz)
    (g n C : Nat) (hs : a.eval s = .slice (some ⟨g, 0, none⟩) 0 C) (hown : w.ownsRow base E sz (.slice (some ⟨g, 0, none⟩) 0 C) 0 []) (b : Option Addr) (cap hi' : Nat) (xs : List Value) (hx : a.eval x = .slice b n cap) (hl : xs.length = n * sz) (hr : RowC w hi' b xs) (h1 : ∀ u ∈ xs, u.oneCell' = true) (hC : n ≤ C)
    (h : ∀ w', w'.ownsRow base E sz (.slice (some ⟨g, 0, none⟩) n C) n xs → w.grownBy w' (some g) → wpList P ops Q rest (a.put o.dst (.slice (some ⟨g, 0, none⟩) n C)) w') : wpList P ops Q (o :: rest) a w := by
  cases b with
  | none =>
    obtain rfl : n = 0 := by
      rcases Nat.eq_zero_or_pos n with q | q
      · exact q
      · obtain ⟨_, _, e, _⟩ := hr (by rw [hl]; exact Nat.mul_pos q hs0)
        cases e
    obtain rfl : xs = [] := List.length_eq_zero_iff.1 (by rw [hl]; omega)
    refine wpList_plain hgd fun K hK' => ?_
    have hrun := run_none_cap (P := P) (w := w) base T o.type E i sz cap hT hi _ 0 [] hown
    unfold Oper.wp
    simp [execOp, ho, resolve, invoke, builtin, hs, hx, hrun, Result.andThen]
    exact hK' _ _ (h w hown ⟨rfl, rfl, rfl, Nat.le_refl _, fun _ _ _ => rfl⟩)
  | some ad =>
    refine wpList_append_own_spare _ hgd s x T ho base E i sz hT hi hsz g 0 C [] hs hown ad n cap xs hx hl (fun j u hj => ?_) h1 (by omega) (fun w' h4 h5 => by rw [Nat.zero_add, List.nil_append] at h4; rw [Nat.zero_add]; exact h w' h4 h5)
    obtain ⟨g', o', e, _, hc⟩ := hr (by have := (List.getElem?_eq_some_iff.1 hj).1; omega)
    cases e
    have := hc j u hj
    rw [← this]
    cases j <;> simp [Addr.add]
theorem append_mark {P : Program} {w : World} {ops : Array Oper} {rest : List Oper} {o : Oper} {a : Act} {Q : Exit → Act → World → Prop} (hgd : o.guard = none) (s x : Operand) (T : TypeId)
    (ho : o.op = .call { callee := .builtin .append, args := #[s, x], argTypes := #[T, T] }) (base : Nat) (E : TypeId) (i : TypeInfo) (sz : Nat) (hT : P.underlying T = some (.slice E)) (hi : P.info? E = some i) (hsz : i.size = sz)
    (g n C : Nat) (hs : a.eval s = .slice (some ⟨g, 0, none⟩) n C) (W : World) (cs : List Value) (hW : w = W.alloc (.cells cs.toArray E)) (xs : List Value) (hown : W.ownsRow base E sz (.slice (some ⟨g, 0, none⟩) n C) n xs) (hcs : cs.length = sz) (hu : ∀ u ∈ cs, u.oneCell' = true) (m : Nat) (hm : m = W.heap.size) (hx : a.eval x = .slice (some ⟨m, 0, none⟩) 1 1) (hC : n + 1 ≤ C)
    (h : ∀ w', w'.ownsRow base E sz (.slice (some ⟨g, 0, none⟩) (n + 1) C) (n + 1) (xs ++ cs) → (W.alloc (.cells cs.toArray E)).grownBy w' (some g) → wpList P ops Q rest (a.put o.dst (.slice (some ⟨g, 0, none⟩) (n + 1) C)) w') : wpList P ops Q (o :: rest) a w := by
  subst hW
  subst hm
  have b := Blk.new W cs.toArray E
  refine wpList_append_own_spare _ hgd s x T ho base E i sz hT hi hsz g n C xs hs (hown.alloc _) ⟨W.heap.size, 0, none⟩ 1 1 cs hx (by omega) (fun j y hj => ?_) hu hC (fun w' h4 h5 => h w' h4 h5)
  have e := b.cell j
  rw [List.getElem?_toArray, hj] at e
  have ea : (⟨W.heap.size, 0, none⟩ : Addr).add j = ⟨W.heap.size, j, none⟩ := by cases j <;> simp [Addr.add]
  rw [ea]
  exact e
structure Rm (W wr : World) (E sz g k C : Nat) (xs cs : List Value) : Prop where
  o : wr.ownsRow (W.heap.size + 1) E sz (.slice (some ⟨g, 0, none⟩) k C) k xs
  b : Below W.heap.size W wr
  x : Blk wr W.heap.size cs.toArray E
  g1 : W.heap.size < g
theorem Rm.grown {W wr w1 w' : World} {E sz g k C k' : Nat} {xs xs' cs : List Value} (h : Rm W wr E sz g k C xs cs) (hb : Below (W.heap.size + 1) wr w1) (ho : w'.ownsRow (W.heap.size + 1) E sz (.slice (some ⟨g, 0, none⟩) k' C) k' xs') (hg : w1.grownBy w' (some g)) : Rm W w' E sz g k' C xs' cs := by
  have h1 := h.x.lt
  have hz := hb.size
  have hb2 : Below (W.heap.size + 1) wr w' := hb.grown hg (by omega) (fun q hq => by cases hq; exact h.g1)
  exact ⟨ho, h.b.trans (hb2.mono (by omega)), h.x.below hb2 (by omega), h.g1⟩
set_option maxRecDepth 100000 in
set_option maxHeartbeats 4000000 in
theorem roomySpan_any (a : Option Addr) (cap n : Nat) (xs : List Value) (hl : xs.length = n * 2) (h1 : ∀ u ∈ xs, u.oneCell' = true) (hn : n ≤ 1000000) (x0 x1 : Int) (w : World) (hr : RowC w w.heap.size a xs) :
    Calls Tryz.prog 47 #[.slice a n cap, .agg #[.int .i32 x0, .int .i32 x1]] w fun e w' => ∃ g, e = .returned (.slice (some ⟨g, 0, none⟩) n (n + 8)) ∧ w.heap.size < g ∧ w'.ownsRow (w.heap.size + 1) 68 2 (.slice (some ⟨g, 0, none⟩) (n + 8) (n + 8)) (n + 8) (xs ++ mkN [.int .i32 x0, .int .i32 x1] 8) ∧ Below w.heap.size w w' := by
  obtain ⟨ii, hii, hi0, hi1, hi2⟩ := info_parts infoSpan
  have HII := hide (And.intro hii (And.intro hi0 (And.intro hi1 hi2)))
  have HU : Hz (∀ u ∈ ([.int .i32 x0, .int .i32 x1] : List Value), u.oneCell' = true) := hide (by intro u hu; simp at hu; rcases hu with rfl | rfl <;> rfl)
  clear hii hi0 hi1 hi2
  have HB0 := hide ((Below.refl w.heap.size w).alloc (Nat.le_refl _) (.cells #[.int .i32 x0, .int .i32 x1] 68))
  have HX0 := hide (Blk.new w #[.int .i32 x0, .int .i32 x1] 68)
  have HZ0 : Hz ((w.alloc (.cells #[.int .i32 x0, .int .i32 x1] 68)).heap.size = w.heap.size + 1) := hide (by simp)
  have HR0 : Hz (RowC (w.alloc (.cells #[.int .i32 x0, .int .i32 x1] 68)) w.heap.size a xs) := hide (fun h0 => by
    obtain ⟨g, o, e, hg, hc⟩ := hr h0
    exact ⟨g, o, e, hg, fun j u hj => ((unhide HB0).cell (p := ⟨g, o + j, none⟩) hg).trans (hc j u hj)⟩)
  have H1 := hide (And.intro hl h1)
  clear hl h1 hr
  go_enter Tryz.func47, Tryz.ntmps47
  go_wp2_with (refine wpList_make_own _ rfl _ _ 23 rfl (w.heap.size + 1) 68 ii (.agg #[.int .i32 0, .int .i32 0]) 2 Tryz.underlying23 (unhide HII).1 (unhide HII).2.1 (unhide HII).2.2.1 .i64 .i64 _ (n + 8) rfl rfl (by omega) (by rw [(unhide HII).2.2.2]; omega) (by unfold maxLen; omega) (by rw [unhide HZ0]; omega) ?_)
  intro w1 hown hg
  have HM : Hz (Rm w w1 68 2 (w.heap.size + 1) 0 (n + 8) [] [.int .i32 x0, .int .i32 x1]) := hide (by
    have hb1 : Below (w.heap.size + 1) (w.alloc (.cells #[.int .i32 x0, .int .i32 x1] 68)) w1 := (Below.refl _ _).grown hg (by rw [unhide HZ0]; exact Nat.le_refl _) (fun q hq => by cases hq)
    exact ⟨hown, (unhide HB0).trans (hb1.mono (by omega)), (unhide HX0).below hb1 (by omega), by omega⟩)
  have HR1 : Hz (RowC w1 w.heap.size a xs) := hide (fun h0 => by
    obtain ⟨g, o, e, hg', hc⟩ := unhide HR0 h0
    refine ⟨g, o, e, hg', fun j u hj => ?_⟩
    have e1 := (unhide HB0).cell (p := ⟨g, o + j, none⟩) hg'
    exact ((unhide HM).b.cell (p := ⟨g, o + j, none⟩) hg').trans (e1.symm.trans (hc j u hj)))
  clear hown hg HR0 HX0 HB0 HZ0
  go_wp2_with (at_builtin; refine append_list rfl _ _ 23 rfl (w.heap.size + 1) 68 ii 2 Tryz.underlying23 (unhide HII).1 (unhide HII).2.2.1 (by decide) (w.heap.size + 1) n (n + 8) rfl (unhide HM).o a cap w.heap.size xs rfl (unhide H1).1 (unhide HR1) (unhide H1).2 (by omega) ?_)
  intro w2 hown hg
  have HM2 := hide ((unhide HM).grown (Below.refl _ _) hown hg)
  clear hown hg HM HR1 H1
  go_wp2_with fail
  go_loopw [5, 6] (fun mv iv wr => ∃ k : Nat, k ≤ 8 ∧ iv = .int .i64 k ∧ mv = .slice (some ⟨w.heap.size + 1, 0, none⟩) (n + k) (n + 8) ∧ Hz (Rm w wr 68 2 (w.heap.size + 1) (n + k) (n + 8) (xs ++ mkN [.int .i32 x0, .int .i32 x1] k) [.int .i32 x0, .int .i32 x1])) (fun _ iv _ => 8 - (intOf iv).toNat)
  case atStart => exact ⟨0, by omega, rfl, rfl, hide (by rw [mkN, List.append_nil]; exact unhide HM2)⟩
  case round =>
    obtain ⟨k, hk, rfl, rfl, HM⟩ := hrel
    clear HM2
    by_cases hk8 : k < 8
    · have k1 : ((k : Nat) : Int) < 8 := by omega
      have c0 : wr.cell? ⟨w.heap.size, 0, none⟩ = some (.int .i32 x0) := by have := (unhide HM).x.cell 0; rw [this]; rfl
      have c1 : wr.cell? ⟨w.heap.size, 1, none⟩ = some (.int .i32 x1) := by have := (unhide HM).x.cell 1; rw [this]; rfl
      go_wp2_with (at_builtin; refine append_mark rfl _ _ 23 rfl (w.heap.size + 1) 68 ii 2 Tryz.underlying23 (unhide HII).1 (unhide HII).2.2.1 (w.heap.size + 1) (n + k) (n + 8) rfl wr [.int .i32 x0, .int .i32 x1] rfl (xs ++ mkN [.int .i32 x0, .int .i32 x1] k) (unhide HM).o rfl (unhide HU) _ rfl rfl (by omega) ?_)
      intro w3 hown hg
      have HM3 := hide ((unhide HM).grown ((Below.refl _ _).alloc (by have := (unhide HM).x.lt; omega) _) hown hg)
      clear hown hg
      go_wp2_with fail
      exact ⟨⟨k + 1, by omega, rfl, by first | rfl | (congr 1; omega), hide (by rw [mkN]; have := unhide HM3; first | exact this | (rw [List.append_assoc] at this; exact this))⟩, by simp [intOf]; omega⟩
    · have k1 : ¬ ((k : Nat) : Int) < 8 := by omega
      obtain rfl : k = 8 := by omega
      go_wp2_with fail
      exact bodyPost_ret (v := .slice (some ⟨w.heap.size + 1, 0, none⟩) n (n + 8)) (by simp [results, Tryz.results47, go_sem]) rfl ⟨_, rfl, by omega, (unhide HM).o, (unhide HM).b⟩
set_option maxRecDepth 100000 in
set_option maxHeartbeats 4000000 in
theorem roomyMark_any (a : Option Addr) (cap n : Nat) (xs : List Value) (hl : xs.length = n * 2) (h1 : ∀ u ∈ xs, u.oneCell' = true) (hn : n ≤ 1000000) (x0 x1 : Int) (w : World) (hr : RowC w w.heap.size a xs) :
    Calls Tryz.prog 48 #[.slice a n cap, .agg #[.int .i32 x0, .int .i64 x1]] w fun e w' => ∃ g, e = .returned (.slice (some ⟨g, 0, none⟩) n (n + 8)) ∧ w.heap.size < g ∧ w'.ownsRow (w.heap.size + 1) 71 2 (.slice (some ⟨g, 0, none⟩) (n + 8) (n + 8)) (n + 8) (xs ++ mkN [.int .i32 x0, .int .i64 x1] 8) ∧ Below w.heap.size w w' := by
  obtain ⟨ii, hii, hi0, hi1, hi2⟩ := info_parts infoMark
  have HII := hide (And.intro hii (And.intro hi0 (And.intro hi1 hi2)))
  have HU : Hz (∀ u ∈ ([.int .i32 x0, .int .i64 x1] : List Value), u.oneCell' = true) := hide (by intro u hu; simp at hu; rcases hu with rfl | rfl <;> rfl)
  clear hii hi0 hi1 hi2
  have HB0 := hide ((Below.refl w.heap.size w).alloc (Nat.le_refl _) (.cells #[.int .i32 x0, .int .i64 x1] 71))
  have HX0 := hide (Blk.new w #[.int .i32 x0, .int .i64 x1] 71)
  have HZ0 : Hz ((w.alloc (.cells #[.int .i32 x0, .int .i64 x1] 71)).heap.size = w.heap.size + 1) := hide (by simp)
  have HR0 : Hz (RowC (w.alloc (.cells #[.int .i32 x0, .int .i64 x1] 71)) w.heap.size a xs) := hide (fun h0 => by
    obtain ⟨g, o, e, hg, hc⟩ := hr h0
    exact ⟨g, o, e, hg, fun j u hj => ((unhide HB0).cell (p := ⟨g, o + j, none⟩) hg).trans (hc j u hj)⟩)
  have H1 := hide (And.intro hl h1)
  clear hl h1 hr
  go_enter Tryz.func48, Tryz.ntmps48
  go_wp2_with (refine wpList_make_own _ rfl _ _ 24 rfl (w.heap.size + 1) 71 ii (.agg #[.int .i32 0, .int .i64 0]) 2 Tryz.underlying24 (unhide HII).1 (unhide HII).2.1 (unhide HII).2.2.1 .i64 .i64 _ (n + 8) rfl rfl (by omega) (by rw [(unhide HII).2.2.2]; omega) (by unfold maxLen; omega) (by rw [unhide HZ0]; omega) ?_)
  intro w1 hown hg
  have HM : Hz (Rm w w1 71 2 (w.heap.size + 1) 0 (n + 8) [] [.int .i32 x0, .int .i64 x1]) := hide (by
    have hb1 : Below (w.heap.size + 1) (w.alloc (.cells #[.int .i32 x0, .int .i64 x1] 71)) w1 := (Below.refl _ _).grown hg (by rw [unhide HZ0]; exact Nat.le_refl _) (fun q hq => by cases hq)
    exact ⟨hown, (unhide HB0).trans (hb1.mono (by omega)), (unhide HX0).below hb1 (by omega), by omega⟩)
  have HR1 : Hz (RowC w1 w.heap.size a xs) := hide (fun h0 => by
    obtain ⟨g, o, e, hg', hc⟩ := unhide HR0 h0
    refine ⟨g, o, e, hg', fun j u hj => ?_⟩
    have e1 := (unhide HB0).cell (p := ⟨g, o + j, none⟩) hg'
    exact ((unhide HM).b.cell (p := ⟨g, o + j, none⟩) hg').trans (e1.symm.trans (hc j u hj)))
  clear hown hg HR0 HX0 HB0 HZ0
  go_wp2_with (at_builtin; refine append_list rfl _ _ 24 rfl (w.heap.size + 1) 71 ii 2 Tryz.underlying24 (unhide HII).1 (unhide HII).2.2.1 (by decide) (w.heap.size + 1) n (n + 8) rfl (unhide HM).o a cap w.heap.size xs rfl (unhide H1).1 (unhide HR1) (unhide H1).2 (by omega) ?_)
  intro w2 hown hg
  have HM2 := hide ((unhide HM).grown (Below.refl _ _) hown hg)
  clear hown hg HM HR1 H1
  go_wp2_with fail
  go_loopw [5, 6] (fun mv iv wr => ∃ k : Nat, k ≤ 8 ∧ iv = .int .i64 k ∧ mv = .slice (some ⟨w.heap.size + 1, 0, none⟩) (n + k) (n + 8) ∧ Hz (Rm w wr 71 2 (w.heap.size + 1) (n + k) (n + 8) (xs ++ mkN [.int .i32 x0, .int .i64 x1] k) [.int .i32 x0, .int .i64 x1])) (fun _ iv _ => 8 - (intOf iv).toNat)
  case atStart => exact ⟨0, by omega, rfl, rfl, hide (by rw [mkN, List.append_nil]; exact unhide HM2)⟩
  case round =>
    obtain ⟨k, hk, rfl, rfl, HM⟩ := hrel
    clear HM2
    by_cases hk8 : k < 8
    · have k1 : ((k : Nat) : Int) < 8 := by omega
      have c0 : wr.cell? ⟨w.heap.size, 0, none⟩ = some (.int .i32 x0) := by have := (unhide HM).x.cell 0; rw [this]; rfl
      have c1 : wr.cell? ⟨w.heap.size, 1, none⟩ = some (.int .i64 x1) := by have := (unhide HM).x.cell 1; rw [this]; rfl
      go_wp2_with (at_builtin; refine append_mark rfl _ _ 24 rfl (w.heap.size + 1) 71 ii 2 Tryz.underlying24 (unhide HII).1 (unhide HII).2.2.1 (w.heap.size + 1) (n + k) (n + 8) rfl wr [.int .i32 x0, .int .i64 x1] rfl (xs ++ mkN [.int .i32 x0, .int .i64 x1] k) (unhide HM).o rfl (unhide HU) _ rfl rfl (by omega) ?_)
      intro w3 hown hg
      have HM3 := hide ((unhide HM).grown ((Below.refl _ _).alloc (by have := (unhide HM).x.lt; omega) _) hown hg)
      clear hown hg
      go_wp2_with fail
      exact ⟨⟨k + 1, by omega, rfl, by first | rfl | (congr 1; omega), hide (by rw [mkN]; have := unhide HM3; first | exact this | (rw [List.append_assoc] at this; exact this))⟩, by simp [intOf]; omega⟩
    · have k1 : ¬ ((k : Nat) : Int) < 8 := by omega
      obtain rfl : k = 8 := by omega
      go_wp2_with fail
      exact bodyPost_ret (v := .slice (some ⟨w.heap.size + 1, 0, none⟩) n (n + 8)) (by simp [results, Tryz.results48, go_sem]) rfl ⟨_, rfl, by omega, (unhide HM).o, (unhide HM).b⟩
set_option maxRecDepth 100000 in
set_option maxHeartbeats 4000000 in
theorem roomyPair_any (a : Option Addr) (cap n : Nat) (xs : List Value) (hl : xs.length = n * 3) (h1 : ∀ u ∈ xs, u.oneCell' = true) (hn : n ≤ 1000000) (x0 x1 x2 : Int) (w : World) (hr : RowC w w.heap.size a xs) :
    Calls Tryz.prog 49 #[.slice a n cap, .agg #[.int .i32 x0, .int .i32 x1, .int .i32 x2]] w fun e w' => ∃ g, e = .returned (.slice (some ⟨g, 0, none⟩) n (n + 8)) ∧ w.heap.size < g ∧ w'.ownsRow (w.heap.size + 1) 74 3 (.slice (some ⟨g, 0, none⟩) (n + 8) (n + 8)) (n + 8) (xs ++ mkN [.int .i32 x0, .int .i32 x1, .int .i32 x2] 8) ∧ Below w.heap.size w w' := by
  obtain ⟨ii, hii, hi0, hi1, hi2⟩ := info_parts infoPair
  have HII := hide (And.intro hii (And.intro hi0 (And.intro hi1 hi2)))
  have HU : Hz (∀ u ∈ ([.int .i32 x0, .int .i32 x1, .int .i32 x2] : List Value), u.oneCell' = true) := hide (by intro u hu; simp at hu; rcases hu with rfl | rfl | rfl <;> rfl)
  clear hii hi0 hi1 hi2
  have HB0 := hide ((Below.refl w.heap.size w).alloc (Nat.le_refl _) (.cells #[.int .i32 x0, .int .i32 x1, .int .i32 x2] 74))
  have HX0 := hide (Blk.new w #[.int .i32 x0, .int .i32 x1, .int .i32 x2] 74)
  have HZ0 : Hz ((w.alloc (.cells #[.int .i32 x0, .int .i32 x1, .int .i32 x2] 74)).heap.size = w.heap.size + 1) := hide (by simp)
  have HR0 : Hz (RowC (w.alloc (.cells #[.int .i32 x0, .int .i32 x1, .int .i32 x2] 74)) w.heap.size a xs) := hide (fun h0 => by
    obtain ⟨g, o, e, hg, hc⟩ := hr h0
    exact ⟨g, o, e, hg, fun j u hj => ((unhide HB0).cell (p := ⟨g, o + j, none⟩) hg).trans (hc j u hj)⟩)
  have H1 := hide (And.intro hl h1)
  clear hl h1 hr
  go_enter Tryz.func49, Tryz.ntmps49
  go_wp2_with (refine wpList_make_own _ rfl _ _ 25 rfl (w.heap.size + 1) 74 ii (.agg #[.int .i32 0, .int .i32 0, .int .i32 0]) 3 Tryz.underlying25 (unhide HII).1 (unhide HII).2.1 (unhide HII).2.2.1 .i64 .i64 _ (n + 8) rfl rfl (by omega) (by rw [(unhide HII).2.2.2]; omega) (by unfold maxLen; omega) (by rw [unhide HZ0]; omega) ?_)
  intro w1 hown hg
  have HM : Hz (Rm w w1 74 3 (w.heap.size + 1) 0 (n + 8) [] [.int .i32 x0, .int .i32 x1, .int .i32 x2]) := hide (by
    have hb1 : Below (w.heap.size + 1) (w.alloc (.cells #[.int .i32 x0, .int .i32 x1, .int .i32 x2] 74)) w1 := (Below.refl _ _).grown hg (by rw [unhide HZ0]; exact Nat.le_refl _) (fun q hq => by cases hq)
    exact ⟨hown, (unhide HB0).trans (hb1.mono (by omega)), (unhide HX0).below hb1 (by omega), by omega⟩)
  have HR1 : Hz (RowC w1 w.heap.size a xs) := hide (fun h0 => by
    obtain ⟨g, o, e, hg', hc⟩ := unhide HR0 h0
    refine ⟨g, o, e, hg', fun j u hj => ?_⟩
    have e1 := (unhide HB0).cell (p := ⟨g, o + j, none⟩) hg'
    exact ((unhide HM).b.cell (p := ⟨g, o + j, none⟩) hg').trans (e1.symm.trans (hc j u hj)))
  clear hown hg HR0 HX0 HB0 HZ0
  go_wp2_with (at_builtin; refine append_list rfl _ _ 25 rfl (w.heap.size + 1) 74 ii 3 Tryz.underlying25 (unhide HII).1 (unhide HII).2.2.1 (by decide) (w.heap.size + 1) n (n + 8) rfl (unhide HM).o a cap w.heap.size xs rfl (unhide H1).1 (unhide HR1) (unhide H1).2 (by omega) ?_)
  intro w2 hown hg
  have HM2 := hide ((unhide HM).grown (Below.refl _ _) hown hg)
  clear hown hg HM HR1 H1
  go_wp2_with fail
  go_loopw [5, 6] (fun mv iv wr => ∃ k : Nat, k ≤ 8 ∧ iv = .int .i64 k ∧ mv = .slice (some ⟨w.heap.size + 1, 0, none⟩) (n + k) (n + 8) ∧ Hz (Rm w wr 74 3 (w.heap.size + 1) (n + k) (n + 8) (xs ++ mkN [.int .i32 x0, .int .i32 x1, .int .i32 x2] k) [.int .i32 x0, .int .i32 x1, .int .i32 x2])) (fun _ iv _ => 8 - (intOf iv).toNat)
  case atStart => exact ⟨0, by omega, rfl, rfl, hide (by rw [mkN, List.append_nil]; exact unhide HM2)⟩
  case round =>
    obtain ⟨k, hk, rfl, rfl, HM⟩ := hrel
    clear HM2
    by_cases hk8 : k < 8
    · have k1 : ((k : Nat) : Int) < 8 := by omega
      have c0 : wr.cell? ⟨w.heap.size, 0, none⟩ = some (.int .i32 x0) := by have := (unhide HM).x.cell 0; rw [this]; rfl
      have c1 : wr.cell? ⟨w.heap.size, 1, none⟩ = some (.int .i32 x1) := by have := (unhide HM).x.cell 1; rw [this]; rfl
      have c2 : wr.cell? ⟨w.heap.size, 2, none⟩ = some (.int .i32 x2) := by have := (unhide HM).x.cell 2; rw [this]; rfl
      go_wp2_with (at_builtin; refine append_mark rfl _ _ 25 rfl (w.heap.size + 1) 74 ii 3 Tryz.underlying25 (unhide HII).1 (unhide HII).2.2.1 (w.heap.size + 1) (n + k) (n + 8) rfl wr [.int .i32 x0, .int .i32 x1, .int .i32 x2] rfl (xs ++ mkN [.int .i32 x0, .int .i32 x1, .int .i32 x2] k) (unhide HM).o rfl (unhide HU) _ rfl rfl (by omega) ?_)
      intro w3 hown hg
      have HM3 := hide ((unhide HM).grown ((Below.refl _ _).alloc (by have := (unhide HM).x.lt; omega) _) hown hg)
      clear hown hg
      go_wp2_with fail
      exact ⟨⟨k + 1, by omega, rfl, by first | rfl | (congr 1; omega), hide (by rw [mkN]; have := unhide HM3; first | exact this | (rw [List.append_assoc] at this; exact this))⟩, by simp [intOf]; omega⟩
    · have k1 : ¬ ((k : Nat) : Int) < 8 := by omega
      obtain rfl : k = 8 := by omega
      go_wp2_with fail
      exact bodyPost_ret (v := .slice (some ⟨w.heap.size + 1, 0, none⟩) n (n + 8)) (by simp [results, Tryz.results49, go_sem]) rfl ⟨_, rfl, by omega, (unhide HM).o, (unhide HM).b⟩
set_option maxRecDepth 100000 in
set_option maxHeartbeats 4000000 in
theorem roomyMap_any (a : Option Addr) (cap n : Nat) (xs : List Value) (hl : xs.length = n * 2) (h1 : ∀ u ∈ xs, u.oneCell' = true) (hn : n ≤ 1000000) (x0 : Int) (x1 : ByteArray) (w : World) (hr : RowC w w.heap.size a xs) :
    Calls Tryz.prog 50 #[.slice a n cap, .agg #[.int .i32 x0, .string x1]] w fun e w' => ∃ g, e = .returned (.slice (some ⟨g, 0, none⟩) n (n + 8)) ∧ w.heap.size < g ∧ w'.ownsRow (w.heap.size + 1) 77 2 (.slice (some ⟨g, 0, none⟩) (n + 8) (n + 8)) (n + 8) (xs ++ mkN [.int .i32 x0, .string x1] 8) ∧ Below w.heap.size w w' := by
  obtain ⟨ii, hii, hi0, hi1, hi2⟩ := info_parts infoMap
  have HII := hide (And.intro hii (And.intro hi0 (And.intro hi1 hi2)))
  have HU : Hz (∀ u ∈ ([.int .i32 x0, .string x1] : List Value), u.oneCell' = true) := hide (by intro u hu; simp at hu; rcases hu with rfl | rfl <;> rfl)
  clear hii hi0 hi1 hi2
  have HB0 := hide ((Below.refl w.heap.size w).alloc (Nat.le_refl _) (.cells #[.int .i32 x0, .string x1] 77))
  have HX0 := hide (Blk.new w #[.int .i32 x0, .string x1] 77)
  have HZ0 : Hz ((w.alloc (.cells #[.int .i32 x0, .string x1] 77)).heap.size = w.heap.size + 1) := hide (by simp)
  have HR0 : Hz (RowC (w.alloc (.cells #[.int .i32 x0, .string x1] 77)) w.heap.size a xs) := hide (fun h0 => by
    obtain ⟨g, o, e, hg, hc⟩ := hr h0
    exact ⟨g, o, e, hg, fun j u hj => ((unhide HB0).cell (p := ⟨g, o + j, none⟩) hg).trans (hc j u hj)⟩)
  have H1 := hide (And.intro hl h1)
  clear hl h1 hr
  go_enter Tryz.func50, Tryz.ntmps50
  go_wp2_with (refine wpList_make_own _ rfl _ _ 26 rfl (w.heap.size + 1) 77 ii (.agg #[.int .i32 0, .string ⟨#[]⟩]) 2 Tryz.underlying26 (unhide HII).1 (unhide HII).2.1 (unhide HII).2.2.1 .i64 .i64 _ (n + 8) rfl rfl (by omega) (by rw [(unhide HII).2.2.2]; omega) (by unfold maxLen; omega) (by rw [unhide HZ0]; omega) ?_)
  intro w1 hown hg
  have HM : Hz (Rm w w1 77 2 (w.heap.size + 1) 0 (n + 8) [] [.int .i32 x0, .string x1]) := hide (by
    have hb1 : Below (w.heap.size + 1) (w.alloc (.cells #[.int .i32 x0, .string x1] 77)) w1 := (Below.refl _ _).grown hg (by rw [unhide HZ0]; exact Nat.le_refl _) (fun q hq => by cases hq)
    exact ⟨hown, (unhide HB0).trans (hb1.mono (by omega)), (unhide HX0).below hb1 (by omega), by omega⟩)
  have HR1 : Hz (RowC w1 w.heap.size a xs) := hide (fun h0 => by
    obtain ⟨g, o, e, hg', hc⟩ := unhide HR0 h0
    refine ⟨g, o, e, hg', fun j u hj => ?_⟩
    have e1 := (unhide HB0).cell (p := ⟨g, o + j, none⟩) hg'
    exact ((unhide HM).b.cell (p := ⟨g, o + j, none⟩) hg').trans (e1.symm.trans (hc j u hj)))
  clear hown hg HR0 HX0 HB0 HZ0
  go_wp2_with (at_builtin; refine append_list rfl _ _ 26 rfl (w.heap.size + 1) 77 ii 2 Tryz.underlying26 (unhide HII).1 (unhide HII).2.2.1 (by decide) (w.heap.size + 1) n (n + 8) rfl (unhide HM).o a cap w.heap.size xs rfl (unhide H1).1 (unhide HR1) (unhide H1).2 (by omega) ?_)
  intro w2 hown hg
  have HM2 := hide ((unhide HM).grown (Below.refl _ _) hown hg)
  clear hown hg HM HR1 H1
  go_wp2_with fail
  go_loopw [5, 6] (fun mv iv wr => ∃ k : Nat, k ≤ 8 ∧ iv = .int .i64 k ∧ mv = .slice (some ⟨w.heap.size + 1, 0, none⟩) (n + k) (n + 8) ∧ Hz (Rm w wr 77 2 (w.heap.size + 1) (n + k) (n + 8) (xs ++ mkN [.int .i32 x0, .string x1] k) [.int .i32 x0, .string x1])) (fun _ iv _ => 8 - (intOf iv).toNat)
  case atStart => exact ⟨0, by omega, rfl, rfl, hide (by rw [mkN, List.append_nil]; exact unhide HM2)⟩
  case round =>
    obtain ⟨k, hk, rfl, rfl, HM⟩ := hrel
    clear HM2
    by_cases hk8 : k < 8
    · have k1 : ((k : Nat) : Int) < 8 := by omega
      have c0 : wr.cell? ⟨w.heap.size, 0, none⟩ = some (.int .i32 x0) := by have := (unhide HM).x.cell 0; rw [this]; rfl
      have c1 : wr.cell? ⟨w.heap.size, 1, none⟩ = some (.string x1) := by have := (unhide HM).x.cell 1; rw [this]; rfl
      go_wp2_with (at_builtin; refine append_mark rfl _ _ 26 rfl (w.heap.size + 1) 77 ii 2 Tryz.underlying26 (unhide HII).1 (unhide HII).2.2.1 (w.heap.size + 1) (n + k) (n + 8) rfl wr [.int .i32 x0, .string x1] rfl (xs ++ mkN [.int .i32 x0, .string x1] k) (unhide HM).o rfl (unhide HU) _ rfl rfl (by omega) ?_)
      intro w3 hown hg
      have HM3 := hide ((unhide HM).grown ((Below.refl _ _).alloc (by have := (unhide HM).x.lt; omega) _) hown hg)
      clear hown hg
      go_wp2_with fail
      exact ⟨⟨k + 1, by omega, rfl, by first | rfl | (congr 1; omega), hide (by rw [mkN]; have := unhide HM3; first | exact this | (rw [List.append_assoc] at this; exact this))⟩, by simp [intOf]; omega⟩
    · have k1 : ¬ ((k : Nat) : Int) < 8 := by omega
      obtain rfl : k = 8 := by omega
      go_wp2_with fail
      exact bodyPost_ret (v := .slice (some ⟨w.heap.size + 1, 0, none⟩) n (n + 8)) (by simp [results, Tryz.results50, go_sem]) rfl ⟨_, rfl, by omega, (unhide HM).o, (unhide HM).b⟩
set_option maxRecDepth 100000 in
set_option maxHeartbeats 4000000 in
theorem roomyScript_any (a : Option Addr) (cap n : Nat) (xs : List Value) (hl : xs.length = n * 2) (h1 : ∀ u ∈ xs, u.oneCell' = true) (hn : n ≤ 1000000) (x0 : ByteArray) (x1 : Option Addr) (x2 x3 : Nat) (w : World) (hr : RowC w w.heap.size a xs) :
    Calls Tryz.prog 51 #[.slice a n cap, .agg #[.string x0, .slice x1 x2 x3]] w fun e w' => ∃ g, e = .returned (.slice (some ⟨g, 0, none⟩) n (n + 8)) ∧ w.heap.size < g ∧ w'.ownsRow (w.heap.size + 1) 64 2 (.slice (some ⟨g, 0, none⟩) (n + 8) (n + 8)) (n + 8) (xs ++ mkN [.string x0, .slice x1 x2 x3] 8) ∧ Below w.heap.size w w' := by
  obtain ⟨ii, hii, hi0, hi1, hi2⟩ := info_parts infoScript
  have HII := hide (And.intro hii (And.intro hi0 (And.intro hi1 hi2)))
  have HU : Hz (∀ u ∈ ([.string x0, .slice x1 x2 x3] : List Value), u.oneCell' = true) := hide (by intro u hu; simp at hu; rcases hu with rfl | rfl <;> rfl)
  clear hii hi0 hi1 hi2
  have HB0 := hide ((Below.refl w.heap.size w).alloc (Nat.le_refl _) (.cells #[.string x0, .slice x1 x2 x3] 64))
  have HX0 := hide (Blk.new w #[.string x0, .slice x1 x2 x3] 64)
  have HZ0 : Hz ((w.alloc (.cells #[.string x0, .slice x1 x2 x3] 64)).heap.size = w.heap.size + 1) := hide (by simp)
  have HR0 : Hz (RowC (w.alloc (.cells #[.string x0, .slice x1 x2 x3] 64)) w.heap.size a xs) := hide (fun h0 => by
    obtain ⟨g, o, e, hg, hc⟩ := hr h0
    exact ⟨g, o, e, hg, fun j u hj => ((unhide HB0).cell (p := ⟨g, o + j, none⟩) hg).trans (hc j u hj)⟩)
  have H1 := hide (And.intro hl h1)
  clear hl h1 hr
  go_enter Tryz.func51, Tryz.ntmps51
  go_wp2_with (refine wpList_make_own _ rfl _ _ 22 rfl (w.heap.size + 1) 64 ii (.agg #[.string ⟨#[]⟩, .slice none 0 0]) 2 Tryz.underlying22 (unhide HII).1 (unhide HII).2.1 (unhide HII).2.2.1 .i64 .i64 _ (n + 8) rfl rfl (by omega) (by rw [(unhide HII).2.2.2]; omega) (by unfold maxLen; omega) (by rw [unhide HZ0]; omega) ?_)
  intro w1 hown hg
  have HM : Hz (Rm w w1 64 2 (w.heap.size + 1) 0 (n + 8) [] [.string x0, .slice x1 x2 x3]) := hide (by
    have hb1 : Below (w.heap.size + 1) (w.alloc (.cells #[.string x0, .slice x1 x2 x3] 64)) w1 := (Below.refl _ _).grown hg (by rw [unhide HZ0]; exact Nat.le_refl _) (fun q hq => by cases hq)
    exact ⟨hown, (unhide HB0).trans (hb1.mono (by omega)), (unhide HX0).below hb1 (by omega), by omega⟩)
  have HR1 : Hz (RowC w1 w.heap.size a xs) := hide (fun h0 => by
    obtain ⟨g, o, e, hg', hc⟩ := unhide HR0 h0
    refine ⟨g, o, e, hg', fun j u hj => ?_⟩
    have e1 := (unhide HB0).cell (p := ⟨g, o + j, none⟩) hg'
    exact ((unhide HM).b.cell (p := ⟨g, o + j, none⟩) hg').trans (e1.symm.trans (hc j u hj)))
  clear hown hg HR0 HX0 HB0 HZ0
  go_wp2_with (at_builtin; refine append_list rfl _ _ 22 rfl (w.heap.size + 1) 64 ii 2 Tryz.underlying22 (unhide HII).1 (unhide HII).2.2.1 (by decide) (w.heap.size + 1) n (n + 8) rfl (unhide HM).o a cap w.heap.size xs rfl (unhide H1).1 (unhide HR1) (unhide H1).2 (by omega) ?_)
  intro w2 hown hg
  have HM2 := hide ((unhide HM).grown (Below.refl _ _) hown hg)
  clear hown hg HM HR1 H1
  go_wp2_with fail
  go_loopw [5, 6] (fun mv iv wr => ∃ k : Nat, k ≤ 8 ∧ iv = .int .i64 k ∧ mv = .slice (some ⟨w.heap.size + 1, 0, none⟩) (n + k) (n + 8) ∧ Hz (Rm w wr 64 2 (w.heap.size + 1) (n + k) (n + 8) (xs ++ mkN [.string x0, .slice x1 x2 x3] k) [.string x0, .slice x1 x2 x3])) (fun _ iv _ => 8 - (intOf iv).toNat)
  case atStart => exact ⟨0, by omega, rfl, rfl, hide (by rw [mkN, List.append_nil]; exact unhide HM2)⟩
  case round =>
    obtain ⟨k, hk, rfl, rfl, HM⟩ := hrel
    clear HM2
    by_cases hk8 : k < 8
    · have k1 : ((k : Nat) : Int) < 8 := by omega
      have c0 : wr.cell? ⟨w.heap.size, 0, none⟩ = some (.string x0) := by have := (unhide HM).x.cell 0; rw [this]; rfl
      have c1 : wr.cell? ⟨w.heap.size, 1, none⟩ = some (.slice x1 x2 x3) := by have := (unhide HM).x.cell 1; rw [this]; rfl
      go_wp2_with (at_builtin; refine append_mark rfl _ _ 22 rfl (w.heap.size + 1) 64 ii 2 Tryz.underlying22 (unhide HII).1 (unhide HII).2.2.1 (w.heap.size + 1) (n + k) (n + 8) rfl wr [.string x0, .slice x1 x2 x3] rfl (xs ++ mkN [.string x0, .slice x1 x2 x3] k) (unhide HM).o rfl (unhide HU) _ rfl rfl (by omega) ?_)
      intro w3 hown hg
      have HM3 := hide ((unhide HM).grown ((Below.refl _ _).alloc (by have := (unhide HM).x.lt; omega) _) hown hg)
      clear hown hg
      go_wp2_with fail
      exact ⟨⟨k + 1, by omega, rfl, by first | rfl | (congr 1; omega), hide (by rw [mkN]; have := unhide HM3; first | exact this | (rw [List.append_assoc] at this; exact this))⟩, by simp [intOf]; omega⟩
    · have k1 : ¬ ((k : Nat) : Int) < 8 := by omega
      obtain rfl : k = 8 := by omega
      go_wp2_with fail
      exact bodyPost_ret (v := .slice (some ⟨w.heap.size + 1, 0, none⟩) n (n + 8)) (by simp [results, Tryz.results51, go_sem]) rfl ⟨_, rfl, by omega, (unhide HM).o, (unhide HM).b⟩
set_option maxRecDepth 100000 in
set_option maxHeartbeats 2000000 in
theorem sameSpan_row (a b : Option Addr) (ca cb : Nat) (zs : List (Int × Int)) (hz : zs.length ≤ 1000000) (hi : Nat) (w : World) (ha : RowC w hi a (encS2 zs)) (hb : RowC w hi b (encS2 zs)) :
    Calls Tryz.prog 18 #[.slice a zs.length ca, .slice b zs.length cb] w fun e w' => e = .returned (.bool true) ∧ Below w.heap.size w w' := by
  have HA := hide ha
  have HB := hide hb
  clear ha hb
  have hlen := encS2_length zs
  have HLEN := hide hlen
  clear hlen
  have hne : (((zs.length : Nat) : Int) != ((zs.length : Nat) : Int)) = false := by simp
  go_enter Tryz.func18, Tryz.ntmps18
  go_wp2
  go_loopw [5] (fun i wr => ∃ k : Nat, k ≤ zs.length ∧ i = .int .i64 k ∧ ∃ q, wr = w.drewN q) (fun i _ => zs.length - (intOf i).toNat)
  case atStart => exact ⟨0, by omega, rfl, 0, rfl⟩
  case round =>
    obtain ⟨k, hk, rfl, q, rfl⟩ := hrel
    by_cases hkn : k < zs.length
    · obtain ⟨x, hx⟩ : ∃ x, zs[k]? = some x := ⟨_, List.getElem?_eq_getElem hkn⟩
      obtain ⟨g, o, rfl, _, hc⟩ := unhide HA (by rw [unhide HLEN]; omega)
      obtain ⟨h, p, rfl, _, hd⟩ := unhide HB (by rw [unhide HLEN]; omega)
      have hxs := encS2_at zs k x hx
      obtain ⟨x0, x1⟩ := x
      have hk1 : (k : Int) < (zs.length : Int) := by omega
      have hk2 : ((k : Nat) : Int).toNat = k := by omega
      dsimp only at hxs
      have c0 : w.cell? ⟨g, o + k * 2, none⟩ = some (.int .i32 x0) := hc _ _ (hxs.1)
      have c1 : w.cell? ⟨g, o + k * 2 + 1, none⟩ = some (.int .i32 x1) := by have := hc _ _ (hxs.2); rw [← Nat.add_assoc] at this; exact this
      have d0 : w.cell? ⟨h, p + k * 2, none⟩ = some (.int .i32 x0) := hd _ _ (hxs.1)
      have d1 : w.cell? ⟨h, p + k * 2 + 1, none⟩ = some (.int .i32 x1) := by have := hd _ _ (hxs.2); rw [← Nat.add_assoc] at this; exact this
      have e0 : (x0 == x0) = true := by simp
      have e1 : (x1 == x1) = true := by simp
      clear hc hd hx hxs
      go_wp2
      go_quiet (fail)
      go_wp2
      go_roundw
      case rel => exact ⟨k + 1, by omega, by go_num, _, rfl⟩
      case measure => simp [intOf]; omega
    · have hk1 : ¬ (k : Int) < (zs.length : Int) := by omega
      go_wp2
      go_ret
      exact ⟨rfl, below_drewNW (Below.refl _ _) _⟩
set_option maxRecDepth 100000 in
set_option maxHeartbeats 2000000 in
theorem sameMark_row (a b : Option Addr) (ca cb : Nat) (zs : List (Int × Int)) (hz : zs.length ≤ 1000000) (hi : Nat) (w : World) (ha : RowC w hi a (encM2 zs)) (hb : RowC w hi b (encM2 zs)) :
    Calls Tryz.prog 19 #[.slice a zs.length ca, .slice b zs.length cb] w fun e w' => e = .returned (.bool true) ∧ Below w.heap.size w w' := by
  have HA := hide ha
  have HB := hide hb
  clear ha hb
  have hlen := encM2_length zs
  have HLEN := hide hlen
  clear hlen
  have hne : (((zs.length : Nat) : Int) != ((zs.length : Nat) : Int)) = false := by simp
  go_enter Tryz.func19, Tryz.ntmps19
  go_wp2
  go_loopw [5] (fun i wr => ∃ k : Nat, k ≤ zs.length ∧ i = .int .i64 k ∧ ∃ q, wr = w.drewN q) (fun i _ => zs.length - (intOf i).toNat)
  case atStart => exact ⟨0, by omega, rfl, 0, rfl⟩
  case round =>
    obtain ⟨k, hk, rfl, q, rfl⟩ := hrel
    by_cases hkn : k < zs.length
    · obtain ⟨x, hx⟩ : ∃ x, zs[k]? = some x := ⟨_, List.getElem?_eq_getElem hkn⟩
      obtain ⟨g, o, rfl, _, hc⟩ := unhide HA (by rw [unhide HLEN]; omega)
      obtain ⟨h, p, rfl, _, hd⟩ := unhide HB (by rw [unhide HLEN]; omega)
      have hxs := encM2_at zs k x hx
      obtain ⟨x0, x1⟩ := x
      have hk1 : (k : Int) < (zs.length : Int) := by omega
      have hk2 : ((k : Nat) : Int).toNat = k := by omega
      dsimp only at hxs
      have c0 : w.cell? ⟨g, o + k * 2, none⟩ = some (.int .i32 x0) := hc _ _ (hxs.1)
      have c1 : w.cell? ⟨g, o + k * 2 + 1, none⟩ = some (.int .i64 x1) := by have := hc _ _ (hxs.2); rw [← Nat.add_assoc] at this; exact this
      have d0 : w.cell? ⟨h, p + k * 2, none⟩ = some (.int .i32 x0) := hd _ _ (hxs.1)
      have d1 : w.cell? ⟨h, p + k * 2 + 1, none⟩ = some (.int .i64 x1) := by have := hd _ _ (hxs.2); rw [← Nat.add_assoc] at this; exact this
      have e0 : (x0 == x0) = true := by simp
      have e1 : (x1 == x1) = true := by simp
      clear hc hd hx hxs
      go_wp2
      go_quiet (fail)
      go_wp2
      go_roundw
      case rel => exact ⟨k + 1, by omega, by go_num, _, rfl⟩
      case measure => simp [intOf]; omega
    · have hk1 : ¬ (k : Int) < (zs.length : Int) := by omega
      go_wp2
      go_ret
      exact ⟨rfl, below_drewNW (Below.refl _ _) _⟩
set_option maxRecDepth 100000 in
set_option maxHeartbeats 2000000 in
theorem samePair_row (a b : Option Addr) (ca cb : Nat) (zs : List (Int × Int × Int)) (hz : zs.length ≤ 1000000) (hi : Nat) (w : World) (ha : RowC w hi a (encP3 zs)) (hb : RowC w hi b (encP3 zs)) :
    Calls Tryz.prog 20 #[.slice a zs.length ca, .slice b zs.length cb] w fun e w' => e = .returned (.bool true) ∧ Below w.heap.size w w' := by
  have HA := hide ha
  have HB := hide hb
  clear ha hb
  have hlen := encP3_length zs
  have HLEN := hide hlen
  clear hlen
  have hne : (((zs.length : Nat) : Int) != ((zs.length : Nat) : Int)) = false := by simp
  go_enter Tryz.func20, Tryz.ntmps20
  go_wp2
  go_loopw [5] (fun i wr => ∃ k : Nat, k ≤ zs.length ∧ i = .int .i64 k ∧ ∃ q, wr = w.drewN q) (fun i _ => zs.length - (intOf i).toNat)
  case atStart => exact ⟨0, by omega, rfl, 0, rfl⟩
  case round =>
    obtain ⟨k, hk, rfl, q, rfl⟩ := hrel
    by_cases hkn : k < zs.length
    · obtain ⟨x, hx⟩ : ∃ x, zs[k]? = some x := ⟨_, List.getElem?_eq_getElem hkn⟩
      obtain ⟨g, o, rfl, _, hc⟩ := unhide HA (by rw [unhide HLEN]; omega)
      obtain ⟨h, p, rfl, _, hd⟩ := unhide HB (by rw [unhide HLEN]; omega)
      have hxs := encP3_at zs k x hx
      obtain ⟨x0, x1, x2⟩ := x
      have hk1 : (k : Int) < (zs.length : Int) := by omega
      have hk2 : ((k : Nat) : Int).toNat = k := by omega
      dsimp only at hxs
      have c0 : w.cell? ⟨g, o + k * 3, none⟩ = some (.int .i32 x0) := hc _ _ (hxs.1)
      have c1 : w.cell? ⟨g, o + k * 3 + 1, none⟩ = some (.int .i32 x1) := by have := hc _ _ (hxs.2.1); rw [← Nat.add_assoc] at this; exact this
      have c2 : w.cell? ⟨g, o + k * 3 + 2, none⟩ = some (.int .i32 x2) := by have := hc _ _ (hxs.2.2); rw [← Nat.add_assoc] at this; exact this
      have d0 : w.cell? ⟨h, p + k * 3, none⟩ = some (.int .i32 x0) := hd _ _ (hxs.1)
      have d1 : w.cell? ⟨h, p + k * 3 + 1, none⟩ = some (.int .i32 x1) := by have := hd _ _ (hxs.2.1); rw [← Nat.add_assoc] at this; exact this
      have d2 : w.cell? ⟨h, p + k * 3 + 2, none⟩ = some (.int .i32 x2) := by have := hd _ _ (hxs.2.2); rw [← Nat.add_assoc] at this; exact this
      have e0 : (x0 == x0) = true := by simp
      have e1 : (x1 == x1) = true := by simp
      have e2 : (x2 == x2) = true := by simp
      clear hc hd hx hxs
      go_wp2
      go_quiet (fail)
      go_wp2
      go_roundw
      case rel => exact ⟨k + 1, by omega, by go_num, _, rfl⟩
      case measure => simp [intOf]; omega
    · have hk1 : ¬ (k : Int) < (zs.length : Int) := by omega
      go_wp2
      go_ret
      exact ⟨rfl, below_drewNW (Below.refl _ _) _⟩
set_option maxRecDepth 100000 in
set_option maxHeartbeats 2000000 in
theorem sameMap_row (a b : Option Addr) (ca cb : Nat) (zs : List (Int × ByteArray)) (hz : zs.length ≤ 1000000) (hi : Nat) (w : World) (ha : RowC w hi a (encF2 zs)) (hb : RowC w hi b (encF2 zs)) :
    Calls Tryz.prog 21 #[.slice a zs.length ca, .slice b zs.length cb] w fun e w' => e = .returned (.bool true) ∧ Below w.heap.size w w' := by
  have HA := hide ha
  have HB := hide hb
  clear ha hb
  have hlen := encF2_length zs
  have HLEN := hide hlen
  clear hlen
  have hne : (((zs.length : Nat) : Int) != ((zs.length : Nat) : Int)) = false := by simp
  go_enter Tryz.func21, Tryz.ntmps21
  go_wp2
  go_loopw [5] (fun i wr => ∃ k : Nat, k ≤ zs.length ∧ i = .int .i64 k ∧ ∃ q, wr = w.drewN q) (fun i _ => zs.length - (intOf i).toNat)
  case atStart => exact ⟨0, by omega, rfl, 0, rfl⟩
  case round =>
    obtain ⟨k, hk, rfl, q, rfl⟩ := hrel
    by_cases hkn : k < zs.length
    · obtain ⟨x, hx⟩ : ∃ x, zs[k]? = some x := ⟨_, List.getElem?_eq_getElem hkn⟩
      obtain ⟨g, o, rfl, _, hc⟩ := unhide HA (by rw [unhide HLEN]; omega)
      obtain ⟨h, p, rfl, _, hd⟩ := unhide HB (by rw [unhide HLEN]; omega)
      have hxs := encF2_at zs k x hx
      obtain ⟨x0, x1⟩ := x
      have hk1 : (k : Int) < (zs.length : Int) := by omega
      have hk2 : ((k : Nat) : Int).toNat = k := by omega
      dsimp only at hxs
      have c0 : w.cell? ⟨g, o + k * 2, none⟩ = some (.int .i32 x0) := hc _ _ (hxs.1)
      have c1 : w.cell? ⟨g, o + k * 2 + 1, none⟩ = some (.string x1) := by have := hc _ _ (hxs.2); rw [← Nat.add_assoc] at this; exact this
      have d0 : w.cell? ⟨h, p + k * 2, none⟩ = some (.int .i32 x0) := hd _ _ (hxs.1)
      have d1 : w.cell? ⟨h, p + k * 2 + 1, none⟩ = some (.string x1) := by have := hd _ _ (hxs.2); rw [← Nat.add_assoc] at this; exact this
      have e0 : (x0 == x0) = true := by simp
      have e1 : (x1.toList == x1.toList) = true := by simp
      clear hc hd hx hxs
      go_wp2
      go_quiet (fail)
      go_wp2
      go_roundw
      case rel => exact ⟨k + 1, by omega, by go_num, _, rfl⟩
      case measure => simp [intOf]; omega
    · have hk1 : ¬ (k : Int) < (zs.length : Int) := by omega
      go_wp2
      go_ret
      exact ⟨rfl, below_drewNW (Below.refl _ _) _⟩
end Go.Proofs.YtjgfmobmilgapaaGreatDoor
