/- Texts of this claim, one behind the other. -/
import Derived.Test.YtgchlilpjkndlaaGreatDoorM18
import Derived.Deep.DeepAppendRoom
import Derived.Test.YtgchlilpjkndlaaGreatDoorM20
import Derived.Test.YtgchlilpjkndlaaGreatDoorM19
/- A list in new memory, eight marks behind it (guisekeep6.roomy). -/
namespace Go.Proofs.YtgchlilpjkndlaaGreatDoor
open Go.RowKit Go.Shelf
set_option linter.unusedVariables false
def mkN (cs : List Value) : Nat → List Value
  | 0 => []
  | k + 1 => mkN cs k ++ cs
theorem mkN_length (cs : List Value) : ∀ k, (mkN cs k).length = k * cs.length
  | 0 => by simp [mkN]
  | k + 1 => by rw [mkN, List.length_append, mkN_length cs k, Nat.succ_mul]
theorem run_none_cap {P : Program} {w : World} (base : Nat) (t ty e : TypeId) (i : TypeInfo) (size c : Nat) (ht : P.underlying t = some (.slice e)) (hi : P.info? e = some i) (v : Value) (n : Nat) (xs : List Value) (hown : w.ownsRow base e size v n xs) :
    (Builtin.append_ #[t, t] ty #[v, .slice none 0 c]).run P w = .ok v w := by
  rcases hown.2 with ⟨rfl, rfl⟩ | ⟨g, cap, cur, rfl, _, _, hnc, _⟩
  · simp [Builtin.append_, run_underlying ht, sizeOf, typeInfo, hi, Builtin.lenOf, Builtin.firstCells]
  · simp [Builtin.append_, run_underlying ht, sizeOf, typeInfo, hi, Builtin.lenOf, Builtin.firstCells, hnc, storeCells]
theorem append_list {P : Program} {w : World} {ops : Array Oper} {rest : List Oper} {o : Oper} {a : Act} {Q : Exit → Act → World → Prop} (hgd : o.guard = none) (s x : Operand) (T : TypeId)
    (ho : o.op = .call { callee := .builtin .append, args := #[s, x], argTypes := #[T, T] }) (base : Nat) (E : TypeId) (i : TypeInfo) (sz : Nat) (hT : P.underlying T = some (.slice E)) (hi : P.info? E = some i) (hsz : i.size = sz) (hs0 : 0 < sz)
    (g n C : Nat) (hs : a.eval s = .slice (some ⟨g, 0, none⟩) 0 C) (hown : w.ownsRow base E sz (.slice (some ⟨g, 0, none⟩) 0 C) 0 []) (b : Option Addr) (cap hi' : Nat) (xs : List Value) (hx : a.eval x = .slice b n cap) (hl : xs.length = n * sz) (hr : RowC w hi' b xs) (h1 : ∀ u ∈ xs, u.oneCell' = true) (hC : n ≤ C)
    (h : ∀ w', w'.ownsRow base E sz (.slice (some ⟨g, 0, none⟩) n C) n xs → w.grownBy w' (some g) → wpList P ops Q rest (a.put o.dst (.slice (some ⟨g, 0, none⟩) n C)) w') : wpList P ops Q (o :: rest) a w := by
  cases b with
  | none =>
    obtain rfl : n = 0 := by
      rcases Nat.eq_zero_or_pos n with q | q
      · exact q
      · obtain ⟨_, _, e, _⟩ := hr (by rw [hl]; exact Nat.mul_pos q hs0)
        cases e
    obtain rfl : xs = [] := List.length_eq_zero_iff.1 (by rw [hl]; omega)
    refine wpList_plain hgd fun K hK' => ?_
    have hrun := run_none_cap (P := P) (w := w) base T o.type E i sz cap hT hi _ 0 [] hown
    unfold Oper.wp
    simp [execOp, ho, resolve, invoke, builtin, hs, hx, hrun, Result.andThen]
    exact hK' _ _ (h w hown ⟨rfl, rfl, rfl, Nat.le_refl _, fun _ _ _ => rfl⟩)
  | some ad =>
    refine wpList_append_own_spare _ hgd s x T ho base E i sz hT hi hsz g 0 C [] hs hown ad n cap xs hx hl (fun j u hj => ?_) h1 (by omega) (fun w' h4 h5 => by rw [Nat.zero_add, List.nil_append] at h4; rw [Nat.zero_add]; exact h w' h4 h5)
    obtain ⟨g', o', e, _, hc⟩ := hr (by have := (List.getElem?_eq_some_iff.1 hj).1; omega)
    cases e
    have := hc j u hj
    rw [← this]
    cases j <;> simp [Addr.add]
theorem append_mark {P : Program} {w : World} {ops : Array Oper} {rest : List Oper} {o : Oper} {a : Act} {Q : Exit → Act → World → Prop} (hgd : o.guard = none) (s x : Operand) (T : TypeId)
    (ho : o.op = .call { callee := .builtin .append, args := #[s, x], argTypes := #[T, T] }) (base : Nat) (E : TypeId) (i : TypeInfo) (sz : Nat) (hT : P.underlying T = some (.slice E)) (hi : P.info? E = some i) (hsz : i.size = sz)
    (g n C : Nat) (hs : a.eval s = .slice (some ⟨g, 0, none⟩) n C) (W : World) (cs : List Value) (hW : w = W.alloc (.cells cs.toArray E)) (xs : List Value) (hown : W.ownsRow base E sz (.slice (some ⟨g, 0, none⟩) n C) n xs) (hcs : cs.length = sz) (hu : ∀ u ∈ cs, u.oneCell' = true) (m : Nat) (hm : m = W.heap.size) (hx : a.eval x = .slice (some ⟨m, 0, none⟩) 1 1) (hC : n + 1 ≤ C)
    (h : ∀ w', w'.ownsRow base E sz (.slice (some ⟨g, 0, none⟩) (n + 1) C) (n + 1) (xs ++ cs) → (W.alloc (.cells cs.toArray E)).grownBy w' (some g) → wpList P ops Q rest (a.put o.dst (.slice (some ⟨g, 0, none⟩) (n + 1) C)) w') : wpList P ops Q (o :: rest) a w := by
  subst hW
  subst hm
  have b := Blk.new W cs.toArray E
  refine wpList_append_own_spare _ hgd s x T ho base E i sz hT hi hsz g n C xs hs (hown.alloc _) ⟨W.heap.size, 0, none⟩ 1 1 cs hx (by omega) (fun j y hj => ?_) hu hC (fun w' h4 h5 => h w' h4 h5)
  have e := b.cell j
  rw [List.getElem?_toArray, hj] at e
  have ea : (⟨W.heap.size, 0, none⟩ : Addr).add j = ⟨W.heap.size, j, none⟩ := by cases j <;> simp [Addr.add]
  rw [ea]
  exact e
structure Rm (W wr : World) (E sz g k C : Nat) (xs cs : List Value) : Prop where
  o : wr.ownsRow (W.heap.size + 1) E sz (.slice (some ⟨g, 0, none⟩) k C) k xs
  b : Below W.heap.size W wr
  x : Blk wr W.heap.size cs.toArray E
  g1 : W.heap.size < g
theorem Rm.grown {W wr w1 w' : World} {E sz g k C k' : Nat} {xs xs' cs : List Value} (h : Rm W wr E sz g k C xs cs) (hb : Below (W.heap.size + 1) wr w1) (ho : w'.ownsRow (W.heap.size + 1) E sz (.slice (some ⟨g, 0, none⟩) k' C) k' xs') (hg : w1.grownBy w' (some g)) : Rm W w' E sz g k' C xs' cs := by
  have h1 := h.x.lt
  have hz := hb.size
  have hb2 : Below (W.heap.size + 1) wr w' := hb.grown hg (by omega) (fun q hq => by cases hq; exact h.g1)
  exact ⟨ho, h.b.trans (hb2.mono (by omega)), h.x.below hb2 (by omega), h.g1⟩
set_option maxRecDepth 100000 in
set_option maxHeartbeats 4000000 in
theorem roomySpan_any (a : Option Addr) (cap n : Nat) (xs : List Value) (hl : xs.length = n * 2) (h1 : ∀ u ∈ xs, u.oneCell' = true) (hn : n ≤ 1000000) (x0 x1 : Int) (w : World) (hr : RowC w w.heap.size a xs) :
    Calls Tryz.prog 27 #[.slice a n cap, .agg #[.int .i32 x0, .int .i32 x1]] w fun e w' => ∃ g, e = .returned (.slice (some ⟨g, 0, none⟩) n (n + 8)) ∧ w.heap.size < g ∧ w'.ownsRow (w.heap.size + 1) 76 2 (.slice (some ⟨g, 0, none⟩) (n + 8) (n + 8)) (n + 8) (xs ++ mkN [.int .i32 x0, .int .i32 x1] 8) ∧ Below w.heap.size w w' := by
  obtain ⟨ii, hii, hi0, hi1, hi2⟩ := info_parts infoSpan
  have HII := hide (And.intro hii (And.intro hi0 (And.intro hi1 hi2)))
  have HU : Hz (∀ u ∈ ([.int .i32 x0, .int .i32 x1] : List Value), u.oneCell' = true) := hide (by intro u hu; simp at hu; rcases hu with rfl | rfl <;> rfl)
  clear hii hi0 hi1 hi2
  have HB0 := hide ((Below.refl w.heap.size w).alloc (Nat.le_refl _) (.cells #[.int .i32 x0, .int .i32 x1] 76))
  have HX0 := hide (Blk.new w #[.int .i32 x0, .int .i32 x1] 76)
  have HZ0 : Hz ((w.alloc (.cells #[.int .i32 x0, .int .i32 x1] 76)).heap.size = w.heap.size + 1) := hide (by simp)
  have HR0 : Hz (RowC (w.alloc (.cells #[.int .i32 x0, .int .i32 x1] 76)) w.heap.size a xs) := hide (fun h0 => by
    obtain ⟨g, o, e, hg, hc⟩ := hr h0
    exact ⟨g, o, e, hg, fun j u hj => ((unhide HB0).cell (p := ⟨g, o + j, none⟩) hg).trans (hc j u hj)⟩)
  have H1 := hide (And.intro hl h1)
  clear hl h1 hr
  go_enter Tryz.func27, Tryz.ntmps27
  go_wp2_with (refine wpList_make_own _ rfl _ _ 28 rfl (w.heap.size + 1) 76 ii (.agg #[.int .i32 0, .int .i32 0]) 2 Tryz.underlying28 (unhide HII).1 (unhide HII).2.1 (unhide HII).2.2.1 .i64 .i64 _ (n + 8) rfl rfl (by omega) (by rw [(unhide HII).2.2.2]; omega) (by unfold maxLen; omega) (by rw [unhide HZ0]; omega) ?_)
  intro w1 hown hg
  have HM : Hz (Rm w w1 76 2 (w.heap.size + 1) 0 (n + 8) [] [.int .i32 x0, .int .i32 x1]) := hide (by
    have hb1 : Below (w.heap.size + 1) (w.alloc (.cells #[.int .i32 x0, .int .i32 x1] 76)) w1 := (Below.refl _ _).grown hg (by rw [unhide HZ0]; exact Nat.le_refl _) (fun q hq => by cases hq)
    exact ⟨hown, (unhide HB0).trans (hb1.mono (by omega)), (unhide HX0).below hb1 (by omega), by omega⟩)
  have HR1 : Hz (RowC w1 w.heap.size a xs) := hide (fun h0 => by
    obtain ⟨g, o, e, hg', hc⟩ := unhide HR0 h0
    refine ⟨g, o, e, hg', fun j u hj => ?_⟩
    have e1 := (unhide HB0).cell (p := ⟨g, o + j, none⟩) hg'
    exact ((unhide HM).b.cell (p := ⟨g, o + j, none⟩) hg').trans (e1.symm.trans (hc j u hj)))
  clear hown hg HR0 HX0 HB0 HZ0
  go_wp2_with (at_builtin; refine append_list rfl _ _ 28 rfl (w.heap.size + 1) 76 ii 2 Tryz.underlying28 (unhide HII).1 (unhide HII).2.2.1 (by decide) (w.heap.size + 1) n (n + 8) rfl (unhide HM).o a cap w.heap.size xs rfl (unhide H1).1 (unhide HR1) (unhide H1).2 (by omega) ?_)
  intro w2 hown hg
  have HM2 := hide ((unhide HM).grown (Below.refl _ _) hown hg)
  clear hown hg HM HR1 H1
  go_wp2_with fail
  go_loopw [5, 6] (fun mv iv wr => ∃ k : Nat, k ≤ 8 ∧ iv = .int .i64 k ∧ mv = .slice (some ⟨w.heap.size + 1, 0, none⟩) (n + k) (n + 8) ∧ Hz (Rm w wr 76 2 (w.heap.size + 1) (n + k) (n + 8) (xs ++ mkN [.int .i32 x0, .int .i32 x1] k) [.int .i32 x0, .int .i32 x1])) (fun _ iv _ => 8 - (intOf iv).toNat)
  case atStart => exact ⟨0, by omega, rfl, rfl, hide (by rw [mkN, List.append_nil]; exact unhide HM2)⟩
  case round =>
    obtain ⟨k, hk, rfl, rfl, HM⟩ := hrel
    clear HM2
    by_cases hk8 : k < 8
    · have k1 : ((k : Nat) : Int) < 8 := by omega
      have c0 : wr.cell? ⟨w.heap.size, 0, none⟩ = some (.int .i32 x0) := by have := (unhide HM).x.cell 0; rw [this]; rfl
      have c1 : wr.cell? ⟨w.heap.size, 1, none⟩ = some (.int .i32 x1) := by have := (unhide HM).x.cell 1; rw [this]; rfl
      go_wp2_with (at_builtin; refine append_mark rfl _ _ 28 rfl (w.heap.size + 1) 76 ii 2 Tryz.underlying28 (unhide HII).1 (unhide HII).2.2.1 (w.heap.size + 1) (n + k) (n + 8) rfl wr [.int .i32 x0, .int .i32 x1] rfl (xs ++ mkN [.int .i32 x0, .int .i32 x1] k) (unhide HM).o rfl (unhide HU) _ rfl rfl (by omega) ?_)
      intro w3 hown hg
      have HM3 := hide ((unhide HM).grown ((Below.refl _ _).alloc (by have := (unhide HM).x.lt; omega) _) hown hg)
      clear hown hg
      go_wp2_with fail
      exact ⟨⟨k + 1, by omega, rfl, by first | rfl | (congr 1; omega), hide (by rw [mkN]; have := unhide HM3; first | exact this | (rw [List.append_assoc] at this; exact this))⟩, by simp [intOf]; omega⟩
    · have k1 : ¬ ((k : Nat) : Int) < 8 := by omega
      obtain rfl : k = 8 := by omega
      go_wp2_with fail
      exact bodyPost_ret (v := .slice (some ⟨w.heap.size + 1, 0, none⟩) n (n + 8)) (by simp [results, Tryz.results27, go_sem]) rfl ⟨_, rfl, by omega, (unhide HM).o, (unhide HM).b⟩
set_option maxRecDepth 100000 in
set_option maxHeartbeats 4000000 in
theorem roomyMark_any (a : Option Addr) (cap n : Nat) (xs : List Value) (hl : xs.length = n * 2) (h1 : ∀ u ∈ xs, u.oneCell' = true) (hn : n ≤ 1000000) (x0 x1 : Int) (w : World) (hr : RowC w w.heap.size a xs) :
    Calls Tryz.prog 28 #[.slice a n cap, .agg #[.int .i32 x0, .int .i64 x1]] w fun e w' => ∃ g, e = .returned (.slice (some ⟨g, 0, none⟩) n (n + 8)) ∧ w.heap.size < g ∧ w'.ownsRow (w.heap.size + 1) 82 2 (.slice (some ⟨g, 0, none⟩) (n + 8) (n + 8)) (n + 8) (xs ++ mkN [.int .i32 x0, .int .i64 x1] 8) ∧ Below w.heap.size w w' := by
  obtain ⟨ii, hii, hi0, hi1, hi2⟩ := info_parts infoMark
  have HII := hide (And.intro hii (And.intro hi0 (And.intro hi1 hi2)))
  have HU : Hz (∀ u ∈ ([.int .i32 x0, .int .i64 x1] : List Value), u.oneCell' = true) := hide (by intro u hu; simp at hu; rcases hu with rfl | rfl <;> rfl)
  clear hii hi0 hi1 hi2
  have HB0 := hide ((Below.refl w.heap.size w).alloc (Nat.le_refl _) (.cells #[.int .i32 x0, .int .i64 x1] 82))
  have HX0 := hide (Blk.new w #[.int .i32 x0, .int .i64 x1] 82)
  have HZ0 : Hz ((w.alloc (.cells #[.int .i32 x0, .int .i64 x1] 82)).heap.size = w.heap.size + 1) := hide (by simp)
  have HR0 : Hz (RowC (w.alloc (.cells #[.int .i32 x0, .int .i64 x1] 82)) w.heap.size a xs) := hide (fun h0 => by
    obtain ⟨g, o, e, hg, hc⟩ := hr h0
    exact ⟨g, o, e, hg, fun j u hj => ((unhide HB0).cell (p := ⟨g, o + j, none⟩) hg).trans (hc j u hj)⟩)
  have H1 := hide (And.intro hl h1)
  clear hl h1 hr
  go_enter Tryz.func28, Tryz.ntmps28
  go_wp2_with (refine wpList_make_own _ rfl _ _ 29 rfl (w.heap.size + 1) 82 ii (.agg #[.int .i32 0, .int .i64 0]) 2 Tryz.underlying29 (unhide HII).1 (unhide HII).2.1 (unhide HII).2.2.1 .i64 .i64 _ (n + 8) rfl rfl (by omega) (by rw [(unhide HII).2.2.2]; omega) (by unfold maxLen; omega) (by rw [unhide HZ0]; omega) ?_)
  intro w1 hown hg
  have HM : Hz (Rm w w1 82 2 (w.heap.size + 1) 0 (n + 8) [] [.int .i32 x0, .int .i64 x1]) := hide (by
    have hb1 : Below (w.heap.size + 1) (w.alloc (.cells #[.int .i32 x0, .int .i64 x1] 82)) w1 := (Below.refl _ _).grown hg (by rw [unhide HZ0]; exact Nat.le_refl _) (fun q hq => by cases hq)
    exact ⟨hown, (unhide HB0).trans (hb1.mono (by omega)), (unhide HX0).below hb1 (by omega), by omega⟩)
  have HR1 : Hz (RowC w1 w.heap.size a xs) := hide (fun h0 => by
    obtain ⟨g, o, e, hg', hc⟩ := unhide HR0 h0
    refine ⟨g, o, e, hg', fun j u hj => ?_⟩
    have e1 := (unhide HB0).cell (p := ⟨g, o + j, none⟩) hg'
    exact ((unhide HM).b.cell (p := ⟨g, o + j, none⟩) hg').trans (e1.symm.trans (hc j u hj)))
  clear hown hg HR0 HX0 HB0 HZ0
  go_wp2_with (at_builtin; refine append_list rfl _ _ 29 rfl (w.heap.size + 1) 82 ii 2 Tryz.underlying29 (unhide HII).1 (unhide HII).2.2.1 (by decide) (w.heap.size + 1) n (n + 8) rfl (unhide HM).o a cap w.heap.size xs rfl (unhide H1).1 (unhide HR1) (unhide H1).2 (by omega) ?_)
  intro w2 hown hg
  have HM2 := hide ((unhide HM).grown (Below.refl _ _) hown hg)
  clear hown hg HM HR1 H1
  go_wp2_with fail
  go_loopw [5, 6] (fun mv iv wr => ∃ k : Nat, k ≤ 8 ∧ iv = .int .i64 k ∧ mv = .slice (some ⟨w.heap.size + 1, 0, none⟩) (n + k) (n + 8) ∧ Hz (Rm w wr 82 2 (w.heap.size + 1) (n + k) (n + 8) (xs ++ mkN [.int .i32 x0, .int .i64 x1] k) [.int .i32 x0, .int .i64 x1])) (fun _ iv _ => 8 - (intOf iv).toNat)
  case atStart => exact ⟨0, by omega, rfl, rfl, hide (by rw [mkN, List.append_nil]; exact unhide HM2)⟩
  case round =>
    obtain ⟨k, hk, rfl, rfl, HM⟩ := hrel
    clear HM2
    by_cases hk8 : k < 8
    · have k1 : ((k : Nat) : Int) < 8 := by omega
      have c0 : wr.cell? ⟨w.heap.size, 0, none⟩ = some (.int .i32 x0) := by have := (unhide HM).x.cell 0; rw [this]; rfl
      have c1 : wr.cell? ⟨w.heap.size, 1, none⟩ = some (.int .i64 x1) := by have := (unhide HM).x.cell 1; rw [this]; rfl
      go_wp2_with (at_builtin; refine append_mark rfl _ _ 29 rfl (w.heap.size + 1) 82 ii 2 Tryz.underlying29 (unhide HII).1 (unhide HII).2.2.1 (w.heap.size + 1) (n + k) (n + 8) rfl wr [.int .i32 x0, .int .i64 x1] rfl (xs ++ mkN [.int .i32 x0, .int .i64 x1] k) (unhide HM).o rfl (unhide HU) _ rfl rfl (by omega) ?_)
      intro w3 hown hg
      have HM3 := hide ((unhide HM).grown ((Below.refl _ _).alloc (by have := (unhide HM).x.lt; omega) _) hown hg)
      clear hown hg
      go_wp2_with fail
      exact ⟨⟨k + 1, by omega, rfl, by first | rfl | (congr 1; omega), hide (by rw [mkN]; have := unhide HM3; first | exact this | (rw [List.append_assoc] at this; exact this))⟩, by simp [intOf]; omega⟩
    · have k1 : ¬ ((k : Nat) : Int) < 8 := by omega
      obtain rfl : k = 8 := by omega
      go_wp2_with fail
      exact bodyPost_ret (v := .slice (some ⟨w.heap.size + 1, 0, none⟩) n (n + 8)) (by simp [results, Tryz.results28, go_sem]) rfl ⟨_, rfl, by omega, (unhide HM).o, (unhide HM).b⟩
set_option maxRecDepth 100000 in
set_option maxHeartbeats 4000000 in
theorem roomyPair_any (a : Option Addr) (cap n : Nat) (xs : List Value) (hl : xs.length = n * 3) (h1 : ∀ u ∈ xs, u.oneCell' = true) (hn : n ≤ 1000000) (x0 x1 x2 : Int) (w : World) (hr : RowC w w.heap.size a xs) :
    Calls Tryz.prog 29 #[.slice a n cap, .agg #[.int .i32 x0, .int .i32 x1, .int .i32 x2]] w fun e w' => ∃ g, e = .returned (.slice (some ⟨g, 0, none⟩) n (n + 8)) ∧ w.heap.size < g ∧ w'.ownsRow (w.heap.size + 1) 85 3 (.slice (some ⟨g, 0, none⟩) (n + 8) (n + 8)) (n + 8) (xs ++ mkN [.int .i32 x0, .int .i32 x1, .int .i32 x2] 8) ∧ Below w.heap.size w w' := by
  obtain ⟨ii, hii, hi0, hi1, hi2⟩ := info_parts infoPair
  have HII := hide (And.intro hii (And.intro hi0 (And.intro hi1 hi2)))
  have HU : Hz (∀ u ∈ ([.int .i32 x0, .int .i32 x1, .int .i32 x2] : List Value), u.oneCell' = true) := hide (by intro u hu; simp at hu; rcases hu with rfl | rfl | rfl <;> rfl)
  clear hii hi0 hi1 hi2
  have HB0 := hide ((Below.refl w.heap.size w).alloc (Nat.le_refl _) (.cells #[.int .i32 x0, .int .i32 x1, .int .i32 x2] 85))
  have HX0 := hide (Blk.new w #[.int .i32 x0, .int .i32 x1, .int .i32 x2] 85)
  have HZ0 : Hz ((w.alloc (.cells #[.int .i32 x0, .int .i32 x1, .int .i32 x2] 85)).heap.size = w.heap.size + 1) := hide (by simp)
  have HR0 : Hz (RowC (w.alloc (.cells #[.int .i32 x0, .int .i32 x1, .int .i32 x2] 85)) w.heap.size a xs) := hide (fun h0 => by
    obtain ⟨g, o, e, hg, hc⟩ := hr h0
    exact ⟨g, o, e, hg, fun j u hj => ((unhide HB0).cell (p := ⟨g, o + j, none⟩) hg).trans (hc j u hj)⟩)
  have H1 := hide (And.intro hl h1)
  clear hl h1 hr
  go_enter Tryz.func29, Tryz.ntmps29
  go_wp2_with (refine wpList_make_own _ rfl _ _ 30 rfl (w.heap.size + 1) 85 ii (.agg #[.int .i32 0, .int .i32 0, .int .i32 0]) 3 Tryz.underlying30 (unhide HII).1 (unhide HII).2.1 (unhide HII).2.2.1 .i64 .i64 _ (n + 8) rfl rfl (by omega) (by rw [(unhide HII).2.2.2]; omega) (by unfold maxLen; omega) (by rw [unhide HZ0]; omega) ?_)
  intro w1 hown hg
  have HM : Hz (Rm w w1 85 3 (w.heap.size + 1) 0 (n + 8) [] [.int .i32 x0, .int .i32 x1, .int .i32 x2]) := hide (by
    have hb1 : Below (w.heap.size + 1) (w.alloc (.cells #[.int .i32 x0, .int .i32 x1, .int .i32 x2] 85)) w1 := (Below.refl _ _).grown hg (by rw [unhide HZ0]; exact Nat.le_refl _) (fun q hq => by cases hq)
    exact ⟨hown, (unhide HB0).trans (hb1.mono (by omega)), (unhide HX0).below hb1 (by omega), by omega⟩)
  have HR1 : Hz (RowC w1 w.heap.size a xs) := hide (fun h0 => by
    obtain ⟨g, o, e, hg', hc⟩ := unhide HR0 h0
    refine ⟨g, o, e, hg', fun j u hj => ?_⟩
    have e1 := (unhide HB0).cell (p := ⟨g, o + j, none⟩) hg'
    exact ((unhide HM).b.cell (p := ⟨g, o + j, none⟩) hg').trans (e1.symm.trans (hc j u hj)))
  clear hown hg HR0 HX0 HB0 HZ0
  go_wp2_with (at_builtin; refine append_list rfl _ _ 30 rfl (w.heap.size + 1) 85 ii 3 Tryz.underlying30 (unhide HII).1 (unhide HII).2.2.1 (by decide) (w.heap.size + 1) n (n + 8) rfl (unhide HM).o a cap w.heap.size xs rfl (unhide H1).1 (unhide HR1) (unhide H1).2 (by omega) ?_)
  intro w2 hown hg
  have HM2 := hide ((unhide HM).grown (Below.refl _ _) hown hg)
  clear hown hg HM HR1 H1
  go_wp2_with fail
  go_loopw [5, 6] (fun mv iv wr => ∃ k : Nat, k ≤ 8 ∧ iv = .int .i64 k ∧ mv = .slice (some ⟨w.heap.size + 1, 0, none⟩) (n + k) (n + 8) ∧ Hz (Rm w wr 85 3 (w.heap.size + 1) (n + k) (n + 8) (xs ++ mkN [.int .i32 x0, .int .i32 x1, .int .i32 x2] k) [.int .i32 x0, .int .i32 x1, .int .i32 x2])) (fun _ iv _ => 8 - (intOf iv).toNat)
  case atStart => exact ⟨0, by omega, rfl, rfl, hide (by rw [mkN, List.append_nil]; exact unhide HM2)⟩
  case round =>
    obtain ⟨k, hk, rfl, rfl, HM⟩ := hrel
    clear HM2
    by_cases hk8 : k < 8
    · have k1 : ((k : Nat) : Int) < 8 := by omega
      have c0 : wr.cell? ⟨w.heap.size, 0, none⟩ = some (.int .i32 x0) := by have := (unhide HM).x.cell 0; rw [this]; rfl
      have c1 : wr.cell? ⟨w.heap.size, 1, none⟩ = some (.int .i32 x1) := by have := (unhide HM).x.cell 1; rw [this]; rfl
      have c2 : wr.cell? ⟨w.heap.size, 2, none⟩ = some (.int .i32 x2) := by have := (unhide HM).x.cell 2; rw [this]; rfl
      go_wp2_with (at_builtin; refine append_mark rfl _ _ 30 rfl (w.heap.size + 1) 85 ii 3 Tryz.underlying30 (unhide HII).1 (unhide HII).2.2.1 (w.heap.size + 1) (n + k) (n + 8) rfl wr [.int .i32 x0, .int .i32 x1, .int .i32 x2] rfl (xs ++ mkN [.int .i32 x0, .int .i32 x1, .int .i32 x2] k) (unhide HM).o rfl (unhide HU) _ rfl rfl (by omega) ?_)
      intro w3 hown hg
      have HM3 := hide ((unhide HM).grown ((Below.refl _ _).alloc (by have := (unhide HM).x.lt; omega) _) hown hg)
      clear hown hg
      go_wp2_with fail
      exact ⟨⟨k + 1, by omega, rfl, by first | rfl | (congr 1; omega), hide (by rw [mkN]; have := unhide HM3; first | exact this | (rw [List.append_assoc] at this; exact this))⟩, by simp [intOf]; omega⟩
    · have k1 : ¬ ((k : Nat) : Int) < 8 := by omega
      obtain rfl : k = 8 := by omega
      go_wp2_with fail
      exact bodyPost_ret (v := .slice (some ⟨w.heap.size + 1, 0, none⟩) n (n + 8)) (by simp [results, Tryz.results29, go_sem]) rfl ⟨_, rfl, by omega, (unhide HM).o, (unhide HM).b⟩
set_option maxRecDepth 100000 in
set_option maxHeartbeats 4000000 in
theorem roomyMap_any (a : Option Addr) (cap n : Nat) (xs : List Value) (hl : xs.length = n * 2) (h1 : ∀ u ∈ xs, u.oneCell' = true) (hn : n ≤ 1000000) (x0 : Int) (x1 : ByteArray) (w : World) (hr : RowC w w.heap.size a xs) :
    Calls Tryz.prog 30 #[.slice a n cap, .agg #[.int .i32 x0, .string x1]] w fun e w' => ∃ g, e = .returned (.slice (some ⟨g, 0, none⟩) n (n + 8)) ∧ w.heap.size < g ∧ w'.ownsRow (w.heap.size + 1) 78 2 (.slice (some ⟨g, 0, none⟩) (n + 8) (n + 8)) (n + 8) (xs ++ mkN [.int .i32 x0, .string x1] 8) ∧ Below w.heap.size w w' := by
  obtain ⟨ii, hii, hi0, hi1, hi2⟩ := info_parts infoMap
  have HII := hide (And.intro hii (And.intro hi0 (And.intro hi1 hi2)))
  have HU : Hz (∀ u ∈ ([.int .i32 x0, .string x1] : List Value), u.oneCell' = true) := hide (by intro u hu; simp at hu; rcases hu with rfl | rfl <;> rfl)
  clear hii hi0 hi1 hi2
  have HB0 := hide ((Below.refl w.heap.size w).alloc (Nat.le_refl _) (.cells #[.int .i32 x0, .string x1] 78))
  have HX0 := hide (Blk.new w #[.int .i32 x0, .string x1] 78)
  have HZ0 : Hz ((w.alloc (.cells #[.int .i32 x0, .string x1] 78)).heap.size = w.heap.size + 1) := hide (by simp)
  have HR0 : Hz (RowC (w.alloc (.cells #[.int .i32 x0, .string x1] 78)) w.heap.size a xs) := hide (fun h0 => by
    obtain ⟨g, o, e, hg, hc⟩ := hr h0
    exact ⟨g, o, e, hg, fun j u hj => ((unhide HB0).cell (p := ⟨g, o + j, none⟩) hg).trans (hc j u hj)⟩)
  have H1 := hide (And.intro hl h1)
  clear hl h1 hr
  go_enter Tryz.func30, Tryz.ntmps30
  go_wp2_with (refine wpList_make_own _ rfl _ _ 31 rfl (w.heap.size + 1) 78 ii (.agg #[.int .i32 0, .string ⟨#[]⟩]) 2 Tryz.underlying31 (unhide HII).1 (unhide HII).2.1 (unhide HII).2.2.1 .i64 .i64 _ (n + 8) rfl rfl (by omega) (by rw [(unhide HII).2.2.2]; omega) (by unfold maxLen; omega) (by rw [unhide HZ0]; omega) ?_)
  intro w1 hown hg
  have HM : Hz (Rm w w1 78 2 (w.heap.size + 1) 0 (n + 8) [] [.int .i32 x0, .string x1]) := hide (by
    have hb1 : Below (w.heap.size + 1) (w.alloc (.cells #[.int .i32 x0, .string x1] 78)) w1 := (Below.refl _ _).grown hg (by rw [unhide HZ0]; exact Nat.le_refl _) (fun q hq => by cases hq)
    exact ⟨hown, (unhide HB0).trans (hb1.mono (by omega)), (unhide HX0).below hb1 (by omega), by omega⟩)
  have HR1 : Hz (RowC w1 w.heap.size a xs) := hide (fun h0 => by
    obtain ⟨g, o, e, hg', hc⟩ := unhide HR0 h0
    refine ⟨g, o, e, hg', fun j u hj => ?_⟩
    have e1 := (unhide HB0).cell (p := ⟨g, o + j, none⟩) hg'
    exact ((unhide HM).b.cell (p := ⟨g, o + j, none⟩) hg').trans (e1.symm.trans (hc j u hj)))
  clear hown hg HR0 HX0 HB0 HZ0
  go_wp2_with (at_builtin; refine append_list rfl _ _ 31 rfl (w.heap.size + 1) 78 ii 2 Tryz.underlying31 (unhide HII).1 (unhide HII).2.2.1 (by decide) (w.heap.size + 1) n (n + 8) rfl (unhide HM).o a cap w.heap.size xs rfl (unhide H1).1 (unhide HR1) (unhide H1).2 (by omega) ?_)
  intro w2 hown hg
  have HM2 := hide ((unhide HM).grown (Below.refl _ _) hown hg)
  clear hown hg HM HR1 H1
  go_wp2_with fail
  go_loopw [5, 6] (fun mv iv wr => ∃ k : Nat, k ≤ 8 ∧ iv = .int .i64 k ∧ mv = .slice (some ⟨w.heap.size + 1, 0, none⟩) (n + k) (n + 8) ∧ Hz (Rm w wr 78 2 (w.heap.size + 1) (n + k) (n + 8) (xs ++ mkN [.int .i32 x0, .string x1] k) [.int .i32 x0, .string x1])) (fun _ iv _ => 8 - (intOf iv).toNat)
  case atStart => exact ⟨0, by omega, rfl, rfl, hide (by rw [mkN, List.append_nil]; exact unhide HM2)⟩
  case round =>
    obtain ⟨k, hk, rfl, rfl, HM⟩ := hrel
    clear HM2
    by_cases hk8 : k < 8
    · have k1 : ((k : Nat) : Int) < 8 := by omega
      have c0 : wr.cell? ⟨w.heap.size, 0, none⟩ = some (.int .i32 x0) := by have := (unhide HM).x.cell 0; rw [this]; rfl
      have c1 : wr.cell? ⟨w.heap.size, 1, none⟩ = some (.string x1) := by have := (unhide HM).x.cell 1; rw [this]; rfl
      go_wp2_with (at_builtin; refine append_mark rfl _ _ 31 rfl (w.heap.size + 1) 78 ii 2 Tryz.underlying31 (unhide HII).1 (unhide HII).2.2.1 (w.heap.size + 1) (n + k) (n + 8) rfl wr [.int .i32 x0, .string x1] rfl (xs ++ mkN [.int .i32 x0, .string x1] k) (unhide HM).o rfl (unhide HU) _ rfl rfl (by omega) ?_)
      intro w3 hown hg
      have HM3 := hide ((unhide HM).grown ((Below.refl _ _).alloc (by have := (unhide HM).x.lt; omega) _) hown hg)
      clear hown hg
      go_wp2_with fail
      exact ⟨⟨k + 1, by omega, rfl, by first | rfl | (congr 1; omega), hide (by rw [mkN]; have := unhide HM3; first | exact this | (rw [List.append_assoc] at this; exact this))⟩, by simp [intOf]; omega⟩
    · have k1 : ¬ ((k : Nat) : Int) < 8 := by omega
      obtain rfl : k = 8 := by omega
      go_wp2_with fail
      exact bodyPost_ret (v := .slice (some ⟨w.heap.size + 1, 0, none⟩) n (n + 8)) (by simp [results, Tryz.results30, go_sem]) rfl ⟨_, rfl, by omega, (unhide HM).o, (unhide HM).b⟩
set_option maxRecDepth 100000 in
set_option maxHeartbeats 4000000 in
theorem roomyScript_any (a : Option Addr) (cap n : Nat) (xs : List Value) (hl : xs.length = n * 2) (h1 : ∀ u ∈ xs, u.oneCell' = true) (hn : n ≤ 1000000) (x0 : ByteArray) (x1 : Option Addr) (x2 x3 : Nat) (w : World) (hr : RowC w w.heap.size a xs) :
    Calls Tryz.prog 31 #[.slice a n cap, .agg #[.string x0, .slice x1 x2 x3]] w fun e w' => ∃ g, e = .returned (.slice (some ⟨g, 0, none⟩) n (n + 8)) ∧ w.heap.size < g ∧ w'.ownsRow (w.heap.size + 1) 74 2 (.slice (some ⟨g, 0, none⟩) (n + 8) (n + 8)) (n + 8) (xs ++ mkN [.string x0, .slice x1 x2 x3] 8) ∧ Below w.heap.size w w' := by
  obtain ⟨ii, hii, hi0, hi1, hi2⟩ := info_parts infoScript
  have HII := hide (And.intro hii (And.intro hi0 (And.intro hi1 hi2)))
  have HU : Hz (∀ u ∈ ([.string x0, .slice x1 x2 x3] : List Value), u.oneCell' = true) := hide (by intro u hu; simp at hu; rcases hu with rfl | rfl <;> rfl)
  clear hii hi0 hi1 hi2
  have HB0 := hide ((Below.refl w.heap.size w).alloc (Nat.le_refl _) (.cells #[.string x0, .slice x1 x2 x3] 74))
  have HX0 := hide (Blk.new w #[.string x0, .slice x1 x2 x3] 74)
  have HZ0 : Hz ((w.alloc (.cells #[.string x0, .slice x1 x2 x3] 74)).heap.size = w.heap.size + 1) := hide (by simp)
  have HR0 : Hz (RowC (w.alloc (.cells #[.string x0, .slice x1 x2 x3] 74)) w.heap.size a xs) := hide (fun h0 => by
    obtain ⟨g, o, e, hg, hc⟩ := hr h0
    exact ⟨g, o, e, hg, fun j u hj => ((unhide HB0).cell (p := ⟨g, o + j, none⟩) hg).trans (hc j u hj)⟩)
  have H1 := hide (And.intro hl h1)
  clear hl h1 hr
  go_enter Tryz.func31, Tryz.ntmps31
  go_wp2_with (refine wpList_make_own _ rfl _ _ 27 rfl (w.heap.size + 1) 74 ii (.agg #[.string ⟨#[]⟩, .slice none 0 0]) 2 Tryz.underlying27 (unhide HII).1 (unhide HII).2.1 (unhide HII).2.2.1 .i64 .i64 _ (n + 8) rfl rfl (by omega) (by rw [(unhide HII).2.2.2]; omega) (by unfold maxLen; omega) (by rw [unhide HZ0]; omega) ?_)
  intro w1 hown hg
  have HM : Hz (Rm w w1 74 2 (w.heap.size + 1) 0 (n + 8) [] [.string x0, .slice x1 x2 x3]) := hide (by
    have hb1 : Below (w.heap.size + 1) (w.alloc (.cells #[.string x0, .slice x1 x2 x3] 74)) w1 := (Below.refl _ _).grown hg (by rw [unhide HZ0]; exact Nat.le_refl _) (fun q hq => by cases hq)
    exact ⟨hown, (unhide HB0).trans (hb1.mono (by omega)), (unhide HX0).below hb1 (by omega), by omega⟩)
  have HR1 : Hz (RowC w1 w.heap.size a xs) := hide (fun h0 => by
    obtain ⟨g, o, e, hg', hc⟩ := unhide HR0 h0
    refine ⟨g, o, e, hg', fun j u hj => ?_⟩
    have e1 := (unhide HB0).cell (p := ⟨g, o + j, none⟩) hg'
    exact ((unhide HM).b.cell (p := ⟨g, o + j, none⟩) hg').trans (e1.symm.trans (hc j u hj)))
  clear hown hg HR0 HX0 HB0 HZ0
  go_wp2_with (at_builtin; refine append_list rfl _ _ 27 rfl (w.heap.size + 1) 74 ii 2 Tryz.underlying27 (unhide HII).1 (unhide HII).2.2.1 (by decide) (w.heap.size + 1) n (n + 8) rfl (unhide HM).o a cap w.heap.size xs rfl (unhide H1).1 (unhide HR1) (unhide H1).2 (by omega) ?_)
  intro w2 hown hg
  have HM2 := hide ((unhide HM).grown (Below.refl _ _) hown hg)
  clear hown hg HM HR1 H1
  go_wp2_with fail
  go_loopw [5, 6] (fun mv iv wr => ∃ k : Nat, k ≤ 8 ∧ iv = .int .i64 k ∧ mv = .slice (some ⟨w.heap.size + 1, 0, none⟩) (n + k) (n + 8) ∧ Hz (Rm w wr 74 2 (w.heap.size + 1) (n + k) (n + 8) (xs ++ mkN [.string x0, .slice x1 x2 x3] k) [.string x0, .slice x1 x2 x3])) (fun _ iv _ => 8 - (intOf iv).toNat)
  case atStart => exact ⟨0, by omega, rfl, rfl, hide (by rw [mkN, List.append_nil]; exact unhide HM2)⟩
  case round =>
    obtain ⟨k, hk, rfl, rfl, HM⟩ := hrel
    clear HM2
    by_cases hk8 : k < 8
    · have k1 : ((k : Nat) : Int) < 8 := by omega
      have c0 : wr.cell? ⟨w.heap.size, 0, none⟩ = some (.string x0) := by have := (unhide HM).x.cell 0; rw [this]; rfl
      have c1 : wr.cell? ⟨w.heap.size, 1, none⟩ = some (.slice x1 x2 x3) := by have := (unhide HM).x.cell 1; rw [this]; rfl
      go_wp2_with (at_builtin; refine append_mark rfl _ _ 27 rfl (w.heap.size + 1) 74 ii 2 Tryz.underlying27 (unhide HII).1 (unhide HII).2.2.1 (w.heap.size + 1) (n + k) (n + 8) rfl wr [.string x0, .slice x1 x2 x3] rfl (xs ++ mkN [.string x0, .slice x1 x2 x3] k) (unhide HM).o rfl (unhide HU) _ rfl rfl (by omega) ?_)
      intro w3 hown hg
      have HM3 := hide ((unhide HM).grown ((Below.refl _ _).alloc (by have := (unhide HM).x.lt; omega) _) hown hg)
      clear hown hg
      go_wp2_with fail
      exact ⟨⟨k + 1, by omega, rfl, by first | rfl | (congr 1; omega), hide (by rw [mkN]; have := unhide HM3; first | exact this | (rw [List.append_assoc] at this; exact this))⟩, by simp [intOf]; omega⟩
    · have k1 : ¬ ((k : Nat) : Int) < 8 := by omega
      obtain rfl : k = 8 := by omega
      go_wp2_with fail
      exact bodyPost_ret (v := .slice (some ⟨w.heap.size + 1, 0, none⟩) n (n + 8)) (by simp [results, Tryz.results31, go_sem]) rfl ⟨_, rfl, by omega, (unhide HM).o, (unhide HM).b⟩
set_option maxRecDepth 100000 in
set_option maxHeartbeats 2000000 in
theorem sameScript_row (nm : ByteArray) (sp : List (Int × Int)) (hz : sp.length ≤ 1000000) (p q : Option Addr) (cp cq : Nat) (w : World) (ha : RowC w w.heap.size p (encS2 sp)) (hb : RowC w w.heap.size q (encS2 sp)) :
    Calls Tryz.prog 45 #[.agg #[.string nm, .slice p sp.length cp], .agg #[.string nm, .slice q sp.length cq]] w fun e w' => e = .returned (.bool true) ∧ Below w.heap.size w w' := by
  have hB0 : Below w.heap.size w ((w.alloc (.cells #[.string nm, .slice p sp.length cp] 74)).alloc (.cells #[.string nm, .slice q sp.length cq] 74)) := ((Below.refl _ w).alloc (Nat.le_refl _) _).alloc (by simp) _
  have bA := (Blk.new w #[.string nm, .slice p sp.length cp] 74).alloc (.cells #[.string nm, .slice q sp.length cq] 74)
  have bB := Blk.new (w.alloc (.cells #[.string nm, .slice p sp.length cp] 74)) #[.string nm, .slice q sp.length cq] 74
  rw [World.size_alloc] at bB
  have HS := hide (sameSpan_row p q cp cq sp hz _ _ (ha.below hB0 hB0.size) (hb.below hB0 hB0.size))
  have HB0 := hide hB0
  have a0 := bA.cell 0
  have a1 := bA.cell 1
  have b0 := bB.cell 0
  have b1 := bB.cell 1
  have e1 : (nm.toList == nm.toList) = true := by simp
  clear hB0 bA bB ha hb
  go_enter Tryz.func45, Tryz.ntmps45
  go_wp2_with fail
  generalize (w.alloc (.cells #[.string nm, .slice p sp.length cp] 74)).alloc (.cells #[.string nm, .slice q sp.length cq] 74) = w1 at *
  refine (unhide HS).mono ?_
  rintro e w2 ⟨rfl, hb2⟩
  have HB2 := hide ((unhide HB0).trans (hb2.mono (unhide HB0).size))
  clear hb2 HS
  go_wp2_with fail
  go_ret
  exact ⟨rfl, unhide HB2⟩
set_option maxRecDepth 100000 in
set_option maxHeartbeats 2000000 in
theorem alike_row (a b : Option Addr) (ca cb : Nat) (sc : List (ByteArray × List (Int × Int))) (us vs : List Value) (hu : us.length = sc.length) (hv : vs.length = sc.length) (hn : sc.length ≤ 1000000) (hz : ∀ x ∈ sc, x.2.length ≤ 1000000) (w : World)
    (ha : RowC w w.heap.size a (encSc sc us)) (hb : RowC w w.heap.size b (encSc sc vs))
    (hra : ∀ (j : Nat) (x : ByteArray × List (Int × Int)) (u : Value), sc[j]? = some x → us[j]? = some u → ∃ b d, u = .slice b x.2.length d ∧ RowC w w.heap.size b (encS2 x.2))
    (hrb : ∀ (j : Nat) (x : ByteArray × List (Int × Int)) (u : Value), sc[j]? = some x → vs[j]? = some u → ∃ b d, u = .slice b x.2.length d ∧ RowC w w.heap.size b (encS2 x.2)) :
    Calls Tryz.prog 44 #[.slice a sc.length ca, .slice b sc.length cb, .func (.func 45) #[] #[]] w fun e w' => e = .returned (.bool true) ∧ Below w.heap.size w w' := by
  have HA := hide (And.intro ha hra)
  have HB := hide (And.intro hb hrb)
  have HU := hide (And.intro hu (And.intro hv (And.intro hz (And.intro (encSc_length sc us hu) (encSc_length sc vs hv)))))
  clear ha hb hra hrb hu hv hz
  have hne : (((sc.length : Nat) : Int) != ((sc.length : Nat) : Int)) = false := by simp
  go_enter Tryz.func44, Tryz.ntmps44
  go_wp2
  go_loopw [7] (fun i wr => ∃ k : Nat, k ≤ sc.length ∧ i = .int .i64 k ∧ Hz (Below w.heap.size w wr)) (fun i _ => sc.length - (intOf i).toNat)
  case atStart => exact ⟨0, by omega, rfl, hide (Below.refl _ _)⟩
  case round =>
    obtain ⟨k, hk, rfl, HW⟩ := hrel
    by_cases hkn : k < sc.length
    · obtain ⟨x, hx⟩ : ∃ x, sc[k]? = some x := ⟨_, List.getElem?_eq_getElem hkn⟩
      obtain ⟨u, hu⟩ : ∃ u, us[k]? = some u := ⟨_, List.getElem?_eq_getElem (by rw [(unhide HU).1]; exact hkn)⟩
      obtain ⟨v, hv⟩ : ∃ v, vs[k]? = some v := ⟨_, List.getElem?_eq_getElem (by rw [(unhide HU).2.1]; exact hkn)⟩
      obtain ⟨g, o, rfl, hg, hc⟩ := (unhide HA).1 (by rw [(unhide HU).2.2.2.1]; omega)
      obtain ⟨h, p, rfl, hh, hd⟩ := (unhide HB).1 (by rw [(unhide HU).2.2.2.2]; omega)
      obtain ⟨q1, d1, rfl, r1⟩ := (unhide HA).2 k x u hx hu
      obtain ⟨q2, d2, rfl, r2⟩ := (unhide HB).2 k x v hx hv
      have hwr := unhide HW
      have c0 : wr.cell? ⟨g, o + k * 2, none⟩ = some (.string x.1) := (hwr.cell (p := ⟨g, o + k * 2, none⟩) hg).trans (hc _ _ (encSc_at0 sc us (unhide HU).1 k x hx))
      have c1 : wr.cell? ⟨g, o + k * 2 + 1, none⟩ = some (.slice q1 x.2.length d1) := by
        have h1 := hc (2 * k + 1) _ ((encSc_at sc us (unhide HU).1 k).trans hu)
        rw [show o + (2 * k + 1) = o + k * 2 + 1 by omega] at h1
        exact (hwr.cell (p := ⟨g, o + k * 2 + 1, none⟩) hg).trans h1
      have f0 : wr.cell? ⟨h, p + k * 2, none⟩ = some (.string x.1) := (hwr.cell (p := ⟨h, p + k * 2, none⟩) hh).trans (hd _ _ (encSc_at0 sc vs (unhide HU).2.1 k x hx))
      have f1 : wr.cell? ⟨h, p + k * 2 + 1, none⟩ = some (.slice q2 x.2.length d2) := by
        have h1 := hd (2 * k + 1) _ ((encSc_at sc vs (unhide HU).2.1 k).trans hv)
        rw [show p + (2 * k + 1) = p + k * 2 + 1 by omega] at h1
        exact (hwr.cell (p := ⟨h, p + k * 2 + 1, none⟩) hh).trans h1
      have HS := hide (fun (W' : World) (hb : Below wr.heap.size wr W') => sameScript_row x.1 x.2 ((unhide HU).2.2.1 x (List.mem_of_getElem? hx)) q1 q2 d1 d2 W' ((r1.below hwr hwr.size).below hb hb.size) ((r2.below hwr hwr.size).below hb hb.size))
      have hk1 : (k : Int) < (sc.length : Int) := by omega
      have hk2 : ((k : Nat) : Int).toNat = k := by omega
      obtain ⟨x1, x2⟩ := x
      dsimp only at c0 c1 f0 f1 HS
      clear hc hd hx hu hv r1 r2 hwr
      go_wp2_with fail
      go_region_with ((go_at_call 45; refine (unhide HS wr.drew (show Below wr.heap.size wr wr.drew from ⟨rfl, rfl, rfl, Nat.le_refl _, fun _ _ => rfl⟩)).mono ?_; rintro e w' ⟨rfl, hb⟩))
      all_goals
        have HN := hide ((unhide HW).trans ((show Below wr.heap.size wr w' from ⟨hb.os, hb.tape, hb.output, hb.size, hb.block⟩).mono (unhide HW).size))
        clear hb
        go_wp2_with fail
        go_roundw
        case rel => exact ⟨k + 1, by omega, by go_num, HN⟩
        case measure => simp [intOf]; omega
    · have hk1 : ¬ (k : Int) < (sc.length : Int) := by omega
      go_wp2
      go_ret
      exact ⟨rfl, unhide HW⟩
end Go.Proofs.YtgchlilpjkndlaaGreatDoor
