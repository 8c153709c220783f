/- Texts of this claim, one behind the other. -/
import Derived.Test.YtnnbaodillnkkaaGreatM3
import Derived.Laws.AppendOwn
import Derived.Laws.MakeOwn
import Derived.Laws.OwnMore
import Derived.Lib.SliceRun
import Derived.Lib.Walk
import Derived.Shelf.RegionOpenPlain
import Derived.Test.YtnnbaodillnkkaaGreatM5
import Derived.Deep.RegionHeld3
import Derived.RegionTactic
import Derived.Below
/- slices.Clone at a list of spans; Spans of a set. -/
namespace Go.Proofs.YtnnbaodillnkkaaGreat
open Go.RowKit Go.Shelf Go.Lib
set_option linter.unusedVariables false

def encP : List (Int × Int) → List Value
  | [] => []
  | x :: zs => .int .i32 x.1 :: .int .i32 x.2 :: encP zs
theorem encP_length (zs : List (Int × Int)) : (encP zs).length = zs.length * 2 := by
  induction zs with
  | nil => rfl
  | cons x zs ih => simp only [encP, List.length_cons, ih]; omega
theorem encP_at (zs : List (Int × Int)) (j : Nat) (x : Int × Int) (h : zs[j]? = some x) : (encP zs)[j * 2]? = some (.int .i32 x.1) ∧ (encP zs)[j * 2 + 1]? = some (.int .i32 x.2) := by
  induction zs generalizing j with
  | nil => simp at h
  | cons y zs ih =>
    cases j with
    | zero => simp at h; subst h; simp [encP]
    | succ j =>
      simp at h
      have := ih j h
      rw [show (j + 1) * 2 = j * 2 + 1 + 1 by omega]
      simpa [encP] using this
theorem encP_append (xs ys : List (Int × Int)) : encP (xs ++ ys) = encP xs ++ encP ys := by
  induction xs with
  | nil => rfl
  | cons x xs ih => simp only [List.cons_append, encP, ih]
theorem encP_one (zs : List (Int × Int)) : ∀ u ∈ encP zs, u.oneCell' = true := by
  induction zs with
  | nil => simp [encP]
  | cons x zs ih =>
    intro u hu
    simp only [encP, List.mem_cons] at hu
    rcases hu with rfl | rfl | hu
    · rfl
    · rfl
    · exact ih u hu
theorem encP_cells {W : World} {g o : Nat} {zs : List (Int × Int)} (hc : ∀ j x, zs[j]? = some x → W.cell? ⟨g, o + j * 2, none⟩ = some (.int .i32 x.1) ∧ W.cell? ⟨g, o + j * 2 + 1, none⟩ = some (.int .i32 x.2)) (j : Nat) (u : Value) (hu : (encP zs)[j]? = some u) : W.cell? ⟨g, o + j, none⟩ = some u := by
  have hl := (List.getElem?_eq_some_iff.1 hu).1
  rw [encP_length] at hl
  obtain ⟨x, hx⟩ : ∃ x, zs[j / 2]? = some x := ⟨_, List.getElem?_eq_getElem (by omega)⟩
  have h1 := encP_at zs _ x hx
  have h2 := hc _ x hx
  rcases Nat.mod_two_eq_zero_or_one j with e | e
  · have : j = j / 2 * 2 := by omega
    rw [← this] at h1 h2
    rw [h1.1] at hu
    cases hu
    exact h2.1
  · have : j = j / 2 * 2 + 1 := by omega
    rw [show o + j / 2 * 2 + 1 = o + j by omega] at h2
    rw [← this] at h1
    rw [h1.2] at hu
    cases hu
    exact h2.2
theorem own_row {W : World} {base n : Nat} {v : Value} {zs : List (Int × Int)} (h : W.ownsRow base 68 2 v n (encP zs)) : ∃ a c, v = .slice a zs.length c ∧ RowP W a zs ∧ n = zs.length ∧ zs.length ≤ c := by
  obtain ⟨hl, h⟩ := h
  rw [encP_length] at hl
  have hn : n = zs.length := by omega
  subst hn
  rcases h with ⟨rfl, h0⟩ | ⟨g, cap, cur, rfl, hb, hg, h1, h2, h3, h4⟩
  · exact ⟨none, 0, by rw [h0], fun h => by omega, rfl, by omega⟩
  · refine ⟨_, cap, rfl, fun h0 => ⟨g, 0, rfl, (Array.getElem?_eq_some_iff.1 hg).1, fun j x hj => ?_⟩, rfl, h1⟩
    have hbk : Blk W g cur 68 := hg
    have e := encP_at zs j x hj
    rw [← h4] at e
    have hjl := (List.getElem?_eq_some_iff.1 hj).1
    rw [List.getElem?_take, if_pos (by omega), List.getElem?_take, if_pos (by omega)] at e
    rw [Nat.zero_add, Blk.cell hbk, Blk.cell hbk]
    simpa using e

theorem alloc_cell {w : World} {a : Addr} {v : Value} (o : Obj) (h : w.cell? a = some v) : (w.alloc o).cell? a = some v := Lib.cell?_alloc_some _ h
theorem infoP : (Tryz.prog.info? 68).map (fun i => (i.zero, i.size, i.bytes)) = some (some (.agg #[.int .i32 0, .int .i32 0]), 2, 8) := by kernel_rfl

set_option maxRecDepth 100000 in
set_option maxHeartbeats 2000000 in
theorem cloneS_any (a : Option Addr) (cap : Nat) (zs : List (Int × Int)) (hz : zs.length ≤ 1073741824) (w : World) (hr : RowP w a zs) :
    Calls Tryz.prog 152 #[.slice a zs.length cap] w fun e w' => ∃ v, e = .returned v ∧ w'.ownsRow w.heap.size 68 2 v zs.length (encP zs) ∧ Below w.heap.size w w' := by
  have q22 : ∀ (w : World) (a : Option Addr) (n c n' c' : Nat), (binOp .eql 27 (.slice a n c) (.slice none n' c')).run Tryz.prog w = .ok (.bool a.isNone) w := fun w a n c n' c' => Lib.run_eql_slice_nil w _ _ a n c n' c' Tryz.underlying27
  obtain ⟨i0, hi, hz0, hz1, hz2⟩ := info_parts infoP
  have HI := hide (show _ ∧ _ ∧ _ ∧ _ from ⟨hi, hz0, hz1, hz2⟩)
  have HR := hide hr
  clear hi hz0 hz1 hz2 hr
  cases a with
  | none =>
    have h0 : zs = [] := by
      by_cases e : 0 < zs.length
      · obtain ⟨g, o, h, _⟩ := unhide HR e; cases h
      · exact List.eq_nil_of_length_eq_zero (by omega)
    subst h0
    go_enter Tryz.func152, Tryz.ntmps152
    go_wp2
    go_ret
    exact ⟨_, rfl, World.ownsRow_nil _ _ _ _, Below.refl _ _⟩
  | some p =>
    have HN : Hz (∀ j u, (encP zs)[j]? = some u → w.cell? (p.add j) = some u) := hide (fun j u hu => by
      have hl := (List.getElem?_eq_some_iff.1 hu).1
      rw [encP_length] at hl
      obtain ⟨g, o, h, hg, hc⟩ := unhide HR (by omega)
      cases h
      rw [add_none']
      exact encP_cells hc j u hu)
    have hb8 : zs.length * 8 ≤ 140737488355328 := by omega
    go_enter Tryz.func152, Tryz.ntmps152
    go_wp2_with (at_builtin; refine wpList_append_own _ rfl _ _ 27 rfl w.heap.size 68 i0 (.agg #[.int .i32 0, .int .i32 0]) 2 8 Tryz.underlying27 (unhide HI).1 (unhide HI).2.1 (unhide HI).2.2.1 (unhide HI).2.2.2 rfl (by decide) _ _ _ rfl (World.ownsRow_made w #[] 0 (Nat.le_refl _) (Nat.zero_le _) (by simp)) p zs.length cap (encP zs) rfl ?qc1 ?qc2 ?qc3 ?qc4 ?qc5 ?qc6 ?_)
    case qc1 => exact encP_length zs
    case qc2 => exact fun j u hj => alloc_cell _ (unhide HN j u hj)
    case qc3 => exact encP_one zs
    case qc4 => rw [Nat.zero_add]; unfold maxLen; omega
    case qc5 => rw [Nat.zero_add]; exact hb8
    case qc6 => simp
    intro v' w1 hown hgrow hnil
    have HO := hide hown
    have HG := hide hgrow
    clear hown hgrow hnil
    go_wp2
    go_ret
    refine ⟨v', rfl, by simpa using unhide HO, ?_⟩
    exact ((Below.refl _ w).alloc (Nat.le_refl _) _).grown (unhide HG) (by simp) (by intro k hk; simp [Value.ownBlock] at hk; omega)

end Go.Proofs.YtnnbaodillnkkaaGreat
namespace Go.Proofs.YtnnbaodillnkkaaGreat
open Go.RowKit Go.Shelf
set_option linter.unusedVariables false
theorem one_rn (w : World) (b : Nat) (r : Int) (t : TypeId) (hb : b = w.heap.size) : RnC (w.alloc (.cells #[.int .i32 r] t)) (w.alloc (.cells #[.int .i32 r] t)).heap.size (some ⟨b, 0, none⟩) [r] := fun _ => ⟨_, 0, rfl, by simp [hb], fun j x hj => by
  rcases j with _ | j
  · obtain rfl : r = x := by simpa using hj
    rw [hb]
    exact (Blk.new w #[.int .i32 r] t).cell 0
  · simp at hj⟩
theorem three_rn (w : World) (b : Nat) (r s u : Int) (t : TypeId) (hb : b = w.heap.size) : RnC (w.alloc (.cells #[.int .i32 r, .int .i32 s, .int .i32 u] t)) (w.alloc (.cells #[.int .i32 r, .int .i32 s, .int .i32 u] t)).heap.size (some ⟨b, 0, none⟩) [r, s, u] := fun _ => ⟨_, 0, rfl, by simp [hb], fun j x hj => by
  subst hb
  have b := Blk.new w #[.int .i32 r, .int .i32 s, .int .i32 u] t
  rcases j with _ | _ | _ | j
  · obtain rfl : r = x := by simpa using hj
    exact b.cell 0
  · obtain rfl : s = x := by simpa using hj
    exact b.cell 1
  · obtain rfl : u = x := by simpa using hj
    exact b.cell 2
  · simp at hj⟩
theorem two_err (w : World) (b : Nat) (x y : Int) (t : TypeId) (hb : b = w.heap.size) : ∀ (j : Nat) (z : Int), [x, y][j]? = some z → (w.alloc (.cells #[.int .i64 x, .int .i64 y] t)).cell? ⟨b, 0 + j, none⟩ = some (.int .i64 z) := fun j z hj => by
  subst hb
  have b := Blk.new w #[.int .i64 x, .int .i64 y] t
  rcases j with _ | _ | j
  · obtain rfl : x = z := by simpa using hj
    exact b.cell 0
  · obtain rfl : y = z := by simpa using hj
    exact b.cell 1
  · simp at hj
theorem alloc_bel {lo : Nat} {W w : World} (h : Below lo W w) (hs : lo ≤ w.heap.size) (o : Obj) : Below lo W (w.alloc o) := h.alloc hs o
set_option maxRecDepth 100000 in
set_option maxHeartbeats 2000000 in
theorem tooMany1_any (nm : ByteArray) (p : Option Addr) (n d : Nat) (w : World) : Calls Tryz.prog 72 #[.agg #[.string nm, .slice p n d]] w fun e w' => e = .returned (.int .i64 (if 1024 < n then 4 else 0)) ∧ Below w.heap.size w w' := by
  have hB0 : Below w.heap.size w (w.alloc (.cells #[.string nm, .slice p n d] 70)) := (Below.refl _ w).alloc (Nat.le_refl _) _
  have HB := hide hB0
  clear hB0
  by_cases h : 1024 < n
  · have h1 : (1024 : Int) < (n : Int) := by omega
    rw [if_pos h]
    go_enter Tryz.func72, Tryz.ntmps72
    go_wp2_with fail
    refine (when_any true 4 _).mono ?_
    rintro e w2 ⟨rfl, rfl⟩
    go_wp2_with fail
    go_ret
    exact ⟨rfl, unhide HB⟩
  · have h1 : ¬ (1024 : Int) < (n : Int) := by omega
    rw [if_neg h]
    go_enter Tryz.func72, Tryz.ntmps72
    go_wp2_with fail
    refine (when_any false 4 _).mono ?_
    rintro e w2 ⟨rfl, rfl⟩
    go_wp2_with fail
    go_ret
    exact ⟨rfl, unhide HB⟩
set_option maxRecDepth 100000 in
set_option maxHeartbeats 2000000 in
theorem pairWrong_any (x y z : Int) (w : World) : Calls Tryz.prog 79 #[.agg #[.int .i32 x, .int .i32 y, .int .i32 z]] w fun e w' => e = .returned (.int .i64 (prF (x, y, z))) ∧ Below w.heap.size w w' := by
  have hB0 : Below w.heap.size w (w.alloc (.cells #[.int .i32 x, .int .i32 y, .int .i32 z] 56)) := (Below.refl _ w).alloc (Nat.le_refl _) _
  have HB := hide hB0
  clear hB0
  go_enter Tryz.func79, Tryz.ntmps79
  go_wp2_with fail
  refine (noRune_any [x, y, z] (by simp) _ _ _ (three_rn _ _ x y z _ (by simp))).mono ?_
  rintro e w2 ⟨rfl, hb⟩
  have HB2 := hide ((alloc_bel (unhide HB) (unhide HB).size _).trans (hb.mono (Nat.le_trans (unhide HB).size (by simp))))
  clear hb
  have hv : (if ([x, y, z] : List Int).all runeB then (0 : Int) else 12) = prF (x, y, z) := by
    unfold prF
    simp only [List.all_cons, List.all_nil, Bool.and_true]
  rw [hv]
  go_wp2_with fail
  go_ret
  exact ⟨rfl, unhide HB2⟩
theorem maF_cases (r c : Int) : maF (r, c) = orE [if ([r] : List Int).all runeB then 0 else 12, if (decide (c < 1 ∨ 254 < c)) = true then 30 else 0] := by
  unfold maF
  simp only [List.all_cons, List.all_nil, Bool.and_true]
  cases hr : runeB r
  · rw [orE_cons1 (by decide)]
    rfl
  · rw [orE_cons0 (by rfl)]
    by_cases hc : c < 1 ∨ 254 < c
    · rw [orE_cons1 (by simp [hc])]
      simp [hc]
    · rw [orE_cons0 (by simp [hc])]
      simp [hc, orE]
end Go.Proofs.YtnnbaodillnkkaaGreat
namespace Go.Proofs.YtnnbaodillnkkaaGreat
open Go.RowKit
set_option linter.unusedVariables false
def RgClosed (md : Region.Mode) (ops : Array Oper) (l : Array Bool) : Prop :=
  ∀ (j : Nat) (o : Oper), ops[j]? = some o → l.getD j false = true → ∀ e ∈ o.after, Region.binds md e = true → l.getD e.on false = true
def rgTopo (md : Region.Mode) (ops : Array Oper) : Bool :=
  (List.range ops.size).all fun j => ((ops[j]?).map fun o => o.after.all fun e => !Region.binds md e || decide (e.on < j)).getD true
def rgDeps (md : Region.Mode) (ops : Array Oper) (j : Nat) : List Nat :=
  ((ops[j]?).map fun o => (o.after.toList.filter fun e => Region.binds md e).map fun e => e.on).getD []
def rgMark (md : Region.Mode) (ops : Array Oper) : List Nat → List Nat → List Nat
  | [], s => s
  | j :: js, s => rgMark md ops js (if s.contains j then rgDeps md ops j ++ s else s)
def rgAll (md : Region.Mode) (ops : Array Oper) (f : Nat) : Bool :=
  (List.range ops.size).all fun j => (rgMark md ops (List.range ops.size).reverse [f]).contains j
theorem rgDeps_mem {md : Region.Mode} {ops : Array Oper} {j k : Nat} (h : k ∈ rgDeps md ops j) : ∃ o, ops[j]? = some o ∧ ∃ e ∈ o.after, Region.binds md e = true ∧ e.on = k := by
  unfold rgDeps at h
  cases ho : ops[j]? with
  | none => rw [ho] at h; cases h
  | some o =>
    rw [ho] at h
    obtain ⟨e, he, rfl⟩ := List.mem_map.1 h
    obtain ⟨h1, h2⟩ := List.mem_filter.1 he
    exact ⟨o, rfl, e, Array.mem_toList_iff.1 h1, h2, rfl⟩
theorem rgMark_listed {md : Region.Mode} {ops : Array Oper} {l : Array Bool} (hc : RgClosed md ops l) (f : Nat) (hf : ∀ k ∈ rgDeps md ops f, l.getD k false = true) :
    ∀ (js s : List Nat), (∀ j ∈ s, j = f ∨ l.getD j false = true) → ∀ j ∈ rgMark md ops js s, j = f ∨ l.getD j false = true
  | [], s, hs => hs
  | x :: js, s, hs => by
    refine rgMark_listed hc f hf js _ ?_
    by_cases hx : s.contains x = true
    · rw [if_pos hx]
      intro j hj
      rcases List.mem_append.1 hj with h | h
      · rcases hs x (List.contains_iff_mem.1 hx) with rfl | h2
        · exact .inr (hf j h)
        · obtain ⟨o, ho, e, he, hb, rfl⟩ := rgDeps_mem h
          exact .inr (hc x o ho h2 e he hb)
      · exact hs j h
    · rw [if_neg hx]
      exact hs
theorem rgAll_listed {md : Region.Mode} {ops : Array Oper} {l : Array Bool} {f : Nat} (ha : rgAll md ops f = true) (hc : RgClosed md ops l) (hr : f ∈ Region.ready md ops l) (j : Nat) (hj : j ≠ f) (hlt : j < ops.size) : l.getD j false = true := by
  obtain ⟨_, o, ho, hall⟩ := mem_ready.1 hr
  have h1 := List.all_eq_true.1 ha j (List.mem_range.2 hlt)
  rcases rgMark_listed hc f (fun k hk => by
    obtain ⟨o', ho', e, he, hb, rfl⟩ := rgDeps_mem hk
    obtain rfl := Option.some.inj (ho.symm.trans ho')
    exact hall e he hb) _ _ (fun x hx => .inl (List.mem_singleton.1 hx)) j (List.contains_iff_mem.1 h1) with h | h
  · exact absurd h hj
  · exact h
theorem getD_flip {l : Array Bool} {j : Nat} (h : j < l.size) : l.getD j true = l.getD j false := by simp [h]
theorem rg_ready {md : Region.Mode} {ops : Array Oper} {l : Array Bool} (ht : rgTopo md ops = true) (hl : l.size = ops.size) (f : Nat) (hf : l.getD f true = false) : Region.ready md ops l ≠ [] := by
  have key : ∀ n f, f ≤ n → l.getD f true = false → ∃ i, i ∈ Region.ready md ops l := by
    intro n
    induction n with
    | zero =>
      intro f h0 hf
      obtain rfl : f = 0 := by omega
      have hlt : 0 < l.size := by
        rcases Nat.lt_or_ge 0 l.size with h | h
        · exact h
        · simp [Array.getElem?_eq_none h] at hf
      obtain ⟨o, ho⟩ : ∃ o, ops[0]? = some o := ⟨_, Array.getElem?_eq_getElem (by omega)⟩
      refine ⟨0, mem_ready.2 ⟨hf, o, ho, fun e he hb => ?_⟩⟩
      have h1 := List.all_eq_true.1 ht 0 (List.mem_range.2 (by omega))
      rw [ho] at h1
      have h2 := Array.all_eq_true_iff_forall_mem.1 h1 e he
      rw [hb] at h2
      simp at h2
    | succ n ih =>
      intro f hn hf
      have hlt : f < l.size := by
        rcases Nat.lt_or_ge f l.size with h | h
        · exact h
        · simp [Array.getElem?_eq_none h] at hf
      obtain ⟨o, ho⟩ : ∃ o, ops[f]? = some o := ⟨_, Array.getElem?_eq_getElem (by omega)⟩
      by_cases hx : ∃ e ∈ o.after, Region.binds md e = true ∧ l.getD e.on false = false
      · obtain ⟨e, he, hb, hz⟩ := hx
        have h1 := List.all_eq_true.1 ht f (List.mem_range.2 (by omega))
        rw [ho] at h1
        have h2 := Array.all_eq_true_iff_forall_mem.1 h1 e he
        rw [hb] at h2
        have h3 : e.on < f := by simpa using h2
        exact ih e.on (by omega) (by rw [getD_flip (by omega)]; exact hz)
      · refine ⟨f, mem_ready.2 ⟨hf, o, ho, fun e he hb => ?_⟩⟩
        cases hq : l.getD e.on false with
        | true => rfl
        | false => exact absurd ⟨e, he, hb, hq⟩ hx
  obtain ⟨i, hi⟩ := key f f (Nat.le_refl _) hf
  intro h
  rw [h] at hi
  cases hi
theorem count_list (l : List Bool) (i : Nat) (h : l[i]? = some false) : (l.set i true).count false + 1 = l.count false := by
  induction l generalizing i with
  | nil => simp at h
  | cons x l ih =>
    cases i with
    | zero =>
      have : x = false := by simpa using h
      subst this
      simp
    | succ i =>
      have := ih i (by simpa using h)
      rw [List.set_cons_succ, List.count_cons, List.count_cons]
      omega
theorem count_put (l : Array Bool) (i : Nat) (h : l.getD i true = false) : (l.setIfInBounds i true).toList.count false + 1 = l.toList.count false := by
  rw [Array.toList_setIfInBounds]
  refine count_list _ _ ?_
  rw [Array.getElem?_toList]
  rcases Nat.lt_or_ge i l.size with h' | h'
  · rw [Array.getElem?_eq_getElem h']
    simp [h'] at h
    rw [h]
  · simp [Array.getElem?_eq_none h'] at h
theorem rgClosed_put {md : Region.Mode} {ops : Array Oper} {l : Array Bool} {i : Nat} (hc : RgClosed md ops l) (hr : i ∈ Region.ready md ops l) : RgClosed md ops (l.setIfInBounds i true) := by
  intro j o ho hj e he hb
  by_cases hij : i = j
  · subst hij
    obtain ⟨_, o', ho', hall⟩ := mem_ready.1 hr
    obtain rfl := Option.some.inj (ho.symm.trans ho')
    exact getD_set_true (hall e he hb)
  · rw [getD_set_ne false hij] at hj
    exact getD_set_true (hc j o ho hj e he hb)
theorem ready_all {md : Region.Mode} {ops : Array Oper} {l : Array Bool} (h : ∀ j, j < ops.size → l.getD j false = true) : Region.ready md ops l = [] := by
  rw [List.eq_nil_iff_forall_not_mem]
  intro j hj
  obtain ⟨h0, o, ho, _⟩ := mem_ready.1 hj
  have h1 := h j (Array.getElem?_eq_some_iff.1 ho).1
  rcases Nat.lt_or_ge j l.size with h' | h'
  · rw [getD_flip h', h1] at h0
    cases h0
  · simp [Array.getElem?_eq_none h'] at h1
theorem wpAny_inv {P : Program} {md : Region.Mode} {ops : Array Oper} {Q : Exit → Act → World → Prop} (f : Nat) (ht : rgTopo md ops = true) (ha : rgAll md ops f = true) (J : Array Bool → Act → World → Prop)
    (hstep : ∀ l a w i, J l a w → l.size = ops.size → i ∈ Region.ready md ops l → i ≠ f → wpOp P ops Q i (J (l.setIfInBounds i true)) a w)
    (hfin : ∀ l a w, J l a w → (∀ j, j ≠ f → j < ops.size → l.getD j false = true) → wpOp P ops Q f (fun a' w' => Q .normal a' w') a w) :
    ∀ (fuel : Nat) (l : Array Bool) (a : Act) (w : World), l.toList.count false ≤ fuel → l.size = ops.size → l.getD f true = false → RgClosed md ops l → J l a w → wpAny P md ops Q fuel l a w := by
  intro fuel
  induction fuel with
  | zero =>
    intro l a w hn hl hf
    have := count_put l f hf
    omega
  | succ fuel ih =>
    intro l a w hn hl hf hc hJ
    refine ⟨fun h => absurd h (rg_ready ht hl f hf), fun i hi => ?_⟩
    have hi0 := (mem_ready.1 hi).1
    have hn2 := count_put l i hi0
    by_cases hif : i = f
    · subst hif
      have hall := fun j hj hlt => rgAll_listed ha hc hi j hj hlt
      refine wpOp_mono (fun a' w' hq => wpAny_done (ready_all fun j hj => ?_) hq fuel) (hfin l a w hJ hall)
      by_cases hji : j = i
      · subst hji
        simp [show j < l.size by omega]
      · rw [getD_set_ne false (Ne.symm hji)]
        exact hall j hji hj
    · exact wpOp_mono (fun a' w' hq => ih _ a' w' (by omega) (by simpa using hl) (by rw [getD_set_ne true hif]; exact hf) (rgClosed_put hc hi) hq) (hstep l a w i hJ hl hi hif)
theorem wp_region_inv {P : Program} {ops : Array Oper} {Q : Exit → Act → World → Prop} {id : Nat} {a : Act} {w : World} (hm : P.follows .mixedOrders = true) (f : Nat) (hf : f < ops.size) (ht : rgTopo .any ops = true) (ha : rgAll .any ops f = true) (J : Array Bool → Act → World → Prop)
    (h0 : J (Array.replicate ops.size false) a w.drew)
    (hstep : ∀ l a w i, J l a w → l.size = ops.size → i ∈ Region.ready .any ops l → i ≠ f → wpOp P ops Q i (J (l.setIfInBounds i true)) a w)
    (hfin : ∀ l a w, J l a w → (∀ j, j ≠ f → j < ops.size → l.getD j false = true) → wpOp P ops Q f (fun a' w' => Q .normal a' w') a w) :
    (Code.region id ops true).wp P Q a w := by
  refine wp_region_any hm (wpAny_inv f ht ha J hstep hfin _ _ _ _ (by simp) (by simp) (by simp [hf]) ?_ h0)
  intro j o ho hj
  exfalso
  rcases Nat.lt_or_ge j ops.size with h' | h'
  · simp [h'] at hj
  · simp [h'] at hj
theorem rg_dep {md : Region.Mode} {ops : Array Oper} {l : Array Bool} {i : Nat} (hi : i ∈ Region.ready md ops l) (k : Nat) (hk : (rgDeps md ops i).contains k = true) : l.getD k false = true := by
  obtain ⟨_, o, ho, hall⟩ := mem_ready.1 hi
  obtain ⟨o', ho', e, he, hb, rfl⟩ := rgDeps_mem (List.contains_iff_mem.1 hk)
  obtain rfl := Option.some.inj (ho.symm.trans ho')
  exact hall e he hb
theorem rg_lt {ops : Array Oper} {l : Array Bool} {i : Nat} (hl : l.size = ops.size) (h0 : l.getD i true = false) : i < ops.size := by
  rw [← hl]
  rcases Nat.lt_or_ge i l.size with h | h
  · exact h
  · simp [Array.getElem?_eq_none h] at h0
structure RgJ (W0 : World) (lo : Nat) (D : Nat → Value → World → Prop) (m : Nat → Bool) (l : Array Bool) (U : Nat → Value) (w : World) : Prop where
  bel : Below lo W0 w
  sz : lo ≤ w.heap.size
  val : ∀ i, l.getD i false = true → D i (U i) w
  ap : ∀ i j, m i = true → m j = true → i ≠ j → l.getD i false = true → l.getD j false = true → (U i).ownBlock = none ∨ (U i).ownBlock ≠ (U j).ownBlock
def slotPut (U : Nat → Value) (k : Nat) (v : Value) : Nat → Value := fun x => if x = k then v else U x
theorem slotPut_self (U : Nat → Value) (k : Nat) (v : Value) : slotPut U k v k = v := if_pos rfl
theorem slotPut_ne (U : Nat → Value) {k x : Nat} (v : Value) (h : x ≠ k) : slotPut U k v x = U x := if_neg h
theorem slotEq {U : Nat → Value} {k : Nat} {v : Value} (h : U k = v) : U = slotPut U k v := by
  funext x
  by_cases hx : x = k
  · subst hx; rw [slotPut_self, h]
  · rw [slotPut_ne _ _ hx]
theorem RgJ.start {W0 : World} {lo : Nat} {D : Nat → Value → World → Prop} {m : Nat → Bool} (U : Nat → Value) (n : Nat) (h : lo ≤ W0.heap.size) : RgJ W0 lo D m (Array.replicate n false) U W0 := by
  have h0 : ∀ i, (Array.replicate n false).getD i false = false := fun i => by
    rcases Nat.lt_or_ge i n with h' | h' <;> simp [h']
  exact ⟨Below.refl _ _, h, fun i hi => by (rw [h0] at hi; cases hi), fun i j _ _ _ hi => by (rw [h0] at hi; cases hi)⟩
theorem RgJ.put {W0 : World} {lo : Nat} {D : Nat → Value → World → Prop} {m : Nat → Bool} {l : Array Bool} {U : Nat → Value} {w w' : World} (h : RgJ W0 lo D m l U w) (i : Nat) (v : Value)
    (hi : l.getD i true = false) (hb : Below w.heap.size w w') (hst : ∀ j u, D j u w → D j u w') (hD : D i v w')
    (hlt : ∀ j u, m j = true → D j u w → ∀ b, u.ownBlock = some b → b < w.heap.size) (hm : m i = true → ∀ b, v.ownBlock = some b → w.heap.size ≤ b) :
    RgJ W0 lo D m (l.setIfInBounds i true) (slotPut U i v) w' := by
  have hcase : ∀ j, (l.setIfInBounds i true).getD j false = true → j = i ∨ (j ≠ i ∧ l.getD j false = true) := fun j hj => by
    by_cases hji : j = i
    · exact .inl hji
    · rw [getD_set_ne false (Ne.symm hji)] at hj
      exact .inr ⟨hji, hj⟩
  refine ⟨h.bel.trans (hb.mono h.sz), Nat.le_trans h.sz hb.size, fun j hj => ?_, fun j k mj mk hjk hj hk => ?_⟩
  · rcases hcase j hj with rfl | ⟨hji, h1⟩
    · rw [slotPut_self]; exact hD
    · rw [slotPut_ne _ _ hji]; exact hst j _ (h.val j h1)
  · rcases hcase j hj with rfl | ⟨hji, h1⟩
    · rcases hcase k hk with rfl | ⟨hki, h2⟩
      · exact absurd rfl hjk
      · rw [slotPut_self, slotPut_ne _ _ hki]
        cases hb : v.ownBlock with
        | none => exact .inl rfl
        | some b =>
          refine .inr fun e => ?_
          have h3 := hm mj b hb
          have h4 := hlt k _ mk (h.val k h2) b e.symm
          omega
    · rcases hcase k hk with rfl | ⟨hki, h2⟩
      · rw [slotPut_self, slotPut_ne _ _ hji]
        cases hb : (U j).ownBlock with
        | none => exact .inl rfl
        | some b =>
          refine .inr fun e => ?_
          have h3 := hm mk b e.symm
          have h4 := hlt j _ mj (h.val j h1) b hb
          omega
      · rw [slotPut_ne _ _ hji, slotPut_ne _ _ hki]
        exact h.ap j k mj mk hjk h1 h2
end Go.Proofs.YtnnbaodillnkkaaGreat
