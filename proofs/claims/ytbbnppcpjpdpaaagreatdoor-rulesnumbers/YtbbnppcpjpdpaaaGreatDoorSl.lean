/- A list of values in memory that may begin inside its block: how it lies, and what an append, or a cut at its front, makes of it. -/
import Derived.Test.YtbbnppcpjpdpaaaGreatDoorM2
import Derived.ArgAppend
import Derived.Laws.Rows
import Derived.RegionTactic
namespace Go.Proofs.YtbbnppcpjpdpaaaGreatDoor
open Go.RowKit Go.Shelf
set_option linter.unusedVariables false

/-- A list of one-cell values, in a block of type E that is not below lo; it may begin inside the block. -/
def SlAt (W : World) (lo : Nat) (E : TypeId) (v : Value) (us : List Value) : Prop :=
  (v = .slice none 0 0 ∧ us = []) ∨ ∃ g o cap cur, v = .slice (some ⟨g, o, none⟩) us.length cap ∧ lo ≤ g ∧ Blk W g cur E ∧ us.length ≤ cap ∧ cap ≤ maxLen ∧ o + cap ≤ cur.size ∧ ∀ j u, us[j]? = some u → cur[o + j]? = some u

theorem SlAt.nil (W : World) (lo : Nat) (E : TypeId) : SlAt W lo E (.slice none 0 0) [] := .inl ⟨rfl, rfl⟩
theorem SlAt.kept {W W' : World} {row : Option Nat} {lo : Nat} {E : TypeId} {v : Value} {us : List Value} (h : SlAt W lo E v us) (hg : W.grownBy W' row) (hne : v.ownBlock = none ∨ v.ownBlock ≠ row) : SlAt W' lo E v us := by
  rcases h with h | ⟨g, o, cap, cur, rfl, hl, hb, h1, h2, h3, h4⟩
  · exact .inl h
  · refine .inr ⟨g, o, cap, cur, rfl, hl, hb.kept hg ?_, h1, h2, h3, h4⟩
    rcases hne with hne | hne
    · simp [Value.ownBlock] at hne
    · simpa [Value.ownBlock] using hne
theorem SlAt.alloc {W : World} {lo : Nat} {E : TypeId} {v : Value} {us : List Value} (h : SlAt W lo E v us) (o : Obj) : SlAt (W.alloc o) lo E v us :=
  h.kept (World.grownBy_alloc W o none) (by cases hv : v.ownBlock <;> simp)
theorem SlAt.drew {W : World} {lo : Nat} {E : TypeId} {v : Value} {us : List Value} (h : SlAt W lo E v us) : SlAt W.drew lo E v us := h
/-- Its block is no block of another type. -/
theorem SlAt.not_row {W : World} {lo : Nat} {E t : TypeId} {v : Value} {us : List Value} {B : Nat} {cs : Array Value} (h : SlAt W lo E v us) (hb : Blk W B cs t) (hne : t ≠ E) : v.ownBlock = none ∨ v.ownBlock ≠ some B := by
  rcases h with ⟨rfl, _⟩ | ⟨g, o, cap, cur, rfl, hl, hg, _⟩
  · exact .inl rfl
  · refine .inr fun e => ?_
    obtain rfl : g = B := by simpa [Value.ownBlock] using e
    have := (show W.heap[g]? = _ from hg).symm.trans hb
    simp at this
    exact hne this.2.symm
theorem SlAt.blk_ne {W : World} {lo : Nat} {E t : TypeId} {v : Value} {us : List Value} {B : Nat} {cs : Array Value} (h : SlAt W lo E v us) (hb : Blk W B cs t) (hne : t ≠ E) : some B ≠ v.ownBlock := by
  rcases h.not_row hb hne with e | e
  · rw [e]; simp
  · exact fun x => e x.symm
theorem SlAt.set {W : World} {lo : Nat} {E t : TypeId} {v : Value} {us : List Value} {B i : Nat} {cs : Array Value} (h : SlAt W lo E v us) (hb : Blk W B cs t) (hne : t ≠ E) (u : Value) : SlAt (W.setCell ⟨B, i, none⟩ u) lo E v us :=
  h.kept (row := some B) ⟨rfl, rfl, rfl, by simp, fun k _ hk => Below.heap_setCell _ _ _ k (fun e => hk (by rw [e]))⟩ (h.not_row hb hne)
theorem SlAt.lt {W : World} {lo : Nat} {E : TypeId} {v : Value} {us : List Value} (h : SlAt W lo E v us) : ∀ g, v.ownBlock = some g → lo ≤ g ∧ g < W.heap.size := by
  rcases h with ⟨rfl, _⟩ | ⟨g, o, cap, cur, rfl, hl, hg, _⟩
  · simp [Value.ownBlock]
  · intro g' e
    obtain rfl : g = g' := by simpa [Value.ownBlock] using e
    exact ⟨hl, hg.lt⟩
theorem SlAt.form {W : World} {lo : Nat} {E : TypeId} {v : Value} {us : List Value} (h : SlAt W lo E v us) (h0 : 0 < us.length) :
    ∃ g o cap, v = .slice (some ⟨g, o, none⟩) us.length cap ∧ us.length ≤ cap ∧ cap ≤ maxLen ∧ ∀ j u, us[j]? = some u → W.cell? ⟨g, o + j, none⟩ = some u := by
  rcases h with ⟨rfl, rfl⟩ | ⟨g, o, cap, cur, rfl, hl, hg, h1, h2, h3, h4⟩
  · simp at h0
  · exact ⟨g, o, cap, rfl, h1, h2, fun j u hj => (hg.cell _).trans (h4 j u hj)⟩
/-- The first one is cut off. -/
theorem SlAt.tail {W : World} {lo : Nat} {E : TypeId} {g o n cap : Nat} {u : Value} {us : List Value} (h : SlAt W lo E (.slice (some ⟨g, o, none⟩) n cap) (u :: us)) : SlAt W lo E (.slice (some ⟨g, o + 1, none⟩) us.length (cap - 1)) us := by
  rcases h with ⟨h, _⟩ | ⟨g', o', cap', cur, e, hl, hg, h1, h2, h3, h4⟩
  · cases h
  · cases e
    simp only [List.length_cons] at h1
    refine .inr ⟨g, o + 1, cap - 1, cur, rfl, hl, hg, by omega, by omega, by omega, fun j x hj => ?_⟩
    have := h4 (j + 1) x (by simpa using hj)
    rwa [show o + 1 + j = o + (j + 1) by omega]
theorem slAt_own {W : World} {lo : Nat} {E : TypeId} {v : Value} {n : Nat} {us : List Value} (h : W.ownsRow lo E 1 v n us) : SlAt W lo E v us := by
  have hn := h.1
  rw [Nat.mul_one] at hn
  rcases h.2 with ⟨rfl, h0⟩ | ⟨g, cap, cur, rfl, hb, hg, h1, h2, h3, h4⟩
  · exact .inl ⟨rfl, List.eq_nil_of_length_eq_zero (by omega)⟩
  · refine .inr ⟨g, 0, cap, cur, by rw [hn], hb, hg, by omega, h2, by omega, fun j u hj => ?_⟩
    have hl := (List.getElem?_eq_some_iff.1 hj).1
    rw [← h4, List.getElem?_take, if_pos (by omega)] at hj
    simpa using hj

theorem apart_symm' {a b : Option Nat} (h : a = none ∨ a ≠ b) : b = none ∨ b ≠ a := by
  cases b with
  | none => exact .inl rfl
  | some x =>
    refine .inr fun e => ?_
    rcases h with h | h
    · rw [h] at e; cases e
    · exact h e.symm
theorem grown_setCell' (W : World) (a : Addr) (v : Value) : W.grownBy (W.setCell a v) (some a.block) :=
  ⟨rfl, rfl, rfl, by simp, fun k _ hk => Below.heap_setCell _ _ _ k (fun e => hk (by rw [e]))⟩

theorem add_none' (g o j : Nat) : (⟨g, o, none⟩ : Addr).add j = ⟨g, o + j, none⟩ := by unfold Addr.add; split <;> simp_all

/-- What a frame holds in a slot. -/
def slotAt : List Value → Nat → Value
  | [], _ => undef
  | v :: _, 0 => v
  | _ :: L, k + 1 => slotAt L k
theorem mk_act {ds : List Deferred} {L : List Value} {G : (Nat → Value) → List Value} (h : L = G (slotAt L)) : ∃ U, ({ tmps := L.toArray, defers := ds } : Act) = { tmps := (G U).toArray, defers := ds } := ⟨_, by rw [← h]⟩
/-- One value more. -/
theorem run_append_sl {P : Program} (W : World) (lo : Nat) (t ty e : TypeId) (i : TypeInfo) (z : Value) (bytes : Nat) (ht : P.underlying t = some (.slice e)) (hi : P.info? e = some i) (hz : i.zero = some z)
    (hsize : i.size = 1) (hby : i.bytes = bytes) (hzs : z.cells.size = 1) (v : Value) (us : List Value) (h : SlAt W lo e v us) (ad : Addr) (c : Nat) (u : Value) (hu : W.cell? ad = some u) (h1 : u.oneCell' = true)
    (h63 : us.length + 1 ≤ maxLen) (hbytes : (us.length + 1) * bytes ≤ 140737488355328) (hlo : lo ≤ W.heap.size) :
    ∃ g o cap W', (Builtin.append_ #[t, t] ty #[v, .slice (some ad) 1 c]).run P W = .ok (.slice (some ⟨g, o, none⟩) (us.length + 1) cap) W' ∧ SlAt W' lo e (.slice (some ⟨g, o, none⟩) (us.length + 1) cap) (us ++ [u]) ∧ W.grownBy W' v.ownBlock ∧ (v.ownBlock = some g ∨ W.heap.size ≤ g) := by
  have hnews : ∀ j x, [u][j]? = some x → W.cell? (ad.add j) = some x := by
    intro j x hj
    obtain ⟨b, off, sp⟩ := ad
    have hs := World.cell?_spot hu
    simp only at hs
    subst hs
    rw [add_none']
    have : j = 0 := by have := (List.getElem?_eq_some_iff.1 hj).1; simpa using this
    subst this
    simp at hj
    rw [← hj]
    exact hu
  have fin : ∀ v' W', W'.ownsRow W.heap.size e 1 v' (us.length + 1) (us ++ [u]) → ∃ g o cap, v' = .slice (some ⟨g, o, none⟩) (us.length + 1) cap ∧ SlAt W' lo e v' (us ++ [u]) ∧ W.heap.size ≤ g := by
    intro v' W' r1
    have hs := slAt_own r1
    rcases r1.2 with ⟨_, h0⟩ | ⟨g, cap, cur, rfl, hb, hg, q1, q2, q3, q4⟩
    · omega
    · refine ⟨g, 0, cap, rfl, ?_, hb⟩
      rcases hs with ⟨e, _⟩ | ⟨g', o', cap', cur', e, hl, rest⟩
      · cases e
      · exact .inr ⟨g', o', cap', cur', e, by omega, rest⟩
  rcases h with ⟨rfl, rfl⟩ | ⟨g, o, cap, cur, rfl, hl, hb, k1, k2, k3, k4⟩
  · obtain ⟨v', w', hr, r1, r2, _⟩ := run_append_own (P := P) W W.heap.size t ty e i z 1 bytes ht hi hz hsize hby hzs (by omega) (.slice none 0 0) 0 [] (World.ownsRow_nil W _ e 1) ad 1 c [u] (by simp) hnews (by simpa using h1) (by simpa using h63) (by simpa using hbytes) (Nat.le_refl _)
    obtain ⟨g, o, cap, rfl, hsl, hge⟩ := fin v' w' (by simpa using r1)
    exact ⟨g, o, cap, w', hr, hsl, r2, .inr hge⟩
  · have holds : ∀ j x, us[j]? = some x → W.cell? ((⟨g, o, none⟩ : Addr).add j) = some x := fun j x hj => by
      rw [add_none']
      exact (hb.cell _).trans (k4 j x hj)
    by_cases hroom : us.length + 1 ≤ cap
    · have hr := run_append_room_cells (P := P) W t ty e i ht hi g o us.length cap ad 1 c [u] (by simp [hsize]) hnews (by simpa using h1) hroom
        (fun j hj => by
          simp at hj
          subst hj
          rw [hsize, Nat.mul_one, Nat.add_zero, hb.cell, Array.getElem?_eq_getElem (by omega)]
          rfl)
        (fun j hj => hb.frozen _)
      rw [hsize, Nat.mul_one] at hr
      refine ⟨g, o, cap, _, hr, .inr ⟨g, o, cap, cur.setIfInBounds (o + us.length) u, by simp, hl, hb.set _ u, by simpa using hroom, k2, by simpa using k3, fun j x hj => ?_⟩, ?_, .inl rfl⟩
      · by_cases hj' : j < us.length
        · rw [List.getElem?_append_left hj'] at hj
          rw [Array.getElem?_setIfInBounds_ne (by omega)]
          exact k4 j x hj
        · have hlt := (List.getElem?_eq_some_iff.1 hj).1
          simp at hlt
          have e : j = us.length := by omega
          subst e
          simp at hj
          rw [Array.getElem?_setIfInBounds_self_of_lt (by omega), hj]
      · exact ⟨rfl, rfl, rfl, by simp [World.setCells], fun k _ hk => Below.heap_setCell _ _ _ k (fun e => hk (by rw [e]; rfl))⟩
    · obtain ⟨v', w', hr, r1, r2⟩ := run_append_arg_grows (P := P) W t ty e i z 1 bytes ht hi hz hsize hby hzs (by omega) ⟨g, o, none⟩ us.length cap us (by simp) holds ad 1 c [u] (by simp) hnews (by omega) h63 hbytes
      obtain ⟨g', o', cap', rfl, hsl, hge⟩ := fin v' w' r1
      exact ⟨g', o', cap', w', hr, hsl, ⟨r2.os, r2.tape, r2.output, r2.size, fun k hk _ => r2.block k hk (by simp)⟩, .inr hge⟩

section
variable {P : Program} (w : World)
/-- .. at the operation. -/
theorem wp_append_sl {o : Oper} {a : Act} {K : Act → World → Prop} {Q : Exit → Act → World → Prop} (s x : Operand) (t : TypeId)
    (ho : o.op = .call { callee := .builtin .append, args := #[s, x], argTypes := #[t, t] }) (lo : Nat) (e : TypeId) (i : TypeInfo) (z : Value) (bytes : Nat) (ht : P.underlying t = some (.slice e)) (hi : P.info? e = some i) (hz : i.zero = some z)
    (hsize : i.size = 1) (hby : i.bytes = bytes) (hzs : z.cells.size = 1) (v : Value) (us : List Value) (hs : a.eval s = v) (hsl : SlAt w lo e v us) (ad : Addr) (c : Nat) (u : Value) (hx : a.eval x = .slice (some ad) 1 c) (hu : w.cell? ad = some u) (h1 : u.oneCell' = true)
    (h63 : us.length + 1 ≤ maxLen) (hbytes : (us.length + 1) * bytes ≤ 140737488355328) (hlo : lo ≤ w.heap.size)
    (h : ∀ g o' cap w', SlAt w' lo e (.slice (some ⟨g, o', none⟩) (us.length + 1) cap) (us ++ [u]) → w.grownBy w' v.ownBlock → (v.ownBlock = some g ∨ w.heap.size ≤ g) → K (a.put o.dst (.slice (some ⟨g, o', none⟩) (us.length + 1) cap)) w') : o.wp P a w K Q := by
  obtain ⟨g, o', cap, w', hr, h2, h3, h4⟩ := run_append_sl (P := P) w lo t o.type e i z bytes ht hi hz hsize hby hzs v us hsl ad c u hu h1 h63 hbytes hlo
  unfold Oper.wp execOp
  simp only [ho, resolve, invoke, builtin, Sem.run_bind, Sem.run_pure, Result.andThen_ok, List.map_toArray, List.map_cons, List.map_nil, hs, hx, hr]
  exact h g o' cap w' h2 h3 h4
theorem wpList_append_sl {ops : Array Oper} {rest : List Oper} {o : Oper} {a : Act} {Q : Exit → Act → World → Prop} (hgd : o.guard = none) (s x : Operand) (t : TypeId)
    (ho : o.op = .call { callee := .builtin .append, args := #[s, x], argTypes := #[t, t] }) (lo : Nat) (e : TypeId) (i : TypeInfo) (z : Value) (bytes : Nat) (ht : P.underlying t = some (.slice e)) (hi : P.info? e = some i) (hz : i.zero = some z)
    (hsize : i.size = 1) (hby : i.bytes = bytes) (hzs : z.cells.size = 1) (v : Value) (us : List Value) (hs : a.eval s = v) (hsl : SlAt w lo e v us) (ad : Addr) (c : Nat) (u : Value) (hx : a.eval x = .slice (some ad) 1 c) (hu : w.cell? ad = some u) (h1 : u.oneCell' = true)
    (h63 : us.length + 1 ≤ maxLen) (hbytes : (us.length + 1) * bytes ≤ 140737488355328) (hlo : lo ≤ w.heap.size)
    (h : ∀ g o' cap w', SlAt w' lo e (.slice (some ⟨g, o', none⟩) (us.length + 1) cap) (us ++ [u]) → w.grownBy w' v.ownBlock → (v.ownBlock = some g ∨ w.heap.size ≤ g) → wpList P ops Q rest (a.put o.dst (.slice (some ⟨g, o', none⟩) (us.length + 1) cap)) w') : wpList P ops Q (o :: rest) a w :=
  wpList_plain hgd fun _ hK => wp_append_sl w s x t ho lo e i z bytes ht hi hz hsize hby hzs v us hs hsl ad c u hx hu h1 h63 hbytes hlo fun g o' cap w' h2 h3 h4 => hK _ _ (h g o' cap w' h2 h3 h4)
theorem step_append_sl {ops : Array Oper} {o : Oper} {a : Act} {K : Act → World → Prop} {Q : Exit → Act → World → Prop} {E : Prop} (hgd : o.guard = none) (s x : Operand) (t : TypeId)
    (ho : o.op = .call { callee := .builtin .append, args := #[s, x], argTypes := #[t, t] }) (lo : Nat) (e : TypeId) (i : TypeInfo) (z : Value) (bytes : Nat) (ht : P.underlying t = some (.slice e)) (hi : P.info? e = some i) (hz : i.zero = some z)
    (hsize : i.size = 1) (hby : i.bytes = bytes) (hzs : z.cells.size = 1) (v : Value) (us : List Value) (hs : a.eval s = v) (hsl : SlAt w lo e v us) (ad : Addr) (c : Nat) (u : Value) (hx : a.eval x = .slice (some ad) 1 c) (hu : w.cell? ad = some u) (h1 : u.oneCell' = true)
    (h63 : us.length + 1 ≤ maxLen) (hbytes : (us.length + 1) * bytes ≤ 140737488355328) (hlo : lo ≤ w.heap.size)
    (h : ∀ g o' cap w', SlAt w' lo e (.slice (some ⟨g, o', none⟩) (us.length + 1) cap) (us ++ [u]) → w.grownBy w' v.ownBlock → (v.ownBlock = some g ∨ w.heap.size ≤ g) → K (a.put o.dst (.slice (some ⟨g, o', none⟩) (us.length + 1) cap)) w') :
    if Region.wanted o (yielded ops a.tmps) = true then Oper.wp P o a w K Q else E := by
  have hw : Region.wanted o (yielded ops a.tmps) = true := by simp [Region.wanted, hgd]
  rw [if_pos hw]
  exact wp_append_sl w s x t ho lo e i z bytes ht hi hz hsize hby hzs v us hs hsl ad c u hx hu h1 h63 hbytes hlo h
/-- Nothing laid behind nothing. -/
theorem step_append_zero {ops : Array Oper} {o : Oper} {a : Act} {K : Act → World → Prop} {Q : Exit → Act → World → Prop} {E : Prop} (hgd : o.guard = none) (s x : Operand) (t : TypeId)
    (ho : o.op = .call { callee := .builtin .append, args := #[s, x], argTypes := #[t, t] }) (e : TypeId) (i : TypeInfo) (ht : P.underlying t = some (.slice e)) (hi : P.info? e = some i) (hs : a.eval s = .slice none 0 0) (b : Option Addr) (n c : Nat) (hn : n = 0) (hx : a.eval x = .slice b n c)
    (h : K (a.put o.dst (.slice none 0 0)) w) : if Region.wanted o (yielded ops a.tmps) = true then Oper.wp P o a w K Q else E := by
  have hw : Region.wanted o (yielded ops a.tmps) = true := by simp [Region.wanted, hgd]
  rw [if_pos hw]
  subst hn
  have hr : (Builtin.append_ #[t, t] o.type #[.slice none 0 0, .slice b 0 c]).run P w = .ok (.slice none 0 0) w := by
    cases b <;> simp [Builtin.append_, run_underlying ht, sizeOf, typeInfo, hi, Builtin.lenOf, Builtin.firstCells, loadCells, loadCellsFrom]
  unfold Oper.wp execOp
  simp only [ho, resolve, invoke, builtin, Sem.run_bind, Sem.run_pure, Result.andThen_ok, List.map_toArray, List.map_cons, List.map_nil, hs, hx, hr]
  exact h
end
end Go.Proofs.YtbbnppcpjpdpaaaGreatDoor
