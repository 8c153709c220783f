/- Texts of this claim, one behind the other. -/
import Derived.Test.YtbefahknbdjnpaaGreatDoorM1
import Derived.ArgAppend
import Derived.Laws.Rows
import Derived.RegionTactic
import Derived.Deep.QuietTactic
import Derived.BigQuiet
import Derived.WalkSmall
/- A list of values in memory that may begin inside its block: how it lies, and what an append, or a cut at its front, makes of it. -/
namespace Go.Proofs.YtbefahknbdjnpaaGreatDoor
open Go.RowKit Go.Shelf
set_option linter.unusedVariables false

/-- A list of one-cell values, in a block of type E that is not below lo; it may begin inside the block. -/
def SlAt (W : World) (lo : Nat) (E : TypeId) (v : Value) (us : List Value) : Prop :=
  (v = .slice none 0 0 ∧ us = []) ∨ ∃ g o cap cur, v = .slice (some ⟨g, o, none⟩) us.length cap ∧ lo ≤ g ∧ Blk W g cur E ∧ us.length ≤ cap ∧ cap ≤ maxLen ∧ o + cap ≤ cur.size ∧ ∀ j u, us[j]? = some u → cur[o + j]? = some u

theorem SlAt.nil (W : World) (lo : Nat) (E : TypeId) : SlAt W lo E (.slice none 0 0) [] := .inl ⟨rfl, rfl⟩
theorem SlAt.kept {W W' : World} {row : Option Nat} {lo : Nat} {E : TypeId} {v : Value} {us : List Value} (h : SlAt W lo E v us) (hg : W.grownBy W' row) (hne : v.ownBlock = none ∨ v.ownBlock ≠ row) : SlAt W' lo E v us := by
  rcases h with h | ⟨g, o, cap, cur, rfl, hl, hb, h1, h2, h3, h4⟩
  · exact .inl h
  · refine .inr ⟨g, o, cap, cur, rfl, hl, hb.kept hg ?_, h1, h2, h3, h4⟩
    rcases hne with hne | hne
    · simp [Value.ownBlock] at hne
    · simpa [Value.ownBlock] using hne
theorem SlAt.alloc {W : World} {lo : Nat} {E : TypeId} {v : Value} {us : List Value} (h : SlAt W lo E v us) (o : Obj) : SlAt (W.alloc o) lo E v us :=
  h.kept (World.grownBy_alloc W o none) (by cases hv : v.ownBlock <;> simp)
theorem SlAt.drew {W : World} {lo : Nat} {E : TypeId} {v : Value} {us : List Value} (h : SlAt W lo E v us) : SlAt W.drew lo E v us := h
/-- Its block is no block of another type. -/
theorem SlAt.not_row {W : World} {lo : Nat} {E t : TypeId} {v : Value} {us : List Value} {B : Nat} {cs : Array Value} (h : SlAt W lo E v us) (hb : Blk W B cs t) (hne : t ≠ E) : v.ownBlock = none ∨ v.ownBlock ≠ some B := by
  rcases h with ⟨rfl, _⟩ | ⟨g, o, cap, cur, rfl, hl, hg, _⟩
  · exact .inl rfl
  · refine .inr fun e => ?_
    obtain rfl : g = B := by simpa [Value.ownBlock] using e
    have := (show W.heap[g]? = _ from hg).symm.trans hb
    simp at this
    exact hne this.2.symm
theorem SlAt.blk_ne {W : World} {lo : Nat} {E t : TypeId} {v : Value} {us : List Value} {B : Nat} {cs : Array Value} (h : SlAt W lo E v us) (hb : Blk W B cs t) (hne : t ≠ E) : some B ≠ v.ownBlock := by
  rcases h.not_row hb hne with e | e
  · rw [e]; simp
  · exact fun x => e x.symm
theorem SlAt.set {W : World} {lo : Nat} {E t : TypeId} {v : Value} {us : List Value} {B i : Nat} {cs : Array Value} (h : SlAt W lo E v us) (hb : Blk W B cs t) (hne : t ≠ E) (u : Value) : SlAt (W.setCell ⟨B, i, none⟩ u) lo E v us :=
  h.kept (row := some B) ⟨rfl, rfl, rfl, by simp, fun k _ hk => Below.heap_setCell _ _ _ k (fun e => hk (by rw [e]))⟩ (h.not_row hb hne)
theorem SlAt.lt {W : World} {lo : Nat} {E : TypeId} {v : Value} {us : List Value} (h : SlAt W lo E v us) : ∀ g, v.ownBlock = some g → lo ≤ g ∧ g < W.heap.size := by
  rcases h with ⟨rfl, _⟩ | ⟨g, o, cap, cur, rfl, hl, hg, _⟩
  · simp [Value.ownBlock]
  · intro g' e
    obtain rfl : g = g' := by simpa [Value.ownBlock] using e
    exact ⟨hl, hg.lt⟩
theorem SlAt.form {W : World} {lo : Nat} {E : TypeId} {v : Value} {us : List Value} (h : SlAt W lo E v us) (h0 : 0 < us.length) :
    ∃ g o cap, v = .slice (some ⟨g, o, none⟩) us.length cap ∧ us.length ≤ cap ∧ cap ≤ maxLen ∧ ∀ j u, us[j]? = some u → W.cell? ⟨g, o + j, none⟩ = some u := by
  rcases h with ⟨rfl, rfl⟩ | ⟨g, o, cap, cur, rfl, hl, hg, h1, h2, h3, h4⟩
  · simp at h0
  · exact ⟨g, o, cap, rfl, h1, h2, fun j u hj => (hg.cell _).trans (h4 j u hj)⟩
/-- The first one is cut off. -/
theorem SlAt.tail {W : World} {lo : Nat} {E : TypeId} {g o n cap : Nat} {u : Value} {us : List Value} (h : SlAt W lo E (.slice (some ⟨g, o, none⟩) n cap) (u :: us)) : SlAt W lo E (.slice (some ⟨g, o + 1, none⟩) us.length (cap - 1)) us := by
  rcases h with ⟨h, _⟩ | ⟨g', o', cap', cur, e, hl, hg, h1, h2, h3, h4⟩
  · cases h
  · cases e
    simp only [List.length_cons] at h1
    refine .inr ⟨g, o + 1, cap - 1, cur, rfl, hl, hg, by omega, by omega, by omega, fun j x hj => ?_⟩
    have := h4 (j + 1) x (by simpa using hj)
    rwa [show o + 1 + j = o + (j + 1) by omega]
theorem slAt_own {W : World} {lo : Nat} {E : TypeId} {v : Value} {n : Nat} {us : List Value} (h : W.ownsRow lo E 1 v n us) : SlAt W lo E v us := by
  have hn := h.1
  rw [Nat.mul_one] at hn
  rcases h.2 with ⟨rfl, h0⟩ | ⟨g, cap, cur, rfl, hb, hg, h1, h2, h3, h4⟩
  · exact .inl ⟨rfl, List.eq_nil_of_length_eq_zero (by omega)⟩
  · refine .inr ⟨g, 0, cap, cur, by rw [hn], hb, hg, by omega, h2, by omega, fun j u hj => ?_⟩
    have hl := (List.getElem?_eq_some_iff.1 hj).1
    rw [← h4, List.getElem?_take, if_pos (by omega)] at hj
    simpa using hj

theorem apart_symm' {a b : Option Nat} (h : a = none ∨ a ≠ b) : b = none ∨ b ≠ a := by
  cases b with
  | none => exact .inl rfl
  | some x =>
    refine .inr fun e => ?_
    rcases h with h | h
    · rw [h] at e; cases e
    · exact h e.symm
theorem grown_setCell' (W : World) (a : Addr) (v : Value) : W.grownBy (W.setCell a v) (some a.block) :=
  ⟨rfl, rfl, rfl, by simp, fun k _ hk => Below.heap_setCell _ _ _ k (fun e => hk (by rw [e]))⟩

theorem add_none' (g o j : Nat) : (⟨g, o, none⟩ : Addr).add j = ⟨g, o + j, none⟩ := by unfold Addr.add; split <;> simp_all

/-- What a frame holds in a slot. -/
def slotAt : List Value → Nat → Value
  | [], _ => undef
  | v :: _, 0 => v
  | _ :: L, k + 1 => slotAt L k
theorem mk_act {ds : List Deferred} {L : List Value} {G : (Nat → Value) → List Value} (h : L = G (slotAt L)) : ∃ U, ({ tmps := L.toArray, defers := ds } : Act) = { tmps := (G U).toArray, defers := ds } := ⟨_, by rw [← h]⟩
/-- One value more. -/
theorem run_append_sl {P : Program} (W : World) (lo : Nat) (t ty e : TypeId) (i : TypeInfo) (z : Value) (bytes : Nat) (ht : P.underlying t = some (.slice e)) (hi : P.info? e = some i) (hz : i.zero = some z)
    (hsize : i.size = 1) (hby : i.bytes = bytes) (hzs : z.cells.size = 1) (v : Value) (us : List Value) (h : SlAt W lo e v us) (ad : Addr) (c : Nat) (u : Value) (hu : W.cell? ad = some u) (h1 : u.oneCell' = true)
    (h63 : us.length + 1 ≤ maxLen) (hbytes : (us.length + 1) * bytes ≤ 140737488355328) (hlo : lo ≤ W.heap.size) :
    ∃ g o cap W', (Builtin.append_ #[t, t] ty #[v, .slice (some ad) 1 c]).run P W = .ok (.slice (some ⟨g, o, none⟩) (us.length + 1) cap) W' ∧ SlAt W' lo e (.slice (some ⟨g, o, none⟩) (us.length + 1) cap) (us ++ [u]) ∧ W.grownBy W' v.ownBlock ∧ (v.ownBlock = some g ∨ W.heap.size ≤ g) := by
  have hnews : ∀ j x, [u][j]? = some x → W.cell? (ad.add j) = some x := by
    intro j x hj
    obtain ⟨b, off, sp⟩ := ad
    have hs := World.cell?_spot hu
    simp only at hs
    subst hs
    rw [add_none']
    have : j = 0 := by have := (List.getElem?_eq_some_iff.1 hj).1; simpa using this
    subst this
    simp at hj
    rw [← hj]
    exact hu
  have fin : ∀ v' W', W'.ownsRow W.heap.size e 1 v' (us.length + 1) (us ++ [u]) → ∃ g o cap, v' = .slice (some ⟨g, o, none⟩) (us.length + 1) cap ∧ SlAt W' lo e v' (us ++ [u]) ∧ W.heap.size ≤ g := by
    intro v' W' r1
    have hs := slAt_own r1
    rcases r1.2 with ⟨_, h0⟩ | ⟨g, cap, cur, rfl, hb, hg, q1, q2, q3, q4⟩
    · omega
    · refine ⟨g, 0, cap, rfl, ?_, hb⟩
      rcases hs with ⟨e, _⟩ | ⟨g', o', cap', cur', e, hl, rest⟩
      · cases e
      · exact .inr ⟨g', o', cap', cur', e, by omega, rest⟩
  rcases h with ⟨rfl, rfl⟩ | ⟨g, o, cap, cur, rfl, hl, hb, k1, k2, k3, k4⟩
  · obtain ⟨v', w', hr, r1, r2, _⟩ := run_append_own (P := P) W W.heap.size t ty e i z 1 bytes ht hi hz hsize hby hzs (by omega) (.slice none 0 0) 0 [] (World.ownsRow_nil W _ e 1) ad 1 c [u] (by simp) hnews (by simpa using h1) (by simpa using h63) (by simpa using hbytes) (Nat.le_refl _)
    obtain ⟨g, o, cap, rfl, hsl, hge⟩ := fin v' w' (by simpa using r1)
    exact ⟨g, o, cap, w', hr, hsl, r2, .inr hge⟩
  · have holds : ∀ j x, us[j]? = some x → W.cell? ((⟨g, o, none⟩ : Addr).add j) = some x := fun j x hj => by
      rw [add_none']
      exact (hb.cell _).trans (k4 j x hj)
    by_cases hroom : us.length + 1 ≤ cap
    · have hr := run_append_room_cells (P := P) W t ty e i ht hi g o us.length cap ad 1 c [u] (by simp [hsize]) hnews (by simpa using h1) hroom
        (fun j hj => by
          simp at hj
          subst hj
          rw [hsize, Nat.mul_one, Nat.add_zero, hb.cell, Array.getElem?_eq_getElem (by omega)]
          rfl)
        (fun j hj => hb.frozen _)
      rw [hsize, Nat.mul_one] at hr
      refine ⟨g, o, cap, _, hr, .inr ⟨g, o, cap, cur.setIfInBounds (o + us.length) u, by simp, hl, hb.set _ u, by simpa using hroom, k2, by simpa using k3, fun j x hj => ?_⟩, ?_, .inl rfl⟩
      · by_cases hj' : j < us.length
        · rw [List.getElem?_append_left hj'] at hj
          rw [Array.getElem?_setIfInBounds_ne (by omega)]
          exact k4 j x hj
        · have hlt := (List.getElem?_eq_some_iff.1 hj).1
          simp at hlt
          have e : j = us.length := by omega
          subst e
          simp at hj
          rw [Array.getElem?_setIfInBounds_self_of_lt (by omega), hj]
      · exact ⟨rfl, rfl, rfl, by simp [World.setCells], fun k _ hk => Below.heap_setCell _ _ _ k (fun e => hk (by rw [e]; rfl))⟩
    · obtain ⟨v', w', hr, r1, r2⟩ := run_append_arg_grows (P := P) W t ty e i z 1 bytes ht hi hz hsize hby hzs (by omega) ⟨g, o, none⟩ us.length cap us (by simp) holds ad 1 c [u] (by simp) hnews (by omega) h63 hbytes
      obtain ⟨g', o', cap', rfl, hsl, hge⟩ := fin v' w' r1
      exact ⟨g', o', cap', w', hr, hsl, ⟨r2.os, r2.tape, r2.output, r2.size, fun k hk _ => r2.block k hk (by simp)⟩, .inr hge⟩

section
variable {P : Program} (w : World)
/-- .. at the operation. -/
theorem wp_append_sl {o : Oper} {a : Act} {K : Act → World → Prop} {Q : Exit → Act → World → Prop} (s x : Operand) (t : TypeId)
    (ho : o.op = .call { callee := .builtin .append, args := #[s, x], argTypes := #[t, t] }) (lo : Nat) (e : TypeId) (i : TypeInfo) (z : Value) (bytes : Nat) (ht : P.underlying t = some (.slice e)) (hi : P.info? e = some i) (hz : i.zero = some z)
    (hsize : i.size = 1) (hby : i.bytes = bytes) (hzs : z.cells.size = 1) (v : Value) (us : List Value) (hs : a.eval s = v) (hsl : SlAt w lo e v us) (ad : Addr) (c : Nat) (u : Value) (hx : a.eval x = .slice (some ad) 1 c) (hu : w.cell? ad = some u) (h1 : u.oneCell' = true)
    (h63 : us.length + 1 ≤ maxLen) (hbytes : (us.length + 1) * bytes ≤ 140737488355328) (hlo : lo ≤ w.heap.size)
    (h : ∀ g o' cap w', SlAt w' lo e (.slice (some ⟨g, o', none⟩) (us.length + 1) cap) (us ++ [u]) → w.grownBy w' v.ownBlock → (v.ownBlock = some g ∨ w.heap.size ≤ g) → K (a.put o.dst (.slice (some ⟨g, o', none⟩) (us.length + 1) cap)) w') : o.wp P a w K Q := by
  obtain ⟨g, o', cap, w', hr, h2, h3, h4⟩ := run_append_sl (P := P) w lo t o.type e i z bytes ht hi hz hsize hby hzs v us hsl ad c u hu h1 h63 hbytes hlo
  unfold Oper.wp execOp
  simp only [ho, resolve, invoke, builtin, Sem.run_bind, Sem.run_pure, Result.andThen_ok, List.map_toArray, List.map_cons, List.map_nil, hs, hx, hr]
  exact h g o' cap w' h2 h3 h4
theorem wpList_append_sl {ops : Array Oper} {rest : List Oper} {o : Oper} {a : Act} {Q : Exit → Act → World → Prop} (hgd : o.guard = none) (s x : Operand) (t : TypeId)
    (ho : o.op = .call { callee := .builtin .append, args := #[s, x], argTypes := #[t, t] }) (lo : Nat) (e : TypeId) (i : TypeInfo) (z : Value) (bytes : Nat) (ht : P.underlying t = some (.slice e)) (hi : P.info? e = some i) (hz : i.zero = some z)
    (hsize : i.size = 1) (hby : i.bytes = bytes) (hzs : z.cells.size = 1) (v : Value) (us : List Value) (hs : a.eval s = v) (hsl : SlAt w lo e v us) (ad : Addr) (c : Nat) (u : Value) (hx : a.eval x = .slice (some ad) 1 c) (hu : w.cell? ad = some u) (h1 : u.oneCell' = true)
    (h63 : us.length + 1 ≤ maxLen) (hbytes : (us.length + 1) * bytes ≤ 140737488355328) (hlo : lo ≤ w.heap.size)
    (h : ∀ g o' cap w', SlAt w' lo e (.slice (some ⟨g, o', none⟩) (us.length + 1) cap) (us ++ [u]) → w.grownBy w' v.ownBlock → (v.ownBlock = some g ∨ w.heap.size ≤ g) → wpList P ops Q rest (a.put o.dst (.slice (some ⟨g, o', none⟩) (us.length + 1) cap)) w') : wpList P ops Q (o :: rest) a w :=
  wpList_plain hgd fun _ hK => wp_append_sl w s x t ho lo e i z bytes ht hi hz hsize hby hzs v us hs hsl ad c u hx hu h1 h63 hbytes hlo fun g o' cap w' h2 h3 h4 => hK _ _ (h g o' cap w' h2 h3 h4)
theorem step_append_sl {ops : Array Oper} {o : Oper} {a : Act} {K : Act → World → Prop} {Q : Exit → Act → World → Prop} {E : Prop} (hgd : o.guard = none) (s x : Operand) (t : TypeId)
    (ho : o.op = .call { callee := .builtin .append, args := #[s, x], argTypes := #[t, t] }) (lo : Nat) (e : TypeId) (i : TypeInfo) (z : Value) (bytes : Nat) (ht : P.underlying t = some (.slice e)) (hi : P.info? e = some i) (hz : i.zero = some z)
    (hsize : i.size = 1) (hby : i.bytes = bytes) (hzs : z.cells.size = 1) (v : Value) (us : List Value) (hs : a.eval s = v) (hsl : SlAt w lo e v us) (ad : Addr) (c : Nat) (u : Value) (hx : a.eval x = .slice (some ad) 1 c) (hu : w.cell? ad = some u) (h1 : u.oneCell' = true)
    (h63 : us.length + 1 ≤ maxLen) (hbytes : (us.length + 1) * bytes ≤ 140737488355328) (hlo : lo ≤ w.heap.size)
    (h : ∀ g o' cap w', SlAt w' lo e (.slice (some ⟨g, o', none⟩) (us.length + 1) cap) (us ++ [u]) → w.grownBy w' v.ownBlock → (v.ownBlock = some g ∨ w.heap.size ≤ g) → K (a.put o.dst (.slice (some ⟨g, o', none⟩) (us.length + 1) cap)) w') :
    if Region.wanted o (yielded ops a.tmps) = true then Oper.wp P o a w K Q else E := by
  have hw : Region.wanted o (yielded ops a.tmps) = true := by simp [Region.wanted, hgd]
  rw [if_pos hw]
  exact wp_append_sl w s x t ho lo e i z bytes ht hi hz hsize hby hzs v us hs hsl ad c u hx hu h1 h63 hbytes hlo h
/-- Nothing laid behind nothing. -/
theorem step_append_zero {ops : Array Oper} {o : Oper} {a : Act} {K : Act → World → Prop} {Q : Exit → Act → World → Prop} {E : Prop} (hgd : o.guard = none) (s x : Operand) (t : TypeId)
    (ho : o.op = .call { callee := .builtin .append, args := #[s, x], argTypes := #[t, t] }) (e : TypeId) (i : TypeInfo) (ht : P.underlying t = some (.slice e)) (hi : P.info? e = some i) (hs : a.eval s = .slice none 0 0) (b : Option Addr) (n c : Nat) (hn : n = 0) (hx : a.eval x = .slice b n c)
    (h : K (a.put o.dst (.slice none 0 0)) w) : if Region.wanted o (yielded ops a.tmps) = true then Oper.wp P o a w K Q else E := by
  have hw : Region.wanted o (yielded ops a.tmps) = true := by simp [Region.wanted, hgd]
  rw [if_pos hw]
  subst hn
  have hr : (Builtin.append_ #[t, t] o.type #[.slice none 0 0, .slice b 0 c]).run P w = .ok (.slice none 0 0) w := by
    cases b <;> simp [Builtin.append_, run_underlying ht, sizeOf, typeInfo, hi, Builtin.lenOf, Builtin.firstCells, loadCells, loadCellsFrom]
  unfold Oper.wp execOp
  simp only [ho, resolve, invoke, builtin, Sem.run_bind, Sem.run_pure, Result.andThen_ok, List.map_toArray, List.map_cons, List.map_nil, hs, hx, hr]
  exact h
end
end Go.Proofs.YtbefahknbdjnpaaGreatDoor
/- Bound, Cut and Joins, told for every text and every number. -/
namespace Go.Proofs.YtbefahknbdjnpaaGreatDoor
open Go.RowKit Go.Shelf
set_option linter.unusedVariables false

theorem first_any (s : ByteArray) (hs : s.size ≤ maxLen) (w : World) : Calls Tryz.prog 160 #[.string s] w fun e W' => e = .returned (firstV s) ∧ Below w.heap.size w W' :=
  callsIn_wide.1 (first_in 3 (Nat.le_refl _) s hs w)

/-- What First answers of the text from i on. -/
theorem firstV_at (s : ByteArray) (i : Nat) (h : i < s.size) : firstV (s.extract i s.size) = .tuple #[.agg #[.int .i32 (rn s i), .int .i64 (wd s i), .bool (decide (rn s i = 65533 ∧ wd s i = 1))], .bool true] := by
  rw [firstV_pos (by rw [ByteArray.size_extract]; omega)]
  simp only [encSpot, spotV, rn, wd, decode_suffix s i 0 (Nat.le_of_lt h), Nat.add_zero]

def boundV (s : ByteArray) (a : Int) : Bool := decide (0 ≤ a ∧ a ≤ s.size) && bdB s a.toNat

set_option maxHeartbeats 1000000 in
theorem bound_out (s : ByteArray) (hs : s.size ≤ maxLen) (a : Int) (ha : a < 0 ∨ (s.size : Int) < a) (w : World) :
    Calls Tryz.prog 122 #[.string s, .int .i64 a] w fun e w' => e = .returned (.bool false) ∧ w' = w := by
  unfold maxLen at hs
  rcases ha with ha | ha
  · go_enter Tryz.func122, Tryz.ntmps122
    go_wp2
    go_ret
    exact ⟨rfl, rfl⟩
  · have h0 : ¬ a < 0 := by omega
    go_enter Tryz.func122, Tryz.ntmps122
    go_wp2
    go_ret
    exact ⟨rfl, rfl⟩

set_option maxHeartbeats 1000000 in
theorem bound_in (s : ByteArray) (hs : s.size ≤ maxLen) (p : Nat) (hp : p ≤ s.size) (w : World) :
    Calls Tryz.prog 122 #[.string s, .int .i64 p] w fun e w' => e = .returned (.bool (bdB s p)) ∧ Below w.heap.size w w' := by
  unfold maxLen at hs
  have h0 : ¬ (p : Int) < 0 := by omega
  have h1 : ¬ (s.size : Int) < (p : Int) := by omega
  go_enter Tryz.func122, Tryz.ntmps122
  go_wp2
  go_loopw [5] (fun i wr => ∃ k : Nat, 1 ≤ k ∧ k ≤ 4 ∧ i = .int .i64 k ∧ Hz (∀ m, m < k → 1 ≤ m → m ≤ p → wd s (p - m) ≤ m) ∧ Below w.heap.size w wr) (fun i _ => 4 - (intOf i).toNat)
  case atStart => exact ⟨1, by omega, by omega, rfl, hide (fun m h1 h2 => by omega), Below.refl _ _⟩
  case round =>
    obtain ⟨k, hk1, hk4, rfl, H, hB⟩ := hrel
    by_cases h4 : k < 4
    · by_cases hkp : k ≤ p
      · have hfv := firstV_at s (p - k) (by omega)
        generalize decide (rn s (p - k) = 65533 ∧ wd s (p - k) = 1) = b at hfv
        generalize rn s (p - k) = r at hfv
        obtain ⟨d, hd⟩ : ∃ d, wd s (p - k) = d := ⟨_, rfl⟩
        rw [hd] at hfv
        have HF := hide hfv
        have HD := hide hd
        clear hfv hd
        go_wp2_with fail
        refine (first_any _ (by rw [ByteArray.size_extract]; unfold maxLen; omega) _).mono ?_
        rintro e w1 ⟨rfl, hb1⟩
        rw [HF.out]
        have hB1 : Below w.heap.size w w1 := hB.trans (hb1.mono hB.size)
        clear hb1
        by_cases hdk : (k : Int) < d
        · go_wp2
          go_ret
          refine ⟨?_, hB1.alloc hB1.size _⟩
          have : bdB s p = false := by
            rw [← Bool.not_eq_true, bd_iff]
            intro h
            have := h k h4 hk1 hkp
            rw [HD.out] at this
            omega
          rw [this]
          rfl
        · go_wp2
          go_roundw
          case rel =>
            refine ⟨k + 1, by omega, by omega, by go_num, hide (fun m h1 h2 h3 => ?_), hB1.alloc hB1.size _⟩
            by_cases e : m = k
            · subst e; rw [HD.out]; omega
            · exact H.out m (by omega) h2 h3
          case measure => simp [intOf]; omega
      · go_wp2
        go_ret
        refine ⟨?_, hB⟩
        rw [(bd_iff s p).2 (fun m h1 h2 h3 => H.out m (by omega) h2 h3)]
        rfl
    · go_wp2
      go_ret
      refine ⟨?_, hB⟩
      rw [(bd_iff s p).2 (fun m h1 h2 h3 => H.out m (by omega) h2 h3)]
      rfl

theorem bound_any (s : ByteArray) (hs : s.size ≤ maxLen) (a : Int) (w : World) :
    Calls Tryz.prog 122 #[.string s, .int .i64 a] w fun e w' => e = .returned (.bool (boundV s a)) ∧ Below w.heap.size w w' := by
  by_cases ha : 0 ≤ a ∧ a ≤ s.size
  · obtain ⟨p, rfl⟩ := Int.eq_ofNat_of_zero_le ha.1
    refine (bound_in s hs p (by omega) w).mono ?_
    rintro e w' ⟨rfl, hb⟩
    exact ⟨by rw [boundV, decide_eq_true ha]; simp, hb⟩
  · refine (bound_out s hs a (by omega) w).mono ?_
    rintro e w' ⟨rfl, rfl⟩
    exact ⟨by rw [boundV, decide_eq_false ha]; simp, Below.refl _ _⟩

/-- The greatest bound that is not above p. -/
def cutAt (s : ByteArray) : Nat → Nat
  | 0 => 0
  | p + 1 => if bdB s (p + 1) then p + 1 else cutAt s p
theorem cutAt_le (s : ByteArray) : ∀ p, cutAt s p ≤ p
  | 0 => Nat.le_refl _
  | p + 1 => by unfold cutAt; split; exact Nat.le_refl _; exact Nat.le_succ_of_le (cutAt_le s p)
theorem cutAt_bd (s : ByteArray) : ∀ p, bdB s (cutAt s p) = true
  | 0 => bd_zero s
  | p + 1 => by
    unfold cutAt
    split
    · assumption
    · exact cutAt_bd s p
theorem cutAt_max (s : ByteArray) : ∀ p q, q ≤ p → bdB s q = true → q ≤ cutAt s p
  | 0, q, h, _ => h
  | p + 1, q, h, hq => by
    unfold cutAt
    split
    · exact h
    · rename_i hn
      exact cutAt_max s p q (by
        rcases Nat.lt_or_ge q (p + 1) with hl | hl
        · omega
        · have : q = p + 1 := by omega
          subst this; exact absurd hq hn) hq
theorem cutAt_self (s : ByteArray) (p : Nat) (h : bdB s p = true) : cutAt s p = p := Nat.le_antisymm (cutAt_le s p) (cutAt_max s p p (Nat.le_refl _) h)
theorem cutAt_pred (s : ByteArray) (p : Nat) (h : bdB s p = false) : 1 ≤ p ∧ cutAt s p = cutAt s (p - 1) := by
  cases p with
  | zero => rw [bd_zero] at h; cases h
  | succ p => refine ⟨by omega, ?_⟩; rw [cutAt, if_neg (by simp [h])]; rfl
/-- The number, brought within the text. -/
def clampV (s : ByteArray) (a : Int) : Nat := min a.toNat s.size

set_option maxHeartbeats 2000000 in
theorem cut_any (s : ByteArray) (hs : s.size ≤ maxLen) (a : Int) (w : World) :
    Calls Tryz.prog 81 #[.string s, .int .i64 a] w fun e w' => e = .returned (.tuple #[.string (s.extract 0 (cutAt s (clampV s a))), .string (s.extract (cutAt s (clampV s a)) s.size)]) ∧ Below w.heap.size w w' := by
  have hs' := hs
  unfold maxLen at hs
  obtain ⟨c, hc, hcs⟩ : ∃ c, clampV s a = c ∧ c ≤ s.size := ⟨_, rfl, Nat.min_le_right _ _⟩
  have hc3 : (a < 0 ∧ c = 0) ∨ (0 ≤ a ∧ a ≤ s.size ∧ a = c) ∨ ((s.size : Int) < a ∧ c = s.size) := by unfold clampV at hc; omega
  rw [hc]
  have HS := hide hs'
  clear hc hs'
  rcases hc3 with ⟨h0, rfl⟩ | ⟨h0, h1, rfl⟩ | ⟨h0, rfl⟩
  all_goals
    go_enter Tryz.func81, Tryz.ntmps81
    go_wp2
    go_loopw [1] (fun i wr => ∃ k : Nat, k ≤ s.size ∧ i = .int .i64 k ∧ Hz (cutAt s k = cutAt s _) ∧ Below w.heap.size w wr) (fun i _ => (intOf i).toNat)
    case atStart => exact ⟨_, hcs, rfl, hide rfl, Below.refl _ _⟩
    case round =>
      obtain ⟨k, hk, rfl, H, hB⟩ := hrel
      go_wp2_with fail
      refine (bound_in s (unhide HS) k hk _).mono ?_
      rintro e w1 ⟨rfl, hb1⟩
      have hB1 : Below w.heap.size w w1 := hB.trans (hb1.mono hB.size)
      clear hb1 hB
      cases hb : bdB s k with
      | true =>
        have he := (cutAt_self s k hb).symm.trans (unhide H)
        have HE := hide he
        clear hb H he
        have hk0 : (0 : Int) ≤ k := by omega
        have hk1 : (k : Int) ≤ s.size := by omega
        go_wp2
        go_quiet (fail)
        go_wp2
        go_ret2
        exact ⟨by rw [← unhide HE]; rfl, below_drewN hB1 _⟩
      | false =>
        obtain ⟨hk1, he⟩ := cutAt_pred s k hb
        have HE := hide (he.symm.trans (unhide H))
        clear hb H he
        go_wp2
        go_roundw
        case rel => exact ⟨k - 1, by omega, by go_num, HE, hB1⟩
        case measure => simp [intOf]; omega

def joinsV (s t : ByteArray) : Bool := bdB (s.extract (s.size - 3) s.size ++ t.extract 0 (min t.size 3)) (min s.size 3)

theorem joinsV_eq (s t u v : ByteArray) (p : Nat) (hu : s.extract (s.size - 3) s.size = u) (hv : t.extract 0 (min t.size 3) = v) (hp : min s.size 3 = p) : bdB (u ++ v) p = joinsV s t := by
  unfold joinsV; rw [hu, hv, hp]
theorem extract_all (s : ByteArray) (i : Nat) (h : i = 0) : s.extract i s.size = s := by subst h; exact ByteArray.extract_zero_size
theorem extract_head (s : ByteArray) (i : Nat) (h : i = s.size) : s.extract 0 i = s := by subst h; exact ByteArray.extract_zero_size

end Go.Proofs.YtbefahknbdjnpaaGreatDoor
/- Last, told for every text; and what every statement asks first: that the text of an e and of a bad byte has its two spots. -/
namespace Go.Proofs.YtbefahknbdjnpaaGreatDoor
open Go.RowKit Go.Shelf
set_option linter.unusedVariables false

/-- Does a sequence of m bytes end the text? -/
def goodEnd (s : ByteArray) (m : Nat) : Bool := decide (m ≤ s.size ∧ wd s (s.size - m) = m ∧ ¬ (rn s (s.size - m) = 65533 ∧ wd s (s.size - m) = 1))
def lastS (s : ByteArray) : Int × Int × Bool :=
  if goodEnd s 1 then spotV s (s.size - 1) else if goodEnd s 2 then spotV s (s.size - 2) else if goodEnd s 3 then spotV s (s.size - 3) else if goodEnd s 4 then spotV s (s.size - 4) else (65533, 1, true)
def lastV (s : ByteArray) : Value := if 0 < s.size then .tuple #[encSpot (lastS s), .bool true] else .tuple #[encSpot (0, 0, false), .bool false]
theorem lastV_pos {s : ByteArray} (h : 0 < s.size) : lastV s = .tuple #[encSpot (lastS s), .bool true] := if_pos h
theorem lastV_neg {s : ByteArray} (h : ¬ 0 < s.size) : lastV s = .tuple #[encSpot (0, 0, false), .bool false] := if_neg h
theorem lastS_hit (s : ByteArray) (k : Nat) (h1 : 1 ≤ k) (h4 : k ≤ 4) (hg : goodEnd s k = true) (hn : ∀ m, m < k → 1 ≤ m → goodEnd s m = false) : lastS s = spotV s (s.size - k) := by
  have : k = 1 ∨ k = 2 ∨ k = 3 ∨ k = 4 := by omega
  unfold lastS
  rcases this with rfl | rfl | rfl | rfl
  · rw [if_pos hg]
  · rw [if_neg (by simp [hn 1]), if_pos hg]
  · rw [if_neg (by simp [hn 1]), if_neg (by simp [hn 2]), if_pos hg]
  · rw [if_neg (by simp [hn 1]), if_neg (by simp [hn 2]), if_neg (by simp [hn 3]), if_pos hg]
theorem lastS_none (s : ByteArray) (hn : ∀ m, m < 5 → 1 ≤ m → goodEnd s m = false) : lastS s = (65533, 1, true) := by
  unfold lastS
  rw [if_neg (by simp [hn 1]), if_neg (by simp [hn 2]), if_neg (by simp [hn 3]), if_neg (by simp [hn 4])]

/-- The text that every statement looks at first. -/
def text0 : ByteArray := ⟨#[195, 169, 255]⟩
theorem first0 : firstV text0 = .tuple #[.agg #[.int .i32 233, .int .i64 2, .bool false], .bool true] := by
  rw [firstV_pos (by decide)]
  have : Utf8.decode text0 0 = (233, 2) := by decide
  simp [spotV, rn, wd, this]
theorem last0 : lastV text0 = .tuple #[.agg #[.int .i32 65533, .int .i64 1, .bool true], .bool true] := by
  rw [lastV_pos (by decide), show lastS text0 = (65533, 1, true) by decide]

end Go.Proofs.YtbefahknbdjnpaaGreatDoor
