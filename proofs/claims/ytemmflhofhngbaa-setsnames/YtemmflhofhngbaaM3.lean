/- Texts of this claim, one behind the other. -/
import Derived.Test.YtemmflhofhngbaaM1
import Derived.ArgAppend
import Derived.Laws.Rows
import Derived.RegionTactic
import Derived.Test.YtemmflhofhngbaaM2
import Derived.Deep.QuietTactic
import Derived.BigQuiet
import Derived.Laws.AppendOwn
import Derived.Laws.MakeOwn
import Derived.Laws.OwnMore
import Derived.Lib.SliceRun
import Derived.Lib.Walk
import Derived.Shelf.RegionOpenPlain
import Derived.Deep.AppendLies
import Derived.Deep.RegionLaw
import Derived.Deep.RegionWith
/- A list of values in memory that may begin inside its block: how it lies, and what an append, or a cut at its front, makes of it. -/
namespace Go.Proofs.Ytemmflhofhngbaa
open Go.RowKit Go.Shelf
set_option linter.unusedVariables false

/-- A list of one-cell values, in a block of type E that is not below lo; it may begin inside the block. -/
def SlAt (W : World) (lo : Nat) (E : TypeId) (v : Value) (us : List Value) : Prop :=
  (v = .slice none 0 0 ∧ us = []) ∨ ∃ g o cap cur, v = .slice (some ⟨g, o, none⟩) us.length cap ∧ lo ≤ g ∧ Blk W g cur E ∧ us.length ≤ cap ∧ cap ≤ maxLen ∧ o + cap ≤ cur.size ∧ ∀ j u, us[j]? = some u → cur[o + j]? = some u

theorem SlAt.nil (W : World) (lo : Nat) (E : TypeId) : SlAt W lo E (.slice none 0 0) [] := .inl ⟨rfl, rfl⟩
theorem SlAt.kept {W W' : World} {row : Option Nat} {lo : Nat} {E : TypeId} {v : Value} {us : List Value} (h : SlAt W lo E v us) (hg : W.grownBy W' row) (hne : v.ownBlock = none ∨ v.ownBlock ≠ row) : SlAt W' lo E v us := by
  rcases h with h | ⟨g, o, cap, cur, rfl, hl, hb, h1, h2, h3, h4⟩
  · exact .inl h
  · refine .inr ⟨g, o, cap, cur, rfl, hl, hb.kept hg ?_, h1, h2, h3, h4⟩
    rcases hne with hne | hne
    · simp [Value.ownBlock] at hne
    · simpa [Value.ownBlock] using hne
theorem SlAt.alloc {W : World} {lo : Nat} {E : TypeId} {v : Value} {us : List Value} (h : SlAt W lo E v us) (o : Obj) : SlAt (W.alloc o) lo E v us :=
  h.kept (World.grownBy_alloc W o none) (by cases hv : v.ownBlock <;> simp)
theorem SlAt.drew {W : World} {lo : Nat} {E : TypeId} {v : Value} {us : List Value} (h : SlAt W lo E v us) : SlAt W.drew lo E v us := h
/-- Its block is no block of another type. -/
theorem SlAt.not_row {W : World} {lo : Nat} {E t : TypeId} {v : Value} {us : List Value} {B : Nat} {cs : Array Value} (h : SlAt W lo E v us) (hb : Blk W B cs t) (hne : t ≠ E) : v.ownBlock = none ∨ v.ownBlock ≠ some B := by
  rcases h with ⟨rfl, _⟩ | ⟨g, o, cap, cur, rfl, hl, hg, _⟩
  · exact .inl rfl
  · refine .inr fun e => ?_
    obtain rfl : g = B := by simpa [Value.ownBlock] using e
    have := (show W.heap[g]? = _ from hg).symm.trans hb
    simp at this
    exact hne this.2.symm
theorem SlAt.blk_ne {W : World} {lo : Nat} {E t : TypeId} {v : Value} {us : List Value} {B : Nat} {cs : Array Value} (h : SlAt W lo E v us) (hb : Blk W B cs t) (hne : t ≠ E) : some B ≠ v.ownBlock := by
  rcases h.not_row hb hne with e | e
  · rw [e]; simp
  · exact fun x => e x.symm
theorem SlAt.set {W : World} {lo : Nat} {E t : TypeId} {v : Value} {us : List Value} {B i : Nat} {cs : Array Value} (h : SlAt W lo E v us) (hb : Blk W B cs t) (hne : t ≠ E) (u : Value) : SlAt (W.setCell ⟨B, i, none⟩ u) lo E v us :=
  h.kept (row := some B) ⟨rfl, rfl, rfl, by simp, fun k _ hk => Below.heap_setCell _ _ _ k (fun e => hk (by rw [e]))⟩ (h.not_row hb hne)
theorem SlAt.lt {W : World} {lo : Nat} {E : TypeId} {v : Value} {us : List Value} (h : SlAt W lo E v us) : ∀ g, v.ownBlock = some g → lo ≤ g ∧ g < W.heap.size := by
  rcases h with ⟨rfl, _⟩ | ⟨g, o, cap, cur, rfl, hl, hg, _⟩
  · simp [Value.ownBlock]
  · intro g' e
    obtain rfl : g = g' := by simpa [Value.ownBlock] using e
    exact ⟨hl, hg.lt⟩
theorem SlAt.form {W : World} {lo : Nat} {E : TypeId} {v : Value} {us : List Value} (h : SlAt W lo E v us) (h0 : 0 < us.length) :
    ∃ g o cap, v = .slice (some ⟨g, o, none⟩) us.length cap ∧ us.length ≤ cap ∧ cap ≤ maxLen ∧ ∀ j u, us[j]? = some u → W.cell? ⟨g, o + j, none⟩ = some u := by
  rcases h with ⟨rfl, rfl⟩ | ⟨g, o, cap, cur, rfl, hl, hg, h1, h2, h3, h4⟩
  · simp at h0
  · exact ⟨g, o, cap, rfl, h1, h2, fun j u hj => (hg.cell _).trans (h4 j u hj)⟩
/-- The first one is cut off. -/
theorem SlAt.tail {W : World} {lo : Nat} {E : TypeId} {g o n cap : Nat} {u : Value} {us : List Value} (h : SlAt W lo E (.slice (some ⟨g, o, none⟩) n cap) (u :: us)) : SlAt W lo E (.slice (some ⟨g, o + 1, none⟩) us.length (cap - 1)) us := by
  rcases h with ⟨h, _⟩ | ⟨g', o', cap', cur, e, hl, hg, h1, h2, h3, h4⟩
  · cases h
  · cases e
    simp only [List.length_cons] at h1
    refine .inr ⟨g, o + 1, cap - 1, cur, rfl, hl, hg, by omega, by omega, by omega, fun j x hj => ?_⟩
    have := h4 (j + 1) x (by simpa using hj)
    rwa [show o + 1 + j = o + (j + 1) by omega]
theorem slAt_own {W : World} {lo : Nat} {E : TypeId} {v : Value} {n : Nat} {us : List Value} (h : W.ownsRow lo E 1 v n us) : SlAt W lo E v us := by
  have hn := h.1
  rw [Nat.mul_one] at hn
  rcases h.2 with ⟨rfl, h0⟩ | ⟨g, cap, cur, rfl, hb, hg, h1, h2, h3, h4⟩
  · exact .inl ⟨rfl, List.eq_nil_of_length_eq_zero (by omega)⟩
  · refine .inr ⟨g, 0, cap, cur, by rw [hn], hb, hg, by omega, h2, by omega, fun j u hj => ?_⟩
    have hl := (List.getElem?_eq_some_iff.1 hj).1
    rw [← h4, List.getElem?_take, if_pos (by omega)] at hj
    simpa using hj

theorem apart_symm' {a b : Option Nat} (h : a = none ∨ a ≠ b) : b = none ∨ b ≠ a := by
  cases b with
  | none => exact .inl rfl
  | some x =>
    refine .inr fun e => ?_
    rcases h with h | h
    · rw [h] at e; cases e
    · exact h e.symm
theorem grown_setCell' (W : World) (a : Addr) (v : Value) : W.grownBy (W.setCell a v) (some a.block) :=
  ⟨rfl, rfl, rfl, by simp, fun k _ hk => Below.heap_setCell _ _ _ k (fun e => hk (by rw [e]))⟩

theorem add_none' (g o j : Nat) : (⟨g, o, none⟩ : Addr).add j = ⟨g, o + j, none⟩ := by unfold Addr.add; split <;> simp_all

/-- What a frame holds in a slot. -/
def slotAt : List Value → Nat → Value
  | [], _ => undef
  | v :: _, 0 => v
  | _ :: L, k + 1 => slotAt L k
theorem mk_act {ds : List Deferred} {L : List Value} {G : (Nat → Value) → List Value} (h : L = G (slotAt L)) : ∃ U, ({ tmps := L.toArray, defers := ds } : Act) = { tmps := (G U).toArray, defers := ds } := ⟨_, by rw [← h]⟩
/-- One value more. -/
theorem run_append_sl {P : Program} (W : World) (lo : Nat) (t ty e : TypeId) (i : TypeInfo) (z : Value) (bytes : Nat) (ht : P.underlying t = some (.slice e)) (hi : P.info? e = some i) (hz : i.zero = some z)
    (hsize : i.size = 1) (hby : i.bytes = bytes) (hzs : z.cells.size = 1) (v : Value) (us : List Value) (h : SlAt W lo e v us) (ad : Addr) (c : Nat) (u : Value) (hu : W.cell? ad = some u) (h1 : u.oneCell' = true)
    (h63 : us.length + 1 ≤ maxLen) (hbytes : (us.length + 1) * bytes ≤ 140737488355328) (hlo : lo ≤ W.heap.size) :
    ∃ g o cap W', (Builtin.append_ #[t, t] ty #[v, .slice (some ad) 1 c]).run P W = .ok (.slice (some ⟨g, o, none⟩) (us.length + 1) cap) W' ∧ SlAt W' lo e (.slice (some ⟨g, o, none⟩) (us.length + 1) cap) (us ++ [u]) ∧ W.grownBy W' v.ownBlock ∧ (v.ownBlock = some g ∨ W.heap.size ≤ g) := by
  have hnews : ∀ j x, [u][j]? = some x → W.cell? (ad.add j) = some x := by
    intro j x hj
    obtain ⟨b, off, sp⟩ := ad
    have hs := World.cell?_spot hu
    simp only at hs
    subst hs
    rw [add_none']
    have : j = 0 := by have := (List.getElem?_eq_some_iff.1 hj).1; simpa using this
    subst this
    simp at hj
    rw [← hj]
    exact hu
  have fin : ∀ v' W', W'.ownsRow W.heap.size e 1 v' (us.length + 1) (us ++ [u]) → ∃ g o cap, v' = .slice (some ⟨g, o, none⟩) (us.length + 1) cap ∧ SlAt W' lo e v' (us ++ [u]) ∧ W.heap.size ≤ g := by
    intro v' W' r1
    have hs := slAt_own r1
    rcases r1.2 with ⟨_, h0⟩ | ⟨g, cap, cur, rfl, hb, hg, q1, q2, q3, q4⟩
    · omega
    · refine ⟨g, 0, cap, rfl, ?_, hb⟩
      rcases hs with ⟨e, _⟩ | ⟨g', o', cap', cur', e, hl, rest⟩
      · cases e
      · exact .inr ⟨g', o', cap', cur', e, by omega, rest⟩
  rcases h with ⟨rfl, rfl⟩ | ⟨g, o, cap, cur, rfl, hl, hb, k1, k2, k3, k4⟩
  · obtain ⟨v', w', hr, r1, r2, _⟩ := run_append_own (P := P) W W.heap.size t ty e i z 1 bytes ht hi hz hsize hby hzs (by omega) (.slice none 0 0) 0 [] (World.ownsRow_nil W _ e 1) ad 1 c [u] (by simp) hnews (by simpa using h1) (by simpa using h63) (by simpa using hbytes) (Nat.le_refl _)
    obtain ⟨g, o, cap, rfl, hsl, hge⟩ := fin v' w' (by simpa using r1)
    exact ⟨g, o, cap, w', hr, hsl, r2, .inr hge⟩
  · have holds : ∀ j x, us[j]? = some x → W.cell? ((⟨g, o, none⟩ : Addr).add j) = some x := fun j x hj => by
      rw [add_none']
      exact (hb.cell _).trans (k4 j x hj)
    by_cases hroom : us.length + 1 ≤ cap
    · have hr := run_append_room_cells (P := P) W t ty e i ht hi g o us.length cap ad 1 c [u] (by simp [hsize]) hnews (by simpa using h1) hroom
        (fun j hj => by
          simp at hj
          subst hj
          rw [hsize, Nat.mul_one, Nat.add_zero, hb.cell, Array.getElem?_eq_getElem (by omega)]
          rfl)
        (fun j hj => hb.frozen _)
      rw [hsize, Nat.mul_one] at hr
      refine ⟨g, o, cap, _, hr, .inr ⟨g, o, cap, cur.setIfInBounds (o + us.length) u, by simp, hl, hb.set _ u, by simpa using hroom, k2, by simpa using k3, fun j x hj => ?_⟩, ?_, .inl rfl⟩
      · by_cases hj' : j < us.length
        · rw [List.getElem?_append_left hj'] at hj
          rw [Array.getElem?_setIfInBounds_ne (by omega)]
          exact k4 j x hj
        · have hlt := (List.getElem?_eq_some_iff.1 hj).1
          simp at hlt
          have e : j = us.length := by omega
          subst e
          simp at hj
          rw [Array.getElem?_setIfInBounds_self_of_lt (by omega), hj]
      · exact ⟨rfl, rfl, rfl, by simp [World.setCells], fun k _ hk => Below.heap_setCell _ _ _ k (fun e => hk (by rw [e]; rfl))⟩
    · obtain ⟨v', w', hr, r1, r2⟩ := run_append_arg_grows (P := P) W t ty e i z 1 bytes ht hi hz hsize hby hzs (by omega) ⟨g, o, none⟩ us.length cap us (by simp) holds ad 1 c [u] (by simp) hnews (by omega) h63 hbytes
      obtain ⟨g', o', cap', rfl, hsl, hge⟩ := fin v' w' r1
      exact ⟨g', o', cap', w', hr, hsl, ⟨r2.os, r2.tape, r2.output, r2.size, fun k hk _ => r2.block k hk (by simp)⟩, .inr hge⟩

section
variable {P : Program} (w : World)
/-- .. at the operation. -/
theorem wp_append_sl {o : Oper} {a : Act} {K : Act → World → Prop} {Q : Exit → Act → World → Prop} (s x : Operand) (t : TypeId)
    (ho : o.op = .call { callee := .builtin .append, args := #[s, x], argTypes := #[t, t] }) (lo : Nat) (e : TypeId) (i : TypeInfo) (z : Value) (bytes : Nat) (ht : P.underlying t = some (.slice e)) (hi : P.info? e = some i) (hz : i.zero = some z)
    (hsize : i.size = 1) (hby : i.bytes = bytes) (hzs : z.cells.size = 1) (v : Value) (us : List Value) (hs : a.eval s = v) (hsl : SlAt w lo e v us) (ad : Addr) (c : Nat) (u : Value) (hx : a.eval x = .slice (some ad) 1 c) (hu : w.cell? ad = some u) (h1 : u.oneCell' = true)
    (h63 : us.length + 1 ≤ maxLen) (hbytes : (us.length + 1) * bytes ≤ 140737488355328) (hlo : lo ≤ w.heap.size)
    (h : ∀ g o' cap w', SlAt w' lo e (.slice (some ⟨g, o', none⟩) (us.length + 1) cap) (us ++ [u]) → w.grownBy w' v.ownBlock → (v.ownBlock = some g ∨ w.heap.size ≤ g) → K (a.put o.dst (.slice (some ⟨g, o', none⟩) (us.length + 1) cap)) w') : o.wp P a w K Q := by
  obtain ⟨g, o', cap, w', hr, h2, h3, h4⟩ := run_append_sl (P := P) w lo t o.type e i z bytes ht hi hz hsize hby hzs v us hsl ad c u hu h1 h63 hbytes hlo
  unfold Oper.wp execOp
  simp only [ho, resolve, invoke, builtin, Sem.run_bind, Sem.run_pure, Result.andThen_ok, List.map_toArray, List.map_cons, List.map_nil, hs, hx, hr]
  exact h g o' cap w' h2 h3 h4
theorem wpList_append_sl {ops : Array Oper} {rest : List Oper} {o : Oper} {a : Act} {Q : Exit → Act → World → Prop} (hgd : o.guard = none) (s x : Operand) (t : TypeId)
    (ho : o.op = .call { callee := .builtin .append, args := #[s, x], argTypes := #[t, t] }) (lo : Nat) (e : TypeId) (i : TypeInfo) (z : Value) (bytes : Nat) (ht : P.underlying t = some (.slice e)) (hi : P.info? e = some i) (hz : i.zero = some z)
    (hsize : i.size = 1) (hby : i.bytes = bytes) (hzs : z.cells.size = 1) (v : Value) (us : List Value) (hs : a.eval s = v) (hsl : SlAt w lo e v us) (ad : Addr) (c : Nat) (u : Value) (hx : a.eval x = .slice (some ad) 1 c) (hu : w.cell? ad = some u) (h1 : u.oneCell' = true)
    (h63 : us.length + 1 ≤ maxLen) (hbytes : (us.length + 1) * bytes ≤ 140737488355328) (hlo : lo ≤ w.heap.size)
    (h : ∀ g o' cap w', SlAt w' lo e (.slice (some ⟨g, o', none⟩) (us.length + 1) cap) (us ++ [u]) → w.grownBy w' v.ownBlock → (v.ownBlock = some g ∨ w.heap.size ≤ g) → wpList P ops Q rest (a.put o.dst (.slice (some ⟨g, o', none⟩) (us.length + 1) cap)) w') : wpList P ops Q (o :: rest) a w :=
  wpList_plain hgd fun _ hK => wp_append_sl w s x t ho lo e i z bytes ht hi hz hsize hby hzs v us hs hsl ad c u hx hu h1 h63 hbytes hlo fun g o' cap w' h2 h3 h4 => hK _ _ (h g o' cap w' h2 h3 h4)
theorem step_append_sl {ops : Array Oper} {o : Oper} {a : Act} {K : Act → World → Prop} {Q : Exit → Act → World → Prop} {E : Prop} (hgd : o.guard = none) (s x : Operand) (t : TypeId)
    (ho : o.op = .call { callee := .builtin .append, args := #[s, x], argTypes := #[t, t] }) (lo : Nat) (e : TypeId) (i : TypeInfo) (z : Value) (bytes : Nat) (ht : P.underlying t = some (.slice e)) (hi : P.info? e = some i) (hz : i.zero = some z)
    (hsize : i.size = 1) (hby : i.bytes = bytes) (hzs : z.cells.size = 1) (v : Value) (us : List Value) (hs : a.eval s = v) (hsl : SlAt w lo e v us) (ad : Addr) (c : Nat) (u : Value) (hx : a.eval x = .slice (some ad) 1 c) (hu : w.cell? ad = some u) (h1 : u.oneCell' = true)
    (h63 : us.length + 1 ≤ maxLen) (hbytes : (us.length + 1) * bytes ≤ 140737488355328) (hlo : lo ≤ w.heap.size)
    (h : ∀ g o' cap w', SlAt w' lo e (.slice (some ⟨g, o', none⟩) (us.length + 1) cap) (us ++ [u]) → w.grownBy w' v.ownBlock → (v.ownBlock = some g ∨ w.heap.size ≤ g) → K (a.put o.dst (.slice (some ⟨g, o', none⟩) (us.length + 1) cap)) w') :
    if Region.wanted o (yielded ops a.tmps) = true then Oper.wp P o a w K Q else E := by
  have hw : Region.wanted o (yielded ops a.tmps) = true := by simp [Region.wanted, hgd]
  rw [if_pos hw]
  exact wp_append_sl w s x t ho lo e i z bytes ht hi hz hsize hby hzs v us hs hsl ad c u hx hu h1 h63 hbytes hlo h
/-- Nothing laid behind nothing. -/
theorem step_append_zero {ops : Array Oper} {o : Oper} {a : Act} {K : Act → World → Prop} {Q : Exit → Act → World → Prop} {E : Prop} (hgd : o.guard = none) (s x : Operand) (t : TypeId)
    (ho : o.op = .call { callee := .builtin .append, args := #[s, x], argTypes := #[t, t] }) (e : TypeId) (i : TypeInfo) (ht : P.underlying t = some (.slice e)) (hi : P.info? e = some i) (hs : a.eval s = .slice none 0 0) (b : Option Addr) (n c : Nat) (hn : n = 0) (hx : a.eval x = .slice b n c)
    (h : K (a.put o.dst (.slice none 0 0)) w) : if Region.wanted o (yielded ops a.tmps) = true then Oper.wp P o a w K Q else E := by
  have hw : Region.wanted o (yielded ops a.tmps) = true := by simp [Region.wanted, hgd]
  rw [if_pos hw]
  subst hn
  have hr : (Builtin.append_ #[t, t] o.type #[.slice none 0 0, .slice b 0 c]).run P w = .ok (.slice none 0 0) w := by
    cases b <;> simp [Builtin.append_, run_underlying ht, sizeOf, typeInfo, hi, Builtin.lenOf, Builtin.firstCells, loadCells, loadCellsFrom]
  unfold Oper.wp execOp
  simp only [ho, resolve, invoke, builtin, Sem.run_bind, Sem.run_pure, Result.andThen_ok, List.map_toArray, List.map_cons, List.map_nil, hs, hx, hr]
  exact h
end
end Go.Proofs.Ytemmflhofhngbaa
/- Right, of the sets and of their reference, told for every list of spans. -/
namespace Go.Proofs.Ytemmflhofhngbaa
open Go.RowKit Go.Shelf
set_option linter.unusedVariables false

theorem below_drewN {B : Nat} {a w : World} (h : Below B a w) (n : Nat) : Below B a (w.drewN n) := h.trans ⟨rfl, rfl, rfl, Nat.le_refl _, fun _ _ => rfl⟩
/-- A list of spans as it lies in a world. -/
def RowP (W : World) (a : Option Addr) (zs : List (Int × Int)) : Prop := 0 < zs.length → ∃ g o, a = some ⟨g, o, none⟩ ∧ g < W.heap.size ∧ ∀ j x, zs[j]? = some x → W.cell? ⟨g, o + j * 2, none⟩ = some (.int .i32 x.1) ∧ W.cell? ⟨g, o + j * 2 + 1, none⟩ = some (.int .i32 x.2)
theorem RowP.below {W W' : World} {a : Option Addr} {zs : List (Int × Int)} (h : RowP W a zs) (hb : Below W.heap.size W W') : RowP W' a zs := fun h0 => by
  obtain ⟨g, o, ha, hg, hc⟩ := h h0
  have := hb.size
  exact ⟨g, o, ha, by omega, fun j x hj => ⟨(hb.cell (p := ⟨g, o + j * 2, none⟩) hg).trans (hc j x hj).1, (hb.cell (p := ⟨g, o + j * 2 + 1, none⟩) hg).trans (hc j x hj).2⟩⟩

/-- Why row j may not stand; 0: it may. -/
def badRow (zs : List (Int × Int)) (j : Nat) : Int :=
  if wrongOf (zs.getD j (0, 0)) ≠ 0 then wrongOf (zs.getD j (0, 0)) else if 0 < j ∧ (zs.getD j (0, 0)).1 ≤ (zs.getD (j - 1) (0, 0)).2 then 13 else 0
/-- What Right answers. -/
def rightV (zs : List (Int × Int)) : Value := match (List.range zs.length).find? (fun j => badRow zs j != 0) with
  | some j => .tuple #[.int .i64 j, .int .i64 (badRow zs j)]
  | none => .tuple #[.int .i64 0, .int .i64 0]
theorem rightV_bad (zs : List (Int × Int)) (k : Nat) (hk : k < zs.length) (h0 : ∀ i, i < k → badRow zs i = 0) (h1 : badRow zs k ≠ 0) : rightV zs = .tuple #[.int .i64 k, .int .i64 (badRow zs k)] := by
  have : (List.range zs.length).find? (fun j => badRow zs j != 0) = some k := by
    rw [List.find?_range_eq_some]
    exact ⟨by simpa using h1, by simpa using hk, fun j hj => by simp [h0 j hj]⟩
  unfold rightV
  rw [this]
theorem rightV_ok (zs : List (Int × Int)) (h0 : ∀ i, i < zs.length → badRow zs i = 0) : rightV zs = .tuple #[.int .i64 0, .int .i64 0] := by
  have : (List.range zs.length).find? (fun j => badRow zs j != 0) = none := by
    rw [List.find?_eq_none]
    intro j hj
    simp [h0 j (by simpa using hj)]
  unfold rightV
  rw [this]

set_option maxRecDepth 100000 in
set_option maxHeartbeats 4000000 in
theorem right_any (a : Option Addr) (cap : Nat) (zs : List (Int × Int)) (hz : zs.length ≤ 1073741824) (w : World) (hr : RowP w a zs) :
    Calls Try.prog 20 #[.slice a zs.length cap] w fun e w' => e = .returned (rightV zs) ∧ Below w.heap.size w w' := by
  have HR := hide hr
  have hzi : (zs.length : Int) ≤ 1073741824 := by omega
  clear hr
  go_enter Try.func20, Try.ntmps20
  go_wp2
  go_loopw [8] (fun i wr => ∃ k : Nat, i = .int .i64 k ∧ k ≤ zs.length ∧ Hz (∀ i, i < k → badRow zs i = 0) ∧ Hz (Below w.heap.size w wr)) (fun i _ => zs.length - (intOf i).toNat)
  case atStart => exact ⟨0, rfl, by omega, hide (fun i hi => by omega), hide (Below.refl _ _)⟩
  case round =>
    obtain ⟨k, rfl, hk, HZ, HB⟩ := hrel
    by_cases hkn : k < zs.length
    · have hk1 : (k : Int) < (zs.length : Int) := by omega
      have hk2 : ((k : Nat) : Int).toNat = k := by omega
      obtain ⟨x, hx⟩ : ∃ x, zs[k]? = some x := ⟨_, List.getElem?_eq_getElem hkn⟩
      have hgd : zs.getD k (0, 0) = x := by simp [List.getD, hx]
      obtain ⟨g, o, rfl, hg, hc⟩ := unhide HR (by omega)
      have c0 := ((unhide HB).cell (p := ⟨g, o + k * 2, none⟩) hg).trans (hc k x hx).1
      have c1 := ((unhide HB).cell (p := ⟨g, o + k * 2 + 1, none⟩) hg).trans (hc k x hx).2
      have HN := hide (fun w => noRunes_any x w)
      have HFa := hide (fun w => falling_any x w)
      obtain ⟨lo, hi⟩ := x
      simp only at c0 c1
      have b1 := Blk.new wr #[.int .i32 lo, .int .i32 hi] 28
      have q0 := b1.cell 0
      have q1 := b1.cell 1
      have HB1 := hide ((unhide HB).alloc (unhide HB).size (.cells #[.int .i32 lo, .int .i32 hi] 28))
      have HBl := hide b1
      clear b1
      cases he : endsB (lo, hi) with
      | false =>
        have HBR : Hz (badRow zs k = 12) := hide (by unfold badRow wrongOf; rw [hgd]; simp [he])
        have HV := hide (rightV_bad zs k hkn (unhide HZ) (by rw [unhide HBR]; decide))
        rw [he] at HN
        clear he hgd hc
        go_wp2_with fail
        refine (unhide HN _).mono ?_
        rintro e w2 ⟨rfl, hb⟩
        have HB2 := hide ((unhide HB1).trans (hb.mono (unhide HB1).size))
        clear hb
        go_wp2
        go_ret2
        exact ⟨by rw [unhide HV, unhide HBR]; rfl, unhide HB2⟩
      | true =>
        rw [he] at HN
        by_cases hfl : hi < lo
        · have HBR : Hz (badRow zs k = 11) := hide (by unfold badRow wrongOf; rw [hgd]; simp [he, hfl])
          have HV := hide (rightV_bad zs k hkn (unhide HZ) (by rw [unhide HBR]; decide))
          have hfd : decide (hi < lo) = true := decide_eq_true hfl
          clear he hgd hc
          go_wp2_with fail
          refine (unhide HN _).mono ?_
          rintro e w2 ⟨rfl, hb⟩
          have HB2 := hide ((unhide HB1).trans (hb.mono (unhide HB1).size))
          have b2 := (unhide HBl).below hb (unhide HBl).lt
          have r0 := b2.cell 0
          have r1 := b2.cell 1
          clear hb b2
          go_wp2_with fail
          refine (unhide HFa _).mono ?_
          rintro e w3 ⟨rfl, hb⟩
          have HB3 := hide ((unhide HB2).trans (hb.mono (unhide HB2).size))
          clear hb
          simp only [hfd]
          go_wp2
          go_ret2
          exact ⟨by rw [unhide HV, unhide HBR]; rfl, unhide HB3⟩
        · have hfd : decide (hi < lo) = false := decide_eq_false hfl
          have hw : wrongOf (lo, hi) = 0 := by unfold wrongOf; simp [he, hfl]
          by_cases hk0 : k = 0
          · subst hk0
            simp only [Nat.zero_mul, Nat.add_zero] at c0 c1
            have HBR : Hz (badRow zs 0 = 0) := hide (by unfold badRow; rw [hgd, if_neg (by simp [hw])]; simp)
            clear he hgd hc hw
            go_wp2_with fail
            refine (unhide HN _).mono ?_
            rintro e w2 ⟨rfl, hb⟩
            have HB2 := hide ((unhide HB1).trans (hb.mono (unhide HB1).size))
            have b2 := (unhide HBl).below hb (unhide HBl).lt
            have r0 := b2.cell 0
            have r1 := b2.cell 1
            clear hb
            go_wp2_with fail
            refine (unhide HFa _).mono ?_
            rintro e w3 ⟨rfl, hb⟩
            have HB3 := hide ((unhide HB2).trans (hb.mono (unhide HB2).size))
            clear hb b2
            simp only [hfd]
            go_wp2
            go_quiet (fail)
            go_wp2
            go_roundw
            case rel => exact ⟨1, rfl, by omega, hide (fun i hi => (show i = 0 by omega) ▸ unhide HBR), hide (below_drewN (unhide HB3) _)⟩
            case measure => simp [intOf]; omega
          · obtain ⟨m, rfl⟩ : ∃ m, k = m + 1 := ⟨k - 1, by omega⟩
            obtain ⟨y, hy⟩ : ∃ y, zs[m]? = some y := ⟨_, List.getElem?_eq_getElem (by omega)⟩
            have hgy : zs.getD m (0, 0) = y := by simp [List.getD, hy]
            have hcy := (hc m y hy).2
            obtain ⟨plo, phi⟩ := y
            simp only at hcy
            have hbr : badRow zs (m + 1) = if lo ≤ phi then 13 else 0 := by
              unfold badRow
              rw [hgd, if_neg (by simp [hw]), Nat.add_sub_cancel, hgy]
              simp
            have HBR := hide hbr
            have hlt := (unhide HB).size
            have hm1 : (m : Int) < (zs.length : Int) := by omega
            have hm2 : ((m : Nat) : Int).toNat = m := by omega
            have hm3 : (m : Int) + 1 < (zs.length : Int) := by omega
            have hm4 : ((m : Int) + 1).toNat = m + 1 := by omega
            have hm5 : (m : Int) ≤ 1073741824 := by omega
            have HCY := hide hcy
            clear he hgd hc hw hbr hgy hy hcy
            go_wp2_with fail
            refine (unhide HN _).mono ?_
            rintro e w2 ⟨rfl, hb⟩
            have HB2 := hide ((unhide HB1).trans (hb.mono (unhide HB1).size))
            have b2 := (unhide HBl).below hb (unhide HBl).lt
            have r0 := b2.cell 0
            have r1 := b2.cell 1
            clear hb
            go_wp2_with fail
            refine (unhide HFa _).mono ?_
            rintro e w3 ⟨rfl, hb⟩
            have HB3 := hide ((unhide HB2).trans (hb.mono (unhide HB2).size))
            have b3 := b2.below hb b2.lt
            have s0 := b3.cell 0
            have d2 := ((unhide HB3).cell (p := ⟨g, o + m * 2 + 1, none⟩) hg).trans (unhide HCY)
            clear hb b2 b3 r0 r1 q0 q1
            simp only [hfd]
            by_cases hle : lo ≤ phi
            · have HV := hide (rightV_bad zs (m + 1) hkn (unhide HZ) (by rw [unhide HBR, if_pos hle]; decide))
              have HB13 : Hz (badRow zs (m + 1) = 13) := hide (by rw [unhide HBR, if_pos hle])
              go_wp2
              go_quiet (fail)
              go_wp2
              go_ret2
              exact ⟨by rw [unhide HV, unhide HB13]; rfl, below_drewN (unhide HB3) _⟩
            · have HB0 : Hz (badRow zs (m + 1) = 0) := hide (by rw [unhide HBR, if_neg hle])
              go_wp2
              go_quiet (fail)
              go_wp2
              go_roundw
              case rel => exact ⟨m + 1 + 1, by go_num, by omega, hide (fun i hi => by
                by_cases e : i = m + 1
                · subst e; exact unhide HB0
                · exact unhide HZ i (by omega)), hide (below_drewN (unhide HB3) _)⟩
              case measure => simp [intOf]; omega
    · have hk1 : ¬ (k : Int) < (zs.length : Int) := by omega
      obtain rfl : k = zs.length := by omega
      have HV := hide (rightV_ok zs (unhide HZ))
      go_wp2
      go_ret2
      exact ⟨by rw [unhide HV]; rfl, unhide HB⟩
end Go.Proofs.Ytemmflhofhngbaa
/- slices.IndexFunc and ContainsFunc over a list of spans, by the two functions that Of hands them. -/
namespace Go.Proofs.Ytemmflhofhngbaa
open Go.RowKit Go.Shelf
set_option linter.unusedVariables false

/-- The first place at which p holds, or -1. -/
def firstAt (p : Int × Int → Bool) (zs : List (Int × Int)) : Int := match (List.range zs.length).find? (fun j => p (zs.getD j (0, 0))) with
  | some j => (j : Int)
  | none => -1
theorem firstAt_hit (p : Int × Int → Bool) (zs : List (Int × Int)) (k : Nat) (hk : k < zs.length) (h0 : ∀ i, i < k → p (zs.getD i (0, 0)) = false) (h1 : p (zs.getD k (0, 0)) = true) : firstAt p zs = k := by
  have : (List.range zs.length).find? (fun j => p (zs.getD j (0, 0))) = some k := by
    rw [List.find?_range_eq_some]
    exact ⟨h1, List.mem_range.2 hk, fun j hj => by simp only [h0 j hj]; rfl⟩
  unfold firstAt
  rw [this]
theorem firstAt_none (p : Int × Int → Bool) (zs : List (Int × Int)) (h0 : ∀ i, i < zs.length → p (zs.getD i (0, 0)) = false) : firstAt p zs = -1 := by
  have : (List.range zs.length).find? (fun j => p (zs.getD j (0, 0))) = none := by
    rw [List.find?_range_eq_none]
    intro j hj
    simp only [h0 j hj]; rfl
  unfold firstAt
  rw [this]
theorem firstAt_any (p : Int × Int → Bool) (zs : List (Int × Int)) : decide (0 ≤ firstAt p zs) = zs.any p := by
  cases h : zs.any p with
  | true =>
    unfold firstAt
    cases hf : (List.range zs.length).find? (fun j => p (zs.getD j (0, 0))) with
    | some j => simp
    | none =>
      exfalso
      rw [List.find?_range_eq_none] at hf
      obtain ⟨x, hx, hp⟩ := List.any_eq_true.1 h
      obtain ⟨i, hi, rfl⟩ := List.mem_iff_getElem.1 hx
      have := hf i hi
      simp [List.getD, hi, hp] at this
  | false =>
    rw [firstAt_none p zs]
    · decide
    · intro i hi
      have := List.any_eq_false.1 h zs[i] (List.getElem_mem hi)
      simpa [List.getD, hi] using this

set_option maxRecDepth 100000 in
set_option maxHeartbeats 4000000 in
theorem index_noRunes (a : Option Addr) (cap : Nat) (zs : List (Int × Int)) (hz : zs.length ≤ 1073741824) (w : World) (hr : RowP w a zs) :
    Calls Try.prog 56 #[.slice a zs.length cap, .func (.func 29) #[] #[]] w fun e w' => e = .returned (.int .i64 (firstAt (fun x => !endsB x) zs)) ∧ Below w.heap.size w w' := by
  have HR := hide hr
  have hzi : (zs.length : Int) ≤ 1073741824 := by omega
  clear hr
  go_enter Try.func56, Try.ntmps56
  go_wp2
  go_loopw [8] (fun i wr => ∃ k : Nat, i = .int .i64 k ∧ k ≤ zs.length ∧ Hz (∀ i, i < k → (fun x => !endsB x) (zs.getD i (0, 0)) = false) ∧ Hz (Below w.heap.size w wr)) (fun i _ => zs.length - (intOf i).toNat)
  case atStart => exact ⟨0, rfl, by omega, hide (fun i hi => by omega), hide (Below.refl _ _)⟩
  case round =>
    obtain ⟨k, rfl, hk, HZ, HB⟩ := hrel
    by_cases hkn : k < zs.length
    · have hk1 : (k : Int) < (zs.length : Int) := by omega
      have hk2 : ((k : Nat) : Int).toNat = k := by omega
      obtain ⟨x, hx⟩ : ∃ x, zs[k]? = some x := ⟨_, List.getElem?_eq_getElem hkn⟩
      have hgd : zs.getD k (0, 0) = x := by simp [List.getD, hx]
      obtain ⟨g, o, rfl, hg, hc⟩ := unhide HR (by omega)
      have c0 := ((unhide HB).cell (p := ⟨g, o + k * 2, none⟩) hg).trans (hc k x hx).1
      have c1 := ((unhide HB).cell (p := ⟨g, o + k * 2 + 1, none⟩) hg).trans (hc k x hx).2
      have HN := hide (fun w => noRunes_any x w)
      have HH := hide (fun h => firstAt_hit (fun x => !endsB x) zs k hkn (unhide HZ) h)
      rw [hgd] at HH
      have HG := hide hgd
      clear hc hx hgd
      cases hp : (!endsB x) with
      | true =>
        have HH1 := hide (unhide HH hp)
        rw [hp] at HN
        obtain ⟨lo, hi⟩ := x
        simp only at c0 c1
        clear hp
        go_wp2_with fail
        refine (unhide HN _).mono ?_
        rintro e w2 ⟨rfl, hb⟩
        have HB2 := hide ((unhide HB).trans (hb.mono (unhide HB).size))
        clear hb
        go_wp2
        go_ret
        exact ⟨by rw [unhide HH1]; rfl, unhide HB2⟩
      | false =>
        have HZ1 : Hz (∀ i, i < k + 1 → (fun x => !endsB x) (zs.getD i (0, 0)) = false) := hide (fun i hi => by
          by_cases e : i = k
          · subst e; rw [unhide HG]; exact hp
          · exact unhide HZ i (by omega))
        rw [hp] at HN
        obtain ⟨lo, hi⟩ := x
        simp only at c0 c1
        clear hp
        go_wp2_with fail
        refine (unhide HN _).mono ?_
        rintro e w2 ⟨rfl, hb⟩
        have HB2 := hide ((unhide HB).trans (hb.mono (unhide HB).size))
        clear hb
        go_wp2
        refine ⟨⟨k + 1, by simp, by omega, HZ1, HB2⟩, ?_⟩
        simp [intOf]; omega
    · have hk1 : ¬ (k : Int) < (zs.length : Int) := by omega
      obtain rfl : k = zs.length := by omega
      have HV := hide (firstAt_none (fun x => !endsB x) zs (unhide HZ))
      go_wp2
      go_ret
      exact ⟨by rw [unhide HV]; rfl, unhide HB⟩

set_option maxRecDepth 100000 in
theorem contains_noRunes (a : Option Addr) (cap : Nat) (zs : List (Int × Int)) (hz : zs.length ≤ 1073741824) (w : World) (hr : RowP w a zs) :
    Calls Try.prog 28 #[.slice a zs.length cap, .func (.func 29) #[] #[]] w fun e w' => e = .returned (.bool (zs.any (fun x => !endsB x))) ∧ Below w.heap.size w w' := by
  have HI := hide (index_noRunes a cap zs hz w hr)
  have HA := hide (firstAt_any (fun x => !endsB x) zs)
  clear hr
  generalize zs.any (fun x => !endsB x) = r at HA ⊢
  generalize firstAt (fun x => !endsB x) zs = i at HI HA
  go_enter Try.func28, Try.ntmps28
  go_wp2_with fail
  refine (unhide HI).mono ?_
  rintro e w2 ⟨rfl, hb⟩
  have HB := hide hb
  clear hb
  go_wp2
  go_ret
  exact ⟨by rw [← unhide HA]; rfl, unhide HB⟩

set_option maxRecDepth 100000 in
set_option maxHeartbeats 4000000 in
theorem index_falling (a : Option Addr) (cap : Nat) (zs : List (Int × Int)) (hz : zs.length ≤ 1073741824) (w : World) (hr : RowP w a zs) :
    Calls Try.prog 56 #[.slice a zs.length cap, .func (.func 30) #[] #[]] w fun e w' => e = .returned (.int .i64 (firstAt (fun x => decide (x.2 < x.1)) zs)) ∧ Below w.heap.size w w' := by
  have HR := hide hr
  have hzi : (zs.length : Int) ≤ 1073741824 := by omega
  clear hr
  go_enter Try.func56, Try.ntmps56
  go_wp2
  go_loopw [8] (fun i wr => ∃ k : Nat, i = .int .i64 k ∧ k ≤ zs.length ∧ Hz (∀ i, i < k → (fun x => decide (x.2 < x.1)) (zs.getD i (0, 0)) = false) ∧ Hz (Below w.heap.size w wr)) (fun i _ => zs.length - (intOf i).toNat)
  case atStart => exact ⟨0, rfl, by omega, hide (fun i hi => by omega), hide (Below.refl _ _)⟩
  case round =>
    obtain ⟨k, rfl, hk, HZ, HB⟩ := hrel
    by_cases hkn : k < zs.length
    · have hk1 : (k : Int) < (zs.length : Int) := by omega
      have hk2 : ((k : Nat) : Int).toNat = k := by omega
      obtain ⟨x, hx⟩ : ∃ x, zs[k]? = some x := ⟨_, List.getElem?_eq_getElem hkn⟩
      have hgd : zs.getD k (0, 0) = x := by simp [List.getD, hx]
      obtain ⟨g, o, rfl, hg, hc⟩ := unhide HR (by omega)
      have c0 := ((unhide HB).cell (p := ⟨g, o + k * 2, none⟩) hg).trans (hc k x hx).1
      have c1 := ((unhide HB).cell (p := ⟨g, o + k * 2 + 1, none⟩) hg).trans (hc k x hx).2
      have HN := hide (fun w => falling_any x w)
      have HH := hide (fun h => firstAt_hit (fun x => decide (x.2 < x.1)) zs k hkn (unhide HZ) h)
      rw [hgd] at HH
      have HG := hide hgd
      clear hc hx hgd
      cases hp : (decide (x.2 < x.1)) with
      | true =>
        have HH1 := hide (unhide HH hp)
        rw [hp] at HN
        obtain ⟨lo, hi⟩ := x
        simp only at c0 c1
        clear hp
        go_wp2_with fail
        refine (unhide HN _).mono ?_
        rintro e w2 ⟨rfl, hb⟩
        have HB2 := hide ((unhide HB).trans (hb.mono (unhide HB).size))
        clear hb
        go_wp2
        go_ret
        exact ⟨by rw [unhide HH1]; rfl, unhide HB2⟩
      | false =>
        have HZ1 : Hz (∀ i, i < k + 1 → (fun x => decide (x.2 < x.1)) (zs.getD i (0, 0)) = false) := hide (fun i hi => by
          by_cases e : i = k
          · subst e; rw [unhide HG]; exact hp
          · exact unhide HZ i (by omega))
        rw [hp] at HN
        obtain ⟨lo, hi⟩ := x
        simp only at c0 c1
        clear hp
        go_wp2_with fail
        refine (unhide HN _).mono ?_
        rintro e w2 ⟨rfl, hb⟩
        have HB2 := hide ((unhide HB).trans (hb.mono (unhide HB).size))
        clear hb
        go_wp2
        refine ⟨⟨k + 1, by simp, by omega, HZ1, HB2⟩, ?_⟩
        simp [intOf]; omega
    · have hk1 : ¬ (k : Int) < (zs.length : Int) := by omega
      obtain rfl : k = zs.length := by omega
      have HV := hide (firstAt_none (fun x => decide (x.2 < x.1)) zs (unhide HZ))
      go_wp2
      go_ret
      exact ⟨by rw [unhide HV]; rfl, unhide HB⟩

set_option maxRecDepth 100000 in
theorem contains_falling (a : Option Addr) (cap : Nat) (zs : List (Int × Int)) (hz : zs.length ≤ 1073741824) (w : World) (hr : RowP w a zs) :
    Calls Try.prog 28 #[.slice a zs.length cap, .func (.func 30) #[] #[]] w fun e w' => e = .returned (.bool (zs.any (fun x => decide (x.2 < x.1)))) ∧ Below w.heap.size w w' := by
  have HI := hide (index_falling a cap zs hz w hr)
  have HA := hide (firstAt_any (fun x => decide (x.2 < x.1)) zs)
  clear hr
  generalize zs.any (fun x => decide (x.2 < x.1)) = r at HA ⊢
  generalize firstAt (fun x => decide (x.2 < x.1)) zs = i at HI HA
  go_enter Try.func28, Try.ntmps28
  go_wp2_with fail
  refine (unhide HI).mono ?_
  rintro e w2 ⟨rfl, hb⟩
  have HB := hide hb
  clear hb
  go_wp2
  go_ret
  exact ⟨by rw [← unhide HA]; rfl, unhide HB⟩

end Go.Proofs.Ytemmflhofhngbaa
/- cmp.Compare at runes, and the three comparisons that the sets hand to the library. -/
namespace Go.Proofs.Ytemmflhofhngbaa
open Go.RowKit Go.Shelf
set_option linter.unusedVariables false

def cmpOf (a b : Int) : Int := if a < b then -1 else if b < a then 1 else 0
theorem nan_any (a : Int) (w : World) : Calls Try.prog 59 #[.int .i32 a] w fun e w' => e = .returned (.bool false) ∧ w' = w := by
  go_enter Try.func59, Try.ntmps59
  go_wp2
  go_ret
  exact ⟨rfl, rfl⟩
theorem compare_any (a b : Int) (w : World) : Calls Try.prog 34 #[.int .i32 a, .int .i32 b] w fun e w' => e = .returned (.int .i64 (cmpOf a b)) ∧ w' = w := by
  have HA := hide (nan_any a w)
  have HB := hide (nan_any b w)
  by_cases h1 : a < b
  · have h : cmpOf a b = -1 := by unfold cmpOf; rw [if_pos h1]
    rw [h]
    clear h
    go_enter Try.func34, Try.ntmps34
    go_wp2_with fail
    refine (unhide HA).mono ?_
    rintro e w2 ⟨rfl, rfl⟩
    go_wp2_with fail
    refine (unhide HB).mono ?_
    rintro e w2 ⟨rfl, rfl⟩
    go_wp2
    go_ret
    exact ⟨rfl, rfl⟩
  · by_cases h2 : b < a
    · have h : cmpOf a b = 1 := by unfold cmpOf; rw [if_neg h1, if_pos h2]
      rw [h]
      clear h
      go_enter Try.func34, Try.ntmps34
      go_wp2_with fail
      refine (unhide HA).mono ?_
      rintro e w2 ⟨rfl, rfl⟩
      go_wp2_with fail
      refine (unhide HB).mono ?_
      rintro e w2 ⟨rfl, rfl⟩
      go_wp2
      go_ret
      exact ⟨rfl, rfl⟩
    · have h : cmpOf a b = 0 := by unfold cmpOf; rw [if_neg h1, if_neg h2]
      rw [h]
      clear h
      go_enter Try.func34, Try.ntmps34
      go_wp2_with fail
      refine (unhide HA).mono ?_
      rintro e w2 ⟨rfl, rfl⟩
      go_wp2_with fail
      refine (unhide HB).mono ?_
      rintro e w2 ⟨rfl, rfl⟩
      go_wp2
      go_ret
      exact ⟨rfl, rfl⟩

theorem of1_any (x y : Int × Int) (w : World) : Calls Try.prog 33 #[spanV x, spanV y] w fun e w' => e = .returned (.int .i64 (cmpOf x.1 y.1)) ∧ Below w.heap.size w w' := by
  have HC := hide (fun w => compare_any x.1 y.1 w)
  obtain ⟨lo, hi⟩ := x
  obtain ⟨mo, mi⟩ := y
  simp only at HC
  go_enter Try.func33, Try.ntmps33
  go_wp2_with fail
  refine (unhide HC _).mono ?_
  rintro e w2 ⟨rfl, rfl⟩
  go_wp2
  go_ret
  exact ⟨rfl, ((Below.refl _ w).alloc (Nat.le_refl _) _).alloc (by simp) _⟩
theorem in1_any (x : Int × Int) (r : Int) (w : World) : Calls Try.prog 50 #[spanV x, .int .i32 r] w fun e w' => e = .returned (.int .i64 (cmpOf x.2 r)) ∧ Below w.heap.size w w' := by
  have HC := hide (fun w => compare_any x.2 r w)
  obtain ⟨lo, hi⟩ := x
  simp only at HC
  go_enter Try.func50, Try.ntmps50
  go_wp2_with fail
  refine (unhide HC _).mono ?_
  rintro e w2 ⟨rfl, rfl⟩
  go_wp2
  go_ret
  exact ⟨rfl, (Below.refl _ w).alloc (Nat.le_refl _) _⟩
theorem below1_any (x : Int × Int) (r : Int) (w : World) : Calls Try.prog 48 #[spanV x, .int .i32 r] w fun e w' => e = .returned (.int .i64 (cmpOf x.1 r)) ∧ Below w.heap.size w w' := by
  have HC := hide (fun w => compare_any x.1 r w)
  obtain ⟨lo, hi⟩ := x
  simp only at HC
  go_enter Try.func48, Try.ntmps48
  go_wp2_with fail
  refine (unhide HC _).mono ?_
  rintro e w2 ⟨rfl, rfl⟩
  go_wp2
  go_ret
  exact ⟨rfl, (Below.refl _ w).alloc (Nat.le_refl _) _⟩

end Go.Proofs.Ytemmflhofhngbaa
/- slices.BinarySearchFunc over a list of spans, by the two comparisons of In and Below. -/
namespace Go.Proofs.Ytemmflhofhngbaa
open Go.RowKit Go.Shelf
set_option linter.unusedVariables false

/-- The first k lie below r by the key, the others don't. -/
def Cut (key : Int × Int → Int) (zs : List (Int × Int)) (r : Int) (k : Nat) : Prop := k ≤ zs.length ∧ (∀ j x, j < k → zs[j]? = some x → key x < r) ∧ (∀ j x, k ≤ j → zs[j]? = some x → r ≤ key x)
theorem cmp_lt {a b : Int} (h : a < b) : cmpOf a b = -1 := by unfold cmpOf; rw [if_pos h]
theorem cmp_eq (a : Int) : cmpOf a a = 0 := by unfold cmpOf; simp
theorem cmp_gt {a b : Int} (h : b < a) : cmpOf a b = 1 := by unfold cmpOf; rw [if_neg (by omega), if_pos h]

set_option maxRecDepth 100000 in
set_option maxHeartbeats 4000000 in
theorem search_his (p : Option Addr) (cap : Nat) (zs : List (Int × Int)) (hz : zs.length ≤ 1073741824) (r : Int) (hs : ∀ (i j : Nat) (x y : Int × Int), i < j → zs[i]? = some x → zs[j]? = some y → x.2 < y.2) (w : World) (hr : RowP w p zs) :
    Calls Try.prog 47 #[.slice p zs.length cap, .int .i32 r, .func (.func 50) #[] #[]] w fun e w' => ∃ (k : Nat) (b : Bool), e = .returned (.tuple #[.int .i64 k, .bool b]) ∧ Cut (fun x => x.2) zs r k ∧ Below w.heap.size w w' := by
  have HR := hide hr
  have HS := hide hs
  have hzi : (zs.length : Int) ≤ 1073741824 := by omega
  clear hr hs
  go_enter Try.func47, Try.ntmps47
  go_wp2
  go_loopw [9, 10] (fun i j wr => ∃ a b : Nat, a ≤ b ∧ b ≤ zs.length ∧ i = .int .i64 a ∧ j = .int .i64 b ∧ Hz (∀ j x, j < a → zs[j]? = some x → x.2 < r) ∧ Hz (∀ j x, b ≤ j → zs[j]? = some x → r ≤ x.2) ∧ Hz (Below w.heap.size w wr)) (fun i j _ => (intOf j).toNat - (intOf i).toNat)
  case atStart => exact ⟨0, zs.length, by omega, Nat.le_refl _, rfl, rfl, hide (fun j x hj => by omega), hide (fun j x hj hx => by have := (List.getElem?_eq_some_iff.1 hx).1; omega), hide (Below.refl _ _)⟩
  case round =>
    obtain ⟨a, b, hab, hb, rfl, rfl, H1, H2, HB⟩ := hrel
    by_cases hlt : a < b
    · have h1 : (a : Int) < (b : Int) := by omega
      obtain ⟨x, hx⟩ : ∃ x, zs[(a + b) / 2]? = some x := ⟨_, List.getElem?_eq_getElem (by omega)⟩
      obtain ⟨g, o, rfl, hg, hc⟩ := unhide HR (by omega)
      have c0 := ((unhide HB).cell (p := ⟨g, o + (a + b) / 2 * 2, none⟩) hg).trans (hc _ x hx).1
      have c1 := ((unhide HB).cell (p := ⟨g, o + (a + b) / 2 * 2 + 1, none⟩) hg).trans (hc _ x hx).2
      have HN := hide (fun w => in1_any x r w)
      have HX := hide hx
      clear hx hc
      by_cases hxn : x.2 < r
      · rw [cmp_lt hxn] at HN
        have H1' : Hz (∀ j y, j < (a + b) / 2 + 1 → zs[j]? = some y → y.2 < r) := hide (fun j y hj hy => by
          by_cases e : j = (a + b) / 2
          · subst e; rw [unhide HX] at hy; cases hy; exact hxn
          · have := unhide HS j ((a + b) / 2) y x (by omega) hy (unhide HX); omega)
        clear hxn
        obtain ⟨lo, hi⟩ := x
        simp only at c0 c1
        go_wp2_with fail
        refine (unhide HN _).mono ?_
        rintro e w2 ⟨rfl, hb2⟩
        have HB2 := hide ((unhide HB).trans (hb2.mono (unhide HB).size))
        clear hb2
        go_wp2
        go_roundw
        case rel =>
          refine ⟨(a + b) / 2 + 1, b, by omega, hb, ?_, rfl, H1', H2, HB2⟩
          congr 1
        case measure => simp [intOf]; omega
      · have H2' : Hz (∀ j y, (a + b) / 2 ≤ j → zs[j]? = some y → r ≤ y.2) := hide (fun j y hj hy => by
          by_cases e : j = (a + b) / 2
          · subst e; rw [unhide HX] at hy; cases hy; omega
          · have := unhide HS ((a + b) / 2) j x y (by omega) (unhide HX) hy; omega)
        have hq : 0 ≤ cmpOf x.2 r := by unfold cmpOf; rw [if_neg hxn]; split <;> omega
        generalize cmpOf x.2 r = q at HN hq
        have hq1 : ¬ q < 0 := by omega
        clear hxn
        obtain ⟨lo, hi⟩ := x
        simp only at c0 c1
        go_wp2_with fail
        refine (unhide HN _).mono ?_
        rintro e w2 ⟨rfl, hb2⟩
        have HB2 := hide ((unhide HB).trans (hb2.mono (unhide HB).size))
        clear hb2
        go_wp2
        go_roundw
        case rel =>
          refine ⟨a, (a + b) / 2, by omega, by omega, rfl, ?_, H1, H2', HB2⟩
          congr 1
        case measure => simp [intOf]; omega
    · have h1 : ¬ (a : Int) < (b : Int) := by omega
      obtain rfl : a = b := by omega
      have HK : Hz (Cut (fun x => x.2) zs r a) := hide ⟨hb, unhide H1, unhide H2⟩
      by_cases hal : a < zs.length
      · obtain ⟨x, hx⟩ : ∃ x, zs[a]? = some x := ⟨_, List.getElem?_eq_getElem hal⟩
        obtain ⟨g, o, rfl, hg, hc⟩ := unhide HR (by omega)
        have c0 := ((unhide HB).cell (p := ⟨g, o + a * 2, none⟩) hg).trans (hc _ x hx).1
        have c1 := ((unhide HB).cell (p := ⟨g, o + a * 2 + 1, none⟩) hg).trans (hc _ x hx).2
        have HN := hide (fun w => in1_any x r w)
        have h2 : (a : Int) < (zs.length : Int) := by omega
        have h3 : ((a : Nat) : Int).toNat = a := by omega
        clear hx hc
        generalize cmpOf x.2 r = q at HN
        obtain ⟨lo, hi⟩ := x
        simp only at c0 c1
        go_wp2_with fail
        refine (unhide HN _).mono ?_
        rintro e w2 ⟨rfl, hb2⟩
        have HB2 := hide ((unhide HB).trans (hb2.mono (unhide HB).size))
        clear hb2
        by_cases hq : q = 0
        · subst hq
          go_wp2
          go_ret2
          first | exact ⟨a, _, rfl, unhide HK, unhide HB2⟩ | exact ⟨unhide HK, unhide HB2⟩
        · have hqe : (q == 0) = false := beq_eq_false_iff_ne.2 hq
          go_wp2
          go_ret2
          first | exact ⟨a, _, rfl, unhide HK, unhide HB2⟩ | exact ⟨unhide HK, unhide HB2⟩
      · have h2 : ¬ (a : Int) < (zs.length : Int) := by omega
        go_wp2
        go_ret2
        first | exact ⟨a, _, rfl, unhide HK, unhide HB⟩ | exact ⟨unhide HK, unhide HB⟩ | exact ⟨a, rfl, unhide HK, unhide HB⟩ | exact ⟨a, ⟨_, rfl⟩, unhide HK, unhide HB⟩ | exact ⟨a, false, rfl, unhide HK, unhide HB⟩ | exact ⟨a, by simp; exact ⟨unhide HK, unhide HB⟩⟩

set_option maxRecDepth 100000 in
set_option maxHeartbeats 4000000 in
theorem search_los (p : Option Addr) (cap : Nat) (zs : List (Int × Int)) (hz : zs.length ≤ 1073741824) (r : Int) (hs : ∀ (i j : Nat) (x y : Int × Int), i < j → zs[i]? = some x → zs[j]? = some y → x.1 < y.1) (w : World) (hr : RowP w p zs) :
    Calls Try.prog 47 #[.slice p zs.length cap, .int .i32 r, .func (.func 48) #[] #[]] w fun e w' => ∃ (k : Nat) (b : Bool), e = .returned (.tuple #[.int .i64 k, .bool b]) ∧ Cut (fun x => x.1) zs r k ∧ Below w.heap.size w w' := by
  have HR := hide hr
  have HS := hide hs
  have hzi : (zs.length : Int) ≤ 1073741824 := by omega
  clear hr hs
  go_enter Try.func47, Try.ntmps47
  go_wp2
  go_loopw [9, 10] (fun i j wr => ∃ a b : Nat, a ≤ b ∧ b ≤ zs.length ∧ i = .int .i64 a ∧ j = .int .i64 b ∧ Hz (∀ j x, j < a → zs[j]? = some x → x.1 < r) ∧ Hz (∀ j x, b ≤ j → zs[j]? = some x → r ≤ x.1) ∧ Hz (Below w.heap.size w wr)) (fun i j _ => (intOf j).toNat - (intOf i).toNat)
  case atStart => exact ⟨0, zs.length, by omega, Nat.le_refl _, rfl, rfl, hide (fun j x hj => by omega), hide (fun j x hj hx => by have := (List.getElem?_eq_some_iff.1 hx).1; omega), hide (Below.refl _ _)⟩
  case round =>
    obtain ⟨a, b, hab, hb, rfl, rfl, H1, H2, HB⟩ := hrel
    by_cases hlt : a < b
    · have h1 : (a : Int) < (b : Int) := by omega
      obtain ⟨x, hx⟩ : ∃ x, zs[(a + b) / 2]? = some x := ⟨_, List.getElem?_eq_getElem (by omega)⟩
      obtain ⟨g, o, rfl, hg, hc⟩ := unhide HR (by omega)
      have c0 := ((unhide HB).cell (p := ⟨g, o + (a + b) / 2 * 2, none⟩) hg).trans (hc _ x hx).1
      have c1 := ((unhide HB).cell (p := ⟨g, o + (a + b) / 2 * 2 + 1, none⟩) hg).trans (hc _ x hx).2
      have HN := hide (fun w => below1_any x r w)
      have HX := hide hx
      clear hx hc
      by_cases hxn : x.1 < r
      · rw [cmp_lt hxn] at HN
        have H1' : Hz (∀ j y, j < (a + b) / 2 + 1 → zs[j]? = some y → y.1 < r) := hide (fun j y hj hy => by
          by_cases e : j = (a + b) / 2
          · subst e; rw [unhide HX] at hy; cases hy; exact hxn
          · have := unhide HS j ((a + b) / 2) y x (by omega) hy (unhide HX); omega)
        clear hxn
        obtain ⟨lo, hi⟩ := x
        simp only at c0 c1
        go_wp2_with fail
        refine (unhide HN _).mono ?_
        rintro e w2 ⟨rfl, hb2⟩
        have HB2 := hide ((unhide HB).trans (hb2.mono (unhide HB).size))
        clear hb2
        go_wp2
        go_roundw
        case rel =>
          refine ⟨(a + b) / 2 + 1, b, by omega, hb, ?_, rfl, H1', H2, HB2⟩
          congr 1
        case measure => simp [intOf]; omega
      · have H2' : Hz (∀ j y, (a + b) / 2 ≤ j → zs[j]? = some y → r ≤ y.1) := hide (fun j y hj hy => by
          by_cases e : j = (a + b) / 2
          · subst e; rw [unhide HX] at hy; cases hy; omega
          · have := unhide HS ((a + b) / 2) j x y (by omega) (unhide HX) hy; omega)
        have hq : 0 ≤ cmpOf x.1 r := by unfold cmpOf; rw [if_neg hxn]; split <;> omega
        generalize cmpOf x.1 r = q at HN hq
        have hq1 : ¬ q < 0 := by omega
        clear hxn
        obtain ⟨lo, hi⟩ := x
        simp only at c0 c1
        go_wp2_with fail
        refine (unhide HN _).mono ?_
        rintro e w2 ⟨rfl, hb2⟩
        have HB2 := hide ((unhide HB).trans (hb2.mono (unhide HB).size))
        clear hb2
        go_wp2
        go_roundw
        case rel =>
          refine ⟨a, (a + b) / 2, by omega, by omega, rfl, ?_, H1, H2', HB2⟩
          congr 1
        case measure => simp [intOf]; omega
    · have h1 : ¬ (a : Int) < (b : Int) := by omega
      obtain rfl : a = b := by omega
      have HK : Hz (Cut (fun x => x.1) zs r a) := hide ⟨hb, unhide H1, unhide H2⟩
      by_cases hal : a < zs.length
      · obtain ⟨x, hx⟩ : ∃ x, zs[a]? = some x := ⟨_, List.getElem?_eq_getElem hal⟩
        obtain ⟨g, o, rfl, hg, hc⟩ := unhide HR (by omega)
        have c0 := ((unhide HB).cell (p := ⟨g, o + a * 2, none⟩) hg).trans (hc _ x hx).1
        have c1 := ((unhide HB).cell (p := ⟨g, o + a * 2 + 1, none⟩) hg).trans (hc _ x hx).2
        have HN := hide (fun w => below1_any x r w)
        have h2 : (a : Int) < (zs.length : Int) := by omega
        have h3 : ((a : Nat) : Int).toNat = a := by omega
        clear hx hc
        generalize cmpOf x.1 r = q at HN
        obtain ⟨lo, hi⟩ := x
        simp only at c0 c1
        go_wp2_with fail
        refine (unhide HN _).mono ?_
        rintro e w2 ⟨rfl, hb2⟩
        have HB2 := hide ((unhide HB).trans (hb2.mono (unhide HB).size))
        clear hb2
        by_cases hq : q = 0
        · subst hq
          go_wp2
          go_ret2
          first | exact ⟨a, _, rfl, unhide HK, unhide HB2⟩ | exact ⟨unhide HK, unhide HB2⟩
        · have hqe : (q == 0) = false := beq_eq_false_iff_ne.2 hq
          go_wp2
          go_ret2
          first | exact ⟨a, _, rfl, unhide HK, unhide HB2⟩ | exact ⟨unhide HK, unhide HB2⟩
      · have h2 : ¬ (a : Int) < (zs.length : Int) := by omega
        go_wp2
        go_ret2
        first | exact ⟨a, _, rfl, unhide HK, unhide HB⟩ | exact ⟨unhide HK, unhide HB⟩ | exact ⟨a, rfl, unhide HK, unhide HB⟩ | exact ⟨a, ⟨_, rfl⟩, unhide HK, unhide HB⟩ | exact ⟨a, false, rfl, unhide HK, unhide HB⟩ | exact ⟨a, by simp; exact ⟨unhide HK, unhide HB⟩⟩

end Go.Proofs.Ytemmflhofhngbaa
/- A set as it lies in memory; Below, Size and In of it. -/
namespace Go.Proofs.Ytemmflhofhngbaa
open Go.RowKit Go.Shelf
set_option linter.unusedVariables false

def spanSize (x : Int × Int) : Int := rankOf x.2 + 1 - rankOf x.1
def total : List (Int × Int) → Int
  | [] => 0
  | x :: zs => spanSize x + total zs
/-- Right spans, rising, no two of which touch. -/
structure Spread (zs : List (Int × Int)) : Prop where
  ends : ∀ x ∈ zs, endsB x = true ∧ x.1 ≤ x.2
  apart : ∀ (i j : Nat) (x y : Int × Int), i < j → zs[i]? = some x → zs[j]? = some y → rankOf x.2 + 1 < rankOf y.1
theorem runeB_iff {n : Int} (h : runeB n = true) : 0 ≤ n ∧ n ≤ 1114111 ∧ (n < 55296 ∨ 57343 < n) := by
  unfold runeB at h
  exact of_decide_eq_true h
theorem endsB_iff {x : Int × Int} (h : endsB x = true) : (0 ≤ x.1 ∧ x.1 ≤ 1114111 ∧ (x.1 < 55296 ∨ 57343 < x.1)) ∧ (0 ≤ x.2 ∧ x.2 ≤ 1114111 ∧ (x.2 < 55296 ∨ 57343 < x.2)) := by
  unfold endsB at h
  rw [Bool.and_eq_true] at h
  exact ⟨runeB_iff h.1, runeB_iff h.2⟩
theorem rank_lt {a b : Int} (ha : a < 55296 ∨ 57343 < a) (hb : b < 55296 ∨ 57343 < b) : rankOf a < rankOf b ↔ a < b := by
  unfold rankOf
  split <;> split <;> (try split) <;> (try split) <;> omega
theorem Spread.lt {zs : List (Int × Int)} (h : Spread zs) (i j : Nat) (x y : Int × Int) (hij : i < j) (hx : zs[i]? = some x) (hy : zs[j]? = some y) : x.2 < y.1 := by
  have a := endsB_iff (h.ends x (List.mem_of_getElem? hx)).1
  have b := endsB_iff (h.ends y (List.mem_of_getElem? hy)).1
  have := h.apart i j x y hij hx hy
  exact (rank_lt a.2.2.2 b.1.2.2).1 (by omega)
theorem Spread.los {zs : List (Int × Int)} (h : Spread zs) (i j : Nat) (x y : Int × Int) (hij : i < j) (hx : zs[i]? = some x) (hy : zs[j]? = some y) : x.1 < y.1 := by
  have := h.lt i j x y hij hx hy
  have := (h.ends x (List.mem_of_getElem? hx)).2
  omega
theorem Spread.his {zs : List (Int × Int)} (h : Spread zs) (i j : Nat) (x y : Int × Int) (hij : i < j) (hx : zs[i]? = some x) (hy : zs[j]? = some y) : x.2 < y.2 := by
  have := h.lt i j x y hij hx hy
  have := (h.ends y (List.mem_of_getElem? hy)).2
  omega
theorem rank_range {a : Int} (h0 : 0 ≤ a) (h1 : a ≤ 1114111) : 0 ≤ rankOf a ∧ rankOf a ≤ 1112063 := by
  unfold rankOf
  split <;> (try split) <;> omega
/-- What lies ahead of each span. -/
def RowA (W : World) (a : Option Addr) (zs : List (Int × Int)) : Prop := 0 < zs.length → ∃ g o, a = some ⟨g, o, none⟩ ∧ g < W.heap.size ∧ ∀ j, j < zs.length → W.cell? ⟨g, o + j, none⟩ = some (.int .i64 (total (zs.take j)))
theorem RowA.below {W W' : World} {a : Option Addr} {zs : List (Int × Int)} (h : RowA W a zs) (hb : Below W.heap.size W W') : RowA W' a zs := fun h0 => by
  obtain ⟨g, o, ha, hg, hc⟩ := h h0
  have := hb.size
  exact ⟨g, o, ha, by omega, fun j hj => (hb.cell (p := ⟨g, o + j, none⟩) hg).trans (hc j hj)⟩
theorem total_bound {zs : List (Int × Int)} (h : ∀ x ∈ zs, endsB x = true ∧ x.1 ≤ x.2) : 0 ≤ total zs ∧ total zs ≤ 1112064 * zs.length := by
  induction zs with
  | nil => simp [total]
  | cons x zs ih =>
    have := ih fun y hy => h y (List.mem_cons_of_mem _ hy)
    have hx := h x List.mem_cons_self
    have e := endsB_iff hx.1
    have r1 := rank_range e.1.1 e.1.2.1
    have r2 := rank_range e.2.1 e.2.2.1
    have := (rank_lt e.2.2.2 e.1.2.2)
    simp only [total, spanSize, List.length_cons]
    omega
/-- How many runes of the set lie below r, where the first k spans begin below it. -/
def belowK (zs : List (Int × Int)) (r : Int) : Nat → Int
  | 0 => 0
  | k + 1 => total (zs.take k) + min (rankOf r) (rankOf (zs.getD k (0, 0)).2 + 1) - rankOf (zs.getD k (0, 0)).1
theorem total_snoc (zs : List (Int × Int)) (x : Int × Int) : total (zs ++ [x]) = total zs + spanSize x := by
  induction zs with
  | nil => simp [total]
  | cons y zs ih => simp only [List.cons_append, total, ih]; omega
theorem belowK_all {zs : List (Int × Int)} (h : Spread zs) : belowK zs 1114112 zs.length = total zs := by
  rcases List.eq_nil_or_concat zs with rfl | ⟨ys, x, rfl⟩
  · rfl
  · have hx := h.ends x (by simp)
    have e := endsB_iff hx.1
    have r2 := rank_range e.2.1 e.2.2.1
    have hr : rankOf 1114112 = 1112064 := by decide
    rw [List.concat_eq_append, List.length_append, List.length_singleton, total_snoc]
    show total ((ys ++ [x]).take ys.length) + min (rankOf 1114112) (rankOf ((ys ++ [x]).getD ys.length (0, 0)).2 + 1) - rankOf ((ys ++ [x]).getD ys.length (0, 0)).1 = _
    have hg : (ys ++ [x]).getD ys.length (0, 0) = x := by simp [List.getD]
    rw [List.take_left' rfl, hg, hr]
    unfold spanSize
    omega
structure SetAt (W : World) (B : Nat) (zs : List (Int × Int)) : Prop where
  form : ∃ a ca b cb, Blk W B #[.slice a zs.length ca, .slice b zs.length cb] 66 ∧ RowP W a zs ∧ RowA W b zs
  spread : Spread zs
  len : zs.length ≤ 1112064
theorem SetAt.below {W W' : World} {B : Nat} {zs : List (Int × Int)} (h : SetAt W B zs) (hb : Below W.heap.size W W') : SetAt W' B zs := by
  obtain ⟨⟨a, ca, b, cb, h1, h2, h3⟩, hs, hl⟩ := h
  exact ⟨⟨a, ca, b, cb, h1.below hb h1.lt, h2.below hb, h3.below hb⟩, hs, hl⟩

set_option maxRecDepth 100000 in
set_option maxHeartbeats 4000000 in
theorem below_any (B : Nat) (zs : List (Int × Int)) (r : Int) (h0 : -2147483648 ≤ r) (h1 : r ≤ 2147483647) (w : World) (hs : SetAt w B zs) :
    Calls Try.prog 18 #[.pointer (some ⟨B, 0, none⟩), .int .i32 r] w fun e w' => ∃ k, e = .returned (.int .i64 (belowK zs r k)) ∧ Cut (fun x => x.1) zs r k ∧ Below w.heap.size w w' := by
  obtain ⟨⟨a, ca, b, cb, hb0, hp, ha⟩, hsp, hl⟩ := hs
  have d0 := hb0.cell 0
  have HQ := hide (fun w hr => search_los a ca zs (by omega) r (fun i j x y => hsp.los i j x y) w hr)
  have HP := hide hp
  have HA := hide ha
  have HBk := hide hb0
  have HS := hide hsp
  clear hp ha hsp hb0
  go_enter Try.func18, Try.ntmps18
  go_wp2_with fail
  refine (unhide HQ _ (unhide HP)).mono ?_
  rintro e w2 ⟨k, bb, rfl, hcut, hb⟩
  have HB := hide hb
  have HC := hide hcut
  have e0 := ((unhide HBk).below hb (unhide HBk).lt).cell 0
  have e1 := ((unhide HBk).below hb (unhide HBk).lt).cell 1
  have HP2 := hide ((unhide HP).below hb)
  have HA2 := hide ((unhide HA).below hb)
  have hk := hcut.1
  clear hb hcut
  cases k with
  | zero =>
    go_wp2
    go_ret
    exact ⟨0, rfl, unhide HC, unhide HB⟩
  | succ m =>
    obtain ⟨x, hx⟩ : ∃ x, zs[m]? = some x := ⟨_, List.getElem?_eq_getElem (by omega)⟩
    obtain ⟨g, o, rfl, hg, hc⟩ := unhide HP2 (by omega)
    obtain ⟨g', o', rfl, hg', hc'⟩ := unhide HA2 (by omega)
    have c0 := (hc m x hx).1
    have c1 := (hc m x hx).2
    have c2 := hc' m (by omega)
    have hgd : zs.getD m (0, 0) = x := by simp [List.getD, hx]
    have hex := (unhide HS).ends x (List.mem_of_getElem? hx)
    have hee := endsB_iff hex.1
    have r1 := rank_range hee.1.1 hee.1.2.1
    have r2 := rank_range hee.2.1 hee.2.2.1
    have htb := total_bound (zs := zs.take m) (fun y hy => (unhide HS).ends y (List.mem_of_mem_take hy))
    have hlt : (zs.take m).length ≤ 1112064 := by rw [List.length_take]; omega
    have HV : Hz (belowK zs r (m + 1) = total (zs.take m) + min (rankOf r) (rankOf x.2 + 1) - rankOf x.1) := hide (by show total (zs.take m) + min (rankOf r) (rankOf (zs.getD m (0, 0)).2 + 1) - rankOf (zs.getD m (0, 0)).1 = _; rw [hgd])
    have hrr : -2147483648 ≤ rankOf r ∧ rankOf r ≤ 2147483647 := by unfold rankOf; split <;> (try split) <;> omega
    have hlo : 0 ≤ x.1 ∧ x.1 ≤ 1114111 := ⟨hee.1.1, hee.1.2.1⟩
    have hhi : 0 ≤ x.2 ∧ x.2 ≤ 1114111 := ⟨hee.2.1, hee.2.2.1⟩
    generalize total (zs.take m) = tt at c2 htb HV
    have htt : 0 ≤ tt ∧ tt ≤ 1236686340096 := by have := htb.1; have := htb.2; omega
    clear hc hc' hgd hex hee htb hx
    obtain ⟨lo, hi⟩ := x
    simp only at c0 c1 HV r1 r2 hlo hhi
    have hm1 : ((m + 1 : Nat) : Int) - 1 = (m : Int) := by omega
    have hm2 : ((m : Nat) : Int).toNat = m := by omega
    have hm3 : (m : Int) < (zs.length : Int) := by omega
    have b1 := Blk.new w2 #[.int .i32 lo, .int .i32 hi] 28
    have q0 := b1.cell 0
    have q1 := b1.cell 1
    have HB1 := hide ((unhide HB).alloc (unhide HB).size (.cells #[.int .i32 lo, .int .i32 hi] 28))
    have f1 : (w2.alloc (.cells #[.int .i32 lo, .int .i32 hi] 28)).cell? ⟨B, 1, none⟩ = some (.slice (some ⟨g', o', none⟩) zs.length cb) := (((Below.refl _ w2).alloc (Nat.le_refl _) _).cell (p := ⟨B, 1, none⟩) ((unhide HBk).below (unhide HB) (unhide HBk).lt).lt).trans e1
    have f2 := (((Below.refl _ w2).alloc (Nat.le_refl _) (.cells #[.int .i32 lo, .int .i32 hi] 28)).cell (p := ⟨g', o' + m, none⟩) hg').trans c2
    clear b1
    go_wp2_with fail
    clear e0 e1 c0 c1 c2 d0 HP HA HP2 HA2 hg hg' HBk HS HQ HB
    go_quiet ((go_at_call 37; exact Calls.quiet_of_same (rank_any _ (by omega) (by omega) _)))
    go_wp2
    all_goals
      go_ret
      first
        | exact ⟨m + 1, by rw [unhide HV, show min (rankOf r) (rankOf hi + 1) = rankOf hi + 1 by omega]; rfl, unhide HC, below_drewN (unhide HB1) _⟩
        | exact ⟨m + 1, by rw [unhide HV, show min (rankOf r) (rankOf hi + 1) = rankOf r by omega]; rfl, unhide HC, below_drewN (unhide HB1) _⟩

set_option maxRecDepth 100000 in
theorem size_any (B : Nat) (zs : List (Int × Int)) (w : World) (hs : SetAt w B zs) :
    Calls Try.prog 10 #[.pointer (some ⟨B, 0, none⟩)] w fun e w' => e = .returned (.int .i64 (total zs)) ∧ Below w.heap.size w w' := by
  have HS := hide hs.spread
  have HQ := hide (below_any B zs 1114112 (by decide) (by decide) w hs)
  have HT : Hz (∀ k, Cut (fun x => x.1) zs 1114112 k → belowK zs 1114112 k = total zs) := hide (fun k hk => by
    have hkl : k = zs.length := by
      by_cases e : k = zs.length
      · exact e
      · have h1 := hk.1
        obtain ⟨x, hx⟩ : ∃ x, zs[k]? = some x := ⟨_, List.getElem?_eq_getElem (by omega)⟩
        have : (1114112 : Int) ≤ x.1 := hk.2.2 k x (Nat.le_refl _) hx
        have := (endsB_iff ((unhide HS).ends x (List.mem_of_getElem? hx)).1).1.2.1
        omega
    subst hkl
    exact belowK_all (unhide HS))
  clear hs
  go_enter Try.func10, Try.ntmps10
  go_wp2_with fail
  refine (unhide HQ).mono ?_
  rintro e w2 ⟨k, rfl, hc, hb⟩
  rw [unhide HT k hc]
  have HB := hide hb
  clear hb hc
  go_wp2
  go_ret
  exact ⟨rfl, unhide HB⟩
end Go.Proofs.Ytemmflhofhngbaa
/- In of a set. -/
namespace Go.Proofs.Ytemmflhofhngbaa
open Go.RowKit Go.Shelf
set_option linter.unusedVariables false

/-- Is r in the set of these spans? -/
def memB (zs : List (Int × Int)) (r : Int) : Bool := zs.any (fun x => decide (x.1 ≤ r ∧ r ≤ x.2)) && runeB r
theorem mem_cut {zs : List (Int × Int)} (h : Spread zs) {r : Int} {k : Nat} (hc : Cut (fun x => x.2) zs r k) : zs.any (fun x => decide (x.1 ≤ r ∧ r ≤ x.2)) = match zs[k]? with
    | some x => decide (x.1 ≤ r)
    | none => false := by
  obtain ⟨h1, h2, h3⟩ := hc
  cases hk : zs[k]? with
  | none =>
    rw [List.any_eq_false]
    intro x hx
    obtain ⟨i, hi, rfl⟩ := List.mem_iff_getElem.1 hx
    have hkl := List.getElem?_eq_none_iff.1 hk
    have : zs[i].2 < r := h2 i _ (by omega) (List.getElem?_eq_getElem hi)
    simp; omega
  | some y =>
    have hy : r ≤ y.2 := h3 k y (Nat.le_refl _) hk
    by_cases hl : y.1 ≤ r
    · show _ = decide (y.1 ≤ r)
      rw [decide_eq_true hl, List.any_eq_true]
      exact ⟨y, List.mem_of_getElem? hk, decide_eq_true ⟨hl, hy⟩⟩
    · show _ = decide (y.1 ≤ r)
      rw [decide_eq_false hl, List.any_eq_false]
      intro x hx
      obtain ⟨i, hi, rfl⟩ := List.mem_iff_getElem.1 hx
      have hxe := List.getElem?_eq_getElem hi
      by_cases h4 : i < k
      · have : zs[i].2 < r := h2 i _ h4 hxe
        simp; omega
      · by_cases h5 : i = k
        · subst h5
          rw [hxe] at hk
          cases hk
          simp; omega
        · have := h.lt k i y zs[i] (by omega) hk hxe
          have := (h.ends y (List.mem_of_getElem? hk)).2
          simp; omega

set_option maxRecDepth 100000 in
set_option maxHeartbeats 4000000 in
theorem in_any (B : Nat) (zs : List (Int × Int)) (r : Int) (w : World) (hs : SetAt w B zs) :
    Calls Try.prog 21 #[.pointer (some ⟨B, 0, none⟩), .int .i32 r] w fun e w' => e = .returned (.bool (memB zs r)) ∧ Below w.heap.size w w' := by
  obtain ⟨⟨a, ca, b, cb, hb0, hp, ha⟩, hsp, hl⟩ := hs
  have d0 := hb0.cell 0
  have HQ := hide (fun w hr => search_his a ca zs (by omega) r (fun i j x y => hsp.his i j x y) w hr)
  have HP := hide hp
  have HBk := hide hb0
  have HS := hide hsp
  have hwr := width_rune r
  clear hp ha hsp hb0
  go_enter Try.func21, Try.ntmps21
  go_wp2_with fail
  refine (unhide HQ _ (unhide HP)).mono ?_
  rintro e w2 ⟨k, bb, rfl, hcut, hb⟩
  have HB := hide hb
  have hmc := mem_cut (unhide HS) hcut
  have e0 := ((unhide HBk).below hb (unhide HBk).lt).cell 0
  have HP2 := hide ((unhide HP).below hb)
  have hk := hcut.1
  have HV : Hz (memB zs r = (match zs[k]? with | some x => decide (x.1 ≤ r) | none => false && runeB r)) ∨ True := .inr trivial
  clear hb hcut HV
  by_cases hkn : k < zs.length
  · obtain ⟨x, hx⟩ : ∃ x, zs[k]? = some x := ⟨_, List.getElem?_eq_getElem hkn⟩
    obtain ⟨g, o, rfl, hg, hc⟩ := unhide HP2 (by omega)
    have c0 := (hc k x hx).1
    have c1 := (hc k x hx).2
    rw [hx] at hmc
    have hk1 : (k : Int) < (zs.length : Int) := by omega
    have hk2 : ((k : Nat) : Int).toNat = k := by omega
    obtain ⟨lo, hi⟩ := x
    simp only at c0 c1 hmc
    clear hc hx
    by_cases hlr : lo ≤ r
    · have HV : Hz (memB zs r = runeB r) := hide (by unfold memB; rw [hmc, decide_eq_true hlr]; rfl)
      cases hru : runeB r with
      | true =>
        rw [hru] at HV hwr
        have hw0 : (widthOf r == 0) = false := hwr
        have hw1 : (widthOf r != 0) = true := by unfold bne; rw [hw0]; rfl
        clear hmc hwr hru
        go_wp2_with (go_at_call 40; refine (width_any _ _).mono ?_; rintro e w' ⟨rfl, rfl⟩)
        go_ret
        exact ⟨by rw [unhide HV]; rfl, unhide HB⟩
      | false =>
        rw [hru] at HV hwr
        have hw0 : (widthOf r == 0) = true := hwr
        have hw1 : (widthOf r != 0) = false := by unfold bne; rw [hw0]; rfl
        clear hmc hwr hru
        go_wp2_with (go_at_call 40; refine (width_any _ _).mono ?_; rintro e w' ⟨rfl, rfl⟩)
        go_ret
        exact ⟨by rw [unhide HV]; rfl, unhide HB⟩
    · have HV : Hz (memB zs r = false) := hide (by unfold memB; rw [hmc, decide_eq_false hlr]; rfl)
      clear hmc hwr
      go_wp2_with (go_at_call 40; refine (width_any _ _).mono ?_; rintro e w' ⟨rfl, rfl⟩)
      go_ret
      exact ⟨by rw [unhide HV]; rfl, unhide HB⟩
  · have hk1 : ¬ (k : Int) < (zs.length : Int) := by omega
    rw [List.getElem?_eq_none (by omega)] at hmc
    have HV : Hz (memB zs r = false) := hide (by unfold memB; rw [hmc]; rfl)
    clear hmc hwr
    go_wp2
    go_ret
    exact ⟨by rw [unhide HV]; rfl, unhide HB⟩
end Go.Proofs.Ytemmflhofhngbaa
/- slices.Clone at a list of spans; Spans of a set. -/
namespace Go.Proofs.Ytemmflhofhngbaa
open Go.RowKit Go.Shelf Go.Lib
set_option linter.unusedVariables false

/-- The cells of a list of spans. -/
def encP : List (Int × Int) → List Value
  | [] => []
  | x :: zs => .int .i32 x.1 :: .int .i32 x.2 :: encP zs
theorem encP_length (zs : List (Int × Int)) : (encP zs).length = zs.length * 2 := by
  induction zs with
  | nil => rfl
  | cons x zs ih => simp only [encP, List.length_cons, ih]; omega
theorem encP_at (zs : List (Int × Int)) (j : Nat) (x : Int × Int) (h : zs[j]? = some x) : (encP zs)[j * 2]? = some (.int .i32 x.1) ∧ (encP zs)[j * 2 + 1]? = some (.int .i32 x.2) := by
  induction zs generalizing j with
  | nil => simp at h
  | cons y zs ih =>
    cases j with
    | zero => simp at h; subst h; simp [encP]
    | succ j =>
      simp at h
      have := ih j h
      rw [show (j + 1) * 2 = j * 2 + 1 + 1 by omega]
      simpa [encP] using this
theorem encP_append (xs ys : List (Int × Int)) : encP (xs ++ ys) = encP xs ++ encP ys := by
  induction xs with
  | nil => rfl
  | cons x xs ih => simp only [List.cons_append, encP, ih]
theorem encP_one (zs : List (Int × Int)) : ∀ u ∈ encP zs, u.oneCell' = true := by
  induction zs with
  | nil => simp [encP]
  | cons x zs ih =>
    intro u hu
    simp only [encP, List.mem_cons] at hu
    rcases hu with rfl | rfl | hu
    · rfl
    · rfl
    · exact ih u hu
theorem encP_cells {W : World} {g o : Nat} {zs : List (Int × Int)} (hc : ∀ j x, zs[j]? = some x → W.cell? ⟨g, o + j * 2, none⟩ = some (.int .i32 x.1) ∧ W.cell? ⟨g, o + j * 2 + 1, none⟩ = some (.int .i32 x.2)) (j : Nat) (u : Value) (hu : (encP zs)[j]? = some u) : W.cell? ⟨g, o + j, none⟩ = some u := by
  have hl := (List.getElem?_eq_some_iff.1 hu).1
  rw [encP_length] at hl
  obtain ⟨x, hx⟩ : ∃ x, zs[j / 2]? = some x := ⟨_, List.getElem?_eq_getElem (by omega)⟩
  have h1 := encP_at zs _ x hx
  have h2 := hc _ x hx
  rcases Nat.mod_two_eq_zero_or_one j with e | e
  · have : j = j / 2 * 2 := by omega
    rw [← this] at h1 h2
    rw [h1.1] at hu
    cases hu
    exact h2.1
  · have : j = j / 2 * 2 + 1 := by omega
    rw [show o + j / 2 * 2 + 1 = o + j by omega] at h2
    rw [← this] at h1
    rw [h1.2] at hu
    cases hu
    exact h2.2
theorem own_row {W : World} {base n : Nat} {v : Value} {zs : List (Int × Int)} (h : W.ownsRow base 28 2 v n (encP zs)) : ∃ a c, v = .slice a zs.length c ∧ RowP W a zs ∧ n = zs.length ∧ zs.length ≤ c := by
  obtain ⟨hl, h⟩ := h
  rw [encP_length] at hl
  have hn : n = zs.length := by omega
  subst hn
  rcases h with ⟨rfl, h0⟩ | ⟨g, cap, cur, rfl, hb, hg, h1, h2, h3, h4⟩
  · exact ⟨none, 0, by rw [h0], fun h => by omega, rfl, by omega⟩
  · refine ⟨_, cap, rfl, fun h0 => ⟨g, 0, rfl, (Array.getElem?_eq_some_iff.1 hg).1, fun j x hj => ?_⟩, rfl, h1⟩
    have hbk : Blk W g cur 28 := hg
    have e := encP_at zs j x hj
    rw [← h4] at e
    have hjl := (List.getElem?_eq_some_iff.1 hj).1
    rw [List.getElem?_take, if_pos (by omega), List.getElem?_take, if_pos (by omega)] at e
    rw [Nat.zero_add, Blk.cell hbk, Blk.cell hbk]
    simpa using e

theorem alloc_cell {w : World} {a : Addr} {v : Value} (o : Obj) (h : w.cell? a = some v) : (w.alloc o).cell? a = some v := Lib.cell?_alloc_some _ h
theorem infoP : (Try.prog.info? 28).map (fun i => (i.zero, i.size, i.bytes)) = some (some (.agg #[.int .i32 0, .int .i32 0]), 2, 8) := by kernel_rfl

set_option maxRecDepth 100000 in
set_option maxHeartbeats 2000000 in
theorem clone_any (a : Option Addr) (cap : Nat) (zs : List (Int × Int)) (hz : zs.length ≤ 1073741824) (w : World) (hr : RowP w a zs) :
    Calls Try.prog 31 #[.slice a zs.length cap] w fun e w' => ∃ v, e = .returned v ∧ w'.ownsRow w.heap.size 28 2 v zs.length (encP zs) ∧ Below w.heap.size w w' := by
  have q22 : ∀ (w : World) (a : Option Addr) (n c n' c' : Nat), (binOp .eql 30 (.slice a n c) (.slice none n' c')).run Try.prog w = .ok (.bool a.isNone) w := fun w a n c n' c' => Lib.run_eql_slice_nil w _ _ a n c n' c' Try.underlying30
  obtain ⟨i0, hi, hz0, hz1, hz2⟩ := info_parts infoP
  have HI := hide (show _ ∧ _ ∧ _ ∧ _ from ⟨hi, hz0, hz1, hz2⟩)
  have HR := hide hr
  clear hi hz0 hz1 hz2 hr
  cases a with
  | none =>
    have h0 : zs = [] := by
      by_cases e : 0 < zs.length
      · obtain ⟨g, o, h, _⟩ := unhide HR e; cases h
      · exact List.eq_nil_of_length_eq_zero (by omega)
    subst h0
    go_enter Try.func31, Try.ntmps31
    go_wp2
    go_ret
    exact ⟨_, rfl, World.ownsRow_nil _ _ _ _, Below.refl _ _⟩
  | some p =>
    have HN : Hz (∀ j u, (encP zs)[j]? = some u → w.cell? (p.add j) = some u) := hide (fun j u hu => by
      have hl := (List.getElem?_eq_some_iff.1 hu).1
      rw [encP_length] at hl
      obtain ⟨g, o, h, hg, hc⟩ := unhide HR (by omega)
      cases h
      rw [add_none']
      exact encP_cells hc j u hu)
    have hb8 : zs.length * 8 ≤ 140737488355328 := by omega
    go_enter Try.func31, Try.ntmps31
    go_wp2_with (at_builtin; refine wpList_append_own _ rfl _ _ 30 rfl w.heap.size 28 i0 (.agg #[.int .i32 0, .int .i32 0]) 2 8 Try.underlying30 (unhide HI).1 (unhide HI).2.1 (unhide HI).2.2.1 (unhide HI).2.2.2 rfl (by decide) _ _ _ rfl (World.ownsRow_made w #[] 0 (Nat.le_refl _) (Nat.zero_le _) (by simp)) p zs.length cap (encP zs) rfl ?qc1 ?qc2 ?qc3 ?qc4 ?qc5 ?qc6 ?_)
    case qc1 => exact encP_length zs
    case qc2 => exact fun j u hj => alloc_cell _ (unhide HN j u hj)
    case qc3 => exact encP_one zs
    case qc4 => rw [Nat.zero_add]; unfold maxLen; omega
    case qc5 => rw [Nat.zero_add]; exact hb8
    case qc6 => simp
    intro v' w1 hown hgrow hnil
    have HO := hide hown
    have HG := hide hgrow
    clear hown hgrow hnil
    go_wp2
    go_ret
    refine ⟨v', rfl, by simpa using unhide HO, ?_⟩
    exact ((Below.refl _ w).alloc (Nat.le_refl _) _).grown (unhide HG) (by simp) (by intro k hk; simp [Value.ownBlock] at hk; omega)

theorem spans_any (B : Nat) (zs : List (Int × Int)) (w : World) (hs : SetAt w B zs) :
    Calls Try.prog 9 #[.pointer (some ⟨B, 0, none⟩)] w fun e w' => ∃ v, e = .returned v ∧ w'.ownsRow w.heap.size 28 2 v zs.length (encP zs) ∧ Below w.heap.size w w' := by
  obtain ⟨⟨a, ca, b, cb, hb0, hp, ha⟩, hsp, hl⟩ := hs
  have d0 := hb0.cell 0
  have HQ := hide (clone_any a ca zs (by omega) w hp)
  clear hp ha hsp hb0
  go_enter Try.func9, Try.ntmps9
  go_wp2_with fail
  refine (unhide HQ).mono ?_
  rintro e w2 ⟨v, rfl, ho, hb⟩
  have HO := hide ho
  have HB := hide hb
  clear ho hb
  go_wp2
  go_ret
  exact ⟨v, rfl, unhide HO, unhide HB⟩
end Go.Proofs.Ytemmflhofhngbaa
/- lay's first span: of an empty set that is being made. -/
namespace Go.Proofs.Ytemmflhofhngbaa
open Go.RowKit Go.Shelf
set_option linter.unusedVariables false
theorem spread_nil : Spread [] := ⟨fun x h => by simp at h, fun i j x y _ h => by simp at h⟩
theorem infoI : (Try.prog.info? 3).map (fun i => (i.zero, i.size, i.bytes)) = some (some (.int .i64 0), 1, 8) := by kernel_rfl
theorem one_cell (w2 : World) (v : Value) : ∀ j u, [v][j]? = some u → (w2.alloc (.cells #[v] 3)).cell? ((⟨w2.heap.size, 0, none⟩ : Addr).add j) = some u := by
  intro j u hj
  rw [add_none']
  cases j with
  | zero =>
    simp at hj
    subst hj
    exact (Blk.new w2 #[v] 3).cell 0
  | succ j => simp at hj
/-- What the first append leaves: the set's cells, the box, the list of numbers. -/
theorem mid_first {wm w2 w3 : World} {B X : Nat} {cx : Array Value} {tmp : Obj} (hB : Blk wm B #[.slice none 0 0, .slice none 0 0] 66) (hX : Blk wm X cx 28) (hb : Below wm.heap.size wm w2) (hg : (w2.alloc tmp).grownBy w3 none) :
    Blk w3 B #[.slice none 0 0, .slice none 0 0] 66 ∧ Blk w3 X cx 28 :=
  ⟨((hB.below hb hB.lt).alloc tmp).kept hg (by simp), ((hX.below hb hX.lt).alloc tmp).kept hg (by simp)⟩
/-- A set of one span that is being made. -/
def Laid (W : World) (B lo0 : Nat) (x : Int × Int) : Prop := ∃ va vb, Blk W B #[va, vb] 66 ∧ W.ownsRow lo0 28 2 va 1 (encP [x]) ∧ W.ownsRow lo0 3 1 vb 1 [.int .i64 0]
theorem two_cell (w2 : World) (x : Int × Int) : ∀ j u, (encP [x])[j]? = some u → (w2.alloc (.cells #[.int .i32 x.1, .int .i32 x.2] 28)).cell? ((⟨w2.heap.size, 0, none⟩ : Addr).add j) = some u := by
  intro j u hj
  rw [add_none']
  have b := Blk.new w2 #[.int .i32 x.1, .int .i32 x.2] 28
  match j, hj with
  | 0, hj => simp [encP] at hj; subst hj; exact b.cell 0
  | 1, hj => simp [encP] at hj; subst hj; exact b.cell 1
  | j + 2, hj => simp [encP] at hj
theorem fst_end {w wm w2 w3 : World} {B lo0 X g1 cap1 : Nat} {cx : Array Value} {tmp : Obj} (hB : Blk wm B #[.slice none 0 0, .slice none 0 0] 66) (hX : Blk wm X cx 28) (hw : Below w.heap.size w wm) (hb : Below wm.heap.size wm w2) (hg : (w2.alloc tmp).grownBy w3 none) (h0 : lo0 ≤ B) (hl : lo0 ≤ w.heap.size) (hne : X ≠ B)
    (ho : w3.ownsRow lo0 3 1 (.slice (some ⟨g1, 0, none⟩) 1 cap1) 1 [.int .i64 0]) :
    ∃ w4, w4 = w3.setCell ⟨B, 1, none⟩ (.slice (some ⟨g1, 0, none⟩) 1 cap1) ∧ Blk w4 B #[.slice none 0 0, .slice (some ⟨g1, 0, none⟩) 1 cap1] 66 ∧ Blk w4 X cx 28 ∧ w4.ownsRow lo0 3 1 (.slice (some ⟨g1, 0, none⟩) 1 cap1) 1 [.int .i64 0] ∧ Below lo0 w w4 ∧ (∀ X, X < w.heap.size → X ≠ B → w4.heap[X]? = w.heap[X]?) := by
  have hm := mid_first hB hX hb hg
  refine ⟨_, rfl, by simpa using hm.1.set 1 (.slice (some ⟨g1, 0, none⟩) 1 cap1), hm.2.other hne _, ?_, ?_, fun X hX hXB => ?_⟩
  · refine ho.kept (grown_setCell' w3 ⟨B, 1, none⟩ _) (.inr ?_)
    intro e
    simp [Value.ownBlock] at e
    subst e
    rcases ho.2 with ⟨e, _⟩ | ⟨g, cap, cur, e, _, hg', _⟩
    · simp at e
    · simp at e
      obtain ⟨rfl, _⟩ := e
      have := (show w3.heap[g1]? = _ from hm.1).symm.trans hg'
      simp at this
  · have s1 := hw.size
    have s2 := hb.size
    exact ((((hw.mono hl).trans (hb.mono (by omega))).alloc (by omega) tmp).grown hg (by simp; omega) (fun k e => by cases e)).setCell (p := ⟨B, 1, none⟩) h0 _
  · have s1 := hw.size
    have s2 := hb.size
    rw [Below.heap_setCell w3 ⟨B, 1, none⟩ _ X hXB, hg.block X (by simp; omega) (by simp), Below.heap_alloc w2 tmp X (by omega), hb.block X (by omega), hw.block X hX]
theorem snd_end {w w4 w5 : World} {B lo0 g1 cap1 g5 cap5 : Nat} {x : Int × Int} {tmp : Obj} (hB : Blk w4 B #[.slice none 0 0, .slice (some ⟨g1, 0, none⟩) 1 cap1] 66) (ho : w4.ownsRow lo0 3 1 (.slice (some ⟨g1, 0, none⟩) 1 cap1) 1 [.int .i64 0]) (hL : Below lo0 w w4) (hl : lo0 ≤ w.heap.size) (h0 : lo0 ≤ B)
    (hg : (w4.alloc tmp).drew.grownBy w5 none) (ho5 : w5.ownsRow lo0 28 2 (.slice (some ⟨g5, 0, none⟩) 1 cap5) 1 (encP [x])) (hF : ∀ X, X < w.heap.size → X ≠ B → w4.heap[X]? = w.heap[X]?) :
    Laid (w5.setCell ⟨B, 0, none⟩ (.slice (some ⟨g5, 0, none⟩) 1 cap5)) B lo0 x ∧ Below lo0 w (w5.setCell ⟨B, 0, none⟩ (.slice (some ⟨g5, 0, none⟩) 1 cap5)) ∧ (∀ X, X < w.heap.size → X ≠ B → (w5.setCell ⟨B, 0, none⟩ (.slice (some ⟨g5, 0, none⟩) 1 cap5)).heap[X]? = w.heap[X]?) := by
  have hg' : (w4.alloc tmp).grownBy w5 none := ⟨hg.os, hg.tape, hg.output, hg.size, hg.block⟩
  have hm := (hB.alloc tmp).kept hg' (by simp)
  have own_ne : ∀ {E sz : Nat} {g cap n : Nat} {xs : List Value}, 66 ≠ E → w5.ownsRow lo0 E sz (.slice (some ⟨g, 0, none⟩) n cap) n xs → g ≠ B := by
    intro E sz g cap n xs hE h e
    subst e
    rcases h.2 with ⟨e, _⟩ | ⟨g', cap', cur, e, _, hg', _⟩
    · simp at e
    · simp at e
      obtain ⟨rfl, _⟩ := e
      have := (show w5.heap[g]? = _ from hm).symm.trans hg'
      simp at this
      exact hE this.2
  have ho1 : w5.ownsRow lo0 3 1 (.slice (some ⟨g1, 0, none⟩) 1 cap1) 1 [.int .i64 0] := (ho.kept (World.grownBy_alloc w4 tmp none) (by simp [Value.ownBlock])).kept hg' (by simp [Value.ownBlock])
  have n1 := own_ne (by decide) ho1
  have n5 := own_ne (by decide) ho5
  refine ⟨⟨_, _, by simpa using hm.set 0 (.slice (some ⟨g5, 0, none⟩) 1 cap5), ho5.kept (grown_setCell' w5 ⟨B, 0, none⟩ _) (.inr (by simpa [Value.ownBlock] using n5)), ho1.kept (grown_setCell' w5 ⟨B, 0, none⟩ _) (.inr (by simpa [Value.ownBlock] using n1))⟩, ?_, fun X hX hXB => ?_⟩
  · have s1 := hL.size
    exact ((hL.alloc (by omega) tmp).grown hg' (by simp; omega) (fun k e => by cases e)).setCell (p := ⟨B, 0, none⟩) h0 _
  · have s1 := hL.size
    rw [Below.heap_setCell w5 ⟨B, 0, none⟩ _ X hXB, hg'.block X (by simp; omega) (by simp), Below.heap_alloc w4 tmp X (by omega), hF X hX hXB]
set_option maxRecDepth 100000 in
set_option maxHeartbeats 4000000 in
theorem lay_first (B lo0 : Nat) (x : Int × Int) (w : World) (hB : Blk w B #[.slice none 0 0, .slice none 0 0] 66) (h0 : lo0 ≤ B) (hl : lo0 ≤ w.heap.size) :
    Calls Try.prog 35 #[.pointer (some ⟨B, 0, none⟩), spanV x] w fun e w' => (∃ r, e = .returned r) ∧ Laid w' B lo0 x ∧ Below lo0 w w' ∧ (∀ X, X < w.heap.size → X ≠ B → w'.heap[X]? = w.heap[X]?) := by
  obtain ⟨lo, hi⟩ := x
  obtain ⟨iI, hi0, hi1, hi2, hi3⟩ := info_parts infoI
  have HI := hide (And.intro hi0 (And.intro hi1 (And.intro hi2 hi3)))
  obtain ⟨iP, hi0, hi1, hi2, hi3⟩ := info_parts infoP
  have HP := hide (And.intro hi0 (And.intro hi1 (And.intro hi2 hi3)))
  clear hi0 hi1 hi2 hi3
  have HX := hide (Blk.new w #[.int .i32 lo, .int .i32 hi] 28)
  have HBm := hide ((Below.refl w.heap.size w).alloc (Nat.le_refl _) (.cells #[.int .i32 lo, .int .i32 hi] 28))
  have HB := hide (hB.alloc (.cells #[.int .i32 lo, .int .i32 hi] 28))
  have c0 := (unhide HB).cell 0
  have c1 := (unhide HB).cell 1
  go_enter Try.func35, Try.ntmps35
  go_wp2
  generalize w.alloc (.cells #[.int .i32 lo, .int .i32 hi] 28) = wm at *
  have HBd : Hz (Blk wm.drew B #[.slice none 0 0, .slice none 0 0] 66) := hide (unhide HB)
  have HXd : Hz (Blk wm.drew w.heap.size #[.int .i32 lo, .int .i32 hi] 28) := hide (unhide HX)
  have HS := hide (size_any B [] wm.drew ⟨⟨none, 0, none, 0, unhide HBd, fun h => by simp at h, fun h => by simp at h⟩, spread_nil, by simp⟩)
  have HLm : Hz (lo0 ≤ wm.drew.heap.size) := hide (Nat.le_trans hl (unhide HBm).size)
  have HNE : Hz (w.heap.size ≠ B) := hide (fun e => by have := hB.lt; omega)
  have HBmd : Hz (Below w.heap.size w wm.drew) := hide (unhide HBm).drew
  have hmx2 : Try.prog.follows .mixedOrders = true := by kernel_rfl
  go_region_law (first
    | (go_simp; refine (unhide HS).mono ?_; rintro e w2 ⟨rfl, hb⟩; have b2 := (unhide HBd).below hb (unhide HBd).lt; have d0 := b2.cell 0; have d1 := b2.cell 1; have d3 := (b2.alloc (.cells #[.int .i64 (total [])] 3)).cell 1)
    | (refine step_append_lies _ (by rfl) _ _ _ (by rfl) lo0 3 iI (.int .i64 0) 1 8 Try.underlying47 (unhide HI).1 (unhide HI).2.1 (unhide HI).2.2.1 (unhide HI).2.2.2 rfl (by omega) (.slice none 0 0) 0 [] (by rfl) (World.ownsRow_nil _ _ _ _) ⟨w2.heap.size, 0, none⟩ 1 1 [.int .i64 (total [])] (by rfl) (by simp) (one_cell w2 _) (by simp [Value.oneCell']) (by omega) (by unfold maxLen; omega) (by omega) (by have := hb.size; have := unhide HLm; simp; omega) (w2.heap.size + 1) (by simp) ?_; intro g1 cap1 w3 hown1 hgrow1 hat1 hlt1; have hm := mid_first (unhide HBd) (unhide HXd) hb hgrow1; have e0 := hm.1.cell 0; have e1 := hm.1.cell 1; have e2 := hm.1.frozen 1))
  all_goals
    obtain ⟨w4, h4, hb4, hx4, ho4, hB4, hF4⟩ := fst_end (unhide HBd) (unhide HXd) (unhide HBmd) hb hgrow1 h0 hl (unhide HNE) hown1
    rw [← h4]
    have HB4 := hide hb4
    have HX4 := hide hx4
    have HO4 := hide ho4
    have HL4 := hide hB4
    have HF4 := hide hF4
    have p0 := hb4.cell 0
    have p1 := (hb4.alloc (.cells #[.int .i32 lo, .int .i32 hi] 28)).cell 0
    have x0 := hx4.cell 0
    have x1 := hx4.cell 1
    clear h4 hb4 hx4 ho4 hB4 hF4 hown1 hgrow1 hat1 hlt1 hm e0 e1 e2 b2 d0 d1 d3 hb HS HBd HXd HB HX c0 c1 HLm HBm
    go_wp2
    go_region_law (first
      | (refine step_append_lies _ (by rfl) _ _ _ (by rfl) lo0 28 iP (.agg #[.int .i32 0, .int .i32 0]) 2 8 Try.underlying30 (unhide HP).1 (unhide HP).2.1 (unhide HP).2.2.1 (unhide HP).2.2.2 rfl (by omega) (.slice none 0 0) 0 [] (by rfl) (World.ownsRow_nil _ _ _ _) ⟨w4.heap.size, 0, none⟩ 1 1 (encP [(lo, hi)]) (by rfl) (by simp [encP]) (two_cell w4 (lo, hi)) (encP_one _) (by omega) (by unfold maxLen; omega) (by omega) (by have := (unhide HL4).size; simp; omega) (w4.heap.size + 1) (by simp) ?_; intro g5 cap5 w5 hown5 hgrow5 hat5 hlt5; have hm5 := (show Blk (w4.alloc (.cells #[.int .i32 lo, .int .i32 hi] 28)).drew B _ 66 from (unhide HB4).alloc (.cells #[.int .i32 lo, .int .i32 hi] 28)).kept hgrow5 (by simp [Value.ownBlock]); have y0 := hm5.cell 0; have y1 := hm5.frozen 0))
    all_goals
      have HE := hide (snd_end (x := (lo, hi)) (unhide HB4) (unhide HO4) (unhide HL4) hl h0 hgrow5 hown5 (unhide HF4))
      go_end0
      exact ⟨⟨_, rfl⟩, unhide HE⟩
end Go.Proofs.Ytemmflhofhngbaa
/- Spans laid one behind the other are the fewest; the fewest are one list. -/
namespace Go.Proofs.Ytemmflhofhngbaa
open Go.RowKit Go.Shelf
set_option linter.unusedVariables false
/-- What lay makes of a set's spans and one more. -/
def layL (zs : List (Int × Int)) (x : Int × Int) : List (Int × Int) :=
  match zs.getLast? with
  | some y => if rankOf x.1 ≤ rankOf y.2 + 1 then zs.dropLast ++ [(y.1, max y.2 x.2)] else zs ++ [x]
  | none => [x]
theorem layL_nil (x : Int × Int) : layL [] x = [x] := rfl
theorem layL_touch (ys : List (Int × Int)) (y x : Int × Int) (h : rankOf x.1 ≤ rankOf y.2 + 1) : layL (ys ++ [y]) x = ys ++ [(y.1, max y.2 x.2)] := by
  unfold layL
  rw [List.getLast?_concat, List.dropLast_concat]
  simp only [if_pos h]
theorem layL_apart (ys : List (Int × Int)) (y x : Int × Int) (h : ¬ rankOf x.1 ≤ rankOf y.2 + 1) : layL (ys ++ [y]) x = ys ++ [y] ++ [x] := by
  unfold layL
  rw [List.getLast?_concat]
  simp only [if_neg h]
theorem get_snoc {ys : List (Int × Int)} {y x : Int × Int} {i : Nat} (h : (ys ++ [y])[i]? = some x) : (i < ys.length ∧ ys[i]? = some x) ∨ (i = ys.length ∧ x = y) := by
  rcases Nat.lt_trichotomy i ys.length with a | a | a
  · rw [List.getElem?_append_left a] at h; exact .inl ⟨a, h⟩
  · subst a; simp at h; exact .inr ⟨rfl, h.symm⟩
  · rw [List.getElem?_append_right (by omega)] at h
    have := (List.getElem?_eq_some_iff.1 h).1
    simp at this; omega
theorem Spread.init {ys : List (Int × Int)} {y : Int × Int} (h : Spread (ys ++ [y])) : Spread ys where
  ends x hx := h.ends x (by simp [hx])
  apart i j x z hij hx hz := by
    have hi := (List.getElem?_eq_some_iff.1 hx).1
    have hj := (List.getElem?_eq_some_iff.1 hz).1
    exact h.apart i j x z hij (by rw [List.getElem?_append_left hi]; exact hx) (by rw [List.getElem?_append_left hj]; exact hz)
theorem Spread.last {ys : List (Int × Int)} {y : Int × Int} (h : Spread (ys ++ [y])) (x : Int × Int) (hx : x ∈ ys) : rankOf x.2 + 1 < rankOf y.1 := by
  obtain ⟨i, hi, rfl⟩ := List.mem_iff_getElem.1 hx
  exact h.apart i ys.length _ _ hi (by rw [List.getElem?_append_left hi, List.getElem?_eq_getElem hi]) (by simp)
theorem Spread.snoc {ys : List (Int × Int)} {y : Int × Int} (h : Spread ys) (he : endsB y = true) (hy : y.1 ≤ y.2) (ha : ∀ x ∈ ys, rankOf x.2 + 1 < rankOf y.1) : Spread (ys ++ [y]) where
  ends x hx := by
    rcases List.mem_append.1 hx with a | a
    · exact h.ends x a
    · simp at a; subst a; exact ⟨he, hy⟩
  apart i j x z hij hx hz := by
    rcases get_snoc hz with ⟨a, b⟩ | ⟨a, b⟩
    · rcases get_snoc hx with ⟨c, d⟩ | ⟨c, d⟩
      · exact h.apart i j x z hij d b
      · omega
    · rcases get_snoc hx with ⟨c, d⟩ | ⟨c, d⟩
      · subst b; exact ha x (List.mem_of_getElem? d)
      · omega
theorem rank_le {a b : Int} (ha : a < 55296 ∨ 57343 < a) (hb : b < 55296 ∨ 57343 < b) : rankOf a ≤ rankOf b ↔ a ≤ b := by
  have := rank_lt hb ha
  omega
theorem endsB_mk {x : Int × Int} (h1 : runeB x.1 = true) (h2 : runeB x.2 = true) : endsB x = true := by unfold endsB; rw [h1, h2]; rfl
theorem endsB_parts {x : Int × Int} (h : endsB x = true) : runeB x.1 = true ∧ runeB x.2 = true := by unfold endsB at h; rwa [Bool.and_eq_true] at h
theorem layL_spread {zs : List (Int × Int)} {x : Int × Int} (h : Spread zs) (he : endsB x = true) (hx : x.1 ≤ x.2) (hl : ∀ y ∈ zs, y.1 ≤ x.1) : Spread (layL zs x) := by
  rcases List.eq_nil_or_concat zs with rfl | ⟨ys, y, rfl⟩
  · rw [layL_nil]
    exact Spread.snoc (ys := []) ⟨fun x h => by simp at h, fun i j x y _ h => by simp at h⟩ he hx (fun x h => by simp at h)
  · rw [List.concat_eq_append] at *
    have hy := h.ends y (by simp)
    by_cases t : rankOf x.1 ≤ rankOf y.2 + 1
    · rw [layL_touch _ _ _ t]
      refine Spread.snoc h.init ?_ (by show y.1 ≤ max y.2 x.2; have := hy.2; omega) (fun z hz => h.last z hz)
      refine endsB_mk (endsB_parts hy.1).1 ?_
      show runeB (max y.2 x.2) = true
      rcases Int.le_total y.2 x.2 with a | a
      · rw [Int.max_eq_right a]; exact (endsB_parts he).2
      · rw [Int.max_eq_left a]; exact (endsB_parts hy.1).2
    · rw [layL_apart _ _ _ t]
      refine Spread.snoc h he hx (fun z hz => ?_)
      rcases List.mem_append.1 hz with a | a
      · have h1 := h.last z a
        have h2 := endsB_iff hy.1
        have h3 := (rank_le h2.1.2.2 h2.2.2.2).2 hy.2
        omega
      · simp at a; subst a; omega
theorem memB_append (xs ys : List (Int × Int)) (r : Int) : memB (xs ++ ys) r = (memB xs r || memB ys r) := by
  unfold memB
  rw [List.any_append, Bool.and_or_distrib_right]
theorem memB_iff (zs : List (Int × Int)) (r : Int) : memB zs r = true ↔ (∃ x ∈ zs, x.1 ≤ r ∧ r ≤ x.2) ∧ runeB r = true := by
  unfold memB
  simp
theorem layL_mem {zs : List (Int × Int)} {x : Int × Int} (h : Spread zs) (he : endsB x = true) (hx : x.1 ≤ x.2) (hl : ∀ y ∈ zs, y.1 ≤ x.1) (r : Int) : memB (layL zs x) r = (memB zs r || memB [x] r) := by
  rcases List.eq_nil_or_concat zs with rfl | ⟨ys, y, rfl⟩
  · rw [layL_nil]; simp [memB]
  · rw [List.concat_eq_append] at *
    have hy := h.ends y (by simp)
    by_cases t : rankOf x.1 ≤ rankOf y.2 + 1
    · rw [layL_touch _ _ _ t, memB_append, memB_append, Bool.or_assoc]
      congr 1
      have h1 := endsB_iff hy.1
      have h2 := endsB_iff he
      have h3 := hl y (by simp)
      rw [Bool.eq_iff_iff, Bool.or_eq_true, memB_iff, memB_iff, memB_iff]
      simp only [List.mem_singleton, exists_eq_left]
      constructor
      · rintro ⟨⟨a, b⟩, c⟩
        have d := runeB_iff c
        by_cases e : r ≤ y.2
        · exact .inl ⟨⟨a, e⟩, c⟩
        · have f := (rank_lt h1.2.2.2 d.2.2).2 (by omega)
          have g := (rank_le h2.1.2.2 d.2.2).1 (by omega)
          exact .inr ⟨⟨g, by omega⟩, c⟩
      · rintro (⟨⟨a, b⟩, c⟩ | ⟨⟨a, b⟩, c⟩)
        · exact ⟨⟨a, by omega⟩, c⟩
        · exact ⟨⟨by omega, by omega⟩, c⟩
    · rw [layL_apart _ _ _ t, memB_append]
theorem layL_length (zs : List (Int × Int)) (x : Int × Int) : (layL zs x).length ≤ zs.length + 1 := by
  rcases List.eq_nil_or_concat zs with rfl | ⟨ys, y, rfl⟩
  · rw [layL_nil]; simp
  · rw [List.concat_eq_append]
    by_cases t : rankOf x.1 ≤ rankOf y.2 + 1
    · rw [layL_touch _ _ _ t]; simp
    · rw [layL_apart _ _ _ t]; simp
theorem layL_fst (zs : List (Int × Int)) (x z : Int × Int) (h : z ∈ layL zs x) : (∃ y ∈ zs, z.1 = y.1) ∨ z.1 = x.1 := by
  rcases List.eq_nil_or_concat zs with rfl | ⟨ys, y, rfl⟩
  · rw [layL_nil] at h; simp at h; subst h; exact .inr rfl
  · rw [List.concat_eq_append] at *
    by_cases t : rankOf x.1 ≤ rankOf y.2 + 1
    · rw [layL_touch _ _ _ t] at h
      rcases List.mem_append.1 h with a | a
      · exact .inl ⟨z, by simp [a], rfl⟩
      · simp at a; subst a; exact .inl ⟨y, by simp, rfl⟩
    · rw [layL_apart _ _ _ t] at h
      rcases List.mem_append.1 h with a | a
      · exact .inl ⟨z, a, rfl⟩
      · simp at a; subst a; exact .inr rfl
/-- Spans laid one behind the other. -/
def layAll (l : List (Int × Int)) : List (Int × Int) := l.foldl layL []
theorem layAll_snoc (l : List (Int × Int)) (x : Int × Int) : layAll (l ++ [x]) = layL (layAll l) x := by simp [layAll]
/-- Right spans. -/
def RightL (l : List (Int × Int)) : Prop := ∀ x ∈ l, endsB x = true ∧ x.1 ≤ x.2
/-- They begin rising. -/
def RisingL (l : List (Int × Int)) : Prop := ∀ (i j : Nat) (x y : Int × Int), i < j → l[i]? = some x → l[j]? = some y → x.1 ≤ y.1
theorem RisingL.init {ys : List (Int × Int)} {y : Int × Int} (h : RisingL (ys ++ [y])) : RisingL ys := fun i j x z hij hx hz => by
  have hi := (List.getElem?_eq_some_iff.1 hx).1
  have hj := (List.getElem?_eq_some_iff.1 hz).1
  exact h i j x z hij (by rw [List.getElem?_append_left hi]; exact hx) (by rw [List.getElem?_append_left hj]; exact hz)
theorem layAll_all (n : Nat) : ∀ (l : List (Int × Int)), l.length = n → RightL l → RisingL l → Spread (layAll l) ∧ (∀ r, memB (layAll l) r = memB l r) ∧ (layAll l).length ≤ l.length ∧ (∀ z ∈ layAll l, ∃ y ∈ l, z.1 = y.1) := by
  induction n with
  | zero =>
    intro l hl _ _
    have := List.eq_nil_of_length_eq_zero hl
    subst this
    exact ⟨⟨fun x h => by simp [layAll] at h, fun i j x y _ h => by simp [layAll] at h⟩, fun r => rfl, by simp [layAll], fun z h => by simp [layAll] at h⟩
  | succ n ih =>
    intro l hl hR hO
    rcases List.eq_nil_or_concat l with rfl | ⟨ys, y, rfl⟩
    · simp at hl
    · rw [List.concat_eq_append] at *
      simp at hl
      obtain ⟨h1, h2, h3, h4⟩ := ih ys hl (fun x hx => hR x (by simp [hx])) hO.init
      have hy := hR y (by simp)
      have hle : ∀ z ∈ layAll ys, z.1 ≤ y.1 := fun z hz => by
        obtain ⟨u, hu, e⟩ := h4 z hz
        obtain ⟨i, hi, rfl⟩ := List.mem_iff_getElem.1 hu
        rw [e]
        exact hO i ys.length _ _ hi (by rw [List.getElem?_append_left hi, List.getElem?_eq_getElem hi]) (by simp)
      rw [layAll_snoc]
      refine ⟨layL_spread h1 hy.1 hy.2 hle, fun r => ?_, ?_, fun z hz => ?_⟩
      · rw [layL_mem h1 hy.1 hy.2 hle, h2, memB_append]
      · have := layL_length (layAll ys) y
        simp; omega
      · rcases layL_fst _ _ _ hz with ⟨u, hu, e⟩ | e
        · obtain ⟨v, hv, e'⟩ := h4 u hu
          exact ⟨v, by simp [hv], e.trans e'⟩
        · exact ⟨y, by simp, e⟩
/-- The rune behind one. -/
def upOf (r : Int) : Int := if r = 55295 then 57344 else r + 1
theorem up_rank {r : Int} (h : runeB r = true) : rankOf (upOf r) = rankOf r + 1 := by
  have := runeB_iff h
  unfold upOf rankOf
  split <;> split <;> (try split) <;> (try split) <;> omega
theorem up_rune {r s : Int} (h : runeB r = true) (hs : runeB s = true) (hrs : r < s) : runeB (upOf r) = true ∧ upOf r ≤ s ∧ r < upOf r := by
  have h1 := runeB_iff h
  have h2 := runeB_iff hs
  unfold upOf runeB
  split
  · exact ⟨by decide, by omega, by omega⟩
  · refine ⟨decide_eq_true ?_, by omega, by omega⟩
    omega
theorem Spread.tail {x : Int × Int} {zs : List (Int × Int)} (h : Spread (x :: zs)) : Spread zs :=
  ⟨fun y hy => h.ends y (List.mem_cons_of_mem _ hy), fun i j y z hij hy hz => h.apart (i + 1) (j + 1) y z (by omega) (by simpa using hy) (by simpa using hz)⟩
theorem Spread.head {x y : Int × Int} {zs : List (Int × Int)} (h : Spread (x :: zs)) (hy : y ∈ zs) : rankOf x.2 + 1 < rankOf y.1 := by
  obtain ⟨i, hi, rfl⟩ := List.mem_iff_getElem.1 hy
  exact h.apart 0 (i + 1) _ _ (by omega) (by simp) (by simp [hi])
theorem Spread.head_lt {x y : Int × Int} {zs : List (Int × Int)} (h : Spread (x :: zs)) (hy : y ∈ zs) : x.2 < y.1 := by
  have a := endsB_iff (h.ends x (by simp)).1
  have b := endsB_iff (h.ends y (by simp [hy])).1
  have := h.head hy
  exact (rank_lt a.2.2.2 b.1.2.2).1 (by omega)
theorem head_min {x : Int × Int} {zs : List (Int × Int)} (h : Spread (x :: zs)) (r : Int) (hm : memB (x :: zs) r = true) : x.1 ≤ r := by
  obtain ⟨⟨y, hy, a, b⟩, c⟩ := (memB_iff _ _).1 hm
  rcases List.mem_cons.1 hy with e | e
  · subst e; exact a
  · have := h.head_lt e
    have := (h.ends x (by simp)).2
    omega
theorem head_mem {x : Int × Int} {zs : List (Int × Int)} (h : Spread (x :: zs)) : memB (x :: zs) x.1 = true ∧ memB (x :: zs) x.2 = true := by
  have a := h.ends x (by simp)
  have b := endsB_parts a.1
  exact ⟨(memB_iff _ _).2 ⟨⟨x, by simp, by omega, a.2⟩, b.1⟩, (memB_iff _ _).2 ⟨⟨x, by simp, a.2, by omega⟩, b.2⟩⟩
theorem head_hi {x y : Int × Int} {zs ys : List (Int × Int)} (h : Spread (x :: zs)) (g : Spread (y :: ys)) (hm : ∀ r, memB (x :: zs) r = memB (y :: ys) r) (he : x.1 = y.1) : y.2 ≤ x.2 := by
  by_cases lt : x.2 < y.2
  · have a := h.ends x (by simp)
    have b := g.ends y (by simp)
    have c := up_rune (endsB_parts a.1).2 (endsB_parts b.1).2 lt
    have d : memB (y :: ys) (upOf x.2) = true := (memB_iff _ _).2 ⟨⟨y, by simp, by omega, c.2.1⟩, c.1⟩
    rw [← hm] at d
    obtain ⟨⟨z, hz, e, f⟩, _⟩ := (memB_iff _ _).1 d
    rcases List.mem_cons.1 hz with i | i
    · subst i; omega
    · have j := h.head i
      have k := up_rank (endsB_parts a.1).2
      have l := (rank_le (endsB_iff (h.ends z hz).1).1.2.2 (runeB_iff c.1).2.2).2 e
      omega
  · omega
/-- The fewest spans of a set of runes are one list. -/
theorem spread_unique : ∀ (zs ys : List (Int × Int)), Spread zs → Spread ys → (∀ r, memB zs r = memB ys r) → zs = ys
  | [], [], _, _, _ => rfl
  | [], y :: ys, _, g, hm => by have := (head_mem g).1; rw [← hm] at this; simp [memB] at this
  | x :: zs, [], h, _, hm => by have := (head_mem h).1; rw [hm] at this; simp [memB] at this
  | x :: zs, y :: ys, h, g, hm => by
    have e1 : x.1 = y.1 := by
      have a := head_min h y.1 (by rw [hm]; exact (head_mem g).1)
      have b := head_min g x.1 (by rw [← hm]; exact (head_mem h).1)
      omega
    have e2 : x.2 = y.2 := by
      have a := head_hi h g hm e1
      have b := head_hi g h (fun r => (hm r).symm) e1.symm
      omega
    have exy : x = y := Prod.ext e1 e2
    subst exy
    have := spread_unique zs ys h.tail g.tail (fun r => by
      have hr := hm r
      rw [Bool.eq_iff_iff] at hr ⊢
      have key : ∀ (a b : List (Int × Int)), Spread (x :: a) → (memB (x :: a) r = true → memB (x :: b) r = true) → memB a r = true → memB b r = true := by
        intro a b ha hab hr
        obtain ⟨⟨z, hz, p, q⟩, c⟩ := (memB_iff _ _).1 hr
        obtain ⟨⟨u, hu, p', q'⟩, _⟩ := (memB_iff _ _).1 (hab ((memB_iff _ _).2 ⟨⟨z, by simp [hz], p, q⟩, c⟩))
        rcases List.mem_cons.1 hu with i | i
        · subst i
          have := ha.head_lt hz
          omega
        · exact (memB_iff _ _).2 ⟨⟨u, i, p', q'⟩, c⟩
      exact ⟨key zs ys h hr.1, key ys zs g hr.2⟩)
    rw [this]
theorem memB_perm {xs ys : List (Int × Int)} (h : xs.Perm ys) (r : Int) : memB xs r = memB ys r := by
  rw [Bool.eq_iff_iff, memB_iff, memB_iff]
  constructor
  · rintro ⟨⟨x, a, b⟩, c⟩; exact ⟨⟨x, h.mem_iff.1 a, b⟩, c⟩
  · rintro ⟨⟨x, a, b⟩, c⟩; exact ⟨⟨x, h.mem_iff.2 a, b⟩, c⟩
end Go.Proofs.Ytemmflhofhngbaa
