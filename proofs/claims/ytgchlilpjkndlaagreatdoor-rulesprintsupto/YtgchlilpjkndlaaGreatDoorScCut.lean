/- cut: the words of a text, its walk. -/
import Derived.Test.YtgchlilpjkndlaaGreatDoorM5
import Derived.Test.YtgchlilpjkndlaaGreatDoorM9
import Derived.Deep.RegionWith
import Derived.Deep.RegionLaw
import Derived.Deep.AppendLies
import Derived.OwnWalk
namespace Go.Proofs.YtgchlilpjkndlaaGreatDoor
open Go.RowKit Go.Shelf
set_option linter.unusedVariables false
theorem own_keep {W W' : World} {lo k E sz n : Nat} {v : Value} {xs : List Value} (h : W.ownsRow lo E sz v n xs) (hg : W.grownBy W' (some k)) (hk : k < lo) : W'.ownsRow lo E sz v n xs := by
  refine h.kept hg ?_
  cases hv : v.ownBlock with
  | none => exact .inl rfl
  | some j => exact .inr (fun e => by have := (h.lt j hv).1; simp at e; omega)
theorem prod3 (z : Nat × Nat × Bool) : ∃ y n o, z = (y, n, o) := ⟨z.1, z.2.1, z.2.2, rfl⟩
/-- What the walk stands on. -/
structure CutSt (w W : World) (C : Nat) (s : ByteArray) (b : Nat) (x : Nat × Nat) (v : Value) (ws : List Wd) (cs : Array Value) : Prop where
  blk : Blk W C (ctrC s b x.1 x.2 v) 159
  box : Blk W w.heap.size cs 171
  own : W.ownsRow (w.heap.size + 1) 171 8 v ws.length (encWs ws)
  gr : w.grownBy W (some C)
  lt : C < w.heap.size
theorem CutSt.below {w W W' : World} {C : Nat} {s : ByteArray} {b : Nat} {x : Nat × Nat} {v : Value} {ws : List Wd} {cs : Array Value} (h : CutSt w W C s b x v ws cs) (hb : Below W.heap.size W W') : CutSt w W' C s b x v ws cs :=
  ⟨h.blk.below hb h.blk.lt, h.box.below hb h.box.lt, own_keep h.own ⟨hb.os, hb.tape, hb.output, hb.size, fun k hk _ => hb.block k hk⟩ (k := 0) (by omega), h.gr.trans ⟨hb.os, hb.tape, hb.output, hb.size, fun k hk _ => hb.block k hk⟩, h.lt⟩
theorem CutSt.drew {w W : World} {C : Nat} {s : ByteArray} {b : Nat} {x : Nat × Nat} {v : Value} {ws : List Wd} {cs : Array Value} (h : CutSt w W C s b x v ws cs) (q : Nat) : CutSt w (W.drewN q) C s b x v ws cs :=
  h.below ⟨rfl, rfl, rfl, Nat.le_refl _, fun _ _ => rfl⟩
theorem CutSt.drew1 {w W : World} {C : Nat} {s : ByteArray} {b : Nat} {x : Nat × Nat} {v : Value} {ws : List Wd} {cs : Array Value} (h : CutSt w W C s b x v ws cs) : CutSt w W.drew C s b x v ws cs :=
  h.below ⟨rfl, rfl, rfl, Nat.le_refl _, fun _ _ => rfl⟩
theorem CutSt.pass {w W W' : World} {C : Nat} {s : ByteArray} {b : Nat} {x : Nat × Nat} {v : Value} {ws : List Wd} {cs : Array Value} (h : CutSt w W C s b x v ws cs) {b' : Nat} {x' : Nat × Nat} (hb : Blk W' C (ctrC s b' x'.1 x'.2 v) 159) (hg : W.grownBy W' (some C)) : CutSt w W' C s b' x' v ws cs := by
  have hl := h.lt
  exact ⟨hb, h.box.kept hg (fun e => by simp at e; omega), own_keep h.own hg (by omega), h.gr.trans hg, h.lt⟩
theorem CutSt.set {w W : World} {C : Nat} {s : ByteArray} {b : Nat} {x : Nat × Nat} {v : Value} {ws : List Wd} {cs : Array Value} (h : CutSt w W C s b x v ws cs) (i : Nat) (u : Value) : CutSt w (W.setCell ⟨w.heap.size, i, none⟩ u) C s b x v ws (cs.setIfInBounds i u) := by
  have hl := h.lt
  exact ⟨h.blk.other (by omega) _, h.box.set i u, own_keep h.own (grown_setCell' W ⟨w.heap.size, i, none⟩ u) (by show w.heap.size < _; omega), h.gr.andThen (grown_setCell' W ⟨w.heap.size, i, none⟩ u) (fun j hj => by cases hj; exact .inl (Nat.le_refl _)), h.lt⟩
theorem CutSt.as {w W : World} {C : Nat} {s : ByteArray} {b : Nat} {x : Nat × Nat} {v : Value} {ws : List Wd} {cs cs' : Array Value} (h : CutSt w W C s b x v ws cs) (e : cs = cs') : CutSt w W C s b x v ws cs' := e ▸ h
theorem CutSt.app {w W W2 : World} {C : Nat} {s : ByteArray} {b : Nat} {x : Nat × Nat} {v : Value} {ws : List Wd} {cs : Array Value} {tmp : Obj} (h : CutSt w W C s b x v ws cs) (hg : (W.alloc tmp).drew.grownBy W2 v.ownBlock) : Blk W2 C (ctrC s b x.1 x.2 v) 159 ∧ Blk W2 w.heap.size cs 171 := by
  have hl := h.lt
  have hne : ∀ k, k ≤ w.heap.size → some k ≠ v.ownBlock := fun k hk e => by have := (h.own.lt k e.symm).1; omega
  have hg' : (W.alloc tmp).grownBy W2 v.ownBlock := ⟨hg.os, hg.tape, hg.output, hg.size, hg.block⟩
  exact ⟨(h.blk.alloc tmp).kept hg' (hne C (by omega)), (h.box.alloc tmp).kept hg' (hne _ (Nat.le_refl _))⟩
theorem CutSt.push {w W W2 : World} {C : Nat} {s : ByteArray} {b : Nat} {x : Nat × Nat} {v v' : Value} {ws : List Wd} {cs : Array Value} {tmp : Obj} {X : Wd} (h : CutSt w W C s b x v ws cs) (hg : (W.alloc tmp).drew.grownBy W2 v.ownBlock) (ho : W2.ownsRow (w.heap.size + 1) 171 8 v' (ws.length + 1) (encWs ws ++ wdCells X)) :
    CutSt w (W2.setCell ⟨C, 4, none⟩ v') C s b x v' (ws ++ [X]) cs := by
  have hl := h.lt
  obtain ⟨h1, h2⟩ := h.app hg
  have hg' : (W.alloc tmp).grownBy W2 v.ownBlock := ⟨hg.os, hg.tape, hg.output, hg.size, hg.block⟩
  have gr1 : w.grownBy W2 (some C) := (h.gr.trans (World.grownBy_alloc _ _ _)).andThen hg' (fun j hj => .inl (by have := (h.own.lt j hj).1; omega))
  refine ⟨h1.set 4 v', h2.other (by omega) _, ?_, gr1.trans (grown_setCell' W2 ⟨C, 4, none⟩ v'), hl⟩
  rw [List.length_append, encWs_snoc]
  exact own_keep ho (grown_setCell' W2 ⟨C, 4, none⟩ v') (by show C < _; omega)
theorem infoWord : (Tryz.prog.info? 171).map (fun i => (i.zero, i.size, i.bytes)) = some (some (.agg #[.int .i64 0, .string ⟨#[]⟩, .int .i32 0, .int .i64 0, .int .i64 0, .int .i64 0, .int .i64 0, .int .i64 0]), 8, 72) := by kernel_rfl
end Go.Proofs.YtgchlilpjkndlaaGreatDoor
