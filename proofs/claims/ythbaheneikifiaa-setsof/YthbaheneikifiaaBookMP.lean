/- The book of memory at lists of spans: how it lies, and what each of its steps makes of it. -/
import Derived.Test.YthbaheneikifiaaSetSame
namespace Go.Proofs.Ythbaheneikifiaa
open Go.RowKit Go.Shelf
set_option linter.unusedVariables false

/-- What is kept while a book is written: every block but the book's own and those of its two lists of lists. -/
def KeepsP (B lo : Nat) (W W' : World) : Prop := (∀ b cur t, Blk W b cur t → t ≠ 65 → b ≠ B → Blk W' b cur t) ∧ Below lo W W'
theorem KeepsP.refl (B lo : Nat) (W : World) : KeepsP B lo W W := ⟨fun _ _ _ h _ _ => h, Below.refl _ _⟩
theorem KeepsP.trans {B lo : Nat} {W W1 W2 : World} (h : KeepsP B lo W W1) (k : KeepsP B lo W1 W2) : KeepsP B lo W W2 := ⟨fun b cur t hb h1 h2 => k.1 b cur t (h.1 b cur t hb h1 h2) h1 h2, h.2.trans k.2⟩
theorem KeepsP.alloc {B lo : Nat} {W W1 : World} (h : KeepsP B lo W W1) (hl : lo ≤ W1.heap.size) (o : Obj) : KeepsP B lo W (W1.alloc o) := ⟨fun b cur t hb h1 h2 => (h.1 b cur t hb h1 h2).alloc o, h.2.alloc hl o⟩
theorem KeepsP.drew {B lo : Nat} {W W1 : World} (h : KeepsP B lo W W1) : KeepsP B lo W W1.drew := ⟨h.1, h.2.drew⟩
theorem KeepsP.below {B lo : Nat} {W W1 W2 : World} (h : KeepsP B lo W W1) (hl : lo ≤ W1.heap.size) (k : Below W1.heap.size W1 W2) : KeepsP B lo W W2 := ⟨fun b cur t hb h1 h2 => have q := h.1 b cur t hb h1 h2; q.below k q.lt, h.2.trans (k.mono hl)⟩
theorem KeepsP.set {B lo : Nat} {W W1 : World} (h : KeepsP B lo W W1) (hl : lo ≤ B) (i : Nat) (v : Value) : KeepsP B lo W (W1.setCell ⟨B, i, none⟩ v) := ⟨fun b cur t hb h1 h2 => (h.1 b cur t hb h1 h2).other h2 v, h.2.setCell (p := ⟨B, i, none⟩) hl v⟩
theorem KeepsP.sl {B lo : Nat} {W W1 W2 : World} {v : Value} {us : List Value} (h : KeepsP B lo W W1) (hs : SlAt W1 lo 65 v us) (hl : lo ≤ W1.heap.size) (hg : W1.grownBy W2 v.ownBlock) : KeepsP B lo W W2 :=
  ⟨fun b cur t hb h1 h2 => have q := h.1 b cur t hb h1 h2; q.kept hg (hs.blk_ne q h1), h.2.grown hg hl (fun k hk => (hs.lt k hk).1)⟩
theorem KeepsP.own {B lo : Nat} {W W' : World} (h : KeepsP B lo W W') {c : Array Value} (hB : Blk W B c 86) {base n : Nat} {v : Value} {xs : List Value} (hr : W.ownsRow base 63 2 v n xs) : W'.ownsRow base 63 2 v n xs := by
  refine ⟨hr.1, ?_⟩
  rcases hr.2 with hn | ⟨g, cap, cur, rfl, h1, h2, rest⟩
  · exact .inl hn
  · refine .inr ⟨g, cap, cur, rfl, h1, h.1 g cur _ h2 (by decide) (fun e => ?_), rest⟩
    subst e
    have := (show W.heap[g]? = _ from hB).symm.trans h2
    simp at this

/-- The book in memory: its two lists of lists. -/
structure BkP (W : World) (B lo : Nat) (vs cs : List Value) (lv wv : Value) (h : Int) : Prop where
  blk : Blk W B #[lv, wv, .int .i64 h, .bool false] 86
  ls : SlAt W lo 65 lv vs
  ws : SlAt W lo 65 wv cs
  ap : lv.ownBlock = none ∨ lv.ownBlock ≠ wv.ownBlock
  lo_le : lo ≤ B

section
variable {W W2 : World} {B lo : Nat} {vs cs : List Value} {lv wv : Value} {h : Int}
theorem BkP.alloc (b : BkP W B lo vs cs lv wv h) (o : Obj) : BkP (W.alloc o) B lo vs cs lv wv h := ⟨b.blk.alloc o, b.ls.alloc o, b.ws.alloc o, b.ap, b.lo_le⟩
theorem BkP.below (b : BkP W B lo vs cs lv wv h) (k : Below W.heap.size W W2) : BkP W2 B lo vs cs lv wv h :=
  ⟨b.blk.below k b.blk.lt, b.ls.kept (grown_of_below k) (by cases lv.ownBlock <;> simp), b.ws.kept (grown_of_below k) (by cases wv.ownBlock <;> simp), b.ap, b.lo_le⟩
theorem BkP.drew (b : BkP W B lo vs cs lv wv h) : BkP W.drew B lo vs cs lv wv h := ⟨b.blk, b.ls, b.ws, b.ap, b.lo_le⟩
/-- What is appended to the lists. -/
theorem BkP.app1 (b : BkP W B lo vs cs lv wv h) {u : Value} {g o n cap : Nat} (hs : SlAt W2 lo 65 (.slice (some ⟨g, o, none⟩) n cap) (vs ++ [u])) (hg : W.grownBy W2 lv.ownBlock) (hat : lv.ownBlock = some g ∨ W.heap.size ≤ g) :
    Blk W2 B #[lv, wv, .int .i64 h, .bool false] 86 ∧ BkP (W2.setCell ⟨B, 0, none⟩ (.slice (some ⟨g, o, none⟩) n cap)) B lo (vs ++ [u]) cs (.slice (some ⟨g, o, none⟩) n cap) wv h := by
  have kB := b.blk.kept hg (b.ls.blk_ne b.blk (by decide))
  have kw := b.ws.kept hg (apart_symm' b.ap)
  refine ⟨kB, kB.set 0 _, hs.set kB (by decide) _, kw.set kB (by decide) _, ?_, b.lo_le⟩
  refine .inr fun e => ?_
  rcases hat with ha | ha
  · rcases b.ap with hb | hb
    · rw [hb] at ha; cases ha
    · exact hb (ha.trans e)
  · have := (b.ws.lt g e.symm).2
    omega
theorem BkP.app2 (b : BkP W B lo vs cs lv wv h) {u : Value} {g o n cap : Nat} (hs : SlAt W2 lo 65 (.slice (some ⟨g, o, none⟩) n cap) (cs ++ [u])) (hg : W.grownBy W2 wv.ownBlock) (hat : wv.ownBlock = some g ∨ W.heap.size ≤ g) :
    Blk W2 B #[lv, wv, .int .i64 h, .bool false] 86 ∧ BkP (W2.setCell ⟨B, 1, none⟩ (.slice (some ⟨g, o, none⟩) n cap)) B lo vs (cs ++ [u]) lv (.slice (some ⟨g, o, none⟩) n cap) h := by
  have kB := b.blk.kept hg (b.ws.blk_ne b.blk (by decide))
  have kl := b.ls.kept hg b.ap
  refine ⟨kB, kB.set 1 _, kl.set kB (by decide) _, hs.set kB (by decide) _, ?_, b.lo_le⟩
  cases hl : lv.ownBlock with
  | none => exact .inl rfl
  | some x =>
    refine .inr fun e => ?_
    have e' : x = g := by simpa [Value.ownBlock] using e
    subst e'
    rcases hat with ha | ha
    · rcases b.ap with hb | hb
      · rw [hb] at hl; cases hl
      · exact hb (hl.trans ha.symm)
    · have := (b.ls.lt x hl).2
      omega
theorem BkP.held (b : BkP W B lo vs cs lv wv h) (h' : Int) : BkP (W.setCell ⟨B, 2, none⟩ (.int .i64 h')) B lo vs cs lv wv h' :=
  ⟨b.blk.set 2 _, b.ls.set b.blk (by decide) _, b.ws.set b.blk (by decide) _, b.ap, b.lo_le⟩
theorem BkP.good (b : BkP W B lo vs cs lv wv h) : BkP (W.setCell ⟨B, 3, none⟩ (.bool false)) B lo vs cs lv wv h :=
  ⟨b.blk.set 3 _, b.ls.set b.blk (by decide) _, b.ws.set b.blk (by decide) _, b.ap, b.lo_le⟩
theorem BkP.tail1 {g o n cap : Nat} {u : Value} {us : List Value} (b : BkP W B lo (u :: us) cs (.slice (some ⟨g, o, none⟩) n cap) wv h) : BkP (W.setCell ⟨B, 0, none⟩ (.slice (some ⟨g, o + 1, none⟩) us.length (cap - 1))) B lo us cs (.slice (some ⟨g, o + 1, none⟩) us.length (cap - 1)) wv h :=
  ⟨b.blk.set 0 _, b.ls.tail.set b.blk (by decide) _, b.ws.set b.blk (by decide) _, by simpa [Value.ownBlock] using b.ap, b.lo_le⟩
theorem BkP.tail2 {g o n cap : Nat} {u : Value} {us : List Value} (b : BkP W B lo vs (u :: us) lv (.slice (some ⟨g, o, none⟩) n cap) h) : BkP (W.setCell ⟨B, 1, none⟩ (.slice (some ⟨g, o + 1, none⟩) us.length (cap - 1))) B lo vs us lv (.slice (some ⟨g, o + 1, none⟩) us.length (cap - 1)) h :=
  ⟨b.blk.set 1 _, b.ls.set b.blk (by decide) _, b.ws.tail.set b.blk (by decide) _, by simpa [Value.ownBlock] using b.ap, b.lo_le⟩
end

/-- A list that is kept, its copy, and what both hold. -/
structure ItP where
  v : Value
  c : Value
  zs : List (Int × Int)
def OkP (W : World) (lo : Nat) (it : ItP) : Prop := W.ownsRow lo 63 2 it.v it.zs.length (encP it.zs) ∧ W.ownsRow lo 63 2 it.c it.zs.length (encP it.zs)
/-- The book with its lists. -/
structure BookP (W : World) (B lo : Nat) (its : List ItP) (lv wv : Value) (h : Int) : Prop where
  bk : BkP W B lo (its.map ItP.v) (its.map ItP.c) lv wv h
  own : ∀ it ∈ its, OkP W lo it
  dis : its.Pairwise (fun a b => a.v.ownBlock = none ∨ a.v.ownBlock ≠ b.v.ownBlock)
theorem OkP.kept {W W' : World} {B lo : Nat} {it : ItP} (h : OkP W lo it) (k : KeepsP B lo W W') {c : Array Value} (hB : Blk W B c 86) : OkP W' lo it := ⟨k.own hB h.1, k.own hB h.2⟩
theorem BookP.below {W W' : World} {B lo : Nat} {its : List ItP} {lv wv : Value} {h : Int} (b : BookP W B lo its lv wv h) (hl : lo ≤ W.heap.size) (k : Below W.heap.size W W') : BookP W' B lo its lv wv h :=
  ⟨b.bk.below k, fun it hi => (b.own it hi).kept ((KeepsP.refl B lo W).below hl k) b.bk.blk, b.dis⟩
end Go.Proofs.Ythbaheneikifiaa
