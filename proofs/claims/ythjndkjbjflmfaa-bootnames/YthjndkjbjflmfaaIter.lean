/- The function that Spots hands back, as an iterator: it hands out each spot of the text with the number of its first byte, in order, and stops where it is told to. -/
import Derived.Test.YthjndkjbjflmfaaLeaf
import Derived.Lib.OthersKept
namespace Go.Proofs.Ythjndkjbjflmfaa
open Go.RowKit Go.Shelf
attribute [local go_sem] Oper.semAt_some
set_option linter.unusedVariables false

/-- A fact that is kept from the walk: a structure, so that no tactic looks behind it. -/
structure Hz (p : Prop) : Prop where
  out : p
theorem hide {p : Prop} (h : p) : Hz p := ⟨h⟩
theorem unhide {p : Prop} (h : Hz p) : p := h.out

theorem grown_of_below {W W' : World} (h : Below W.heap.size W W') : W.grownBy W' none := ⟨h.os, h.tape, h.output, h.size, fun k hk _ => h.block k hk⟩
theorem grown_iterAt (w : World) (k : Nat) (s : ByteArray) (pos : Nat) : w.grownBy (w.iterAt k s pos) (some k) :=
  ⟨rfl, rfl, rfl, by rw [Lib.iterAt_size]; exact Nat.le_refl _, fun i _ h => Lib.iterAt_other w k i s pos (fun e => h (by rw [e]))⟩
theorem iterPos_at {w : World} {k : Nat} {s : ByteArray} {pos : Nat} (h : w.heap[k]? = some (.stringIter s pos)) : w.iterPos k = pos := by unfold World.iterPos; rw [h]

/-- What a round that goes on keeps: the box with the text, and whatever is walked over. -/
def KpS (b : Nat) (W W' : World) : Prop := W'.cell? ⟨b, 0, none⟩ = W.cell? ⟨b, 0, none⟩ ∧ KeepsWalks W W'
abbrev encsS (s : ByteArray) (i : Nat) : Array Value := #[.int .i64 i, encSpot (spotV s i)]

theorem cell_lt {W : World} {a : Addr} {v : Value} (h : W.cell? a = some v) : a.block < W.heap.size := by
  obtain ⟨o, ho, _⟩ := cells_of_cell h
  exact (Array.getElem?_eq_some_iff.1 ho).1
theorem startsFrom_length (s : ByteArray) : ∀ f i, (startsFrom s f i).length ≤ f
  | 0, i => by simp [startsFrom]
  | f + 1, i => by
    unfold startsFrom
    split
    · have := startsFrom_length s f (i + wd s i); simp; omega
    · simp
theorem starts_length (s : ByteArray) : (starts s).length ≤ s.size := startsFrom_length s _ _

set_option maxRecDepth 100000 in
set_option maxHeartbeats 2000000 in
theorem iter_in (n l Bn : Nat) (hn : 1 ≤ n) (s : ByteArray) (hs : s.size ≤ maxLen) (J Jx : List Nat → World → Prop) (W0 : World) (hJ : AbidesFrom W0.heap.size J)
    (hY : ∀ pre x W, J pre W → pre.length < s.size → YieldAt Fence.wide (n - 1) Try.prog l (encsS s x) W fun e W' =>
      (e = .returned (.bool true) ∧ J (pre ++ [x]) W' ∧ KpS Bn W W') ∨ (e = .returned (.bool false) ∧ Jx (pre ++ [x]) W'))
    (hBn : W0.cell? ⟨Bn, 0, none⟩ = some (.string s)) (h0 : J [] W0) :
    CallsIn Fence.wide n Try.prog 74 #[.func (.yield l) #[] #[], .pointer (some ⟨Bn, 0, none⟩)] W0 fun e W' => (∃ v, e = .returned v) ∧
      ((∃ ys, ys = starts s ∧ J ys W') ∨ (∃ pre, pre <+: starts s ∧ Jx pre W')) := by
  unfold maxLen at hs
  refine callsIn_of_wp Try.func74 rfl trivial ?_ rfl
  simp only [Try.ntmps74, List.size_toArray, List.length_cons, List.length_nil, Nat.reduceAdd, Nat.reduceSub, Array.replicate_succ, Array.replicate_zero, List.push_toArray, List.append_toArray, List.nil_append, List.cons_append]
  have hlt : Bn < W0.heap.size := cell_lt hBn
  gi_wp2
  gi_loopw [3] (fun _ wr => ∃ (pre : List Nat) (pos f : Nat), starts s = pre ++ startsFrom s f pos ∧ s.size ≤ pos + f ∧ wr.heap[W0.heap.size]? = some (.stringIter s pos) ∧ wr.cell? ⟨Bn, 0, none⟩ = some (.string s) ∧ J pre wr)
    (fun _ wr => s.size - wr.iterPos W0.heap.size)
  case atStart =>
    exact ⟨[], 0, s.size, rfl, by omega, World.iter_heap W0 s 0, ((World.grownBy_alloc W0 (.stringIter s 0) none).cell hBn (by simp)), hJ _ _ _ none h0 (World.grownBy_alloc W0 (.stringIter s 0) none) (fun r e => by cases e)⟩
  case round =>
    obtain ⟨pre, pos, f, hst, hf, hit, hc, hj⟩ := hrel
    have hpl : pre.length + (startsFrom s f pos).length ≤ s.size := by rw [← List.length_append, ← hst]; exact starts_length s
    by_cases hp : pos < s.size
    · obtain ⟨f, rfl⟩ : ∃ g, f = g + 1 := ⟨f - 1, by omega⟩
      rw [startsFrom_cons s f pos hp] at hst hpl
      have hnx : ∀ ty, (Instr.next (.pointer (some ⟨W0.heap.size, 0, none⟩)) true ty).run Try.prog wr = _ := fun ty => Lib.run_next_any_at wr W0.heap.size s pos ty hit hp
      have hg1 := grown_iterAt wr W0.heap.size s (pos + (Utf8.decode s pos).2)
      have hj1 := hJ pre _ _ _ hj hg1 (fun r e => by cases e; exact ⟨Nat.le_refl _, _, hit, rfl⟩)
      have hc1 := hg1.cell hc (by simp; omega)
      have hi1 := Lib.iterAt_heap wr W0.heap.size s pos (pos + (Utf8.decode s pos).2) hit
      have hsz : W0.heap.size < (wr.iterAt W0.heap.size s (pos + (Utf8.decode s pos).2)).heap.size := (Array.getElem?_eq_some_iff.1 hi1).1
      have HY := hide hY
      have HJ := hide hJ
      have HS := hide hst
      have HP := hide hit
      have HR := hide (spotR_eq s pos hp)
      clear hg1 hj hit hst hY hJ h0
      gi_wp2_with fail
      refine ⟨trivial, ?_⟩
      refine (callsIn_wide.2 (spotOf_any _ (by rw [ByteArray.size_extract]; unfold maxLen; omega) _ _)).mono ?_
      rintro e W2 ⟨rfl, hb2⟩
      rw [show spotR (s.extract pos s.size) ((Utf8.decode s pos).1 : Int) = spotV s pos from unhide HR]
      have hj2 := (unhide HJ) pre _ _ none hj1 (grown_of_below hb2) (fun r e => by cases e)
      have hc2 : W2.cell? ⟨Bn, 0, none⟩ = some (.string s) := (hb2.cell (p := ⟨Bn, 0, none⟩) (by show Bn < _; omega)).trans hc1
      have hi2 : W2.heap[W0.heap.size]? = some (.stringIter s (pos + (Utf8.decode s pos).2)) := (hb2.block _ hsz).trans hi1
      obtain ⟨fn, tmps, assign, body, hy, hR⟩ := (unhide HY) pre pos W2 hj2 (by simp at hpl; omega)
      dsimp only [encsS] at hy
      clear hj2 hb2 hnx hj1 hc1 hi1
      gi_wp2
      refine hR.mono ?_
      rintro e W3 (⟨rfl, hJ3, hk3⟩ | ⟨rfl, hJx3⟩)
      · have hi3 := hk3.2.same _ _ hi2 rfl
        have hc3 := hk3.1.trans hc2
        gi_wp2
        go_roundw
        case rel => exact ⟨pre ++ [pos], pos + wd s pos, f, by rw [unhide HS]; simp, by have := wd_pos s pos; omega, hi3, hc3, hJ3⟩
        case measure => rw [iterPos_at hi3, iterPos_at (unhide HP)]; have := wd_pos s pos; simp only [wd] at this; omega
      · gi_wp2
        refine bodyPost_ret (results_none rfl _ _ _) rfl ?_
        exact ⟨⟨_, rfl⟩, .inr ⟨pre ++ [pos], ⟨startsFrom s f (pos + wd s pos), by rw [unhide HS]; simp⟩, hJx3⟩⟩
    · have hnx : ∀ ty, (Instr.next (.pointer (some ⟨W0.heap.size, 0, none⟩)) true ty).run Try.prog wr = _ := fun ty => Lib.run_next_end_at wr W0.heap.size s pos ty hit hp
      rw [startsFrom_end s f pos hp, List.append_nil] at hst
      have HS := hide hst
      clear hst hY hJ h0 hpl
      gi_wp2
      go_end0
      exact ⟨⟨_, rfl⟩, .inl ⟨pre, (unhide HS).symm, hj⟩⟩

/-- The value that Spots hands back keeps the word of an iterator. -/
theorem spots_stops (n Bn : Nat) (hn : 1 ≤ n) (s : ByteArray) (hs : s.size ≤ maxLen) (w : World) (hc : w.cell? ⟨Bn, 0, none⟩ = some (.string s)) :
    SeqStopsK Fence.wide n Try.prog 74 #[.pointer (some ⟨Bn, 0, none⟩)] (encsS s) (KpS Bn) (fun ys => ys = starts s) (fun pre => pre <+: starts s) s.size w := fun l J Jx W hW hJ _ hY h0 =>
  iter_in n l Bn hn s hs J Jx W hJ hY ((hW.cell (p := ⟨Bn, 0, none⟩) (cell_lt hc)).trans hc) h0

theorem KpS_t {b : Nat} {A B C : World} (h : KpS b A B) (k : KpS b B C) : KpS b A C := ⟨k.1.trans h.1, h.2.trans k.2⟩
theorem KpS_b {b : Nat} {w : World} (hb : b < w.heap.size) (W : World) (l : Nat) (o o' : Obj) (hl : w.heap.size ≤ l) (h : W.heap[l]? = some o) (_ : o.isCells = false) (hw : o.isWalk = false) : KpS b W (W.putObj l o') :=
  ⟨World.cell?_of_block (World.putObj_heap_other (by show b ≠ l; omega)), KeepsWalks.putObj _ h hw⟩

theorem spots_any (s : ByteArray) (w : World) : Calls Try.prog 59 #[.string s] w fun e w' => e = .returned (.func (.func 74) #[] #[.pointer (some ⟨w.heap.size, 0, none⟩)]) ∧ w' = w.alloc (.cells #[.string s] 9) := by
  go_enter Try.func59, Try.ntmps59
  go_wp2
  go_ret
  exact ⟨rfl, rfl⟩
end Go.Proofs.Ythjndkjbjflmfaa
