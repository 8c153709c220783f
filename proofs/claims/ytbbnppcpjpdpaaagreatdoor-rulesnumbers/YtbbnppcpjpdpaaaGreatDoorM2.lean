/- Texts of this claim, one behind the other. -/
import Derived.Test.YtbbnppcpjpdpaaaGreatDoorM1
import Derived.Lib.OthersKept
/- The function that Spots hands back, as an iterator: it hands out each spot of the text with the number of its first byte, in order, and stops where it is told to. -/
namespace Go.Proofs.YtbbnppcpjpdpaaaGreatDoor
open Go.RowKit Go.Shelf
attribute [local go_sem] Oper.semAt_some
set_option linter.unusedVariables false

/-- A fact that is kept from the walk: a structure, so that no tactic looks behind it. -/
structure Hz (p : Prop) : Prop where
  out : p
theorem hide {p : Prop} (h : p) : Hz p := ⟨h⟩
theorem unhide {p : Prop} (h : Hz p) : p := h.out

theorem grown_of_below {W W' : World} (h : Below W.heap.size W W') : W.grownBy W' none := ⟨h.os, h.tape, h.output, h.size, fun k hk _ => h.block k hk⟩
theorem grown_iterAt (w : World) (k : Nat) (s : ByteArray) (pos : Nat) : w.grownBy (w.iterAt k s pos) (some k) :=
  ⟨rfl, rfl, rfl, by rw [Lib.iterAt_size]; exact Nat.le_refl _, fun i _ h => Lib.iterAt_other w k i s pos (fun e => h (by rw [e]))⟩
theorem iterPos_at {w : World} {k : Nat} {s : ByteArray} {pos : Nat} (h : w.heap[k]? = some (.stringIter s pos)) : w.iterPos k = pos := by unfold World.iterPos; rw [h]

/-- What a round that goes on keeps: the box with the text, and whatever is walked over. -/
def KpS (b : Nat) (W W' : World) : Prop := W'.cell? ⟨b, 0, none⟩ = W.cell? ⟨b, 0, none⟩ ∧ KeepsWalks W W'
abbrev encsS (s : ByteArray) (i : Nat) : Array Value := #[.int .i64 i, encSpot (spotV s i)]

theorem cell_lt {W : World} {a : Addr} {v : Value} (h : W.cell? a = some v) : a.block < W.heap.size := by
  obtain ⟨o, ho, _⟩ := cells_of_cell h
  exact (Array.getElem?_eq_some_iff.1 ho).1
theorem startsFrom_length (s : ByteArray) : ∀ f i, (startsFrom s f i).length ≤ f
  | 0, i => by simp [startsFrom]
  | f + 1, i => by
    unfold startsFrom
    split
    · have := startsFrom_length s f (i + wd s i); simp; omega
    · simp
theorem starts_length (s : ByteArray) : (starts s).length ≤ s.size := startsFrom_length s _ _

set_option maxRecDepth 100000 in
set_option maxHeartbeats 2000000 in
theorem iter_in (n l Bn : Nat) (hn : 1 ≤ n) (s : ByteArray) (hs : s.size ≤ maxLen) (J Jx : List Nat → World → Prop) (W0 : World) (hJ : AbidesFrom W0.heap.size J)
    (hY : ∀ pre x W, J pre W → pre.length < s.size → YieldAt Fence.wide (n - 1) Tryz.prog l (encsS s x) W fun e W' =>
      (e = .returned (.bool true) ∧ J (pre ++ [x]) W' ∧ KpS Bn W W') ∨ (e = .returned (.bool false) ∧ Jx (pre ++ [x]) W'))
    (hBn : W0.cell? ⟨Bn, 0, none⟩ = some (.string s)) (h0 : J [] W0) :
    CallsIn Fence.wide n Tryz.prog 147 #[.func (.yield l) #[] #[], .pointer (some ⟨Bn, 0, none⟩)] W0 fun e W' => (∃ v, e = .returned v) ∧
      ((∃ ys, ys = starts s ∧ J ys W') ∨ (∃ pre, pre <+: starts s ∧ Jx pre W')) := by
  unfold maxLen at hs
  refine callsIn_of_wp Tryz.func147 rfl trivial ?_ rfl
  simp only [Tryz.ntmps147, List.size_toArray, List.length_cons, List.length_nil, Nat.reduceAdd, Nat.reduceSub, Array.replicate_succ, Array.replicate_zero, List.push_toArray, List.append_toArray, List.nil_append, List.cons_append]
  have hlt : Bn < W0.heap.size := cell_lt hBn
  gi_wp2
  gi_loopw [3] (fun _ wr => ∃ (pre : List Nat) (pos f : Nat), starts s = pre ++ startsFrom s f pos ∧ s.size ≤ pos + f ∧ wr.heap[W0.heap.size]? = some (.stringIter s pos) ∧ wr.cell? ⟨Bn, 0, none⟩ = some (.string s) ∧ J pre wr)
    (fun _ wr => s.size - wr.iterPos W0.heap.size)
  case atStart =>
    exact ⟨[], 0, s.size, rfl, by omega, World.iter_heap W0 s 0, ((World.grownBy_alloc W0 (.stringIter s 0) none).cell hBn (by simp)), hJ _ _ _ none h0 (World.grownBy_alloc W0 (.stringIter s 0) none) (fun r e => by cases e)⟩
  case round =>
    obtain ⟨pre, pos, f, hst, hf, hit, hc, hj⟩ := hrel
    have hpl : pre.length + (startsFrom s f pos).length ≤ s.size := by rw [← List.length_append, ← hst]; exact starts_length s
    by_cases hp : pos < s.size
    · obtain ⟨f, rfl⟩ : ∃ g, f = g + 1 := ⟨f - 1, by omega⟩
      rw [startsFrom_cons s f pos hp] at hst hpl
      have hnx : ∀ ty, (Instr.next (.pointer (some ⟨W0.heap.size, 0, none⟩)) true ty).run Tryz.prog wr = _ := fun ty => Lib.run_next_any_at wr W0.heap.size s pos ty hit hp
      have hg1 := grown_iterAt wr W0.heap.size s (pos + (Utf8.decode s pos).2)
      have hj1 := hJ pre _ _ _ hj hg1 (fun r e => by cases e; exact ⟨Nat.le_refl _, _, hit, rfl⟩)
      have hc1 := hg1.cell hc (by simp; omega)
      have hi1 := Lib.iterAt_heap wr W0.heap.size s pos (pos + (Utf8.decode s pos).2) hit
      have hsz : W0.heap.size < (wr.iterAt W0.heap.size s (pos + (Utf8.decode s pos).2)).heap.size := (Array.getElem?_eq_some_iff.1 hi1).1
      have HY := hide hY
      have HJ := hide hJ
      have HS := hide hst
      have HP := hide hit
      have HR := hide (spotR_eq s pos hp)
      clear hg1 hj hit hst hY hJ h0
      gi_wp2_with fail
      refine ⟨trivial, ?_⟩
      refine (callsIn_wide.2 (spotOf_any _ (by rw [ByteArray.size_extract]; unfold maxLen; omega) _ _)).mono ?_
      rintro e W2 ⟨rfl, hb2⟩
      rw [show spotR (s.extract pos s.size) ((Utf8.decode s pos).1 : Int) = spotV s pos from unhide HR]
      have hj2 := (unhide HJ) pre _ _ none hj1 (grown_of_below hb2) (fun r e => by cases e)
      have hc2 : W2.cell? ⟨Bn, 0, none⟩ = some (.string s) := (hb2.cell (p := ⟨Bn, 0, none⟩) (by show Bn < _; omega)).trans hc1
      have hi2 : W2.heap[W0.heap.size]? = some (.stringIter s (pos + (Utf8.decode s pos).2)) := (hb2.block _ hsz).trans hi1
      obtain ⟨fn, tmps, assign, body, hy, hR⟩ := (unhide HY) pre pos W2 hj2 (by simp at hpl; omega)
      dsimp only [encsS] at hy
      clear hj2 hb2 hnx hj1 hc1 hi1
      gi_wp2
      refine hR.mono ?_
      rintro e W3 (⟨rfl, hJ3, hk3⟩ | ⟨rfl, hJx3⟩)
      · have hi3 := hk3.2.same _ _ hi2 rfl
        have hc3 := hk3.1.trans hc2
        gi_wp2
        go_roundw
        case rel => exact ⟨pre ++ [pos], pos + wd s pos, f, by rw [unhide HS]; simp, by have := wd_pos s pos; omega, hi3, hc3, hJ3⟩
        case measure => rw [iterPos_at hi3, iterPos_at (unhide HP)]; have := wd_pos s pos; simp only [wd] at this; omega
      · gi_wp2
        refine bodyPost_ret (results_none rfl _ _ _) rfl ?_
        exact ⟨⟨_, rfl⟩, .inr ⟨pre ++ [pos], ⟨startsFrom s f (pos + wd s pos), by rw [unhide HS]; simp⟩, hJx3⟩⟩
    · have hnx : ∀ ty, (Instr.next (.pointer (some ⟨W0.heap.size, 0, none⟩)) true ty).run Tryz.prog wr = _ := fun ty => Lib.run_next_end_at wr W0.heap.size s pos ty hit hp
      rw [startsFrom_end s f pos hp, List.append_nil] at hst
      have HS := hide hst
      clear hst hY hJ h0 hpl
      gi_wp2
      go_end0
      exact ⟨⟨_, rfl⟩, .inl ⟨pre, (unhide HS).symm, hj⟩⟩

/-- The value that Spots hands back keeps the word of an iterator. -/
theorem spots_stops (n Bn : Nat) (hn : 1 ≤ n) (s : ByteArray) (hs : s.size ≤ maxLen) (w : World) (hc : w.cell? ⟨Bn, 0, none⟩ = some (.string s)) :
    SeqStopsK Fence.wide n Tryz.prog 147 #[.pointer (some ⟨Bn, 0, none⟩)] (encsS s) (KpS Bn) (fun ys => ys = starts s) (fun pre => pre <+: starts s) s.size w := fun l J Jx W hW hJ _ hY h0 =>
  iter_in n l Bn hn s hs J Jx W hJ hY ((hW.cell (p := ⟨Bn, 0, none⟩) (cell_lt hc)).trans hc) h0

theorem KpS_t {b : Nat} {A B C : World} (h : KpS b A B) (k : KpS b B C) : KpS b A C := ⟨k.1.trans h.1, h.2.trans k.2⟩
theorem KpS_b {b : Nat} {w : World} (hb : b < w.heap.size) (W : World) (l : Nat) (o o' : Obj) (hl : w.heap.size ≤ l) (h : W.heap[l]? = some o) (_ : o.isCells = false) (hw : o.isWalk = false) : KpS b W (W.putObj l o') :=
  ⟨World.cell?_of_block (World.putObj_heap_other (by show b ≠ l; omega)), KeepsWalks.putObj _ h hw⟩

theorem spots_any (s : ByteArray) (w : World) : Calls Tryz.prog 133 #[.string s] w fun e w' => e = .returned (.func (.func 147) #[] #[.pointer (some ⟨w.heap.size, 0, none⟩)]) ∧ w' = w.alloc (.cells #[.string s] 9) := by
  go_enter Tryz.func133, Tryz.ntmps133
  go_wp2
  go_ret
  exact ⟨rfl, rfl⟩
end Go.Proofs.YtbbnppcpjpdpaaaGreatDoor
/- First, told for every text: its first spot and true, or the zero spot and false. -/
namespace Go.Proofs.YtbbnppcpjpdpaaaGreatDoor
open Go.RowKit Go.Shelf
attribute [local go_sem] Oper.semAt_some
set_option linter.unusedVariables false

/-- A block of cells, none of them frozen. -/
def Blk (W : World) (B : Nat) (cs : Array Value) (t : TypeId) : Prop := W.heap[B]? = some (.cells cs t (0, 0))
theorem Blk.lt {W : World} {B : Nat} {cs : Array Value} {t : TypeId} (h : Blk W B cs t) : B < W.heap.size := (Array.getElem?_eq_some_iff.1 h).1
theorem Blk.cell {W : World} {B : Nat} {cs : Array Value} {t : TypeId} (h : Blk W B cs t) (i : Nat) : W.cell? ⟨B, i, none⟩ = cs[i]? := by
  simp [World.cell?, show W.heap[B]? = _ from h]
theorem Blk.frozen {W : World} {B : Nat} {cs : Array Value} {t : TypeId} (h : Blk W B cs t) (i : Nat) : W.frozen? ⟨B, i, none⟩ = false := by simp [World.frozen?, show W.heap[B]? = _ from h]
theorem Blk.new (W : World) (cs : Array Value) (t : TypeId) : Blk (W.alloc (.cells cs t)) W.heap.size cs t := World.alloc_heap_new W _
theorem Blk.kept {W W' : World} {row : Option Nat} {B : Nat} {cs : Array Value} {t : TypeId} (h : Blk W B cs t) (hg : W.grownBy W' row) (hne : some B ≠ row) : Blk W' B cs t := (hg.block B h.lt hne).trans h
theorem Blk.alloc {W : World} {B : Nat} {cs : Array Value} {t : TypeId} (h : Blk W B cs t) (o : Obj) : Blk (W.alloc o) B cs t := h.kept (World.grownBy_alloc W o none) (by simp)
theorem Blk.below {W W' : World} {N B : Nat} {cs : Array Value} {t : TypeId} (h : Blk W B cs t) (hb : Below N W W') (hlt : B < N) : Blk W' B cs t := (hb.block B hlt).trans h
theorem Blk.own {β : Type} (B : Nat) (cs : β → Array Value) (t : TypeId) : Own (fun s W => Blk W B (cs s) t) := fun s A A' row hs hg hr => hs.kept hg (fun e => by
  obtain ⟨o, ho, hc⟩ := hr B e.symm
  rw [show A.heap[B]? = _ from hs] at ho
  cases ho
  simp [Obj.isCells] at hc)

theorem Blk.set {W : World} {B : Nat} {cs : Array Value} {t : TypeId} (h : Blk W B cs t) (i : Nat) (v : Value) : Blk (W.setCell ⟨B, i, none⟩ v) B (cs.setIfInBounds i v) t := by
  show (W.heap.modify B _)[B]? = _
  rw [Array.getElem?_modify, if_pos rfl, show W.heap[B]? = _ from h]
  rfl
theorem Blk.other {W : World} {B B' i : Nat} {cs : Array Value} {t : TypeId} (h : Blk W B cs t) (hne : B ≠ B') (v : Value) : Blk (W.setCell ⟨B', i, none⟩ v) B cs t :=
  (Below.heap_setCell W ⟨B', i, none⟩ v B hne).trans h
theorem Blk.put {W : World} {B l : Nat} {cs : Array Value} {t : TypeId} {o : Obj} (h : Blk W B cs t) (o' : Obj) (hl : W.heap[l]? = some o) (ho : o.isCells = false) : Blk (W.putObj l o') B cs t :=
  (World.putObj_heap_other (fun e => by subst e; rw [show W.heap[B]? = _ from h] at hl; cases hl; simp [Obj.isCells] at ho)).trans h
abbrev spotCells (x : Int × Int × Bool) : Array Value := #[.int .i32 x.1, .int .i64 x.2.1, .bool x.2.2]
/-- What First answers. -/
def firstV (s : ByteArray) : Value := if 0 < s.size then .tuple #[encSpot (spotV s 0), .bool true] else .tuple #[encSpot (0, 0, false), .bool false]
theorem firstV_pos {s : ByteArray} (h : 0 < s.size) : firstV s = .tuple #[encSpot (spotV s 0), .bool true] := if_pos h
theorem firstV_neg {s : ByteArray} (h : ¬ 0 < s.size) : firstV s = .tuple #[encSpot (0, 0, false), .bool false] := if_neg h
theorem starts_head (s : ByteArray) (h : 0 < s.size) : ∃ r, starts s = 0 :: r := by
  unfold starts
  obtain ⟨m, hm⟩ : ∃ m, s.size = m + 1 := ⟨s.size - 1, by omega⟩
  rw [hm, startsFrom_cons s m 0 h]
  exact ⟨_, rfl⟩
theorem starts_empty (s : ByteArray) (h : ¬ 0 < s.size) : starts s = [] := startsFrom_end s _ _ h

set_option maxRecDepth 100000 in
set_option maxHeartbeats 2000000 in
theorem first_in (n : Nat) (hn : 3 ≤ n) (s : ByteArray) (hs : s.size ≤ maxLen) (w : World) :
    CallsIn Fence.wide n Tryz.prog 109 #[.string s] w fun e W' => e = .returned (firstV s) ∧ Below w.heap.size w W' := by
  have h1 : 1 ≤ n := by omega
  refine callsIn_of_wp_marks Tryz.func109 rfl trivial ?_ rfl
  simp only [Tryz.ntmps109, List.size_toArray, List.length_cons, List.length_nil, Nat.reduceAdd, Nat.reduceSub, Array.replicate_succ, Array.replicate_zero, List.push_toArray, List.append_toArray, List.nil_append, List.cons_append]
  gi_wp2_with (refine ⟨trivial, ?_⟩; gi_at_call 133; refine (callsIn_wide.2 (spots_any _ _)).mono ?_; rintro e w' ⟨rfl, rfl⟩)
  have b2 := ((Blk.new w (spotCells (0, 0, false)) 187).alloc (.cells #[.bool false] 4)).alloc (.cells #[.string s] 9)
  have b3 := (Blk.new (w.alloc (.cells (spotCells (0, 0, false)) 187)) #[.bool false] 4).alloc (.cells #[.string s] 9)
  have bS := Blk.new ((w.alloc (.cells (spotCells (0, 0, false)) 187)).alloc (.cells #[.bool false] 4)) #[.string s] 9
  simp only [World.size_alloc] at b3 bS
  have hB0 : Below w.heap.size w (((w.alloc (.cells (spotCells (0, 0, false)) 187)).alloc (.cells #[.bool false] 4)).alloc (.cells #[.string s] 9)) := (((Below.refl _ w).alloc (Nat.le_refl _) _).alloc (by simp) _).alloc (by simp; omega) _
  have hsz : (((w.alloc (.cells (spotCells (0, 0, false)) 187)).alloc (.cells #[.bool false] 4)).alloc (.cells #[.string s] 9)).heap.size = w.heap.size + 3 := by simp
  obtain ⟨W0, hW0⟩ : ∃ W0, ((w.alloc (.cells (spotCells (0, 0, false)) 187)).alloc (.cells #[.bool false] 4)).alloc (.cells #[.string s] 9) = W0 := ⟨_, rfl⟩
  rw [hW0] at b2 b3 bS hB0 hsz ⊢
  clear hW0
  refine wpIn_rangeFunc_ownH rfl h1 (gf := 147) (lb := #[.pointer (some ⟨w.heap.size + 1 + 1, 0, none⟩)]) rfl trivial (enters_of Tryz.func147 (by kernel_rfl) rfl)
    (spots_stops (n - 1) (w.heap.size + 1 + 1) (by omega) s hs W0 (bS.cell 0)) KpS_t (KpS_b (by omega)) (Below.refl _ _) (fun _ => rfl)
    (fun pre W => (pre = [] ∧ Blk W w.heap.size (spotCells (0, 0, false)) 187 ∧ Blk W (w.heap.size + 1) #[.bool false] 4 ∧ Blk W (w.heap.size + 1 + 1) #[.string s] 9) ∧ Below w.heap.size w W)
    (fun c pre W => (c = .ret ∧ ∃ x, pre = [x] ∧ Blk W w.heap.size (spotCells (spotV s x)) 187 ∧ Blk W (w.heap.size + 1) #[.bool true] 4) ∧ Below w.heap.size w W)
    (OwnFrom.and (Own.from (fun s A B row hs hg hr => ⟨hs.1, Blk.own _ (fun _ => _) _ () A B row hs.2.1 hg hr, Blk.own _ (fun _ => _) _ () A B row hs.2.2.1 hg hr, Blk.own _ (fun _ => _) _ () A B row hs.2.2.2 hg hr⟩) _) (ownFrom_below (Nat.le_refl _) (by omega)))
    (fun c => OwnFrom.and (Own.from (fun s A B row hs hg hr => by
      obtain ⟨hc, x, hx, k2, k3⟩ := hs
      exact ⟨hc, x, hx, Blk.own _ (fun _ => _) _ () A B row k2 hg hr, Blk.own _ (fun _ => _) _ () A B row k3 hg hr⟩) _) (ownFrom_below (Nat.le_refl _) (by omega)))
    ⟨⟨rfl, b2, b3, bS⟩, hB0⟩
    (fun x a' W => ∃ Bx, w.heap.size + 1 + 1 < Bx ∧ Blk W Bx (spotCells (spotV s x)) 187 ∧ a' = { tmps := #[.string s, undef, .pointer (some ⟨w.heap.size, 0, none⟩), .pointer (some ⟨w.heap.size + 1, 0, none⟩), undef, .pointer (some ⟨Bx, 0, none⟩), .string s, .func (.func 147) #[] #[.pointer (some ⟨w.heap.size + 1 + 1, 0, none⟩)], .int .i64 x, encSpot (spotV s x), undef, undef], defers := [] })
    (fun x a' => Own.from (fun u A B row hs hg hr => by
      obtain ⟨Bx, h1, h2, h3⟩ := hs
      exact ⟨Bx, h1, Blk.own _ (fun _ => _) _ () A B row h2 hg hr, h3⟩) _)
    ?assign ?body ?done ?stop
  case assign =>
    rintro l pre x W K ⟨⟨hp, k2, k3, kS⟩, hB⟩ hK
    gi_wp2
    exact hK _ _ ((KeepsOthers.alloc _ _).from _) ⟨(kS.alloc _).cell 0 |>.trans (kS.cell 0).symm, KeepsWalks.alloc _ _⟩ ⟨⟨hp, k2.alloc _, k3.alloc _, kS.alloc _⟩, hB.alloc hB.size _⟩ ⟨W.heap.size, kS.lt, Blk.new W _ 187, rfl⟩
  case body =>
    rintro l pre x a' W hl ⟨r, hr⟩ ⟨⟨rfl, k2, k3, kS⟩, hB⟩ ⟨Bx, hBx, bX, rfl⟩ hlt
    have x0 := bX.cell 0
    have x1 := bX.cell 1
    have x2 := bX.cell 2
    have c0 := k2.cell 0
    have c1 := k2.cell 1
    have c2 := k2.cell 2
    have c3 := k3.cell 0
    have f0 := k2.frozen
    have f3 := k3.frozen
    gi_wp2
    refine ⟨((((KeepsOthers.setCell _ _ _).trans (KeepsOthers.setCell _ _ _)).trans (KeepsOthers.setCell _ _ _)).trans (KeepsOthers.setCell _ _ _)).from _, ⟨rfl, x, rfl, ?_, ?_⟩, ?_⟩
    · exact Blk.other (((k2.set 0 _).set 1 _).set 2 _) (by omega) _
    · exact (((k3.other (by omega) _).other (by omega) _).other (by omega) _).set 0 _
    · exact (((hB.setCell (p := ⟨w.heap.size, 0, none⟩) (Nat.le_refl _) _).setCell (p := ⟨w.heap.size, 1, none⟩) (Nat.le_refl _) _).setCell (p := ⟨w.heap.size, 2, none⟩) (Nat.le_refl _) _).setCell (p := ⟨w.heap.size + 1, 0, none⟩) (by simp) _
  case done =>
    rintro D ys W hD hys ⟨⟨hne, k2, k3, _⟩, hB⟩ hK
    have hz : ¬ 0 < s.size := fun h => by
      obtain ⟨r, hr⟩ := starts_head s h
      rw [hys, hr] at hne
      cases hne
    have c0 := k2.cell 0
    have c1 := k2.cell 1
    have c2 := k2.cell 2
    have c3 := k3.cell 0
    have f0 := k2.frozen
    have f3 := k3.frozen
    clear hys hne
    gi_wp2
    have hK' := ((((KeepsOthers.setCell W ⟨w.heap.size, 0, none⟩ (.int .i32 0)).trans (KeepsOthers.setCell _ ⟨w.heap.size, 1, none⟩ (.int .i64 0))).trans (KeepsOthers.setCell _ ⟨w.heap.size, 2, none⟩ (.bool false))).trans (KeepsOthers.setCell _ ⟨w.heap.size + 1, 0, none⟩ (.bool false))).same D _ hK rfl
    have k2' := Blk.other (i := 0) (((k2.set 0 (.int .i32 0)).set 1 (.int .i64 0)).set 2 (.bool false)) (B' := w.heap.size + 1) (by omega) (.bool false)
    have k3' := (((k3.other (B' := w.heap.size) (i := 0) (by omega) (.int .i32 0)).other (B' := w.heap.size) (i := 1) (by omega) (.int .i64 0)).other (B' := w.heap.size) (i := 2) (by omega) (.bool false)).set 0 (.bool false)
    have hB' := (((hB.setCell (p := ⟨w.heap.size, 0, none⟩) (Nat.le_refl _) (.int .i32 0)).setCell (p := ⟨w.heap.size, 1, none⟩) (Nat.le_refl _) (.int .i64 0)).setCell (p := ⟨w.heap.size, 2, none⟩) (Nat.le_refl _) (.bool false)).setCell (p := ⟨w.heap.size + 1, 0, none⟩) (by simp) (.bool false)
    clear hK k2 k3 hB c0 c1 c2 c3 f0 f3
    refine ⟨by simp, .inl ⟨_, _, rfl, run_takeDeferred hK', ?_⟩⟩
    have q2 := k2'.put (.deferred Option.none) hK' rfl
    have q3 := k3'.put (.deferred Option.none) hK' rfl
    have c0 := q2.cell 0
    have c1 := q2.cell 1
    have c2 := q2.cell 2
    have c3 := q3.cell 0
    refine ⟨.tuple #[encSpot (0, 0, false), .bool false], ?_, by rw [firstV_neg hz], hB'.trans (belowK_b (w := w) (Nat.le_refl _) _ D _ _ (by omega) hK' rfl rfl)⟩
    simp [results, Tryz.f109, go_sem, c0, c1, c2, c3]
  case stop =>
    rintro D c pre W hD hpre ⟨⟨rfl, x, rfl, k2, k3⟩, hB⟩ hK
    have hz : 0 < s.size := by
      rcases Nat.eq_zero_or_pos s.size with h | h
      · rw [starts_empty s (by omega)] at hpre; simp at hpre
      · exact h
    obtain ⟨r, hr⟩ := starts_head s hz
    rw [hr] at hpre
    obtain rfl : x = 0 := by obtain ⟨t, ht⟩ := hpre; simp at ht; exact ht.1
    clear hpre hr
    gi_wp2
    refine ⟨by simp, .inl ⟨_, _, rfl, run_takeDeferred hK, ?_⟩⟩
    have q2 := k2.put (.deferred Option.none) hK rfl
    have q3 := k3.put (.deferred Option.none) hK rfl
    have c0 := q2.cell 0
    have c1 := q2.cell 1
    have c2 := q2.cell 2
    have c3 := q3.cell 0
    refine ⟨.tuple #[encSpot (spotV s 0), .bool true], ?_, by rw [firstV_pos hz], hB.trans (belowK_b (w := w) (Nat.le_refl _) W D _ _ (by omega) hK rfl rfl)⟩
    simp [results, Tryz.f109, go_sem, c0, c1, c2, c3]
end Go.Proofs.YtbbnppcpjpdpaaaGreatDoor
