/- The function that utf.Spots hands back, as an iterator under the law for ranges that range themselves. -/
import Derived.Test.YtnphbjhikapoeaaSetIter
import Derived.Test.YtnphbjhikapoeaaIter
namespace Go.Proofs.Ytnphbjhikapoeaa
open Go.RowKit Go.Shelf
attribute [local go_sem] Oper.semAt_some
set_option linter.unusedVariables false
/-- One block is kept. -/
def KpO (Bn : Nat) (W W' : World) : Prop := W'.heap[Bn]? = W.heap[Bn]?
theorem KpO_t {Bn : Nat} {A B C : World} (h : KpO Bn A B) (k : KpO Bn B C) : KpO Bn A C := Eq.trans k h
theorem KpO_b {Bn : Nat} (W : World) (l : Nat) (o : Obj) (hl : Bn < l) : KpO Bn W (W.putObj l o) := World.putObj_heap_other (by omega)
theorem below_iterAt {B : Nat} (W : World) (k : Nat) (s : ByteArray) (pos : Nat) (h : B ≤ k) : Below B W (W.iterAt k s pos) :=
  ⟨rfl, rfl, rfl, by rw [Lib.iterAt_size]; exact Nat.le_refl _, fun i hi => Lib.iterAt_other W k i s pos (by omega)⟩
set_option maxRecDepth 100000 in
set_option maxHeartbeats 2000000 in
theorem spots_in (n l Bn : Nat) (hn : 1 ≤ n) (s : ByteArray) (hs : s.size ≤ maxLen) (J Jx : List Nat → World → Prop) (W0 : World) (hbx : W0.cell? ⟨Bn, 0, none⟩ = some (.string s)) (hJ : Old W0.heap.size J)
    (hY : ∀ pre x W1, J pre W1 → pre ++ [x] <+: starts s → W0.heap.size ≤ W1.heap.size → YieldAt Fence.wide (n - 1) Try.prog l (encsS s x) W1 fun e W' => Above W0.heap.size W1 W' ∧
      ((e = .returned (.bool true) ∧ J (pre ++ [x]) W' ∧ KpO Bn W1 W') ∨ (e = .returned (.bool false) ∧ Jx (pre ++ [x]) W')))
    (h0 : J [] W0) :
    CallsIn Fence.wide n Try.prog 74 #[.func (.yield l) #[] #[], .pointer (some ⟨Bn, 0, none⟩)] W0 fun e W' => (∃ v, e = .returned v) ∧
      ((∃ ys, ys = starts s ∧ J ys W') ∨ (∃ pre, pre <+: starts s ∧ Jx pre W')) := by
  unfold maxLen at hs
  have d0 := hbx
  have hlt : Bn < W0.heap.size := cell_lt hbx
  have HBx := hide hbx
  have HY := hide hY
  have HJ := hide hJ
  have H0 := hide h0
  clear hY hJ h0 hbx
  refine callsIn_of_wp Try.func74 rfl trivial ?_ rfl
  simp only [Try.ntmps74, List.size_toArray, List.length_cons, List.length_nil, Nat.reduceAdd, Nat.reduceSub, Array.replicate_succ, Array.replicate_zero, List.push_toArray, List.append_toArray, List.nil_append, List.cons_append]
  gi_wp2
  gi_loopw [3] (fun _ wr => ∃ (pre : List Nat) (pos f : Nat), Hid (starts s = pre ++ startsFrom s f pos) ∧ s.size ≤ pos + f ∧ Hid (wr.heap[W0.heap.size]? = some (.stringIter s pos)) ∧ Hid (wr.cell? ⟨Bn, 0, none⟩ = some (.string s)) ∧ Hid (J pre wr))
    (fun _ wr => s.size - wr.iterPos W0.heap.size)
  case atStart =>
    exact ⟨[], 0, s.size, hide rfl, by omega, hide (World.iter_heap W0 s 0), hide ((((Below.refl W0.heap.size W0).alloc (Nat.le_refl _) (.stringIter s 0)).cell (p := ⟨Bn, 0, none⟩) hlt).trans (unhide HBx)), hide (unhide HJ _ _ _ (unhide H0) ((Below.refl W0.heap.size W0).alloc (Nat.le_refl _) (.stringIter s 0)))⟩
  case round =>
    obtain ⟨pre, pos, f, HST, hf, HIT, HK, HJ1⟩ := hrel
    have hit := unhide HIT
    by_cases hp : pos < s.size
    · obtain ⟨f, rfl⟩ : ∃ g, f = g + 1 := ⟨f - 1, by omega⟩
      have hst := unhide HST
      rw [startsFrom_cons s f pos hp] at hst
      have hnx : ∀ ty, (Instr.next (.pointer (some ⟨W0.heap.size, 0, none⟩)) true ty).run Try.prog wr = _ := fun ty => Lib.run_next_any_at wr W0.heap.size s pos ty hit hp
      have hb1 := below_iterAt wr W0.heap.size s (pos + (Utf8.decode s pos).2) (Nat.le_refl W0.heap.size)
      have hi1 := Lib.iterAt_heap wr W0.heap.size s pos (pos + (Utf8.decode s pos).2) hit
      have hsz : W0.heap.size < (wr.iterAt W0.heap.size s (pos + (Utf8.decode s pos).2)).heap.size := (Array.getElem?_eq_some_iff.1 hi1).1
      have HJ2 := hide (unhide HJ _ _ _ (unhide HJ1) hb1)
      have HK2 := hide ((hb1.cell (p := ⟨Bn, 0, none⟩) hlt).trans (unhide HK))
      have HI1 := hide hi1
      have HS := hide hst
      have hc1 := unhide HK2
      have HR := hide (spotR_eq s pos hp)
      clear hb1 hi1 hst hit HJ1 HST HK
      gi_wp2_with fail
      refine ⟨trivial, ?_⟩
      refine (callsIn_wide.2 (spotOf_any _ (by rw [ByteArray.size_extract]; unfold maxLen; omega) _ _)).mono ?_
      rintro e W2 ⟨rfl, hb2⟩
      rw [show spotR (s.extract pos s.size) ((Utf8.decode s pos).1 : Int) = spotV s pos from unhide HR]
      have hj2 := unhide HJ _ _ _ (unhide HJ2) (hb2.mono (by omega))
      have HK3 := hide ((hb2.cell (p := ⟨Bn, 0, none⟩) (by show Bn < _; omega)).trans (unhide HK2))
      have HI2 : Hid (W2.heap[W0.heap.size]? = some (.stringIter s (pos + (Utf8.decode s pos).2))) := hide ((hb2.block _ hsz).trans (unhide HI1))
      have hge2 : W0.heap.size ≤ W2.heap.size := by have := hb2.size; omega
      obtain ⟨fn, tmps, assign, body, hy, hR⟩ := (unhide HY) pre pos W2 hj2 ⟨startsFrom s f (pos + wd s pos), by rw [unhide HS]; simp⟩ hge2
      dsimp only [encsS] at hy
      have HRR := hide hR
      clear hj2 hb2 hnx hc1 hR HJ2 HK2 HI1
      gi_wp2
      refine (unhide HRR).mono ?_
      rintro e W3 ⟨hab, (⟨rfl, hJ3, hk3⟩ | ⟨rfl, hJx3⟩)⟩
      · have HI3 : Hid (W3.heap[W0.heap.size]? = some (.stringIter s (pos + (Utf8.decode s pos).2))) := hide ((hab.same _ (Nat.le_refl _) (Array.getElem?_eq_some_iff.1 (unhide HI2)).1).trans (unhide HI2))
        have HK4 := hide ((show W3.cell? ⟨Bn, 0, none⟩ = W2.cell? ⟨Bn, 0, none⟩ from World.cell?_of_block (show W3.heap[(⟨Bn, 0, none⟩ : Addr).block]? = W2.heap[(⟨Bn, 0, none⟩ : Addr).block]? from hk3)).trans (unhide HK3))
        have HJ3 := hide hJ3
        have hc3 := unhide HK4
        clear hJ3 hk3 hab hy
        gi_wp2
        go_roundw
        case rel => exact ⟨pre ++ [pos], pos + wd s pos, f, hide (by rw [unhide HS]; simp), by have := wd_pos s pos; omega, HI3, HK4, HJ3⟩
        case measure => rw [iterPos_at (unhide HI3), iterPos_at (unhide HIT)]; have := wd_pos s pos; simp only [wd] at this; omega
      · have HJx3 := hide hJx3
        clear hJx3 hab hy
        gi_wp2
        refine bodyPost_ret (results_none rfl _ _ _) rfl ?_
        exact ⟨⟨_, rfl⟩, .inr ⟨pre ++ [pos], ⟨startsFrom s f (pos + wd s pos), by rw [unhide HS]; simp⟩, unhide HJx3⟩⟩
    · have hnx : ∀ ty, (Instr.next (.pointer (some ⟨W0.heap.size, 0, none⟩)) true ty).run Try.prog wr = _ := fun ty => Lib.run_next_end_at wr W0.heap.size s pos ty hit hp
      have hst := unhide HST
      rw [startsFrom_end s f pos hp, List.append_nil] at hst
      have HE : Hid (J (starts s) wr) := hide (by rw [hst]; exact unhide HJ1)
      clear hst hit
      gi_wp2
      go_end0
      first
        | exact ⟨⟨_, rfl⟩, .inl ⟨_, rfl, unhide HE⟩⟩
        | exact ⟨⟨_, rfl⟩, .inl (unhide HE)⟩
theorem spots_deep (n Bn : Nat) (hn : 1 ≤ n) (s : ByteArray) (hs : s.size ≤ maxLen) (w : World) (hbx : w.cell? ⟨Bn, 0, none⟩ = some (.string s)) :
    SeqDeep Fence.wide n Try.prog 74 #[.pointer (some ⟨Bn, 0, none⟩)] (encsS s) (KpO Bn) (fun ys => ys = starts s) (fun pre => pre <+: starts s) (fun pre x => pre ++ [x] <+: starts s) w := fun l J Jx W hW hJ _ hY h0 =>
  spots_in n l Bn hn s hs J Jx W ((hW.cell (p := ⟨Bn, 0, none⟩) (cell_lt hbx)).trans hbx) hJ hY h0
end Go.Proofs.Ytnphbjhikapoeaa
