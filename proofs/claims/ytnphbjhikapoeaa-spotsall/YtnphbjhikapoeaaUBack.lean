/- The function that utf.Back hands back, as an iterator under the law for ranges that range themselves. -/
import Derived.Test.YtnphbjhikapoeaaBackMath
import Derived.Test.YtnphbjhikapoeaaSpotsDeep
namespace Go.Proofs.Ytnphbjhikapoeaa
open Go.RowKit Go.Shelf
attribute [local go_sem] Oper.semAt_some
set_option linter.unusedVariables false
/-- pre is handed out; what lies before the place p is still to come. -/
def Bk (s : ByteArray) (pre : List Nat) (p : Nat) : Prop := p ≤ s.size ∧ bdB s p = true ∧ starts s = starts (s.extract 0 p) ++ pre.reverse
theorem bk_begin (s : ByteArray) : Bk s [] s.size := ⟨Nat.le_refl _, bd_end s, by rw [ByteArray.extract_zero_size]; simp⟩
theorem bk_end (s : ByteArray) (pre : List Nat) (h : Bk s pre 0) : pre = (starts s).reverse := by
  have e : starts (s.extract 0 0) = [] := starts_empty _ (by rw [ByteArray.size_extract]; omega)
  have := h.2.2
  rw [e, List.nil_append] at this
  rw [this, List.reverse_reverse]
theorem bk_next (s : ByteArray) (pre : List Nat) (p : Nat) (h : Bk s pre p) (h0 : 0 < p) : ∃ q, q < p ∧ p = q + wd s q ∧ lastS (s.extract 0 p) = spotV s q ∧ Bk s (pre ++ [q]) q := by
  obtain ⟨q, h1, h2, h3, h4, h5⟩ := bk_step s p h0 h.1 h.2.1
  refine ⟨q, h1, h3, h4, by have := h.1; omega, h2, ?_⟩
  rw [h.2.2, h5]
  simp
theorem bk_pre (s : ByteArray) (pre : List Nat) (p : Nat) (h : Bk s pre p) : pre <+: (starts s).reverse := ⟨(starts (s.extract 0 p)).reverse, by rw [h.2.2]; simp⟩
theorem bk_len (s : ByteArray) (pre : List Nat) (p : Nat) (h : Bk s pre p) (h0 : 0 < p) : pre.length < s.size := by
  obtain ⟨q, _, _, _, hn⟩ := bk_next s pre p h h0
  have h1 := congrArg List.length hn.2.2
  have h2 := starts_length s
  simp at h1
  omega

set_option maxRecDepth 100000 in
set_option maxHeartbeats 2000000 in
theorem uback_in (n l Bn : Nat) (hn : 1 ≤ n) (s : ByteArray) (hs : s.size ≤ maxLen) (J Jx : List Nat → World → Prop) (W0 : World) (hJ : Old W0.heap.size J)
    (hY : ∀ pre x W, J pre W → pre ++ [x] <+: (starts s).reverse → W0.heap.size ≤ W.heap.size → YieldAt Fence.wide (n - 1) Try.prog l (encsS s x) W fun e W' => Above W0.heap.size W W' ∧
      ((e = .returned (.bool true) ∧ J (pre ++ [x]) W' ∧ KpO Bn W W') ∨ (e = .returned (.bool false) ∧ Jx (pre ++ [x]) W')))
    (hBn : W0.cell? ⟨Bn, 0, none⟩ = some (.string s)) (h0 : J [] W0) :
    CallsIn Fence.wide n Try.prog 76 #[.func (.yield l) #[] #[], .pointer (some ⟨Bn, 0, none⟩)] W0 fun e W' => (∃ v, e = .returned v) ∧
      ((∃ ys, ys = (starts s).reverse ∧ J ys W') ∨ (∃ pre, pre <+: (starts s).reverse ∧ Jx pre W')) := by
  unfold maxLen at hs
  refine callsIn_of_wp Try.func76 rfl trivial ?_ rfl
  simp only [Try.ntmps76, List.size_toArray, List.length_cons, List.length_nil, Nat.reduceAdd, Nat.reduceSub, Array.replicate_succ, Array.replicate_zero, List.push_toArray, List.append_toArray, List.nil_append, List.cons_append]
  have hlt : Bn < W0.heap.size := cell_lt hBn
  gi_wp2
  gi_loopw [3] (fun a wr => ∃ (pre : List Nat) (p : Nat), a = .int .i64 p ∧ p ≤ s.size ∧ Hid (Bk s pre p) ∧ wr.cell? ⟨Bn, 0, none⟩ = some (.string s) ∧ J pre wr ∧ W0.heap.size ≤ wr.heap.size)
    (fun a _ => (intOf a).toNat)
  case atStart => exact ⟨[], s.size, rfl, Nat.le_refl _, hide (bk_begin s), hBn, h0, Nat.le_refl _⟩
  case round =>
    obtain ⟨pre, p, rfl, hps, HK, hc, hj, hge⟩ := hrel
    by_cases hp : 0 < p
    · obtain ⟨q, hq, hpq, hl, hk2⟩ := bk_next s pre p (unhide HK) hp
      have hpl := bk_pre s (pre ++ [q]) q hk2
      have HY : Hid (∀ W, J pre W → W0.heap.size ≤ W.heap.size → YieldAt Fence.wide (n - 1) Try.prog l #[.int .i64 q, .agg #[.int .i32 (rn s q : Nat), .int .i64 (wd s q : Nat), .bool (decide (rn s q = 65533 ∧ wd s q = 1))]] W fun e W' => Above W0.heap.size W W' ∧
        ((e = .returned (.bool true) ∧ J (pre ++ [q]) W' ∧ KpO Bn W W') ∨ (e = .returned (.bool false) ∧ Jx (pre ++ [q]) W'))) := hide (fun W hW hs => hY pre q W hW hpl hs)
      have HJ := hide hJ
      have HK2 := hide hk2
      have p1 : (0 : Int) < (p : Int) := by omega
      have p2 : (p : Int) ≤ (s.size : Int) := by omega
      have hz : 0 < (s.extract 0 p).size := by rw [ByteArray.size_extract]; omega
      have HL : Hid (lastV (s.extract 0 p) = .tuple #[.agg #[.int .i32 (rn s q : Nat), .int .i64 (wd s q : Nat), .bool (decide (rn s q = 65533 ∧ wd s q = 1))], .bool true]) := hide (by rw [lastV_pos hz, hl]; rfl)
      have h3 : (p : Int) - (wd s q : Nat) = (q : Int) := by omega
      have h4 : ((wd s q : Nat) : Int) ≤ (p : Int) := by omega
      have hqp : q < p := hq
      generalize decide (rn s q = 65533 ∧ wd s q = 1) = bb at *
      generalize rn s q = r at *
      generalize wd s q = d at *
      clear hY hJ h0 hk2 hl hz hpl hpq hq
      gi_wp2_with fail
      refine ⟨trivial, ?_⟩
      refine (callsIn_wide.2 (last_any _ (by rw [ByteArray.size_extract]; unfold maxLen; omega) _)).mono ?_
      rintro e W2 ⟨rfl, hb2⟩
      rw [unhide HL]
      have hj2 := (unhide HJ) pre _ _ hj (hb2.mono hge)
      have hc2 : W2.cell? ⟨Bn, 0, none⟩ = some (.string s) := (hb2.cell (p := ⟨Bn, 0, none⟩) (cell_lt hc)).trans hc
      have x2 := Blk.new W2 #[.int .i32 (r : Nat), .int .i64 (d : Nat), .bool bb] 37
      have hg3 := World.grownBy_alloc W2 (.cells #[.int .i32 (r : Nat), .int .i64 (d : Nat), .bool bb] 37) none
      have hj3 := (unhide HJ) pre _ _ hj2 ((Below.refl W0.heap.size W2).alloc (by have := hb2.size; omega) (.cells #[.int .i32 (r : Nat), .int .i64 (d : Nat), .bool bb] 37))
      have hc3 := hg3.cell hc2 (by simp)
      have y0 := x2.cell 0
      have y1 := x2.cell 1
      have y2 := x2.cell 2
      have hge3 : W0.heap.size ≤ (W2.alloc (.cells #[.int .i32 (r : Nat), .int .i64 (d : Nat), .bool bb] 37)).heap.size := by have := hb2.size; simp; omega
      obtain ⟨fn, tmps, assign, body, hy, hR⟩ := (unhide HY) _ hj3 hge3
      have HRR := hide hR
      have HC3 := hide hc3
      clear hj2 hb2 hg3 x2 hj hc hR
      gi_wp2
      refine (unhide HRR).mono ?_
      rintro e W3 ⟨hab, (⟨rfl, hJ3, hk3⟩ | ⟨rfl, hJx3⟩)⟩
      · have hc4 : W3.cell? ⟨Bn, 0, none⟩ = some (.string s) := (World.cell?_of_block (show W3.heap[(⟨Bn, 0, none⟩ : Addr).block]? = _ from hk3)).trans (unhide HC3)
        have hge4 : W0.heap.size ≤ W3.heap.size := by have := hab.size; omega
        clear hab
        gi_wp2
        go_roundw
        case rel => exact ⟨pre ++ [q], q, rfl, by omega, HK2, hc4, hJ3, hge4⟩
        case measure => simp [intOf]; omega
      · gi_wp2
        refine bodyPost_ret (results_none rfl _ _ _) rfl ?_
        exact ⟨⟨_, rfl⟩, .inr ⟨pre ++ [q], bk_pre s _ q (unhide HK2), hJx3⟩⟩
    · obtain rfl : p = 0 := by omega
      have HE := hide (bk_end s pre (unhide HK))
      clear hY hJ h0
      gi_wp2
      go_end0
      first
        | exact ⟨⟨_, rfl⟩, .inl ⟨pre, unhide HE, hj⟩⟩
        | exact ⟨⟨_, rfl⟩, .inl (by rw [← unhide HE]; exact hj)⟩
theorem uback_deep (n Bn : Nat) (hn : 1 ≤ n) (s : ByteArray) (hs : s.size ≤ maxLen) (w : World) (hbx : w.cell? ⟨Bn, 0, none⟩ = some (.string s)) :
    SeqDeep Fence.wide n Try.prog 76 #[.pointer (some ⟨Bn, 0, none⟩)] (encsS s) (KpO Bn) (fun ys => ys = (starts s).reverse) (fun pre => pre <+: (starts s).reverse) (fun pre x => pre ++ [x] <+: (starts s).reverse) w := fun l J Jx W hW hJ _ hY h0 =>
  uback_in n l Bn hn s hs J Jx W hJ hY ((hW.cell (p := ⟨Bn, 0, none⟩) (cell_lt hbx)).trans hbx) h0
theorem uback_call (s : ByteArray) (w : World) : Calls Try.prog 49 #[.string s] w fun e w' => e = .returned (.func (.func 76) #[] #[.pointer (some ⟨w.heap.size, 0, none⟩)]) ∧ w' = w.alloc (.cells #[.string s] 9) := by
  go_enter Try.func49, Try.ntmps49
  go_wp2
  go_ret
  exact ⟨rfl, rfl⟩
end Go.Proofs.Ytnphbjhikapoeaa
