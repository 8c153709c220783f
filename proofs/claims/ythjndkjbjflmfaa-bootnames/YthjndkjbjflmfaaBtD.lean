/- A course is begun; it goes on behind a number. -/
import Derived.Test.YthjndkjbjflmfaaBtC
namespace Go.Proofs.Ythjndkjbjflmfaa
open Go.RowKit Go.Shelf
set_option linter.unusedVariables false
theorem grownC_set (W : World) (B i : Nat) (v : Value) : W.grownBy (W.setCell ⟨B, i, none⟩ v) (some B) := ⟨rfl, rfl, rfl, (KeepsWalks.setCell W _ _).size, fun k hk hn => Below.heap_setCell W ⟨B, i, none⟩ _ k (fun e => hn (by rw [e]))⟩
theorem grownC_trans {a b c : World} {row : Option Nat} (h : a.grownBy b row) (k : b.grownBy c row) : a.grownBy c row :=
  ⟨k.os.trans h.os, k.tape.trans h.tape, k.output.trans h.output, Nat.le_trans h.size k.size, fun i hi hr => (k.block i (Nat.lt_of_lt_of_le hi h.size) hr).trans (h.block i hi hr)⟩
theorem grownC_drew {a b : World} {row : Option Nat} (h : a.grownBy b row) (q : Nat) : a.grownBy (b.drewN q) row := grownC_trans h ⟨rfl, rfl, rfl, Nat.le_refl _, fun _ _ _ => rfl⟩
theorem grownC_below {a b : World} {N c : Nat} (h : a.grownBy b (some c)) (hN : N ≤ c) (hs : N ≤ a.heap.size) : Below N a b := ⟨h.os, h.tape, h.output, h.size, fun k hk => h.block k (by omega) (fun e => by injection e; omega)⟩
set_option maxRecDepth 100000 in
set_option maxHeartbeats 4000000 in
theorem begin_any (p : Pm) (l : Int) (W : World) : Calls Try.prog 44 #[.agg (cellsP p), .int .i64 l] W fun e w' => ∃ g, e = .returned (.pointer (some ⟨g, 0, none⟩)) ∧ W.heap.size ≤ g ∧ CAt w' g p p.bi p.da l p.fi 0 ∧ Below W.heap.size W w' := by
  obtain ⟨B, lo, hi, sk, da, bi, fi⟩ := p
  dsimp only [cellsP]
  go_enter Try.func44, Try.ntmps44
  go_wp2_with fail
  have hz : ∀ o, (W.alloc o).heap.size = W.heap.size + 1 := fun o => by simp
  go_ret
  exact ⟨_, rfl, by omega, (hz _) ▸ Blk.new _ _ _, ((Below.refl _ _).alloc (Nat.le_refl _) _).alloc (by simp) _⟩
set_option maxRecDepth 100000 in
set_option maxHeartbeats 4000000 in
theorem goOn_any {p : Pm} (hp : rightP p) {W : World} {c : Nat} {bias d l n nx v r s : Int} (hC : CAt W c p bias d l n nx) (hv : 0 ≤ v ∧ v ≤ 1152921504606846975) (hl : 0 ≤ l ∧ l ≤ 4096) (hd : 1 ≤ d ∧ d ≤ 10000) (hs : 0 ≤ s ∧ s ≤ 5000) : Calls Try.prog 49 #[.pointer (some ⟨c, 0, none⟩), .int .i64 v, .int .i32 r, .int .i64 s] W fun e w' => e = .returned (.tuple #[]) ∧ W.grownBy w' (some c) ∧ w'.heap.size = W.heap.size ∧ CAt w' c p (adp p v (l + 1) d) 2 (l + 1) r (s + 1) := by
  have c9 : W.cell? ⟨c, 9, none⟩ = some (.int .i64 l) := hC.cell 9
  have c10 : W.cell? ⟨c, 10, none⟩ = some (.int .i32 n) := hC.cell 10
  have c11 : W.cell? ⟨c, 11, none⟩ = some (.int .i64 nx) := hC.cell 11
  have f9 := hC.frozen 9
  have f10 := hC.frozen 10
  have f11 := hC.frozen 11
  have H1 : Blk (((W.setCell ⟨c, 9, none⟩ (.int .i64 (l + 1))).setCell ⟨c, 10, none⟩ (.int .i32 r)).setCell ⟨c, 11, none⟩ (.int .i64 (s + 1))) c (cellsC p bias d (l + 1) r (s + 1)) 93 := ((hC.set 9 (.int .i64 (l + 1))).set 10 (.int .i32 r)).set 11 (.int .i64 (s + 1))
  have G1 : W.grownBy (((W.setCell ⟨c, 9, none⟩ (.int .i64 (l + 1))).setCell ⟨c, 10, none⟩ (.int .i32 r)).setCell ⟨c, 11, none⟩ (.int .i64 (s + 1))) (some c) := grownC_trans (grownC_trans (grownC_set _ _ _ _) (grownC_set _ _ _ _)) (grownC_set _ _ _ _)
  have Z1 : (((W.setCell ⟨c, 9, none⟩ (.int .i64 (l + 1))).setCell ⟨c, 10, none⟩ (.int .i32 r)).setCell ⟨c, 11, none⟩ (.int .i64 (s + 1))).heap.size = W.heap.size := by simp
  have HH1 := hide H1
  have HG1 := hide G1
  have HZ1 := hide Z1
  clear H1 G1 Z1 hC
  go_enter Try.func49, Try.ntmps49
  go_wp2_with fail
  generalize ((W.setCell ⟨c, 9, none⟩ (.int .i64 (l + 1))).setCell ⟨c, 10, none⟩ (.int .i32 r)).setCell ⟨c, 11, none⟩ (.int .i64 (s + 1)) = W1 at *
  refine (bias_any hp (unhide HH1) hv (by omega) hd).mono ?_
  rintro e w2 ⟨rfl, q, rfl⟩
  have e7 : (W1.drewN q).cell? ⟨c, 7, none⟩ = some (.int .i64 bias) := (unhide HH1).cell 7
  have e8 : (W1.drewN q).cell? ⟨c, 8, none⟩ = some (.int .i64 d) := (unhide HH1).cell 8
  have g7 : (W1.drewN q).frozen? ⟨c, 7, none⟩ = false := (unhide HH1).frozen 7
  have g8 : (W1.drewN q).frozen? ⟨c, 8, none⟩ = false := (unhide HH1).frozen 8
  have H2 : Blk (((W1.drewN q).setCell ⟨c, 7, none⟩ (.int .i64 (adp p v (l + 1) d))).setCell ⟨c, 8, none⟩ (.int .i64 2)) c (cellsC p (adp p v (l + 1) d) 2 (l + 1) r (s + 1)) 93 := (Blk.set (W := W1.drewN q) (unhide HH1) 7 (.int .i64 (adp p v (l + 1) d))).set 8 (.int .i64 2)
  have G2 : W.grownBy (((W1.drewN q).setCell ⟨c, 7, none⟩ (.int .i64 (adp p v (l + 1) d))).setCell ⟨c, 8, none⟩ (.int .i64 2)) (some c) := grownC_trans (grownC_trans (grownC_drew (unhide HG1) q) (grownC_set _ _ _ _)) (grownC_set _ _ _ _)
  have Z2 : (((W1.drewN q).setCell ⟨c, 7, none⟩ (.int .i64 (adp p v (l + 1) d))).setCell ⟨c, 8, none⟩ (.int .i64 2)).heap.size = W.heap.size := by
    have := unhide HZ1
    simpa using this
  have HH2 := hide H2
  have HG2 := hide G2
  have HZ2 := hide Z2
  clear H2 G2 Z2
  generalize W1.drewN q = W2 at *
  go_wp2_with fail
  go_end0
  exact ⟨rfl, unhide HG2, unhide HZ2, unhide HH2⟩
end Go.Proofs.Ythjndkjbjflmfaa
