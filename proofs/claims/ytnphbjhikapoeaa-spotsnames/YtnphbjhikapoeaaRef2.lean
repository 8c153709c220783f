/- Spot of a text; the reference's Byte and Of; each told for every text. -/
import Derived.Test.YtnphbjhikapoeaaSp2
import Derived.Test.YtnphbjhikapoeaaWhole
import Derived.Deep.RegionWith
import Derived.Lib.QuietBelow
namespace Go.Proofs.Ytnphbjhikapoeaa
open Go.RowKit Go.Shelf
set_option linter.unusedVariables false

abbrev spotN : Value := .tuple #[encSpot (0, 0, false), .bool false]
abbrev spotY (s : ByteArray) (n : Nat) : Value := .tuple #[.agg #[.int .i32 (rn s (pl s n)), .int .i64 (wd s (pl s n)), .bool (decide (rn s (pl s n) = 65533 ∧ wd s (pl s n) = 1))], .bool true]

theorem spot_out (B : Nat) (s : ByteArray) (hs : s.size ≤ 65536) (n : Int) (hn : n < 0 ∨ ((starts s).length : Int) ≤ n) (W : World) (h : TextAt W B s) :
    Calls Try.prog 11 #[.pointer (some ⟨B, 0, none⟩), .int .i64 n] W fun e w' => e = .returned spotN ∧ Below W.heap.size W w' := by
  by_cases n0 : n < 0
  · go_enter Try.func11, Try.ntmps11
    go_wp2
    exact bodyPost_ret (v := spotN) (by simp [results, Try.results11, go_sem]) rfl ⟨rfl, (Below.refl W.heap.size W).alloc (Nat.le_refl _) _⟩
  · have n1 : ((starts s).length : Int) ≤ n := by omega
    have HT := hide (h.below ((Below.refl W.heap.size W).alloc (Nat.le_refl _) (.cells #[.int .i32 0, .int .i64 0, .bool false] 37)) (Nat.le_refl _))
    go_enter Try.func11, Try.ntmps11
    go_wp2_with fail
    refine (count_text B s hs _ (unhide HT)).mono ?_
    rintro e w' ⟨rfl, rfl⟩
    go_wp2
    exact bodyPost_ret (v := spotN) (by simp [results, Try.results11, go_sem]) rfl ⟨rfl, (Below.refl W.heap.size W).alloc (Nat.le_refl _) _⟩

theorem far3 (w : World) (R : Nat) (u0 u1 u2 : Value) (a : Addr) (h : a.block ≠ R) : (((w.setCell ⟨R, 0, none⟩ u0).setCell ⟨R, 1, none⟩ u1).setCell ⟨R, 2, none⟩ u2).cell? a = w.cell? a := by
  refine World.cell?_of_block ?_
  rw [Below.heap_setCell _ _ _ _ h, Below.heap_setCell _ _ _ _ h, Below.heap_setCell _ _ _ _ h]

set_option maxRecDepth 100000 in
set_option maxHeartbeats 4000000 in
theorem spot_in (B : Nat) (s : ByteArray) (hs : s.size ≤ 65536) (n : Nat) (hn : n < (starts s).length) (W : World) (h : TextAt W B s) :
    Calls Try.prog 11 #[.pointer (some ⟨B, 0, none⟩), .int .i64 n] W fun e w' => e = .returned (spotY s n) ∧ Below W.heap.size W w' := by
  have hal := (Below.refl W.heap.size W).alloc (Nat.le_refl _) (.cells #[.int .i32 0, .int .i64 0, .bool false] 37)
  have HT := hide (h.below hal (Nat.le_refl _))
  have HA := hide hal
  have r1 := Blk.new W #[.int .i32 0, .int .i64 0, .bool false] 37
  have hlt0 : ∀ b, b < W.heap.size → b ≠ W.heap.size := fun b hb => by omega
  obtain ⟨g1, c1, g2, c2, hB0, hg10, hg20, i10, i20⟩ := h
  have neB : B ≠ W.heap.size := hlt0 _ hB0.lt
  have neg : g1 ≠ W.heap.size := hlt0 _ hg10
  obtain ⟨hB, hg1, hg2, i1, i2⟩ : Blk (W.alloc (.cells #[.int .i32 0, .int .i64 0, .bool false] 37)) B #[.string s, .slice (some ⟨g1, 0, none⟩) ((starts s).length + 1) c1, .slice (some ⟨g2, 0, none⟩) (lns s).length c2] 87 ∧ g1 < (W.alloc (.cells #[.int .i32 0, .int .i64 0, .bool false] 37)).heap.size ∧ g2 < (W.alloc (.cells #[.int .i32 0, .int .i64 0, .bool false] 37)).heap.size ∧ IntsAt (W.alloc (.cells #[.int .i32 0, .int .i64 0, .bool false] 37)) g1 (starts s ++ [s.size]) ∧ True := ⟨hB0.alloc _, by simp; omega, by simp; omega, fun k x hk => (hal.cell (p := ⟨g1, k, none⟩) hg10).trans (i10 k x hk), trivial⟩
  clear hB0 hg10 hg20 i10 i20 hlt0
  have hl := starts_length s
  have hpl := pl_lt s n hn
  have hF := firstV_at s (pl s n) hpl
  obtain ⟨bb, hbb⟩ : ∃ bb, bb = decide (rn s (pl s n) = 65533 ∧ wd s (pl s n) = 1) := ⟨_, rfl⟩
  rw [← hbb] at hF
  unfold spotY
  rw [← hbb]
  have HF := hide hF
  clear hbb hF
  have n0 : ¬ (n : Int) < 0 := by omega
  have n1 : ¬ ((starts s).length : Int) ≤ (n : Int) := by omega
  have n2 : (n : Int) < (((starts s).length + 1 : Nat) : Int) := by omega
  have n3 : ((n : Nat) : Int).toNat = n := by omega
  have n5 : (0 : Int) ≤ (n : Int) := by omega
  have n6 : (n : Int) < ((starts s).length : Int) + 1 := by omega
  have n7 : (0 : Int) ≤ ((pl s n : Nat) : Int) := by omega
  have n4 : ((pl s n : Nat) : Int) ≤ (s.size : Int) := by omega
  have k0 := hB.cell 0
  have k1 := hB.cell 1
  have kn := i1 n (pl s n) (pl_get s n (by omega))
  have hmx : Try.prog.follows .mixedOrders = true := by kernel_rfl
  have hmz : (s.extract (pl s n) s.size).size ≤ maxLen := by rw [ByteArray.size_extract]; unfold maxLen; omega
  have HMZ := hide hmz
  have HR1 := hide r1
  clear i1 i2 hal hmz r1
  generalize hW1 : W.alloc (.cells #[.int .i32 0, .int .i64 0, .bool false] 37) = W1 at *
  go_enter Try.func11, Try.ntmps11
  go_wp2_with fail
  clear hW1
  refine (count_text B s hs _ (unhide HT)).mono ?_
  rintro e w' ⟨rfl, rfl⟩
  go_wp2
  have lB := hB.lt
  go_region_held3 (fun x => x.cell? ⟨B, 0, none⟩ = some (.string s) ∧ x.cell? ⟨B, 1, none⟩ = some (.slice (some ⟨g1, 0, none⟩) ((starts s).length + 1) c1) ∧ x.cell? ⟨g1, n, none⟩ = some (.int .i64 (pl s n)))
    (first
      | go_keep
      | (go_split_ands
         refine ⟨?_, ?_, ?_⟩
         · exact (hb3.cell (p := ⟨B, 0, none⟩) lB).trans k0
         · exact (hb3.cell (p := ⟨B, 1, none⟩) lB).trans k1
         · exact (hb3.cell (p := ⟨g1, n, none⟩) hg1).trans kn)
      | (refine ⟨?_, ?_, ?_⟩
         · exact (far3 _ _ _ _ _ ⟨B, 0, none⟩ neB).trans ((hb3.cell (p := ⟨B, 0, none⟩) lB).trans k0)
         · exact (far3 _ _ _ _ _ ⟨B, 1, none⟩ neB).trans ((hb3.cell (p := ⟨B, 1, none⟩) lB).trans k1)
         · exact (far3 _ _ _ _ _ ⟨g1, n, none⟩ neg).trans ((hb3.cell (p := ⟨g1, n, none⟩) hg1).trans kn)))
    ((go_at_call 43; refine (first_any _ ?_ _).mono ?_; exact (unhide HMZ); rintro e w3 ⟨rfl, hb3⟩; rw [unhide HF]; have r3 := (unhide HR1).below (W' := w3) (N := w'.heap.size) ⟨hb3.os, hb3.tape, hb3.output, hb3.size, hb3.block⟩ (unhide HR1).lt; have d0 := r3.cell 0; have d1 := r3.cell 1; have d2 := r3.cell 2; have fr := r3.frozen))
  all_goals have z := ((r3.set 0 (.int .i32 ((rn s (pl s n) : Nat) : Int))).set 1 (.int .i64 ((wd s (pl s n) : Nat) : Int))).set 2 (.bool bb)
  all_goals have z0 := z.cell 0
  all_goals have z1 := z.cell 1
  all_goals have z2 := z.cell 2
  all_goals have HB3 := (unhide HA).trans (Below.mono (B := w'.heap.size) (w := w') (w' := w3) ⟨hb3.os, hb3.tape, hb3.output, hb3.size, hb3.block⟩ (unhide HA).size)
  all_goals clear hb3
  all_goals go_wp2
  all_goals exact bodyPost_ret (v := .tuple #[.agg #[.int .i32 (rn s (pl s n)), .int .i64 (wd s (pl s n)), .bool bb], .bool true]) (by simp [results, Try.results11, go_sem, z0, z1, z2]) rfl ⟨rfl, ((HB3.setCell (p := ⟨W.heap.size, 0, none⟩) (Nat.le_refl _) _).setCell (p := ⟨W.heap.size, 1, none⟩) (Nat.le_refl _) _).setCell (p := ⟨W.heap.size, 2, none⟩) (Nat.le_refl _) _⟩
end Go.Proofs.Ytnphbjhikapoeaa
