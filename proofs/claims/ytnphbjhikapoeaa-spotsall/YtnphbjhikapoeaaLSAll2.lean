/- SpotsAll of every text: one of more than 65536 bytes is refused. -/
import Derived.Test.YtnphbjhikapoeaaLSAll
namespace Go.Proofs.Ytnphbjhikapoeaa
open Go.RowKit Go.Shelf
attribute [local go_sem] Oper.semAt_some
set_option linter.unusedVariables false
set_option maxRecDepth 100000 in
set_option maxHeartbeats 2000000 in
theorem law_sall_long (n : Nat) (hn : 8 ≤ n) (s : ByteArray) (hl : 65536 < s.size) (hm : s.size ≤ maxLen) (stop : Int) (w : World) :
    CallsIn Fence.wide n Try.prog 4 #[.string s, .int .i64 stop] w fun e w' => e = .returned (.bool true) ∧ Below w.heap.size w w' := by
  have h1 : 1 ≤ n := by omega
  refine callsIn_of_wp_marks Try.func4 rfl trivial ?_ rfl
  simp only [Try.ntmps4, List.size_toArray, List.length_cons, List.length_nil, Nat.reduceAdd, Nat.reduceSub, Array.replicate_succ, Array.replicate_zero, List.push_toArray, List.append_toArray, List.nil_append, List.cons_append]
  have b1 := Blk.new (w.alloc (.cells #[.int .i64 stop] 3)) #[.bool false] 4
  simp only [World.size_alloc] at b1
  have hB0 := ((Below.refl w.heap.size w).alloc (Nat.le_refl _) (.cells #[.int .i64 stop] 3)).alloc (by simp) (.cells #[.bool false] 4)
  have Hb1 := hide b1
  have HB0 := hide hB0
  clear b1 hB0
  gi_wp2_with fail
  refine ⟨trivial, ?_⟩
  refine (callsIn_wide.2 (begun_long s hl hm _)).mono ?_
  rintro e w1 ⟨rfl, hb⟩
  have c1 := (unhide Hb1).below hb (unhide Hb1).lt
  have c2 := (unhide HB0).trans (hb.mono (unhide HB0).size)
  have k4 := c1.cell 0
  have kf := c1.frozen 0
  have HC := hide (And.intro (c1.set 0 (.bool true)) (c2.setCell (p := ⟨w.heap.size + 1, 0, none⟩) (by show w.heap.size ≤ w.heap.size + 1; omega) (.bool true)))
  clear c1 c2 hb
  gi_wp2
  have q := (show Blk _ (w.heap.size + 1) #[.bool true] 4 from (unhide HC).1).cell 0
  exact ⟨.bool true, by simp [results, Try.f4, go_sem, q], rfl, (unhide HC).2⟩
theorem law_sall (s : ByteArray) (hm : s.size ≤ maxLen) (stop : Int) (w : World) : Calls Try.prog 4 #[.string s, .int .i64 stop] w fun e w' => e = .returned (.bool true) ∧ Below w.heap.size w w' := by
  by_cases hs : s.size ≤ 65536
  · exact callsIn_wide.1 (law_sall_in 8 (Nat.le_refl _) s hs stop w)
  · exact callsIn_wide.1 (law_sall_long 8 (Nat.le_refl _) s (by omega) hm stop w)
end Go.Proofs.Ytnphbjhikapoeaa
