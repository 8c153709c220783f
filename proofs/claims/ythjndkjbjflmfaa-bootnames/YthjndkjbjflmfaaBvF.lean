/- boot.Encode of texts with at most one high rune. -/
import Derived.Test.YthjndkjbjflmfaaBvE
import Derived.Test.YthjndkjbjflmfaaBtW
namespace Go.Proofs.Ythjndkjbjflmfaa
open Go.RowKit Go.Shelf
set_option linter.unusedVariables false
set_option maxRecDepth 100000 in
set_option maxHeartbeats 4000000 in
theorem enc_wrong {p : Pm} (hp : rightB p = false) (s : ByteArray) (w : World) : Calls Try.prog 14 #[.agg (cellsP p), .string s] w fun e w' => e = .returned (.tuple #[.string ⟨#[]⟩, .int .i64 1]) ∧ Below w.heap.size w w' := by
  have hr := fun w => right_any p w
  rw [hp] at hr
  have HR := hide hr
  clear hr
  obtain ⟨B, lo, hi, sk, da, bi, fi⟩ := p
  dsimp only [cellsP] at *
  go_enter Try.func14, Try.ntmps14
  go_wp2_with (go_at_call 13; refine (unhide HR _).mono ?_; rintro e w2 ⟨rfl, hb⟩)
  go_ret2
  exact ⟨rfl, ((Below.refl _ w).alloc (Nat.le_refl _) _).trans (hb.mono (by simp))⟩
set_option maxRecDepth 100000 in
set_option maxHeartbeats 4000000 in
theorem enc_err {p : Pm} (hp : rightB p = true) (s : ByteArray) (hs : s.size ≤ 65536) (hne : ∀ i ∈ starts s, rn s i ≠ 65533) {E : Int} (hE : E ≠ 0) (hR : ptF p.fi s (starts s) [] [] [] = (([], [], []), E)) (w : World) : Calls Try.prog 14 #[.agg (cellsP p), .string s] w fun e w' => e = .returned (.tuple #[.string ⟨#[]⟩, .int .i64 E]) ∧ Below w.heap.size w w' := by
  have hr := fun w => right_any p w
  have HPp := hide ((rightB_iff p).1 hp)
  rw [hp] at hr
  have HR := hide hr
  have hpa := fun w => parts_any p s hs hne w
  rw [hR] at hpa
  have HPA := hide hpa
  have hs2 : ¬ (65536 : Int) < (s.size : Int) := by omega
  have hE2 : (E != 0) = true := by simpa using hE
  clear hE
  clear hr hpa hne hp
  obtain ⟨B, lo, hi, sk, da, bi, fi⟩ := p
  dsimp only [cellsP] at *
  go_enter Try.func14, Try.ntmps14
  go_wp2_with (first
    | (go_at_call 13; refine (unhide HR _).mono ?_; rintro e w2 ⟨rfl, hb⟩; have PB2 := hide ((Blk.new w (cellsP ⟨B, lo, hi, sk, da, bi, fi⟩) 26).below hb (by simp)); have BL2 := hide (((Below.refl _ w).alloc (Nat.le_refl _) (.cells (cellsP ⟨B, lo, hi, sk, da, bi, fi⟩) 26)).trans (hb.mono (by simp))); have p0 : w2.cell? ⟨w.heap.size, 0, none⟩ = some (.int .i64 B) := (unhide PB2).cell 0; have p1 : w2.cell? ⟨w.heap.size, 1, none⟩ = some (.int .i64 lo) := (unhide PB2).cell 1; have p2 : w2.cell? ⟨w.heap.size, 2, none⟩ = some (.int .i64 hi) := (unhide PB2).cell 2; have p3 : w2.cell? ⟨w.heap.size, 3, none⟩ = some (.int .i64 sk) := (unhide PB2).cell 3; have p4 : w2.cell? ⟨w.heap.size, 4, none⟩ = some (.int .i64 da) := (unhide PB2).cell 4; have p5 : w2.cell? ⟨w.heap.size, 5, none⟩ = some (.int .i64 bi) := (unhide PB2).cell 5; have p6 : w2.cell? ⟨w.heap.size, 6, none⟩ = some (.int .i32 fi) := (unhide PB2).cell 6; clear hb))
  refine (unhide HPA _).mono ?_
  rintro e w3 ⟨vb, va, vh, rfl, hb3, ob, oa, oh⟩
  have PB3 := hide ((unhide PB2).below hb3 (unhide PB2).lt)
  have BL3 := hide ((unhide BL2).trans (hb3.mono (by have := (unhide PB2).lt; omega)))
  try dsimp only at ob oa oh
  obtain ⟨ba, bc, rfl⟩ : ∃ a c, vb = .slice a 0 c := by
    rcases ob.2 with ⟨rfl, h0⟩ | ⟨g, cap, cur, rfl, _⟩
    · exact ⟨none, 0, by first | rfl | rw [h0]⟩
    · exact ⟨_, cap, rfl⟩
  obtain ⟨aa, ac, rfl⟩ : ∃ a c, va = .slice a 0 c := by
    rcases oa.2 with ⟨rfl, h0⟩ | ⟨g, cap, cur, rfl, _⟩
    · exact ⟨none, 0, by first | rfl | rw [h0]⟩
    · exact ⟨_, cap, rfl⟩
  obtain ⟨ha, hc, rfl⟩ : ∃ a c, vh = .slice a 0 c := by
    rcases oh.2 with ⟨rfl, h0⟩ | ⟨g, cap, cur, rfl, _⟩
    · exact ⟨none, 0, by first | rfl | rw [h0]⟩
    · exact ⟨_, cap, rfl⟩
  clear hb3 ob oa oh
  go_wp2_with fail
  go_ret2
  exact ⟨rfl, (unhide BL3).alloc (by have := (unhide PB3).lt; omega) _⟩
set_option maxRecDepth 100000 in
set_option maxHeartbeats 4000000 in
theorem enc_low {p : Pm} (hp : rightB p = true) (s : ByteArray) (hs : s.size ≤ 65536) (hne : ∀ i ∈ starts s, rn s i ≠ 65533) {b a : List Int} {n : Nat} (hn : b.length = n) (ha' : a.length = n) (hn0 : 0 < n) (hn4 : n ≤ 4096) (T : ByteArray) (hTs : T.size = n + 1) (hT : encU b ++ [.int .u8 45] = byteVals T) (hR : ptF p.fi s (starts s) [] [] [] = ((b, a, []), 0)) (w : World) : Calls Try.prog 14 #[.agg (cellsP p), .string s] w fun e w' => e = .returned (.tuple #[.string T, .int .i64 0]) ∧ Below w.heap.size w w' := by
  have hr := fun w => right_any p w
  have HPp := hide ((rightB_iff p).1 hp)
  rw [hp] at hr
  have HR := hide hr
  have hpa := fun w => parts_any p s hs hne w
  rw [hR] at hpa
  have HPA := hide hpa
  have hs2 : ¬ (65536 : Int) < (s.size : Int) := by omega
  clear hR
  clear hr hpa hne hp
  obtain ⟨B, lo, hi, sk, da, bi, fi⟩ := p
  dsimp only [cellsP] at *
  go_enter Try.func14, Try.ntmps14
  go_wp2_with (first
    | (go_at_call 13; refine (unhide HR _).mono ?_; rintro e w2 ⟨rfl, hb⟩; have PB2 := hide ((Blk.new w (cellsP ⟨B, lo, hi, sk, da, bi, fi⟩) 26).below hb (by simp)); have BL2 := hide (((Below.refl _ w).alloc (Nat.le_refl _) (.cells (cellsP ⟨B, lo, hi, sk, da, bi, fi⟩) 26)).trans (hb.mono (by simp))); have p0 : w2.cell? ⟨w.heap.size, 0, none⟩ = some (.int .i64 B) := (unhide PB2).cell 0; have p1 : w2.cell? ⟨w.heap.size, 1, none⟩ = some (.int .i64 lo) := (unhide PB2).cell 1; have p2 : w2.cell? ⟨w.heap.size, 2, none⟩ = some (.int .i64 hi) := (unhide PB2).cell 2; have p3 : w2.cell? ⟨w.heap.size, 3, none⟩ = some (.int .i64 sk) := (unhide PB2).cell 3; have p4 : w2.cell? ⟨w.heap.size, 4, none⟩ = some (.int .i64 da) := (unhide PB2).cell 4; have p5 : w2.cell? ⟨w.heap.size, 5, none⟩ = some (.int .i64 bi) := (unhide PB2).cell 5; have p6 : w2.cell? ⟨w.heap.size, 6, none⟩ = some (.int .i32 fi) := (unhide PB2).cell 6; clear hb))
  refine (unhide HPA _).mono ?_
  rintro e w3 ⟨vb, va, vh, rfl, hb3, ob, oa, oh⟩
  have PB3 := hide ((unhide PB2).below hb3 (unhide PB2).lt)
  have BL3 := hide ((unhide BL2).trans (hb3.mono (by have := (unhide PB2).lt; omega)))
  try dsimp only at ob oa oh
  rw [hn] at ob
  rw [ha'] at oa
  simp only [List.length_nil] at oh
  obtain ⟨ba, bc, rfl⟩ : ∃ a c, vb = .slice a n c := by
    rcases ob.2 with ⟨rfl, h0⟩ | ⟨g, cap, cur, rfl, _⟩
    · exact ⟨none, 0, by first | rfl | rw [h0]⟩
    · exact ⟨_, cap, rfl⟩
  obtain ⟨aa, ac, rfl⟩ : ∃ a c, va = .slice a n c := by
    rcases oa.2 with ⟨rfl, h0⟩ | ⟨g, cap, cur, rfl, _⟩
    · exact ⟨none, 0, by first | rfl | rw [h0]⟩
    · exact ⟨_, cap, rfl⟩
  obtain ⟨ha, hc, rfl⟩ : ∃ a c, vh = .slice a 0 c := by
    rcases oh.2 with ⟨rfl, h0⟩ | ⟨g, cap, cur, rfl, _⟩
    · exact ⟨none, 0, by first | rfl | rw [h0]⟩
    · exact ⟨_, cap, rfl⟩
  have HBX := hide (Blk.new w3 #[.slice ba n bc, .slice aa n ac, .slice ha 0 hc] 52)
  have PX := hide ((unhide PB3).alloc (.cells #[.slice ba n bc, .slice aa n ac, .slice ha 0 hc] 52))
  have q0 : (w3.alloc (.cells #[.slice ba n bc, .slice aa n ac, .slice ha 0 hc] 52)).cell? ⟨w.heap.size, 0, none⟩ = some (.int .i64 B) := ((unhide PX)).cell 0
  have q1 : (w3.alloc (.cells #[.slice ba n bc, .slice aa n ac, .slice ha 0 hc] 52)).cell? ⟨w.heap.size, 1, none⟩ = some (.int .i64 lo) := ((unhide PX)).cell 1
  have q2 : (w3.alloc (.cells #[.slice ba n bc, .slice aa n ac, .slice ha 0 hc] 52)).cell? ⟨w.heap.size, 2, none⟩ = some (.int .i64 hi) := ((unhide PX)).cell 2
  have q3 : (w3.alloc (.cells #[.slice ba n bc, .slice aa n ac, .slice ha 0 hc] 52)).cell? ⟨w.heap.size, 3, none⟩ = some (.int .i64 sk) := ((unhide PX)).cell 3
  have q4 : (w3.alloc (.cells #[.slice ba n bc, .slice aa n ac, .slice ha 0 hc] 52)).cell? ⟨w.heap.size, 4, none⟩ = some (.int .i64 da) := ((unhide PX)).cell 4
  have q5 : (w3.alloc (.cells #[.slice ba n bc, .slice aa n ac, .slice ha 0 hc] 52)).cell? ⟨w.heap.size, 5, none⟩ = some (.int .i64 bi) := ((unhide PX)).cell 5
  have q6 : (w3.alloc (.cells #[.slice ba n bc, .slice aa n ac, .slice ha 0 hc] 52)).cell? ⟨w.heap.size, 6, none⟩ = some (.int .i32 fi) := ((unhide PX)).cell 6
  have FO := form0 ⟨B, lo, hi, sk, da, bi, fi⟩ (N := w2.heap.size) (ha := ha) (hc := hc) (ob.alloc (.cells #[.slice ba n bc, .slice aa n ac, .slice ha 0 hc] 52)) ⟨aa, ac, rfl⟩ (by have := hb3.size; simp; omega) hn0 (by omega)
  have HFO := hide FO
  clear FO hb3
  go_wp2_with fail
  refine (unhide HFO).mono ?_
  rintro e w5 ⟨v5, rfl, h5, h6⟩
  obtain ⟨m, hm⟩ : ∃ m, n + 1 = m := ⟨_, rfl⟩
  rw [hm] at h5 hTs
  have hm1 : 0 < m := by omega
  have hm2 : ¬ (65536 : Int) < (m : Int) := by omega
  obtain ⟨a5, c5, rfl⟩ : ∃ va vc, v5 = .slice va m vc := by
    rcases h5.2 with ⟨rfl, h0⟩ | ⟨g, cap, cur, rfl, _⟩
    · omega
    · exact ⟨_, cap, rfl⟩
  rw [hT] at h5
  have TXB := own_textB h5 hTs.symm
  have H6 := hide h6
  have HTs := hide hTs
  clear h5 h6 hT hTs hm
  clear q0 q1 q2 q3 q4 q5 q6 p0 p1 p2 p3 p4 p5 p6
  go_wp2_with fail
  go_ret2
  exact ⟨rfl, ((unhide BL3).alloc (by have := (unhide PB3).lt; omega) (.cells #[.slice ba n bc, .slice aa n ac, .slice ha 0 hc] 52)).trans ((unhide H6).mono (by have := (unhide PB2).lt; omega))⟩
set_option maxRecDepth 100000 in
set_option maxHeartbeats 4000000 in
theorem enc_one {p : Pm} (hp : rightB p = true) (s : ByteArray) (hs : s.size ≤ 65536) (hne : ∀ i ∈ starts s, rn s i ≠ 65533) {x v0 t : Int} (hvt : v0 < t) (ht1 : 1 < thr p p.bi 1) (T : ByteArray) (hTs : T.size = 3) (hT : encU [x] ++ [.int .u8 45] ++ [.int .u8 98] = byteVals T) (hR : ptF p.fi s (starts s) [] [] [] = (([x], [v0], [(p.fi, t)]), 0)) (w : World) : Calls Try.prog 14 #[.agg (cellsP p), .string s] w fun e w' => e = .returned (.tuple #[.string T, .int .i64 0]) ∧ Below w.heap.size w w' := by
  have hr := fun w => right_any p w
  have HPp := hide ((rightB_iff p).1 hp)
  rw [hp] at hr
  have HR := hide hr
  have hpa := fun w => parts_any p s hs hne w
  rw [hR] at hpa
  have HPA := hide hpa
  have hs2 : ¬ (65536 : Int) < (s.size : Int) := by omega
  clear hR
  clear hr hpa hne hp
  obtain ⟨B, lo, hi, sk, da, bi, fi⟩ := p
  dsimp only [cellsP] at *
  go_enter Try.func14, Try.ntmps14
  go_wp2_with (first
    | (go_at_call 13; refine (unhide HR _).mono ?_; rintro e w2 ⟨rfl, hb⟩; have PB2 := hide ((Blk.new w (cellsP ⟨B, lo, hi, sk, da, bi, fi⟩) 26).below hb (by simp)); have BL2 := hide (((Below.refl _ w).alloc (Nat.le_refl _) (.cells (cellsP ⟨B, lo, hi, sk, da, bi, fi⟩) 26)).trans (hb.mono (by simp))); have p0 : w2.cell? ⟨w.heap.size, 0, none⟩ = some (.int .i64 B) := (unhide PB2).cell 0; have p1 : w2.cell? ⟨w.heap.size, 1, none⟩ = some (.int .i64 lo) := (unhide PB2).cell 1; have p2 : w2.cell? ⟨w.heap.size, 2, none⟩ = some (.int .i64 hi) := (unhide PB2).cell 2; have p3 : w2.cell? ⟨w.heap.size, 3, none⟩ = some (.int .i64 sk) := (unhide PB2).cell 3; have p4 : w2.cell? ⟨w.heap.size, 4, none⟩ = some (.int .i64 da) := (unhide PB2).cell 4; have p5 : w2.cell? ⟨w.heap.size, 5, none⟩ = some (.int .i64 bi) := (unhide PB2).cell 5; have p6 : w2.cell? ⟨w.heap.size, 6, none⟩ = some (.int .i32 fi) := (unhide PB2).cell 6; clear hb))
  refine (unhide HPA _).mono ?_
  rintro e w3 ⟨vb, va, vh, rfl, hb3, ob, oa, oh⟩
  have PB3 := hide ((unhide PB2).below hb3 (unhide PB2).lt)
  have BL3 := hide ((unhide BL2).trans (hb3.mono (by have := (unhide PB2).lt; omega)))
  try dsimp only at ob oa oh
  obtain ⟨ba, bc, rfl⟩ : ∃ a c, vb = .slice a 1 c := by
    rcases ob.2 with ⟨rfl, h0⟩ | ⟨g, cap, cur, rfl, _⟩
    · exact absurd (show (1 : Nat) = 0 from h0) (by decide)
    · exact ⟨_, cap, rfl⟩
  obtain ⟨ga, ac, rfl⟩ : ∃ a c, va = .slice (some ⟨a, 0, none⟩) 1 c := by
    rcases oa.2 with ⟨rfl, h0⟩ | ⟨g, cap, cur, rfl, _⟩
    · exact absurd (show (1 : Nat) = 0 from h0) (by decide)
    · exact ⟨_, cap, rfl⟩
  obtain ⟨gh, hc, rfl⟩ : ∃ a c, vh = .slice (some ⟨a, 0, none⟩) 1 c := by
    rcases oh.2 with ⟨rfl, h0⟩ | ⟨g, cap, cur, rfl, _⟩
    · exact absurd (show (1 : Nat) = 0 from h0) (by decide)
    · exact ⟨_, cap, rfl⟩
  have HBX := hide (Blk.new w3 #[.slice ba 1 bc, .slice (some ⟨ga, 0, none⟩) 1 ac, .slice (some ⟨gh, 0, none⟩) 1 hc] 52)
  have PX := hide ((unhide PB3).alloc (.cells #[.slice ba 1 bc, .slice (some ⟨ga, 0, none⟩) 1 ac, .slice (some ⟨gh, 0, none⟩) 1 hc] 52))
  have q0 : (w3.alloc (.cells #[.slice ba 1 bc, .slice (some ⟨ga, 0, none⟩) 1 ac, .slice (some ⟨gh, 0, none⟩) 1 hc] 52)).cell? ⟨w.heap.size, 0, none⟩ = some (.int .i64 B) := ((unhide PX)).cell 0
  have q1 : (w3.alloc (.cells #[.slice ba 1 bc, .slice (some ⟨ga, 0, none⟩) 1 ac, .slice (some ⟨gh, 0, none⟩) 1 hc] 52)).cell? ⟨w.heap.size, 1, none⟩ = some (.int .i64 lo) := ((unhide PX)).cell 1
  have q2 : (w3.alloc (.cells #[.slice ba 1 bc, .slice (some ⟨ga, 0, none⟩) 1 ac, .slice (some ⟨gh, 0, none⟩) 1 hc] 52)).cell? ⟨w.heap.size, 2, none⟩ = some (.int .i64 hi) := ((unhide PX)).cell 2
  have q3 : (w3.alloc (.cells #[.slice ba 1 bc, .slice (some ⟨ga, 0, none⟩) 1 ac, .slice (some ⟨gh, 0, none⟩) 1 hc] 52)).cell? ⟨w.heap.size, 3, none⟩ = some (.int .i64 sk) := ((unhide PX)).cell 3
  have q4 : (w3.alloc (.cells #[.slice ba 1 bc, .slice (some ⟨ga, 0, none⟩) 1 ac, .slice (some ⟨gh, 0, none⟩) 1 hc] 52)).cell? ⟨w.heap.size, 4, none⟩ = some (.int .i64 da) := ((unhide PX)).cell 4
  have q5 : (w3.alloc (.cells #[.slice ba 1 bc, .slice (some ⟨ga, 0, none⟩) 1 ac, .slice (some ⟨gh, 0, none⟩) 1 hc] 52)).cell? ⟨w.heap.size, 5, none⟩ = some (.int .i64 bi) := ((unhide PX)).cell 5
  have q6 : (w3.alloc (.cells #[.slice ba 1 bc, .slice (some ⟨ga, 0, none⟩) 1 ac, .slice (some ⟨gh, 0, none⟩) 1 hc] 52)).cell? ⟨w.heap.size, 6, none⟩ = some (.int .i32 fi) := ((unhide PX)).cell 6
  have FO := form1 (p := ⟨B, lo, hi, sk, da, bi, fi⟩) (unhide HPp) ht1 (N := w2.heap.size) hvt (ob.alloc (.cells #[.slice ba 1 bc, .slice (some ⟨ga, 0, none⟩) 1 ac, .slice (some ⟨gh, 0, none⟩) 1 hc] 52)) (oa.alloc (.cells #[.slice ba 1 bc, .slice (some ⟨ga, 0, none⟩) 1 ac, .slice (some ⟨gh, 0, none⟩) 1 hc] 52)) (oh.alloc (.cells #[.slice ba 1 bc, .slice (some ⟨ga, 0, none⟩) 1 ac, .slice (some ⟨gh, 0, none⟩) 1 hc] 52)) (by have := hb3.size; simp; omega)
  have HFO := hide FO
  clear FO hb3
  go_wp2_with fail
  refine (unhide HFO).mono ?_
  rintro e w5 ⟨v5, rfl, h5, h6⟩
  obtain ⟨m, hm⟩ : ∃ m, 3 = m := ⟨_, rfl⟩
  rw [hm] at h5 hTs
  have hm1 : 0 < m := by omega
  have hm2 : ¬ (65536 : Int) < (m : Int) := by omega
  obtain ⟨a5, c5, rfl⟩ : ∃ va vc, v5 = .slice va m vc := by
    rcases h5.2 with ⟨rfl, h0⟩ | ⟨g, cap, cur, rfl, _⟩
    · omega
    · exact ⟨_, cap, rfl⟩
  rw [hT] at h5
  have TXB := own_textB h5 hTs.symm
  have H6 := hide h6
  have HTs := hide hTs
  clear h5 h6 hT hTs hm
  clear q0 q1 q2 q3 q4 q5 q6 p0 p1 p2 p3 p4 p5 p6
  go_wp2_with fail
  go_ret2
  exact ⟨rfl, ((unhide BL3).alloc (by have := (unhide PB3).lt; omega) (.cells #[.slice ba 1 bc, .slice (some ⟨ga, 0, none⟩) 1 ac, .slice (some ⟨gh, 0, none⟩) 1 hc] 52)).trans ((unhide H6).mono (by have := (unhide PB2).lt; omega))⟩
end Go.Proofs.Ythjndkjbjflmfaa
