/- Texts of this claim, one behind the other. -/
import Derived.Test.YtnnbaodillnkkaaGreatTlS
/- Chapter 6's small table: what is known of it. -/
namespace Go.Proofs.YtnnbaodillnkkaaGreat
open Go.RowKit Go.Shelf Go.Maps
set_option linter.unusedVariables false
def KT : TV := { sc := [((ByteArray.mk #[108, 97, 116, 105, 110]), [(97, 122)])], co := [(45, 57)], ma := [(769, 230)], pr := [(233, 101, 769)], fo := [(65, (ByteArray.mk #[97]))], lk := [], dr := [], al := [(45, 45), (48, 57), (97, 122)], r1 := [], r2 := [], r3 := [], r4 := [], r5 := [], r6 := [], r7 := [], r8 := [] }
def BT : TV := { sc := [], co := [], ma := [], pr := [], fo := [], lk := [], dr := [(98, 97)], al := [], r1 := [], r2 := [], r3 := [], r4 := [], r5 := [], r6 := [], r7 := [], r8 := [] }
theorem kt_check : checkV KT = (0, 0, 0) := by decide +kernel
theorem bt_check : checkV BT = (11, 7, 0) := by decide +kernel
theorem kt_whole : wholP KT 233 = some (233, 101, 769) := by decide +kernel
theorem kt_join : joinP KT 101 769 = some (233, 101, 769) := by decide +kernel
theorem kt_fold : toL KT.fo 65 = [97] ∧ fromB KT.fo 65 = true := by decide +kernel
theorem kt_scr : scrsOf KT 113 = [0] := by decide +kernel
theorem kt_class : classOf KT 769 = 230 := by decide +kernel
theorem kt_plain : plainB KT 97 = true ∧ plainB KT 65 = false := by decide +kernel
theorem kt_froms (x : Int) : fromsB KT x = true ↔ x ∈ [65, 233] := by
  unfold fromsB wholB fromB KT
  simp
  omega
theorem kt_ok : TabOk KT := by
  refine ⟨by decide, by decide, by decide, by decide, by decide, by decide, by decide, by decide, ?_, ?_, ?_, ?_⟩
  · intro x hx
    obtain rfl : x = ((ByteArray.mk #[108, 97, 116, 105, 110]), [(97, 122)]) := by simpa [KT] using hx
    exact ⟨by unfold maxLen; decide, by decide⟩
  · intro x hx
    obtain rfl : x = (769, 230) := by simpa [KT] using hx
    exact ⟨by decide, by decide⟩
  · intro x hx
    obtain rfl : x = (65, (ByteArray.mk #[97])) := by simpa [KT] using hx
    show ((ByteArray.mk #[97])).size ≤ maxLen
    unfold maxLen
    decide
  · intro x hx
    simp [KT] at hx
theorem kt_in : TabI KT := by
  refine ⟨?_, ?_, ?_, ?_, ?_, ?_, ?_, ?_⟩
  · intro x hx y hy
    obtain rfl : x = ((ByteArray.mk #[108, 97, 116, 105, 110]), [(97, 122)]) := by simpa [KT] using hx
    obtain rfl : y = (97, 122) := by simpa using hy
    unfold R32
    decide
  · intro y hy
    obtain rfl : y = (45, 57) := by simpa [KT] using hy
    unfold R32
    decide
  · intro y hy
    simp [KT] at hy
  · intro y hy
    simp [KT] at hy
    rcases hy with rfl | rfl | rfl <;> (unfold R32; decide)
  · intro y hy
    obtain rfl : y = (769, 230) := by simpa [KT] using hy
    unfold R32
    decide
  · intro y hy
    obtain rfl : y = (233, 101, 769) := by simpa [KT] using hy
    unfold R32
    decide
  · intro y hy
    obtain rfl : y = (65, (ByteArray.mk #[97])) := by simpa [KT] using hy
    unfold R32
    decide
  · intro y hy
    simp [KT] at hy
theorem bt_ok : TabOk BT := by
  refine ⟨by decide, by decide, by decide, by decide, by decide, by decide, by decide, by decide, ?_, ?_, ?_, ?_⟩
  all_goals
    intro x hx
    simp [BT] at hx
theorem bt_in : TabI BT := by
  refine ⟨?_, ?_, ?_, ?_, ?_, ?_, ?_, ?_⟩
  · intro x hx
    simp [BT] at hx
  · intro x hx
    simp [BT] at hx
  · intro y hy
    obtain rfl : y = (98, 97) := by simpa [BT] using hy
    unfold R32
    decide
  all_goals
    intro x hx
    simp [BT] at hx
theorem rising_unique : ∀ l m : List Int, l.Pairwise (· < ·) → m.Pairwise (· < ·) → (∀ x, x ∈ l ↔ x ∈ m) → l = m
  | [], [], _, _, _ => rfl
  | [], y :: m, _, _, h => absurd ((h y).2 (by simp)) (by simp)
  | x :: l, [], _, _, h => absurd ((h x).1 (by simp)) (by simp)
  | x :: l, y :: m, hl, hm, h => by
    have hl' := List.pairwise_cons.1 hl
    have hm' := List.pairwise_cons.1 hm
    have e : x = y := by
      rcases List.mem_cons.1 ((h x).1 (by simp)) with e | e
      · exact e
      · rcases List.mem_cons.1 ((h y).2 (by simp)) with e2 | e2
        · exact e2.symm
        · have := hm'.1 x e
          have := hl'.1 y e2
          omega
    subst e
    rw [rising_unique l m hl'.2 hm'.2 (fun z => ⟨fun hz => ?_, fun hz => ?_⟩)]
    · rcases List.mem_cons.1 ((h z).1 (by simp [hz])) with e | e
      · have := hl'.1 z hz
        omega
      · exact e
    · rcases List.mem_cons.1 ((h z).2 (by simp [hz])) with e | e
      · have := hm'.1 z hz
        omega
      · exact e
theorem blkRowC {w : World} {g : Nat} {cs : Array Value} {t : TypeId} (b : Blk w g cs t) (xs : List Value) (e : cs = xs.toArray) : RowC w w.heap.size (some ⟨g, 0, none⟩) xs := fun _ => ⟨g, 0, rfl, b.lt, fun j v hv => by
  rw [Nat.zero_add, b.cell j, e, List.getElem?_toArray]
  exact hv⟩
theorem rowC_nil (w : World) : RowC w w.heap.size none [] := fun h => by simp at h
theorem own_one {w : World} {lo E : Nat} {v x : Value} (h : w.ownsRow lo E 1 v 1 [x]) : ∃ g cap, v = .slice (some ⟨g, 0, none⟩) 1 cap ∧ g < w.heap.size ∧ w.cell? ⟨g, 0, none⟩ = some x := by
  rcases h.2 with ⟨_, e⟩ | ⟨g, cap, cur, e, hb, hg, hc, hm, hcs, hx⟩
  · cases e
  · have b : Blk w g cur E := hg
    refine ⟨g, cap, e, b.lt, ?_⟩
    rw [b.cell 0]
    have hx1 : (cur.toList.take (1 * 1))[0]? = [x][0]? := by rw [hx]
    rw [List.getElem?_take_of_lt (by decide), Array.getElem?_toList] at hx1
    exact hx1
set_option maxRecDepth 100000 in
set_option maxHeartbeats 4000000 in
theorem bare_any6 (W : World) : Calls Tryz.prog 26 #[] W fun e w' => ∃ g1 g7, e = .returned (.agg #[.slice none 0 0, .slice (some ⟨g1, 0, none⟩) 1 1, .slice none 0 0, .slice none 0 0, .slice none 0 0, .slice none 0 0, .slice none 0 0, .slice (some ⟨g7, 0, none⟩) 3 3]) ∧ Blk w' g1 #[.int .i32 45, .int .i32 57] 68 ∧ Blk w' g7 #[.int .i32 45, .int .i32 45, .int .i32 48, .int .i32 57, .int .i32 97, .int .i32 122] 68 ∧ Below W.heap.size W w' := by
  have b0 : Blk (((W.alloc (.cells #[.slice none 0 0, .slice (some ⟨W.heap.size + 1, 0, none⟩) 1 1, .slice none 0 0, .slice none 0 0, .slice none 0 0, .slice none 0 0, .slice none 0 0, .slice (some ⟨W.heap.size + 1 + 1, 0, none⟩) 3 3] 32)).alloc (.cells #[.int .i32 45, .int .i32 57] 68)).alloc (.cells #[.int .i32 45, .int .i32 45, .int .i32 48, .int .i32 57, .int .i32 97, .int .i32 122] 68)) W.heap.size #[.slice none 0 0, .slice (some ⟨W.heap.size + 1, 0, none⟩) 1 1, .slice none 0 0, .slice none 0 0, .slice none 0 0, .slice none 0 0, .slice none 0 0, .slice (some ⟨W.heap.size + 1 + 1, 0, none⟩) 3 3] 32 := ((Blk.new W _ _).alloc _).alloc _
  have b1 : Blk (((W.alloc (.cells #[.slice none 0 0, .slice (some ⟨W.heap.size + 1, 0, none⟩) 1 1, .slice none 0 0, .slice none 0 0, .slice none 0 0, .slice none 0 0, .slice none 0 0, .slice (some ⟨W.heap.size + 1 + 1, 0, none⟩) 3 3] 32)).alloc (.cells #[.int .i32 45, .int .i32 57] 68)).alloc (.cells #[.int .i32 45, .int .i32 45, .int .i32 48, .int .i32 57, .int .i32 97, .int .i32 122] 68)) (W.heap.size + 1) #[.int .i32 45, .int .i32 57] 68 := by
    have h := Blk.new (W.alloc (.cells #[.slice none 0 0, .slice (some ⟨W.heap.size + 1, 0, none⟩) 1 1, .slice none 0 0, .slice none 0 0, .slice none 0 0, .slice none 0 0, .slice none 0 0, .slice (some ⟨W.heap.size + 1 + 1, 0, none⟩) 3 3] 32)) #[.int .i32 45, .int .i32 57] 68
    simp only [World.size_alloc] at h
    exact h.alloc _
  have b7 : Blk (((W.alloc (.cells #[.slice none 0 0, .slice (some ⟨W.heap.size + 1, 0, none⟩) 1 1, .slice none 0 0, .slice none 0 0, .slice none 0 0, .slice none 0 0, .slice none 0 0, .slice (some ⟨W.heap.size + 1 + 1, 0, none⟩) 3 3] 32)).alloc (.cells #[.int .i32 45, .int .i32 57] 68)).alloc (.cells #[.int .i32 45, .int .i32 45, .int .i32 48, .int .i32 57, .int .i32 97, .int .i32 122] 68)) (W.heap.size + 1 + 1) #[.int .i32 45, .int .i32 45, .int .i32 48, .int .i32 57, .int .i32 97, .int .i32 122] 68 := by
    have h := Blk.new ((W.alloc (.cells #[.slice none 0 0, .slice (some ⟨W.heap.size + 1, 0, none⟩) 1 1, .slice none 0 0, .slice none 0 0, .slice none 0 0, .slice none 0 0, .slice none 0 0, .slice (some ⟨W.heap.size + 1 + 1, 0, none⟩) 3 3] 32)).alloc (.cells #[.int .i32 45, .int .i32 57] 68)) #[.int .i32 45, .int .i32 45, .int .i32 48, .int .i32 57, .int .i32 97, .int .i32 122] 68
    simp only [World.size_alloc] at h
    exact h
  have hB : Below W.heap.size W (((W.alloc (.cells #[.slice none 0 0, .slice (some ⟨W.heap.size + 1, 0, none⟩) 1 1, .slice none 0 0, .slice none 0 0, .slice none 0 0, .slice none 0 0, .slice none 0 0, .slice (some ⟨W.heap.size + 1 + 1, 0, none⟩) 3 3] 32)).alloc (.cells #[.int .i32 45, .int .i32 57] 68)).alloc (.cells #[.int .i32 45, .int .i32 45, .int .i32 48, .int .i32 57, .int .i32 97, .int .i32 122] 68)) := (((Below.refl _ W).alloc (Nat.le_refl _) _).alloc (by simp) _).alloc (by simp; omega) _
  have HB := hide (And.intro b0 (And.intro b1 (And.intro b7 hB)))
  clear b0 b1 b7 hB
  go_enter Tryz.func26, Tryz.ntmps26
  go_wp2_with fail
  exact bodyPost_ret (v := .agg #[.slice none 0 0, .slice (some ⟨W.heap.size + 1, 0, none⟩) 1 1, .slice none 0 0, .slice none 0 0, .slice none 0 0, .slice none 0 0, .slice none 0 0, .slice (some ⟨W.heap.size + 1 + 1, 0, none⟩) 3 3]) (results_cell_row Tryz.results26 _ _ _ _ _ _ _ rfl (unhide HB).1 Tryz.underlying32 rfl (by kernel_rfl)) rfl ⟨_, _, rfl, (unhide HB).2.1, (unhide HB).2.2.1, (unhide HB).2.2.2⟩
set_option maxRecDepth 100000 in
set_option maxHeartbeats 8000000 in
theorem known_any6 (W : World) : Calls Tryz.prog 6 #[] W fun e w' => e = .returned (.bool true) ∧ Below W.heap.size W w' := by
  have HBa := hide (bare_any6 W)
  go_enter Tryz.func6, Tryz.ntmps6
  go_wp2_with fail
  refine (unhide HBa).mono ?_
  rintro e w1 ⟨g1, g7, rfl, b1, b7, hb⟩
  have x0 : Blk ((((((w1.alloc (.cells #[.slice (some ⟨w1.heap.size + 1 + 1, 0, none⟩) 1 1, .slice (some ⟨g1, 0, none⟩) 1 1, .slice (some ⟨w1.heap.size + 1 + 1 + 1, 0, none⟩) 1 1, .slice (some ⟨w1.heap.size + 1 + 1 + 1 + 1, 0, none⟩) 1 1, .slice (some ⟨w1.heap.size + 1 + 1 + 1 + 1 + 1, 0, none⟩) 1 1, .slice none 0 0, .slice none 0 0, .slice (some ⟨g7, 0, none⟩) 3 3] 32)).alloc (.cells #[.int .i32 97, .int .i32 122] 68)).alloc (.cells #[.string (ByteArray.mk #[108, 97, 116, 105, 110]), .slice (some ⟨w1.heap.size + 1, 0, none⟩) 1 1] 70)).alloc (.cells #[.int .i32 769, .int .i64 230] 53)).alloc (.cells #[.int .i32 233, .int .i32 101, .int .i32 769] 56)).alloc (.cells #[.int .i32 65, .string (ByteArray.mk #[97])] 59)) (w1.heap.size) #[.slice (some ⟨w1.heap.size + 1 + 1, 0, none⟩) 1 1, .slice (some ⟨g1, 0, none⟩) 1 1, .slice (some ⟨w1.heap.size + 1 + 1 + 1, 0, none⟩) 1 1, .slice (some ⟨w1.heap.size + 1 + 1 + 1 + 1, 0, none⟩) 1 1, .slice (some ⟨w1.heap.size + 1 + 1 + 1 + 1 + 1, 0, none⟩) 1 1, .slice none 0 0, .slice none 0 0, .slice (some ⟨g7, 0, none⟩) 3 3] 32 := by
    have h := Blk.new w1 #[.slice (some ⟨w1.heap.size + 1 + 1, 0, none⟩) 1 1, .slice (some ⟨g1, 0, none⟩) 1 1, .slice (some ⟨w1.heap.size + 1 + 1 + 1, 0, none⟩) 1 1, .slice (some ⟨w1.heap.size + 1 + 1 + 1 + 1, 0, none⟩) 1 1, .slice (some ⟨w1.heap.size + 1 + 1 + 1 + 1 + 1, 0, none⟩) 1 1, .slice none 0 0, .slice none 0 0, .slice (some ⟨g7, 0, none⟩) 3 3] 32
    try simp only [World.size_alloc] at h
    exact (((((h.alloc _).alloc _).alloc _).alloc _).alloc _)
  have x1 : Blk ((((((w1.alloc (.cells #[.slice (some ⟨w1.heap.size + 1 + 1, 0, none⟩) 1 1, .slice (some ⟨g1, 0, none⟩) 1 1, .slice (some ⟨w1.heap.size + 1 + 1 + 1, 0, none⟩) 1 1, .slice (some ⟨w1.heap.size + 1 + 1 + 1 + 1, 0, none⟩) 1 1, .slice (some ⟨w1.heap.size + 1 + 1 + 1 + 1 + 1, 0, none⟩) 1 1, .slice none 0 0, .slice none 0 0, .slice (some ⟨g7, 0, none⟩) 3 3] 32)).alloc (.cells #[.int .i32 97, .int .i32 122] 68)).alloc (.cells #[.string (ByteArray.mk #[108, 97, 116, 105, 110]), .slice (some ⟨w1.heap.size + 1, 0, none⟩) 1 1] 70)).alloc (.cells #[.int .i32 769, .int .i64 230] 53)).alloc (.cells #[.int .i32 233, .int .i32 101, .int .i32 769] 56)).alloc (.cells #[.int .i32 65, .string (ByteArray.mk #[97])] 59)) (w1.heap.size + 1) #[.int .i32 97, .int .i32 122] 68 := by
    have h := Blk.new (w1.alloc (.cells #[.slice (some ⟨w1.heap.size + 1 + 1, 0, none⟩) 1 1, .slice (some ⟨g1, 0, none⟩) 1 1, .slice (some ⟨w1.heap.size + 1 + 1 + 1, 0, none⟩) 1 1, .slice (some ⟨w1.heap.size + 1 + 1 + 1 + 1, 0, none⟩) 1 1, .slice (some ⟨w1.heap.size + 1 + 1 + 1 + 1 + 1, 0, none⟩) 1 1, .slice none 0 0, .slice none 0 0, .slice (some ⟨g7, 0, none⟩) 3 3] 32)) #[.int .i32 97, .int .i32 122] 68
    try simp only [World.size_alloc] at h
    exact ((((h.alloc _).alloc _).alloc _).alloc _)
  have x2 : Blk ((((((w1.alloc (.cells #[.slice (some ⟨w1.heap.size + 1 + 1, 0, none⟩) 1 1, .slice (some ⟨g1, 0, none⟩) 1 1, .slice (some ⟨w1.heap.size + 1 + 1 + 1, 0, none⟩) 1 1, .slice (some ⟨w1.heap.size + 1 + 1 + 1 + 1, 0, none⟩) 1 1, .slice (some ⟨w1.heap.size + 1 + 1 + 1 + 1 + 1, 0, none⟩) 1 1, .slice none 0 0, .slice none 0 0, .slice (some ⟨g7, 0, none⟩) 3 3] 32)).alloc (.cells #[.int .i32 97, .int .i32 122] 68)).alloc (.cells #[.string (ByteArray.mk #[108, 97, 116, 105, 110]), .slice (some ⟨w1.heap.size + 1, 0, none⟩) 1 1] 70)).alloc (.cells #[.int .i32 769, .int .i64 230] 53)).alloc (.cells #[.int .i32 233, .int .i32 101, .int .i32 769] 56)).alloc (.cells #[.int .i32 65, .string (ByteArray.mk #[97])] 59)) (w1.heap.size + 1 + 1) #[.string (ByteArray.mk #[108, 97, 116, 105, 110]), .slice (some ⟨w1.heap.size + 1, 0, none⟩) 1 1] 70 := by
    have h := Blk.new ((w1.alloc (.cells #[.slice (some ⟨w1.heap.size + 1 + 1, 0, none⟩) 1 1, .slice (some ⟨g1, 0, none⟩) 1 1, .slice (some ⟨w1.heap.size + 1 + 1 + 1, 0, none⟩) 1 1, .slice (some ⟨w1.heap.size + 1 + 1 + 1 + 1, 0, none⟩) 1 1, .slice (some ⟨w1.heap.size + 1 + 1 + 1 + 1 + 1, 0, none⟩) 1 1, .slice none 0 0, .slice none 0 0, .slice (some ⟨g7, 0, none⟩) 3 3] 32)).alloc (.cells #[.int .i32 97, .int .i32 122] 68)) #[.string (ByteArray.mk #[108, 97, 116, 105, 110]), .slice (some ⟨w1.heap.size + 1, 0, none⟩) 1 1] 70
    try simp only [World.size_alloc] at h
    exact (((h.alloc _).alloc _).alloc _)
  have x3 : Blk ((((((w1.alloc (.cells #[.slice (some ⟨w1.heap.size + 1 + 1, 0, none⟩) 1 1, .slice (some ⟨g1, 0, none⟩) 1 1, .slice (some ⟨w1.heap.size + 1 + 1 + 1, 0, none⟩) 1 1, .slice (some ⟨w1.heap.size + 1 + 1 + 1 + 1, 0, none⟩) 1 1, .slice (some ⟨w1.heap.size + 1 + 1 + 1 + 1 + 1, 0, none⟩) 1 1, .slice none 0 0, .slice none 0 0, .slice (some ⟨g7, 0, none⟩) 3 3] 32)).alloc (.cells #[.int .i32 97, .int .i32 122] 68)).alloc (.cells #[.string (ByteArray.mk #[108, 97, 116, 105, 110]), .slice (some ⟨w1.heap.size + 1, 0, none⟩) 1 1] 70)).alloc (.cells #[.int .i32 769, .int .i64 230] 53)).alloc (.cells #[.int .i32 233, .int .i32 101, .int .i32 769] 56)).alloc (.cells #[.int .i32 65, .string (ByteArray.mk #[97])] 59)) (w1.heap.size + 1 + 1 + 1) #[.int .i32 769, .int .i64 230] 53 := by
    have h := Blk.new (((w1.alloc (.cells #[.slice (some ⟨w1.heap.size + 1 + 1, 0, none⟩) 1 1, .slice (some ⟨g1, 0, none⟩) 1 1, .slice (some ⟨w1.heap.size + 1 + 1 + 1, 0, none⟩) 1 1, .slice (some ⟨w1.heap.size + 1 + 1 + 1 + 1, 0, none⟩) 1 1, .slice (some ⟨w1.heap.size + 1 + 1 + 1 + 1 + 1, 0, none⟩) 1 1, .slice none 0 0, .slice none 0 0, .slice (some ⟨g7, 0, none⟩) 3 3] 32)).alloc (.cells #[.int .i32 97, .int .i32 122] 68)).alloc (.cells #[.string (ByteArray.mk #[108, 97, 116, 105, 110]), .slice (some ⟨w1.heap.size + 1, 0, none⟩) 1 1] 70)) #[.int .i32 769, .int .i64 230] 53
    try simp only [World.size_alloc] at h
    exact ((h.alloc _).alloc _)
  have x4 : Blk ((((((w1.alloc (.cells #[.slice (some ⟨w1.heap.size + 1 + 1, 0, none⟩) 1 1, .slice (some ⟨g1, 0, none⟩) 1 1, .slice (some ⟨w1.heap.size + 1 + 1 + 1, 0, none⟩) 1 1, .slice (some ⟨w1.heap.size + 1 + 1 + 1 + 1, 0, none⟩) 1 1, .slice (some ⟨w1.heap.size + 1 + 1 + 1 + 1 + 1, 0, none⟩) 1 1, .slice none 0 0, .slice none 0 0, .slice (some ⟨g7, 0, none⟩) 3 3] 32)).alloc (.cells #[.int .i32 97, .int .i32 122] 68)).alloc (.cells #[.string (ByteArray.mk #[108, 97, 116, 105, 110]), .slice (some ⟨w1.heap.size + 1, 0, none⟩) 1 1] 70)).alloc (.cells #[.int .i32 769, .int .i64 230] 53)).alloc (.cells #[.int .i32 233, .int .i32 101, .int .i32 769] 56)).alloc (.cells #[.int .i32 65, .string (ByteArray.mk #[97])] 59)) (w1.heap.size + 1 + 1 + 1 + 1) #[.int .i32 233, .int .i32 101, .int .i32 769] 56 := by
    have h := Blk.new ((((w1.alloc (.cells #[.slice (some ⟨w1.heap.size + 1 + 1, 0, none⟩) 1 1, .slice (some ⟨g1, 0, none⟩) 1 1, .slice (some ⟨w1.heap.size + 1 + 1 + 1, 0, none⟩) 1 1, .slice (some ⟨w1.heap.size + 1 + 1 + 1 + 1, 0, none⟩) 1 1, .slice (some ⟨w1.heap.size + 1 + 1 + 1 + 1 + 1, 0, none⟩) 1 1, .slice none 0 0, .slice none 0 0, .slice (some ⟨g7, 0, none⟩) 3 3] 32)).alloc (.cells #[.int .i32 97, .int .i32 122] 68)).alloc (.cells #[.string (ByteArray.mk #[108, 97, 116, 105, 110]), .slice (some ⟨w1.heap.size + 1, 0, none⟩) 1 1] 70)).alloc (.cells #[.int .i32 769, .int .i64 230] 53)) #[.int .i32 233, .int .i32 101, .int .i32 769] 56
    try simp only [World.size_alloc] at h
    exact (h.alloc _)
  have x5 : Blk ((((((w1.alloc (.cells #[.slice (some ⟨w1.heap.size + 1 + 1, 0, none⟩) 1 1, .slice (some ⟨g1, 0, none⟩) 1 1, .slice (some ⟨w1.heap.size + 1 + 1 + 1, 0, none⟩) 1 1, .slice (some ⟨w1.heap.size + 1 + 1 + 1 + 1, 0, none⟩) 1 1, .slice (some ⟨w1.heap.size + 1 + 1 + 1 + 1 + 1, 0, none⟩) 1 1, .slice none 0 0, .slice none 0 0, .slice (some ⟨g7, 0, none⟩) 3 3] 32)).alloc (.cells #[.int .i32 97, .int .i32 122] 68)).alloc (.cells #[.string (ByteArray.mk #[108, 97, 116, 105, 110]), .slice (some ⟨w1.heap.size + 1, 0, none⟩) 1 1] 70)).alloc (.cells #[.int .i32 769, .int .i64 230] 53)).alloc (.cells #[.int .i32 233, .int .i32 101, .int .i32 769] 56)).alloc (.cells #[.int .i32 65, .string (ByteArray.mk #[97])] 59)) (w1.heap.size + 1 + 1 + 1 + 1 + 1) #[.int .i32 65, .string (ByteArray.mk #[97])] 59 := by
    have h := Blk.new (((((w1.alloc (.cells #[.slice (some ⟨w1.heap.size + 1 + 1, 0, none⟩) 1 1, .slice (some ⟨g1, 0, none⟩) 1 1, .slice (some ⟨w1.heap.size + 1 + 1 + 1, 0, none⟩) 1 1, .slice (some ⟨w1.heap.size + 1 + 1 + 1 + 1, 0, none⟩) 1 1, .slice (some ⟨w1.heap.size + 1 + 1 + 1 + 1 + 1, 0, none⟩) 1 1, .slice none 0 0, .slice none 0 0, .slice (some ⟨g7, 0, none⟩) 3 3] 32)).alloc (.cells #[.int .i32 97, .int .i32 122] 68)).alloc (.cells #[.string (ByteArray.mk #[108, 97, 116, 105, 110]), .slice (some ⟨w1.heap.size + 1, 0, none⟩) 1 1] 70)).alloc (.cells #[.int .i32 769, .int .i64 230] 53)).alloc (.cells #[.int .i32 233, .int .i32 101, .int .i32 769] 56)) #[.int .i32 65, .string (ByteArray.mk #[97])] 59
    try simp only [World.size_alloc] at h
    exact h
  have y1 : Blk ((((((w1.alloc (.cells #[.slice (some ⟨w1.heap.size + 1 + 1, 0, none⟩) 1 1, .slice (some ⟨g1, 0, none⟩) 1 1, .slice (some ⟨w1.heap.size + 1 + 1 + 1, 0, none⟩) 1 1, .slice (some ⟨w1.heap.size + 1 + 1 + 1 + 1, 0, none⟩) 1 1, .slice (some ⟨w1.heap.size + 1 + 1 + 1 + 1 + 1, 0, none⟩) 1 1, .slice none 0 0, .slice none 0 0, .slice (some ⟨g7, 0, none⟩) 3 3] 32)).alloc (.cells #[.int .i32 97, .int .i32 122] 68)).alloc (.cells #[.string (ByteArray.mk #[108, 97, 116, 105, 110]), .slice (some ⟨w1.heap.size + 1, 0, none⟩) 1 1] 70)).alloc (.cells #[.int .i32 769, .int .i64 230] 53)).alloc (.cells #[.int .i32 233, .int .i32 101, .int .i32 769] 56)).alloc (.cells #[.int .i32 65, .string (ByteArray.mk #[97])] 59)) g1 #[.int .i32 45, .int .i32 57] 68 := (((((b1.alloc _).alloc _).alloc _).alloc _).alloc _).alloc _
  have y7 : Blk ((((((w1.alloc (.cells #[.slice (some ⟨w1.heap.size + 1 + 1, 0, none⟩) 1 1, .slice (some ⟨g1, 0, none⟩) 1 1, .slice (some ⟨w1.heap.size + 1 + 1 + 1, 0, none⟩) 1 1, .slice (some ⟨w1.heap.size + 1 + 1 + 1 + 1, 0, none⟩) 1 1, .slice (some ⟨w1.heap.size + 1 + 1 + 1 + 1 + 1, 0, none⟩) 1 1, .slice none 0 0, .slice none 0 0, .slice (some ⟨g7, 0, none⟩) 3 3] 32)).alloc (.cells #[.int .i32 97, .int .i32 122] 68)).alloc (.cells #[.string (ByteArray.mk #[108, 97, 116, 105, 110]), .slice (some ⟨w1.heap.size + 1, 0, none⟩) 1 1] 70)).alloc (.cells #[.int .i32 769, .int .i64 230] 53)).alloc (.cells #[.int .i32 233, .int .i32 101, .int .i32 769] 56)).alloc (.cells #[.int .i32 65, .string (ByteArray.mk #[97])] 59)) g7 #[.int .i32 45, .int .i32 45, .int .i32 48, .int .i32 57, .int .i32 97, .int .i32 122] 68 := (((((b7.alloc _).alloc _).alloc _).alloc _).alloc _).alloc _
  have hT : TabIn ((((((w1.alloc (.cells #[.slice (some ⟨w1.heap.size + 1 + 1, 0, none⟩) 1 1, .slice (some ⟨g1, 0, none⟩) 1 1, .slice (some ⟨w1.heap.size + 1 + 1 + 1, 0, none⟩) 1 1, .slice (some ⟨w1.heap.size + 1 + 1 + 1 + 1, 0, none⟩) 1 1, .slice (some ⟨w1.heap.size + 1 + 1 + 1 + 1 + 1, 0, none⟩) 1 1, .slice none 0 0, .slice none 0 0, .slice (some ⟨g7, 0, none⟩) 3 3] 32)).alloc (.cells #[.int .i32 97, .int .i32 122] 68)).alloc (.cells #[.string (ByteArray.mk #[108, 97, 116, 105, 110]), .slice (some ⟨w1.heap.size + 1, 0, none⟩) 1 1] 70)).alloc (.cells #[.int .i32 769, .int .i64 230] 53)).alloc (.cells #[.int .i32 233, .int .i32 101, .int .i32 769] 56)).alloc (.cells #[.int .i32 65, .string (ByteArray.mk #[97])] 59)) KT (some ⟨w1.heap.size + 1 + 1, 0, none⟩) (some ⟨g1, 0, none⟩) (some ⟨w1.heap.size + 1 + 1 + 1, 0, none⟩) (some ⟨w1.heap.size + 1 + 1 + 1 + 1, 0, none⟩) (some ⟨w1.heap.size + 1 + 1 + 1 + 1 + 1, 0, none⟩) none none (some ⟨g7, 0, none⟩) [.slice (some ⟨w1.heap.size + 1, 0, none⟩) 1 1] :=
    ⟨rfl, blkRowC x2 _ rfl, blkRowC y1 _ rfl, blkRowC x3 _ rfl, blkRowC x4 _ rfl, blkRowC x5 _ rfl, rowC_nil _, rowC_nil _, blkRowC y7 _ rfl, fun j x u hx hu => by
      rcases j with _ | j
      · obtain rfl : (((ByteArray.mk #[108, 97, 116, 105, 110]), [(97, 122)]) : ByteArray × List (Int × Int)) = x := by simpa [KT] using hx
        obtain rfl : Value.slice (some ⟨w1.heap.size + 1, 0, none⟩) 1 1 = u := by simpa using hu
        exact ⟨_, _, rfl, blkRowC x1 _ rfl⟩
      · simp at hu⟩
  have hBN : Below W.heap.size W ((((((w1.alloc (.cells #[.slice (some ⟨w1.heap.size + 1 + 1, 0, none⟩) 1 1, .slice (some ⟨g1, 0, none⟩) 1 1, .slice (some ⟨w1.heap.size + 1 + 1 + 1, 0, none⟩) 1 1, .slice (some ⟨w1.heap.size + 1 + 1 + 1 + 1, 0, none⟩) 1 1, .slice (some ⟨w1.heap.size + 1 + 1 + 1 + 1 + 1, 0, none⟩) 1 1, .slice none 0 0, .slice none 0 0, .slice (some ⟨g7, 0, none⟩) 3 3] 32)).alloc (.cells #[.int .i32 97, .int .i32 122] 68)).alloc (.cells #[.string (ByteArray.mk #[108, 97, 116, 105, 110]), .slice (some ⟨w1.heap.size + 1, 0, none⟩) 1 1] 70)).alloc (.cells #[.int .i32 769, .int .i64 230] 53)).alloc (.cells #[.int .i32 233, .int .i32 101, .int .i32 769] 56)).alloc (.cells #[.int .i32 65, .string (ByteArray.mk #[97])] 59)) := (((((hb.alloc hb.size _).alloc (by simp; have := hb.size; omega) _).alloc (by simp; have := hb.size; omega) _).alloc (by simp; have := hb.size; omega) _).alloc (by simp; have := hb.size; omega) _).alloc (by simp; have := hb.size; omega) _
  have HN := hide (new_any6 KT kt_ok kt_in _ _ _ _ _ _ _ _ 1 1 1 1 1 0 0 3 _ ((((((w1.alloc (.cells #[.slice (some ⟨w1.heap.size + 1 + 1, 0, none⟩) 1 1, .slice (some ⟨g1, 0, none⟩) 1 1, .slice (some ⟨w1.heap.size + 1 + 1 + 1, 0, none⟩) 1 1, .slice (some ⟨w1.heap.size + 1 + 1 + 1 + 1, 0, none⟩) 1 1, .slice (some ⟨w1.heap.size + 1 + 1 + 1 + 1 + 1, 0, none⟩) 1 1, .slice none 0 0, .slice none 0 0, .slice (some ⟨g7, 0, none⟩) 3 3] 32)).alloc (.cells #[.int .i32 97, .int .i32 122] 68)).alloc (.cells #[.string (ByteArray.mk #[108, 97, 116, 105, 110]), .slice (some ⟨w1.heap.size + 1, 0, none⟩) 1 1] 70)).alloc (.cells #[.int .i32 769, .int .i64 230] 53)).alloc (.cells #[.int .i32 233, .int .i32 101, .int .i32 769] 56)).alloc (.cells #[.int .i32 65, .string (ByteArray.mk #[97])] 59)) hT)
  have HBN := hide hBN
  rw [kt_check] at HN
  clear b1 b7 hb x0 x1 x2 x3 x4 x5 y1 y7 hT hBN HBa
  go_wp2_with fail
  refine (unhide HN).mono ?_
  rintro e w2 ⟨p, rfl, hN⟩
  obtain ⟨hR, B, rfl, hlB, hbk⟩ := hN.ok (by rw [kt_check])
  have hn := al1 w2 (.cells #[.int .i64 0, .int .i64 0, .int .i64 0] 37)
  have H3 := hide (And.intro (((unhide HBN).trans (hN.bl.mono (unhide HBN).size)).trans (hn.mono (Nat.le_trans (unhide HBN).size hN.bl.size))) (And.intro (hbk.below hn) (Blk.new w2 #[.int .i64 0, .int .i64 0, .int .i64 0] 37)))
  have HR := hide hR
  have HC := hide (bkPair_any hR B 233 (by unfold R32; decide) _ (unhide H3).2.1)
  rw [kt_whole] at HC
  have r0 := (unhide H3).2.2.cell 0
  have r1 := (unhide H3).2.2.cell 1
  have r2 := (unhide H3).2.2.cell 2
  have HW2 : Hz (W.heap.size ≤ w2.heap.size) := hide (Nat.le_trans (unhide HBN).size hN.bl.size)
  clear hn hN hR hbk HN HBN hlB
  unfold wrV
  try dsimp only
  go_wp2_with fail
  generalize w2.alloc (.cells #[.int .i64 0, .int .i64 0, .int .i64 0] 37) = w3 at *
  obtain ⟨q3, hq3⟩ : ∃ q, q = w2.heap.size := ⟨_, rfl⟩
  rw [← hq3] at H3 ⊢
  have HQ3 : Hz (W.heap.size ≤ q3) := hide (by rw [hq3]; exact unhide HW2)
  clear hq3 r0 r1 r2 HW2
  refine (unhide HC).mono ?_
  rintro e w4 ⟨rfl, hb⟩
  have H4 := hide (And.intro ((unhide H3).1.trans (hb.mono (unhide H3).1.size)) (And.intro ((unhide H3).2.1.below hb) ((unhide H3).2.2.below hb (unhide H3).2.2.lt)))
  have HC := hide (bkJoined_any (unhide HR) B 101 769 (by unfold R32; decide) (by unfold R32; decide) w4 (unhide H4).2.1)
  rw [kt_join] at HC
  clear hb H3
  unfold pairT
  try dsimp only [Option.map_some, Option.getD_some, Option.isSome_some]
  go_wp2_with fail
  refine (unhide HC).mono ?_
  rintro e w5 ⟨rfl, hw⟩
  rw [hw]
  clear hw HC
  try dsimp only [Option.map_some, Option.getD_some, Option.isSome_some]
  have HC := hide (bkFold_any (unhide HR) B 65 (by unfold R32; decide) w4 (unhide H4).2.1)
  rw [kt_fold.1, kt_fold.2] at HC
  go_wp2_with fail
  refine (unhide HC).mono ?_
  rintro e w6 ⟨v6, rfl, ho, hb⟩
  obtain ⟨gf, cf, rfl, hgf, kf⟩ := own_one ho
  have H6 := hide (And.intro ((unhide H4).1.trans (hb.mono (unhide H4).1.size)) (And.intro ((unhide H4).2.1.below hb) (And.intro ((unhide H4).2.2.below hb (unhide H4).2.2.lt) (And.intro hgf kf))))
  have HC := hide (bkScripts_any (unhide HR) B 113 w6 (unhide H6).2.1)
  rw [kt_scr] at HC
  clear ho hb hgf kf H4
  go_wp2_with fail
  refine (unhide HC).mono ?_
  rintro e w7 ⟨v7, rfl, ho, hb⟩
  obtain ⟨gs, cs, rfl, hgs, ks⟩ := own_one ho
  have H7 := hide (And.intro ((unhide H6).1.trans (hb.mono (unhide H6).1.size)) (And.intro ((unhide H6).2.1.below hb) (And.intro ((unhide H6).2.2.1.below hb (unhide H6).2.2.1.lt) (And.intro (And.intro (Nat.lt_of_lt_of_le (unhide H6).2.2.2.1 hb.size) ((hb.cell (p := ⟨gf, 0, none⟩) (unhide H6).2.2.2.1).trans (unhide H6).2.2.2.2)) (And.intro hgs ks)))))
  have HC := hide (bkFroms_any (unhide HR) B w7 (unhide H7).2.1)
  clear ho hb hgs ks H6
  go_wp2_with fail
  refine (unhide HC).mono ?_
  rintro e w8 ⟨af, c8, fs, rfl, hp, hm, hrn, _, hb⟩
  obtain rfl : fs = [65, 233] := rising_unique fs [65, 233] hp (by decide) (fun x => (hm x).trans (kt_froms x))
  obtain ⟨gg, oo, rfl, hgg, hcc⟩ := hrn (by decide)
  have k8 := hcc 0 65 rfl
  have H8 := hide (And.intro ((unhide H7).1.trans (hb.mono (unhide H7).1.size)) (And.intro ((unhide H7).2.1.below hb) ((unhide H7).2.2.1.below hb (unhide H7).2.2.1.lt)))
  have kf8 := (hb.cell (p := ⟨gf, 0, none⟩) (unhide H7).2.2.2.1.1).trans (unhide H7).2.2.2.1.2
  have ks8 := (hb.cell (p := ⟨gs, 0, none⟩) (unhide H7).2.2.2.2.1).trans (unhide H7).2.2.2.2.2
  clear hp hm hrn hgg hcc hb H7 HC
  rw [Nat.add_zero] at k8
  unfold intV at ks8
  try dsimp only at ks8
  have hn := al1 w8 (.cells #[.int .i32 98, .int .i32 97] 68)
  have bS := Blk.new w8 #[.int .i32 98, .int .i32 97] 68
  have hT : TabIn (w8.alloc (.cells #[.int .i32 98, .int .i32 97] 68)) BT none none none none none none (some ⟨w8.heap.size, 0, none⟩) none [] :=
    ⟨rfl, rowC_nil _, rowC_nil _, rowC_nil _, rowC_nil _, rowC_nil _, rowC_nil _, blkRowC bS _ rfl, rowC_nil _, fun j x u hx hu => by simp at hu⟩
  have HN := hide (new_any6 BT bt_ok bt_in _ _ _ _ _ _ _ _ 0 0 0 0 0 0 1 0 _ _ hT)
  rw [bt_check] at HN
  have H9 := hide (And.intro ((unhide H8).1.trans (hn.mono (unhide H8).1.size)) (And.intro ((unhide H8).2.1.below hn) ((unhide H8).2.2.below hn (unhide H8).2.2.lt)))
  clear hn bS hT H8
  unfold wrV at HN
  dsimp only at HN
  go_wp2_with fail
  refine (unhide HN).mono ?_
  rintro e w10 ⟨p, rfl, hN⟩
  obtain rfl := hN.no (by rw [bt_check]; decide)
  have hb := hN.bl
  have H10 := hide (And.intro ((unhide H9).1.trans (hb.mono (unhide H9).1.size)) (And.intro ((unhide H9).2.1.below hb) ((unhide H9).2.2.below hb (unhide H9).2.2.lt)))
  have r0 := (unhide H10).2.2.cell 0
  have r1 := (unhide H10).2.2.cell 1
  have r2 := (unhide H10).2.2.cell 2
  have f0 := (unhide H10).2.2.frozen 0
  have f1 := (unhide H10).2.2.frozen 1
  have f2 := (unhide H10).2.2.frozen 2
  have H11 := hide (And.intro (blk3 (unhide H10).2.2 (.int .i64 11) (.int .i64 7) (.int .i64 0)) (book_set3 (unhide H10).2.1 (unhide H10).2.2 (.int .i64 11) (.int .i64 7) (.int .i64 0)))
  have s0 := (unhide H11).1.cell 0
  have s1 := (unhide H11).1.cell 1
  have s2 := (unhide H11).1.cell 2
  have HC := hide (bkClass_any (unhide HR) B 769 (by unfold R32; decide) _ (unhide H11).2)
  rw [kt_class] at HC
  clear hN hb H9 kf8 ks8 k8
  have H12 := hide (And.intro (below3 (unhide H10).1 (unhide HQ3) (unhide H10).1.size (.int .i64 11) (.int .i64 7) (.int .i64 0)) (unhide H11).2)
  clear H10 H11
  go_wp2_with fail
  generalize ((w10.setCell ⟨q3, 0, none⟩ (.int .i64 11)).setCell ⟨q3, 1, none⟩ (.int .i64 7)).setCell ⟨q3, 2, none⟩ (.int .i64 0) = w12 at *
  clear r0 r1 r2 f0 f1 f2 s0 s1 s2
  refine (unhide HC).mono ?_
  rintro e w13 ⟨rfl, hw⟩
  rw [hw]
  clear hw HC
  have HC := hide (bkPlain_any (unhide HR) B 97 (by unfold R32; decide) w12 (unhide H12).2)
  rw [kt_plain.1] at HC
  go_wp2_with fail
  refine (unhide HC).mono ?_
  rintro e w14 ⟨rfl, hb⟩
  have H14 := hide (And.intro ((unhide H12).1.trans (hb.mono (unhide H12).1.size)) ((unhide H12).2.below hb))
  clear hb HC H12
  have HC := hide (bkPlain_any (unhide HR) B 65 (by unfold R32; decide) w14 (unhide H14).2)
  rw [kt_plain.2] at HC
  go_wp2_with fail
  refine (unhide HC).mono ?_
  rintro e w15 ⟨rfl, hb⟩
  have H15 := hide (And.intro ((unhide H14).1.trans (hb.mono (unhide H14).1.size)) ((unhide H14).2.below hb))
  clear hb HC H14
  have HC := hide (bkNames_any (unhide HR) B w15 (unhide H15).2)
  go_wp2_with fail
  refine (unhide HC).mono ?_
  rintro e w16 ⟨v16, rfl, ho, hb⟩
  obtain ⟨gn, cn, rfl, _, _⟩ := own_one (x := .string (ByteArray.mk #[108, 97, 116, 105, 110])) (show w16.ownsRow w15.heap.size 9 1 v16 1 [.string (ByteArray.mk #[108, 97, 116, 105, 110])] from ho)
  have H16 := hide ((unhide H15).1.trans (hb.mono (unhide H15).1.size))
  clear ho hb HC H15
  go_wp2_with fail
  go_ret
  exact ⟨rfl, unhide H16⟩
def numL : List Int := [4, 5, 11, 12, 13, 14, 30, 31, 32, 33, 34, 35, 36, 37, 38]
set_option maxRecDepth 100000 in
set_option maxHeartbeats 4000000 in
theorem numbers_any6 (W : World) : Calls Tryz.prog 3 #[] W fun e w' => e = .returned (.bool true) ∧ Below W.heap.size W w' := by
  have hmx : Tryz.prog.follows .mixedOrders = true := by kernel_rfl
  have b0 : Blk ((W.alloc (.cells #[.int .i64 4, .int .i64 5, .int .i64 11, .int .i64 12, .int .i64 13, .int .i64 14, .int .i64 30, .int .i64 31, .int .i64 32, .int .i64 33, .int .i64 34, .int .i64 35, .int .i64 36, .int .i64 37, .int .i64 38] 22)).alloc (.cells #[.int .i64 4, .int .i64 5, .int .i64 11, .int .i64 12, .int .i64 13, .int .i64 14, .int .i64 30, .int .i64 31, .int .i64 32, .int .i64 33, .int .i64 34, .int .i64 35, .int .i64 36, .int .i64 37, .int .i64 38] 3)) W.heap.size #[.int .i64 4, .int .i64 5, .int .i64 11, .int .i64 12, .int .i64 13, .int .i64 14, .int .i64 30, .int .i64 31, .int .i64 32, .int .i64 33, .int .i64 34, .int .i64 35, .int .i64 36, .int .i64 37, .int .i64 38] 22 := (Blk.new W _ _).alloc _
  have b1 : Blk ((W.alloc (.cells #[.int .i64 4, .int .i64 5, .int .i64 11, .int .i64 12, .int .i64 13, .int .i64 14, .int .i64 30, .int .i64 31, .int .i64 32, .int .i64 33, .int .i64 34, .int .i64 35, .int .i64 36, .int .i64 37, .int .i64 38] 22)).alloc (.cells #[.int .i64 4, .int .i64 5, .int .i64 11, .int .i64 12, .int .i64 13, .int .i64 14, .int .i64 30, .int .i64 31, .int .i64 32, .int .i64 33, .int .i64 34, .int .i64 35, .int .i64 36, .int .i64 37, .int .i64 38] 3)) (W.heap.size + 1) #[.int .i64 4, .int .i64 5, .int .i64 11, .int .i64 12, .int .i64 13, .int .i64 14, .int .i64 30, .int .i64 31, .int .i64 32, .int .i64 33, .int .i64 34, .int .i64 35, .int .i64 36, .int .i64 37, .int .i64 38] 3 := by
    have h := Blk.new (W.alloc (.cells #[.int .i64 4, .int .i64 5, .int .i64 11, .int .i64 12, .int .i64 13, .int .i64 14, .int .i64 30, .int .i64 31, .int .i64 32, .int .i64 33, .int .i64 34, .int .i64 35, .int .i64 36, .int .i64 37, .int .i64 38] 22)) #[.int .i64 4, .int .i64 5, .int .i64 11, .int .i64 12, .int .i64 13, .int .i64 14, .int .i64 30, .int .i64 31, .int .i64 32, .int .i64 33, .int .i64 34, .int .i64 35, .int .i64 36, .int .i64 37, .int .i64 38] 3
    simp only [World.size_alloc] at h
    exact h
  have H0 : Hz (Below W.heap.size W ((W.alloc (.cells #[.int .i64 4, .int .i64 5, .int .i64 11, .int .i64 12, .int .i64 13, .int .i64 14, .int .i64 30, .int .i64 31, .int .i64 32, .int .i64 33, .int .i64 34, .int .i64 35, .int .i64 36, .int .i64 37, .int .i64 38] 22)).alloc (.cells #[.int .i64 4, .int .i64 5, .int .i64 11, .int .i64 12, .int .i64 13, .int .i64 14, .int .i64 30, .int .i64 31, .int .i64 32, .int .i64 33, .int .i64 34, .int .i64 35, .int .i64 36, .int .i64 37, .int .i64 38] 3)) ∧ Blk ((W.alloc (.cells #[.int .i64 4, .int .i64 5, .int .i64 11, .int .i64 12, .int .i64 13, .int .i64 14, .int .i64 30, .int .i64 31, .int .i64 32, .int .i64 33, .int .i64 34, .int .i64 35, .int .i64 36, .int .i64 37, .int .i64 38] 22)).alloc (.cells #[.int .i64 4, .int .i64 5, .int .i64 11, .int .i64 12, .int .i64 13, .int .i64 14, .int .i64 30, .int .i64 31, .int .i64 32, .int .i64 33, .int .i64 34, .int .i64 35, .int .i64 36, .int .i64 37, .int .i64 38] 3)) W.heap.size #[.int .i64 4, .int .i64 5, .int .i64 11, .int .i64 12, .int .i64 13, .int .i64 14, .int .i64 30, .int .i64 31, .int .i64 32, .int .i64 33, .int .i64 34, .int .i64 35, .int .i64 36, .int .i64 37, .int .i64 38] 22 ∧ Blk ((W.alloc (.cells #[.int .i64 4, .int .i64 5, .int .i64 11, .int .i64 12, .int .i64 13, .int .i64 14, .int .i64 30, .int .i64 31, .int .i64 32, .int .i64 33, .int .i64 34, .int .i64 35, .int .i64 36, .int .i64 37, .int .i64 38] 22)).alloc (.cells #[.int .i64 4, .int .i64 5, .int .i64 11, .int .i64 12, .int .i64 13, .int .i64 14, .int .i64 30, .int .i64 31, .int .i64 32, .int .i64 33, .int .i64 34, .int .i64 35, .int .i64 36, .int .i64 37, .int .i64 38] 3)) (W.heap.size + 1) #[.int .i64 4, .int .i64 5, .int .i64 11, .int .i64 12, .int .i64 13, .int .i64 14, .int .i64 30, .int .i64 31, .int .i64 32, .int .i64 33, .int .i64 34, .int .i64 35, .int .i64 36, .int .i64 37, .int .i64 38] 3) := hide ⟨al2 W _ _, b0, b1⟩
  clear b0 b1
  go_enter Tryz.func3, Tryz.ntmps3
  go_wp2_with fail
  generalize ((W.alloc (.cells #[.int .i64 4, .int .i64 5, .int .i64 11, .int .i64 12, .int .i64 13, .int .i64 14, .int .i64 30, .int .i64 31, .int .i64 32, .int .i64 33, .int .i64 34, .int .i64 35, .int .i64 36, .int .i64 37, .int .i64 38] 22)).alloc (.cells #[.int .i64 4, .int .i64 5, .int .i64 11, .int .i64 12, .int .i64 13, .int .i64 14, .int .i64 30, .int .i64 31, .int .i64 32, .int .i64 33, .int .i64 34, .int .i64 35, .int .i64 36, .int .i64 37, .int .i64 38] 3)) = w0 at *
  go_loopw [3] (fun s3 wr => ∃ k : Nat, k ≤ 15 ∧ s3 = .int .i64 k ∧ Hz (Below W.heap.size W wr ∧ Blk wr W.heap.size #[.int .i64 4, .int .i64 5, .int .i64 11, .int .i64 12, .int .i64 13, .int .i64 14, .int .i64 30, .int .i64 31, .int .i64 32, .int .i64 33, .int .i64 34, .int .i64 35, .int .i64 36, .int .i64 37, .int .i64 38] 22 ∧ Blk wr (W.heap.size + 1) #[.int .i64 4, .int .i64 5, .int .i64 11, .int .i64 12, .int .i64 13, .int .i64 14, .int .i64 30, .int .i64 31, .int .i64 32, .int .i64 33, .int .i64 34, .int .i64 35, .int .i64 36, .int .i64 37, .int .i64 38] 3)) (fun s3 _ => 15 - (intOf s3).toNat)
  case atStart => exact ⟨0, by omega, rfl, H0⟩
  case round =>
    obtain ⟨k, hk, rfl, HS⟩ := hrel
    clear H0
    by_cases hkn : k < 15
    · obtain ⟨x, hx⟩ : ∃ x, numL[k]? = some x := ⟨_, List.getElem?_eq_getElem (show k < numL.length from hkn)⟩
      have ecs : (#[.int .i64 4, .int .i64 5, .int .i64 11, .int .i64 12, .int .i64 13, .int .i64 14, .int .i64 30, .int .i64 31, .int .i64 32, .int .i64 33, .int .i64 34, .int .i64 35, .int .i64 36, .int .i64 37, .int .i64 38] : Array Value)[k]? = some (.int .i64 x) := by
        have e : (#[.int .i64 4, .int .i64 5, .int .i64 11, .int .i64 12, .int .i64 13, .int .i64 14, .int .i64 30, .int .i64 31, .int .i64 32, .int .i64 33, .int .i64 34, .int .i64 35, .int .i64 36, .int .i64 37, .int .i64 38] : Array Value) = (numL.map (fun x => Value.int .i64 x)).toArray := rfl
        rw [e, List.getElem?_toArray, List.getElem?_map, hx]
        rfl
      have c0 : wr.cell? ⟨W.heap.size, k, none⟩ = some (.int .i64 x) := ((unhide HS).2.1.cell k).trans ecs
      have c1 : wr.cell? ⟨W.heap.size + 1, k, none⟩ = some (.int .i64 x) := ((unhide HS).2.2.cell k).trans ecs
      have hk1 : (k : Int) < 15 := by omega
      have hk2 : ((k : Nat) : Int).toNat = k := by omega
      clear hx ecs
      go_wp2_with fail
      go_quiet (fail)
      have HS2 : Hz (Below W.heap.size W (wr.drewN nq) ∧ Blk (wr.drewN nq) W.heap.size #[.int .i64 4, .int .i64 5, .int .i64 11, .int .i64 12, .int .i64 13, .int .i64 14, .int .i64 30, .int .i64 31, .int .i64 32, .int .i64 33, .int .i64 34, .int .i64 35, .int .i64 36, .int .i64 37, .int .i64 38] 22 ∧ Blk (wr.drewN nq) (W.heap.size + 1) #[.int .i64 4, .int .i64 5, .int .i64 11, .int .i64 12, .int .i64 13, .int .i64 14, .int .i64 30, .int .i64 31, .int .i64 32, .int .i64 33, .int .i64 34, .int .i64 35, .int .i64 36, .int .i64 37, .int .i64 38] 3) := hide ⟨below_drewN (unhide HS).1 _, (unhide HS).2.1, (unhide HS).2.2⟩
      go_wp2_with fail
      exact ⟨⟨k + 1, by omega, by go_num, HS2⟩, by simp [intOf]; omega⟩
    · have hk1 : ¬ (k : Int) < 15 := by omega
      have HK := hide (known_any6 wr)
      go_wp2_with fail
      refine (unhide HK).mono ?_
      rintro e w2 ⟨rfl, hb⟩
      have HB := hide ((unhide HS).1.trans (hb.mono (unhide HS).1.size))
      clear hb
      go_wp2_with fail
      go_ret
      exact ⟨rfl, unhide HB⟩
end Go.Proofs.YtnnbaodillnkkaaGreat
