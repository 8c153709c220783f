/- Texts of this claim, one behind the other. -/
import Derived.Test.YtemmflhofhngbaaFirst
import Derived.Sort.LotD3
import Derived.Sort.Row
import Derived.WalkKit
import Derived.BigGuard
import Derived.BigCall
import Derived.CellFam
import Derived.Deep.Draws
import Derived.Deep.QuietTactic
import Derived.BigQuiet
/- A row of 32-bit numbers that is being sorted: where it lies, swaps, what stays. -/
namespace Go.Proofs.Ytemmflhofhngbaa
open Go.RowKit Go.Shelf
set_option linter.unusedVariables false
/-- The numbers d lie at blk from off on; since w nothing but that block has changed. -/
structure SoAt (w W : World) (blk off : Nat) (d : Array Int) : Prop where
  row : Sort.Holds (Value.int .i32) W blk off d
  gr : w.grownBy W (some blk)
theorem SoAt.start {w : World} {blk off : Nat} {d : Array Int} (h : Sort.Holds (Value.int .i32) w blk off d) : SoAt w w blk off d :=
  ⟨h, ⟨rfl, rfl, rfl, Nat.le_refl _, fun _ _ _ => rfl⟩⟩
theorem grown_trans {a b c : World} {row : Option Nat} (h : a.grownBy b row) (k : b.grownBy c row) : a.grownBy c row :=
  ⟨k.os.trans h.os, k.tape.trans h.tape, k.output.trans h.output, Nat.le_trans h.size k.size, fun i hi hn => (k.block i (by have := h.size; omega) hn).trans (h.block i hi hn)⟩
theorem SoAt.trans {w W W2 : World} {blk off : Nat} {d d2 : Array Int} (h : SoAt w W blk off d) (k : SoAt W W2 blk off d2) : SoAt w W2 blk off d2 :=
  ⟨k.row, grown_trans h.gr k.gr⟩
theorem SoAt.drewN {w W : World} {blk off : Nat} {d : Array Int} (h : SoAt w W blk off d) (q : Nat) : SoAt w (W.drewN q) blk off d :=
  ⟨h.row, ⟨h.gr.os, h.gr.tape, h.gr.output, h.gr.size, h.gr.block⟩⟩
theorem SoAt.drew {w W : World} {blk off : Nat} {d : Array Int} (h : SoAt w W blk off d) : SoAt w W.drew blk off d :=
  ⟨h.row, ⟨h.gr.os, h.gr.tape, h.gr.output, h.gr.size, h.gr.block⟩⟩
theorem holds_of {W W' : World} {blk off : Nat} {d : Array Int} (h : Sort.Holds (Value.int .i32) W blk off d) (hb : W'.heap[blk]? = W.heap[blk]?) : Sort.Holds (Value.int .i32) W' blk off d :=
  fun j hj => ⟨(World.cell?_of_block (a := ⟨blk, off + j, none⟩) hb).trans (h j hj).1, (World.frozen?_of_block (a := ⟨blk, off + j, none⟩) hb).trans (h j hj).2⟩
theorem SoAt.below {w W W' : World} {blk off : Nat} {d : Array Int} (h : SoAt w W blk off d) (hl : blk < w.heap.size) (hb : Below W.heap.size W W') : SoAt w W' blk off d :=
  ⟨holds_of h.row (hb.block blk (by have := h.gr.size; omega)), grown_trans h.gr ⟨hb.os, hb.tape, hb.output, hb.size, fun k hk _ => hb.block k hk⟩⟩
theorem size_swp' (d : Array Int) (i j : Nat) : (Sort.swp d i j).size = d.size := by simp [Sort.swp]
theorem SoAt.swap {w W : World} {blk off : Nat} {d : Array Int} (h : SoAt w W blk off d) {i j : Nat} (hi : i < d.size) (hj : j < d.size) :
    SoAt w ((W.setCell ⟨blk, off + i, none⟩ (.int .i32 d[j]!)).setCell ⟨blk, off + j, none⟩ (.int .i32 d[i]!)) blk off (Sort.swp d i j) := by
  have e := Sort.putRow_swp (Value.int .i32) W blk off d i j hi hj
  rw [Sort.putRow_self _ _ _ _ _ h.row] at e
  refine ⟨?_, ?_⟩
  · rw [e]
    exact Sort.holds_putRow _ _ _ _ d _ h.row (size_swp' d i j)
  · have g1 : W.grownBy (W.setCell ⟨blk, off + i, none⟩ (.int .i32 d[j]!)) (some blk) := ⟨rfl, rfl, rfl, (KeepsWalks.setCell W _ _).size, fun k hk hn => Below.heap_setCell W ⟨blk, off + i, none⟩ _ k (fun e => hn (by rw [e]))⟩
    have g2 : (W.setCell ⟨blk, off + i, none⟩ (.int .i32 d[j]!)).grownBy ((W.setCell ⟨blk, off + i, none⟩ (.int .i32 d[j]!)).setCell ⟨blk, off + j, none⟩ (.int .i32 d[i]!)) (some blk) := ⟨rfl, rfl, rfl, (KeepsWalks.setCell _ _ _).size, fun k hk hn => Below.heap_setCell _ ⟨blk, off + j, none⟩ _ k (fun e => hn (by rw [e]))⟩
    exact grown_trans h.gr (grown_trans g1 g2)
/-- What the row's cells hold, by a function: the walk's own form. -/
theorem SoAt.cells {w W : World} {blk off : Nat} {d : Array Int} (h : SoAt w W blk off d) (n : Nat) (hn : d.size = n) : ∃ G : Nat → Int, (∀ t, G t = d[t]!) ∧ (∀ t, t < n → W.cell? ⟨blk, off + t, none⟩ = some (.int .i32 (G t))) ∧ (∀ t, t < n → W.frozen? ⟨blk, off + t, none⟩ = false) :=
  ⟨fun t => d[t]!, fun _ => rfl, fun t ht => (h.row t (by omega)).1, fun t ht => (h.row t (by omega)).2⟩
/-- Between the two stores of a swap. -/
theorem mid_cell {W : World} {blk off N : Nat} {G : Nat → Int} (hc : ∀ t, t < N → W.cell? ⟨blk, off + t, none⟩ = some (.int .i32 (G t))) {i j : Nat} (hi : i < N) (hj : j < N) : (W.setCell ⟨blk, off + i, none⟩ (.int .i32 (G j))).drew.cell? ⟨blk, off + j, none⟩ = some (.int .i32 (G j)) := by
  show (W.setCell ⟨blk, off + i, none⟩ (.int .i32 (G j))).cell? ⟨blk, off + j, none⟩ = _
  by_cases e : i = j
  · subst e
    exact World.cell?_setCell_same _ _ _ (hc i hi)
  · rw [World.cell?_setCell_other _ _ _ _ (by intro h; injection h with h1 h2; omega)]
    exact hc j hj
theorem mid_frozen {W : World} {blk off N : Nat} {G : Nat → Int} (hf : ∀ t, t < N → W.frozen? ⟨blk, off + t, none⟩ = false) {i j : Nat} (hj : j < N) : (W.setCell ⟨blk, off + i, none⟩ (.int .i32 (G j))).drew.frozen? ⟨blk, off + j, none⟩ = false := by
  show (W.setCell ⟨blk, off + i, none⟩ (.int .i32 (G j))).frozen? ⟨blk, off + j, none⟩ = _
  rw [World.frozen?_setCell]
  exact hf j hj
theorem less32 (a b : Int) (w : World) : Calls Try.prog 87 #[.int .i32 a, .int .i32 b] w fun e w' => e = .returned (.bool (Sort.ltInt a b)) ∧ w' = w := by
  have ha : (a != a) = false := by simp
  go_enter Try.func87, Try.ntmps87
  go_wp2_with go_in
  go_ret
  exact ⟨rfl, rfl⟩
end Go.Proofs.Ytemmflhofhngbaa
/- insertionSortOrdered at runes. -/
namespace Go.Proofs.Ytemmflhofhngbaa
open Go.RowKit Go.Shelf
set_option linter.unusedVariables false
theorem insI_go {a j : Nat} {d : Array Int} (hj : a < j) (hl : Sort.ltInt d[j]! d[j - 1]! = true) : Sort.insInner Sort.ltInt a j d = Sort.insInner Sort.ltInt a (j - 1) (Sort.swp d j (j - 1)) := by
  cases j with
  | zero => omega
  | succ k =>
    rw [Nat.add_sub_cancel] at hl ⊢
    show (if _ then _ else _) = _
    rw [if_pos (by rw [hl, Bool.and_true]; exact decide_eq_true hj)]
theorem insI_stop {a j : Nat} {d : Array Int} (h : j ≤ a ∨ Sort.ltInt d[j]! d[j - 1]! = false) : Sort.insInner Sort.ltInt a j d = d := by
  cases j with
  | zero => rfl
  | succ k =>
    rw [Nat.add_sub_cancel] at h
    show (if _ then _ else _) = _
    rw [if_neg]
    intro e
    rcases Bool.and_eq_true_iff.1 e with ⟨e1, e2⟩
    have := of_decide_eq_true e1
    rcases h with h | h
    · omega
    · rw [h] at e2; exact Bool.false_ne_true e2
theorem insO_go {a b i : Nat} {d : Array Int} (h : i < b) : Sort.insOuter Sort.ltInt a b i d = Sort.insOuter Sort.ltInt a b (i + 1) (Sort.insInner Sort.ltInt a i d) := by rw [Sort.insOuter, if_pos h]
theorem insO_stop {a b i : Nat} {d : Array Int} (h : ¬ i < b) : Sort.insOuter Sort.ltInt a b i d = d := by rw [Sort.insOuter, if_neg h]
set_option maxRecDepth 100000 in
set_option maxHeartbeats 4000000 in
theorem so_ins (blk off cap a b : Nat) (d : Array Int) (hab : a ≤ b) (hb : b ≤ d.size) (hsz : d.size ≤ 1000000) (w : World) (hH : Sort.Holds (Value.int .i32) w blk off d) :
    Calls Try.prog 81 #[.slice (some ⟨blk, off, none⟩) d.size cap, .int .i64 a, .int .i64 b] w fun e w' => e = .returned (.tuple #[]) ∧ SoAt w w' blk off (Sort.insertionSort Sort.ltInt d a b) := by
  have HS := hide (SoAt.start hH)
  obtain ⟨N, hN⟩ : ∃ N, N = d.size := ⟨_, rfl⟩
  rw [← hN] at hb hsz ⊢
  have HN := hide hN
  clear hH hN
  go_enter Try.func81, Try.ntmps81
  go_wp2
  go_loopw [6] (fun vi wr => ∃ (i : Nat) (dk : Array Int), vi = .int .i64 i ∧ a < i ∧ i ≤ b + 1 ∧ Hz (dk.size = N ∧ SoAt w wr blk off dk ∧ Sort.insOuter Sort.ltInt a b i dk = Sort.insertionSort Sort.ltInt d a b)) (fun vi _ => b + 1 - (intOf vi).toNat)
  case atStart => exact ⟨a + 1, d, by go_num, by omega, by omega, hide ⟨(unhide HN).symm, unhide HS, rfl⟩⟩
  case round =>
    obtain ⟨i, dk, rfl, hai, hib, HO⟩ := hrel
    clear HS
    by_cases hlt : i < b
    · have hlt' : (i : Int) < (b : Int) := by omega
      go_wp2
      go_loopw [7] (fun vj wr2 => ∃ (j : Nat) (dj : Array Int), vj = .int .i64 j ∧ a ≤ j ∧ j ≤ i ∧ Hz (dj.size = N ∧ SoAt w wr2 blk off dj ∧ Sort.insInner Sort.ltInt a j dj = Sort.insInner Sort.ltInt a i dk)) (fun vj _ => (intOf vj).toNat)
      case atStart => exact ⟨i, dk, rfl, by omega, Nat.le_refl _, hide ⟨(unhide HO).1, (unhide HO).2.1, rfl⟩⟩
      case round =>
        obtain ⟨j, dj, rfl, haj, hji, HI⟩ := hrel
        obtain ⟨G, hG, hc, hf⟩ := (unhide HI).2.1.cells N (unhide HI).1
        have HG := hide hG
        clear hG
        have HOUT : Hz ((j ≤ a ∨ Sort.ltInt (G j) (G (j - 1)) = false) → ∀ q, SoAt w (wr.drewN q) blk off dj ∧ Sort.insOuter Sort.ltInt a b (i + 1) dj = Sort.insertionSort Sort.ltInt d a b) := hide (fun hs q => ⟨(unhide HI).2.1.drewN q, by
          rw [← (unhide HO).2.2, insO_go hlt, ← (unhide HI).2.2, insI_stop (by rw [← unhide HG, ← unhide HG]; exact hs)]⟩)
        go_wp2
        by_cases hja : a < j
        · cases hl : Sort.ltInt (G j) (G (j - 1)) with
          | true =>
            go_quiet (first | (go_at_call 87; refine Calls.quiet_of_same (less32 _ _ _)))
            go_wp2
            go_region
            all_goals go_wp2
            go_roundw
            case rel =>
              refine ⟨j - 1, Sort.swp dj j (j - 1), by congr 1; omega, by omega, by omega, hide ⟨by rw [size_swp']; exact (unhide HI).1, ?_, ?_⟩⟩
              · have hsz' := (unhide HI).1
                rw [unhide HG, unhide HG]
                exact ((unhide HI).2.1.drewN _).swap (by omega) (by omega)
              · rw [← (unhide HI).2.2, insI_go hja (by rw [← unhide HG, ← unhide HG]; exact hl)]
            case measure => simp [intOf]; omega
          | false =>
            go_quiet (first | (go_at_call 87; refine Calls.quiet_of_same (less32 _ _ _)))
            go_wp2
            go_roundw
            case rel => exact ⟨i + 1, dj, by go_num, by omega, by omega, hide ⟨(unhide HI).1, unhide HOUT (.inr hl) _⟩⟩
            case measure => simp [intOf]; omega
        · go_quiet (first | (go_at_call 87; refine Calls.quiet_of_same (less32 _ _ _)))
          go_wp2
          go_roundw
          case rel => exact ⟨i + 1, dj, by go_num, by omega, by omega, hide ⟨(unhide HI).1, unhide HOUT (.inl (by omega)) _⟩⟩
          case measure => simp [intOf]; omega
    · have hlt' : ¬ (i : Int) < (b : Int) := by omega
      go_wp2
      go_end0
      exact ⟨rfl, by rw [← (unhide HO).2.2, insO_stop hlt]; exact (unhide HO).2.1⟩
end Go.Proofs.Ytemmflhofhngbaa
/- siftDownOrdered at runes. -/
namespace Go.Proofs.Ytemmflhofhngbaa
open Go.RowKit Go.Shelf
set_option linter.unusedVariables false
theorem sd_end' {hi F root : Nat} {d : Array Int} (h : hi ≤ 2 * root + 1) : Sort.siftDown Sort.ltInt hi F root d = d := by rw [Sort.siftDown, dif_pos h]
theorem sd_two {hi F root : Nat} {d : Array Int} (h0 : ¬ hi ≤ 2 * root + 1) (h1 : 2 * root + 2 < hi) (h2 : Sort.ltInt d[F + 2 * root + 1]! d[F + 2 * root + 2]! = true) : Sort.siftDown Sort.ltInt hi F root d = if Sort.ltInt d[F + root]! d[F + 2 * root + 2]! then Sort.siftDown Sort.ltInt hi F (2 * root + 2) (Sort.swp d (F + root) (F + (2 * root + 2))) else d := by
  rw [show F + 2 * root + 1 = F + (2 * root + 1) from by omega, show F + 2 * root + 2 = F + (2 * root + 2) from by omega] at h2
  rw [Sort.siftDown, dif_neg h0, if_pos (by rw [show F + (2 * root + 1) + 1 = F + (2 * root + 2) from by omega, h2, Bool.and_true]; exact decide_eq_true (by omega)), dif_pos h1, show F + 2 * root + 2 = F + (2 * root + 2) from by omega]
  cases Sort.ltInt d[F + root]! d[F + (2 * root + 2)]! <;> rfl
theorem sd_one {hi F root : Nat} {d : Array Int} (h0 : ¬ hi ≤ 2 * root + 1) (h1 : ¬ 2 * root + 2 < hi ∨ Sort.ltInt d[F + 2 * root + 1]! d[F + 2 * root + 2]! = false) : Sort.siftDown Sort.ltInt hi F root d = if Sort.ltInt d[F + root]! d[F + 2 * root + 1]! then Sort.siftDown Sort.ltInt hi F (2 * root + 1) (Sort.swp d (F + root) (F + (2 * root + 1))) else d := by
  rw [show F + 2 * root + 1 = F + (2 * root + 1) from by omega, show F + 2 * root + 2 = F + (2 * root + 2) from by omega] at h1
  rw [Sort.siftDown, dif_neg h0, if_neg (by
    intro e
    rcases Bool.and_eq_true_iff.1 e with ⟨e1, e2⟩
    have := of_decide_eq_true e1
    rw [show F + (2 * root + 1) + 1 = F + (2 * root + 2) from by omega] at e2
    rcases h1 with h1 | h1
    · omega
    · rw [h1] at e2; exact Bool.false_ne_true e2), show F + 2 * root + 1 = F + (2 * root + 1) from by omega]
  cases Sort.ltInt d[F + root]! d[F + (2 * root + 1)]! <;> rfl
set_option maxRecDepth 100000 in
set_option maxHeartbeats 8000000 in
theorem so_sift (blk off cap lo hi first N : Nat) (d : Array Int) (hN : d.size = N) (hlo : lo ≤ hi) (hb : first + hi ≤ N) (hsz : N ≤ 1000000) (w : World) (hH : Sort.Holds (Value.int .i32) w blk off d) :
    Calls Try.prog 91 #[.slice (some ⟨blk, off, none⟩) N cap, .int .i64 lo, .int .i64 hi, .int .i64 first] w fun e w' => e = .returned (.tuple #[]) ∧ SoAt w w' blk off (Sort.siftDown Sort.ltInt hi first lo d) := by
  have HS := hide (SoAt.start hH)
  have HN := hide hN
  clear hH hN
  go_enter Try.func91, Try.ntmps91
  go_wp2
  go_loopw [8] (fun vi wr => ∃ (root : Nat) (dk : Array Int), vi = .int .i64 root ∧ root ≤ hi ∧ Hz (dk.size = N ∧ SoAt w wr blk off dk ∧ Sort.siftDown Sort.ltInt hi first root dk = Sort.siftDown Sort.ltInt hi first lo d)) (fun vi _ => hi - (intOf vi).toNat)
  case atStart => exact ⟨lo, d, rfl, hlo, hide ⟨unhide HN, unhide HS, rfl⟩⟩
  case round =>
    obtain ⟨root, dj, rfl, hr, HI⟩ := hrel
    clear HS
    obtain ⟨G, hG, hc, hf⟩ := (unhide HI).2.1.cells N (unhide HI).1
    have HZ := hide (unhide HI).1
    have HA := hide (unhide HI).2.1
    have HE := hide (unhide HI).2.2
    have HG := hide hG
    clear hG HI
    by_cases h0 : hi ≤ 2 * root + 1
    · have h0z : (hi : Int) ≤ 2 * (root : Int) + 1 := by omega
      go_wp2
      go_end0
      exact ⟨rfl, by rw [← unhide HE, sd_end' h0]; exact unhide HA⟩
    · have h0z : ¬ ((hi : Int) ≤ 2 * (root : Int) + 1) := by omega
      by_cases h1 : 2 * root + 2 < hi
      · have h1z : 2 * (root : Int) + 1 + 1 < (hi : Int) := by omega
        cases h2 : Sort.ltInt (G (first + 2 * root + 1)) (G (first + 2 * root + 2)) with
        | true =>
          go_wp2_with fail
          go_big_quiet (first | (go_at_call 87; refine Calls.quiet_of_same (less32 _ _ _)))
          go_wp2_with fail
          have HA2 : Hz (SoAt w (wr.drewN nq) blk off dj) := hide ((unhide HA).drewN nq)
          have hc2 : ∀ t, t < N → (wr.drewN nq).cell? ⟨blk, off + t, none⟩ = some (.int .i32 (G t)) := hc
          have hf2 : ∀ t, t < N → (wr.drewN nq).frozen? ⟨blk, off + t, none⟩ = false := hf
          clear hc hf HA
          generalize wr.drewN nq = W2 at HA2 hc2 hf2 ⊢
          clear nq
          cases hl : Sort.ltInt (G (first + root)) (G (first + 2 * root + 2)) with
          | false =>
            go_big_quiet (first | (go_at_call 87; refine Calls.quiet_of_same (less32 _ _ _)))
            go_wp2_with fail
            (try simp only [Exit.inBlock, Exit.then])
            refine bodyPost_ret (results_none rfl _ _ _) rfl ?_
            exact ⟨rfl, by rw [← unhide HE, sd_two h0 h1 (by rw [← unhide HG, ← unhide HG]; exact h2), if_neg (by rw [← unhide HG, ← unhide HG, hl]; exact Bool.false_ne_true)]; exact (unhide HA2).drewN _⟩
          | true =>
            go_big_quiet (first | (go_at_call 87; refine Calls.quiet_of_same (less32 _ _ _)))
            go_wp2_with fail
            have HA3 : Hz (SoAt w (W2.drewN nq) blk off dj) := hide ((unhide HA2).drewN nq)
            have hc3 : ∀ t, t < N → (W2.drewN nq).cell? ⟨blk, off + t, none⟩ = some (.int .i32 (G t)) := hc2
            have hf3 : ∀ t, t < N → (W2.drewN nq).frozen? ⟨blk, off + t, none⟩ = false := hf2
            clear hc2 hf2 HA2
            generalize W2.drewN nq = W3 at HA3 hc3 hf3 ⊢
            clear nq
            go_region
            all_goals go_wp2
            go_roundw
            case rel =>
              refine ⟨2 * root + 2, Sort.swp dj (first + root) (first + (2 * root + 2)), by simp <;> omega, by omega, hide ⟨by rw [size_swp']; exact unhide HZ, ?_, ?_⟩⟩
              · have hsz' := unhide HZ
                rw [unhide HG, unhide HG]
                exact (unhide HA3).drew.swap (by omega) (by omega)
              · rw [← unhide HE, sd_two h0 h1 (by rw [← unhide HG, ← unhide HG]; exact h2), if_pos (by rw [← unhide HG, ← unhide HG]; exact hl)]
            case measure => simp [intOf]; omega
        | false =>
          go_wp2_with fail
          go_big_quiet (first | (go_at_call 87; refine Calls.quiet_of_same (less32 _ _ _)))
          go_wp2_with fail
          have HA2 : Hz (SoAt w (wr.drewN nq) blk off dj) := hide ((unhide HA).drewN nq)
          have hc2 : ∀ t, t < N → (wr.drewN nq).cell? ⟨blk, off + t, none⟩ = some (.int .i32 (G t)) := hc
          have hf2 : ∀ t, t < N → (wr.drewN nq).frozen? ⟨blk, off + t, none⟩ = false := hf
          clear hc hf HA
          generalize wr.drewN nq = W2 at HA2 hc2 hf2 ⊢
          clear nq
          cases hl : Sort.ltInt (G (first + root)) (G (first + 2 * root + 1)) with
          | false =>
            go_big_quiet (first | (go_at_call 87; refine Calls.quiet_of_same (less32 _ _ _)))
            go_wp2_with fail
            (try simp only [Exit.inBlock, Exit.then])
            refine bodyPost_ret (results_none rfl _ _ _) rfl ?_
            exact ⟨rfl, by rw [← unhide HE, sd_one h0 (.inr (by rw [← unhide HG, ← unhide HG]; exact h2)), if_neg (by rw [← unhide HG, ← unhide HG, hl]; exact Bool.false_ne_true)]; exact (unhide HA2).drewN _⟩
          | true =>
            go_big_quiet (first | (go_at_call 87; refine Calls.quiet_of_same (less32 _ _ _)))
            go_wp2_with fail
            have HA3 : Hz (SoAt w (W2.drewN nq) blk off dj) := hide ((unhide HA2).drewN nq)
            have hc3 : ∀ t, t < N → (W2.drewN nq).cell? ⟨blk, off + t, none⟩ = some (.int .i32 (G t)) := hc2
            have hf3 : ∀ t, t < N → (W2.drewN nq).frozen? ⟨blk, off + t, none⟩ = false := hf2
            clear hc2 hf2 HA2
            generalize W2.drewN nq = W3 at HA3 hc3 hf3 ⊢
            clear nq
            go_region
            all_goals go_wp2
            go_roundw
            case rel =>
              refine ⟨2 * root + 1, Sort.swp dj (first + root) (first + (2 * root + 1)), by simp <;> omega, by omega, hide ⟨by rw [size_swp']; exact unhide HZ, ?_, ?_⟩⟩
              · have hsz' := unhide HZ
                rw [unhide HG, unhide HG]
                exact (unhide HA3).drew.swap (by omega) (by omega)
              · rw [← unhide HE, sd_one h0 (.inr (by rw [← unhide HG, ← unhide HG]; exact h2)), if_pos (by rw [← unhide HG, ← unhide HG]; exact hl)]
            case measure => simp [intOf]; omega
      · have h1z : ¬ (2 * (root : Int) + 1 + 1 < (hi : Int)) := by omega
        go_wp2_with fail
        have h1d : decide (2 * (root : Int) + 1 + 1 < (hi : Int)) = false := decide_eq_false (by omega)
        go_big_quiet (first | (go_at_call 87; refine Calls.quiet_of_same (less32 _ _ _)))
        go_wp2_with fail
        have HA2 : Hz (SoAt w (wr.drewN nq) blk off dj) := hide ((unhide HA).drewN nq)
        have hc2 : ∀ t, t < N → (wr.drewN nq).cell? ⟨blk, off + t, none⟩ = some (.int .i32 (G t)) := hc
        have hf2 : ∀ t, t < N → (wr.drewN nq).frozen? ⟨blk, off + t, none⟩ = false := hf
        clear hc hf HA
        generalize wr.drewN nq = W2 at HA2 hc2 hf2 ⊢
        clear nq
        cases hl : Sort.ltInt (G (first + root)) (G (first + 2 * root + 1)) with
        | false =>
          go_big_quiet (first | (go_at_call 87; refine Calls.quiet_of_same (less32 _ _ _)))
          go_wp2_with fail
          (try simp only [Exit.inBlock, Exit.then])
          refine bodyPost_ret (results_none rfl _ _ _) rfl ?_
          exact ⟨rfl, by rw [← unhide HE, sd_one h0 (.inl h1), if_neg (by rw [← unhide HG, ← unhide HG, hl]; exact Bool.false_ne_true)]; exact (unhide HA2).drewN _⟩
        | true =>
          go_big_quiet (first | (go_at_call 87; refine Calls.quiet_of_same (less32 _ _ _)))
          go_wp2_with fail
          have HA3 : Hz (SoAt w (W2.drewN nq) blk off dj) := hide ((unhide HA2).drewN nq)
          have hc3 : ∀ t, t < N → (W2.drewN nq).cell? ⟨blk, off + t, none⟩ = some (.int .i32 (G t)) := hc2
          have hf3 : ∀ t, t < N → (W2.drewN nq).frozen? ⟨blk, off + t, none⟩ = false := hf2
          clear hc2 hf2 HA2
          generalize W2.drewN nq = W3 at HA3 hc3 hf3 ⊢
          clear nq
          go_region
          all_goals go_wp2
          go_roundw
          case rel =>
            refine ⟨2 * root + 1, Sort.swp dj (first + root) (first + (2 * root + 1)), by simp <;> omega, by omega, hide ⟨by rw [size_swp']; exact unhide HZ, ?_, ?_⟩⟩
            · have hsz' := unhide HZ
              rw [unhide HG, unhide HG]
              exact (unhide HA3).drew.swap (by omega) (by omega)
            · rw [← unhide HE, sd_one h0 (.inl h1), if_pos (by rw [← unhide HG, ← unhide HG]; exact hl)]
          case measure => simp [intOf]; omega
end Go.Proofs.Ytemmflhofhngbaa
/- heapSortOrdered at runes. -/
namespace Go.Proofs.Ytemmflhofhngbaa
open Go.RowKit Go.Shelf
set_option linter.unusedVariables false
theorem sift_size (hi F : Nat) : ∀ (f root : Nat) (d : Array Int), hi ≤ f + root → (Sort.siftDown Sort.ltInt hi F root d).size = d.size
  | 0, root, d, h => by rw [Sort.siftDown, dif_pos (by omega)]
  | f + 1, root, d, h => by
    rw [Sort.siftDown]
    split
    · rfl
    · split
      · split
        · rfl
        · split
          · rw [sift_size hi F f _ _ (by omega), size_swp']
          · rfl
      · split
        · rfl
        · rw [sift_size hi F f _ _ (by omega), size_swp']
theorem half_from {a b : Nat} (h : a < b) : ((b : Int) - (a : Int) - 1).tdiv 2 = (((b - a - 1) / 2 + 1 : Nat) : Int) - 1 := by
  rw [Int.tdiv_eq_ediv_of_nonneg (by omega)]
  omega
set_option maxRecDepth 100000 in
set_option maxHeartbeats 8000000 in
theorem so_heap (blk off cap a b N : Nat) (d : Array Int) (hN : d.size = N) (hab : a < b) (hb : b ≤ N) (hsz : N ≤ 1000000) (w : World) (hH : Sort.Holds (Value.int .i32) w blk off d) :
    Calls Try.prog 82 #[.slice (some ⟨blk, off, none⟩) N cap, .int .i64 a, .int .i64 b] w fun e w' => e = .returned (.tuple #[]) ∧ SoAt w w' blk off (Sort.heapSort Sort.ltInt d a b) := by
  have HS := hide (SoAt.start hH)
  have HN := hide hN
  obtain ⟨H, hHd⟩ : ∃ H, H = b - a := ⟨_, rfl⟩
  have HHi := hide (show (b : Int) - (a : Int) = (H : Int) by omega)
  have HF := hide (half_from hab)
  have hH1 : 1 ≤ H := by omega
  have hHb : a + H ≤ N := by omega
  have HHd := hide hHd
  clear hH hN hHd
  go_enter Try.func82, Try.ntmps82
  go_wp2_with fail
  rw [← unhide HHd] at HF
  rw [unhide HHi] at HF ⊢
  go_loopw [9] (fun vi wr => ∃ (k : Nat) (dk : Array Int), vi = .int .i64 ((k : Int) - 1) ∧ k ≤ (H - 1) / 2 + 1 ∧ Hz (dk.size = N ∧ SoAt w wr blk off dk ∧ Sort.heapBuild Sort.ltInt H a k dk = Sort.heapBuild Sort.ltInt H a ((H - 1) / 2 + 1) d)) (fun vi _ => (intOf vi + 1).toNat)
  case atStart => exact ⟨(H - 1) / 2 + 1, d, by congr 1; omega, Nat.le_refl _, hide ⟨unhide HN, unhide HS, rfl⟩⟩
  case round =>
    obtain ⟨k, dk, rfl, hk, HI⟩ := hrel
    clear HS
    cases k with
    | zero =>
      clear HF
      rw [show (((0 : Nat) : Int)) - 1 = -1 from rfl]
      go_wp2_with fail
      go_loopw [10] (fun vi wr2 => ∃ (k : Nat) (dj : Array Int), vi = .int .i64 ((k : Int) - 1) ∧ k ≤ H ∧ Hz (dj.size = N ∧ SoAt w wr2 blk off dj ∧ Sort.heapPop Sort.ltInt a k dj = Sort.heapSort Sort.ltInt d a b)) (fun vi _ => (intOf vi + 1).toNat)
      case atStart => exact ⟨H, dk, rfl, Nat.le_refl _, hide ⟨(unhide HI).1, (unhide HI).2.1, by unfold Sort.heapSort; rw [← unhide HHd, ← (unhide HI).2.2]; rfl⟩⟩
      case round =>
        obtain ⟨k, dj, rfl, hk2, HJ⟩ := hrel
        cases k with
        | zero =>
          go_wp2_with fail
          go_end0
          exact ⟨rfl, by rw [← (unhide HJ).2.2]; exact (unhide HJ).2.1⟩
        | succ k =>
          obtain ⟨G, hG, hc, hf⟩ := (unhide HJ).2.1.cells N (unhide HJ).1
          have HG := hide hG
          clear hG
          have hkk : (((k + 1 : Nat) : Int)) - 1 = (k : Int) := by omega
          rw [hkk]
          clear hkk
          have hszj := (unhide HJ).1
          have HA := (unhide HJ).2.1.drew.swap (i := a) (j := a + k) (by omega) (by omega)
          rw [← unhide HG, ← unhide HG] at HA
          have HA2 := hide HA
          clear HA hszj
          have hm1 := mid_cell hc (i := a) (j := a + k) (by omega) (by omega)
          have hm2 := mid_frozen (G := G) hf (i := a) (j := a + k) (by omega)
          go_wp2_with fail
          go_region
          all_goals go_wp2_with fail
          refine (so_sift blk off cap 0 k a N (Sort.swp dj a (a + k)) (by rw [size_swp']; exact (unhide HJ).1) (by omega) (by omega) hsz _ (unhide HA2).row).mono ?_
          rintro e w' ⟨rfl, hA⟩
          go_wp2_with fail
          go_roundw
          case rel => exact ⟨k, Sort.siftDown Sort.ltInt k a 0 (Sort.swp dj a (a + k)), by simp, by omega, hide ⟨by rw [sift_size k a k 0 _ (by omega), size_swp']; exact (unhide HJ).1, (unhide HA2).trans hA, by rw [← (unhide HJ).2.2]; rfl⟩⟩
          case measure => simp [intOf]
    | succ k =>
      have hkk : (((k + 1 : Nat) : Int)) - 1 = (k : Int) := by omega
      rw [hkk]
      clear hkk
      go_wp2_with (go_at_call 91; refine (so_sift blk off cap k H a N dk (unhide HI).1 (by omega) (by omega) hsz _ (unhide HI).2.1.row).mono ?_; rintro e w' ⟨rfl, hA⟩)
      go_roundw
      case rel => exact ⟨k, Sort.siftDown Sort.ltInt H a k dk, by simp, by omega, hide ⟨by rw [sift_size H a H k dk (by omega)]; exact (unhide HI).1, (unhide HI).2.1.trans hA, by rw [← (unhide HI).2.2]; rfl⟩⟩
      case measure => simp [intOf]
end Go.Proofs.Ytemmflhofhngbaa
/- reverseRangeOrdered at runes: a rearrangement. -/
namespace Go.Proofs.Ytemmflhofhngbaa
open Go.RowKit Go.Shelf
set_option linter.unusedVariables false
set_option maxRecDepth 100000 in
set_option maxHeartbeats 4000000 in
theorem so_rev (blk off cap a b N : Nat) (d : Array Int) (hN : d.size = N) (hab : a < b) (hb : b ≤ N) (hsz : N ≤ 1000000) (w : World) (hH : Sort.Holds (Value.int .i32) w blk off d) :
    Calls Try.prog 85 #[.slice (some ⟨blk, off, none⟩) N cap, .int .i64 a, .int .i64 b] w fun e w' => e = .returned (.tuple #[]) ∧ ∃ d', Sort.PermIn a b d d' ∧ SoAt w w' blk off d' := by
  have HS := hide (SoAt.start hH)
  have HN := hide hN
  clear hH hN
  go_enter Try.func85, Try.ntmps85
  go_wp2
  go_loopw [6, 7] (fun vi vj wr => ∃ (i j : Nat) (dk : Array Int), vi = .int .i64 i ∧ vj = .int .i64 j ∧ a ≤ i ∧ j < b ∧ Hz (dk.size = N ∧ SoAt w wr blk off dk ∧ Sort.PermIn a b d dk)) (fun vi vj _ => ((intOf vj) - (intOf vi)).toNat)
  case atStart => exact ⟨a, b - 1, d, rfl, by congr 1; omega, Nat.le_refl _, by omega, hide ⟨unhide HN, unhide HS, Sort.permIn_refl _ _ _⟩⟩
  case round =>
    obtain ⟨i, j, dk, rfl, rfl, hi, hj, HI⟩ := hrel
    clear HS
    by_cases hlt : i < j
    · have hlt' : (i : Int) < (j : Int) := by omega
      obtain ⟨G, hG, hc, hf⟩ := (unhide HI).2.1.cells N (unhide HI).1
      have hm1 := mid_cell hc (i := i) (j := j) (by omega) (by omega)
      have hm2 := mid_frozen (G := G) hf (i := i) (j := j) (by omega)
      have hszj := (unhide HI).1
      have HA := (unhide HI).2.1.drew.swap (i := i) (j := j) (by omega) (by omega)
      rw [← hG, ← hG] at HA
      have HA2 := hide HA
      have HP := hide (Sort.permIn_trans _ _ _ _ _ (unhide HI).2.2 (Sort.swp_permIn dk a b i j (by omega) (by omega) (by omega) (by omega) (by omega)))
      have HZ := hide (show (Sort.swp dk i j).size = N by rw [size_swp']; exact hszj)
      clear HA hG hszj HI
      go_wp2_with fail
      go_region
      all_goals go_wp2
      go_roundw
      case rel => exact ⟨i + 1, j - 1, Sort.swp dk i j, by go_num, by congr 1; omega, by omega, by omega, hide ⟨unhide HZ, unhide HA2, unhide HP⟩⟩
      case measure => simp [intOf]; omega
    · have hlt' : ¬ (i : Int) < (j : Int) := by omega
      go_wp2
      go_end0
      exact ⟨rfl, dk, (unhide HI).2.2, (unhide HI).2.1⟩
end Go.Proofs.Ytemmflhofhngbaa
/- choosePivotOrdered at runes: some place of the range. -/
namespace Go.Proofs.Ytemmflhofhngbaa
open Go.RowKit Go.Shelf
set_option linter.unusedVariables false
/-- The row is as it was; the box sb holds a number of at most m. -/
structure PvAt (w W : World) (blk off : Nat) (d : Array Int) (sb m : Nat) : Prop where
  row : Sort.Holds (Value.int .i32) W blk off d
  gr : w.grownBy W (some sb)
  box : ∃ s : Nat, s ≤ m ∧ Blk W sb #[.int .i64 s] 3
theorem PvAt.trans {w W W2 : World} {blk off : Nat} {d : Array Int} {sb m m2 : Nat} (h : PvAt w W blk off d sb m) (k : PvAt W W2 blk off d sb m2) : PvAt w W2 blk off d sb m2 := ⟨k.row, grown_trans h.gr k.gr, k.box⟩
theorem PvAt.mono {w W : World} {blk off : Nat} {d : Array Int} {sb m m2 : Nat} (h : PvAt w W blk off d sb m) (hm : m ≤ m2) : PvAt w W blk off d sb m2 := ⟨h.row, h.gr, by obtain ⟨s, hs, hb⟩ := h.box; exact ⟨s, by omega, hb⟩⟩
theorem PvAt.drewN {w W : World} {blk off : Nat} {d : Array Int} {sb m : Nat} (h : PvAt w W blk off d sb m) (q : Nat) : PvAt w (W.drewN q) blk off d sb m := ⟨h.row, ⟨h.gr.os, h.gr.tape, h.gr.output, h.gr.size, h.gr.block⟩, h.box⟩
theorem PvAt.start {w : World} {blk off : Nat} {d : Array Int} {sb m s : Nat} (h : Sort.Holds (Value.int .i32) w blk off d) (hs : s ≤ m) (hb : Blk w sb #[.int .i64 s] 3) : PvAt w w blk off d sb m := ⟨h, ⟨rfl, rfl, rfl, Nat.le_refl _, fun _ _ _ => rfl⟩, s, hs, hb⟩
theorem grown_set (W : World) (B i : Nat) (v : Value) : W.grownBy (W.setCell ⟨B, i, none⟩ v) (some B) := ⟨rfl, rfl, rfl, (KeepsWalks.setCell W _ _).size, fun k hk hn => Below.heap_setCell W ⟨B, i, none⟩ _ k (fun e => hn (by rw [e]))⟩
set_option maxRecDepth 100000 in
set_option maxHeartbeats 4000000 in
theorem so_order (blk off cap a b sb m N : Nat) (d : Array Int) (hN : d.size = N) (ha : a < N) (hb : b < N) (hsz : N ≤ 1000000) (hm : m ≤ 100) (w0 w : World) (hne : blk ≠ sb) (hP : PvAt w0 w blk off d sb m) :
    Calls Try.prog 94 #[.slice (some ⟨blk, off, none⟩) N cap, .int .i64 a, .int .i64 b, .pointer (some ⟨sb, 0, none⟩)] w fun e w' => ∃ x y : Nat, e = .returned (.tuple #[.int .i64 x, .int .i64 y]) ∧ (x = a ∨ x = b) ∧ (y = a ∨ y = b) ∧ PvAt w0 w' blk off d sb (m + 1) := by
  obtain ⟨s, hs, hbx⟩ := hP.box
  obtain ⟨G, hG, hc, hf⟩ := (SoAt.start hP.row).cells N hN
  have HP := hide hP
  have HBX := hide hbx
  have c0 := hbx.cell 0
  have f0 := hbx.frozen 0
  clear hP hbx hG
  go_enter Try.func94, Try.ntmps94
  go_wp2_with fail
  go_big_quiet (first | (go_at_call 87; refine Calls.quiet_of_same (less32 _ _ _)))
  go_wp2_with fail
  · go_ret2
    have hP2 : PvAt w0 (w.drewN nq) blk off d sb m := (unhide HP).drewN nq
    have hB2 : Blk (w.drewN nq) sb #[.int .i64 s] 3 := unhide HBX
    refine ⟨b, a, rfl, .inr rfl, .inl rfl, ?_⟩
    exact ⟨holds_of hP2.row (Below.heap_setCell _ ⟨sb, 0, none⟩ _ blk hne), grown_trans hP2.gr (grown_set _ sb 0 _), s + 1, by omega, hB2.set 0 _⟩
  · go_ret2
    exact ⟨a, b, rfl, .inl rfl, .inr rfl, ((unhide HP).drewN _).mono (by omega)⟩
set_option maxRecDepth 100000 in
set_option maxHeartbeats 4000000 in
theorem so_median (blk off cap a b c sb m N : Nat) (d : Array Int) (hN : d.size = N) (ha : a < N) (hb : b < N) (hc : c < N) (hsz : N ≤ 1000000) (hm : m ≤ 90) (w0 w : World) (hne : blk ≠ sb) (hP : PvAt w0 w blk off d sb m) :
    Calls Try.prog 93 #[.slice (some ⟨blk, off, none⟩) N cap, .int .i64 a, .int .i64 b, .int .i64 c, .pointer (some ⟨sb, 0, none⟩)] w fun e w' => ∃ x : Nat, e = .returned (.int .i64 x) ∧ (x = a ∨ x = b ∨ x = c) ∧ PvAt w0 w' blk off d sb (m + 3) := by
  have HN := hide hN
  have HP := hide hP
  clear hP hN
  go_enter Try.func93, Try.ntmps93
  go_wp2_with fail
  refine (so_order blk off cap a b sb m N d (unhide HN) ha hb hsz (by omega) w0 _ hne (unhide HP)).mono ?_
  rintro e w1 ⟨x1, y1, rfl, hx1, hy1, hP1⟩
  have HP1 := hide hP1
  clear hP1 HP
  go_wp2_with fail
  refine (so_order blk off cap y1 c sb (m + 1) N d (unhide HN) (by omega) hc hsz (by omega) w0 _ hne (unhide HP1)).mono ?_
  rintro e w2 ⟨x2, y2, rfl, hx2, hy2, hP2⟩
  have HP2 := hide hP2
  clear hP2 HP1
  go_wp2_with fail
  refine (so_order blk off cap x1 x2 sb (m + 2) N d (unhide HN) (by omega) (by omega) hsz (by omega) w0 _ hne (unhide HP2)).mono ?_
  rintro e w3 ⟨x3, y3, rfl, hx3, hy3, hP3⟩
  have HP3 := hide hP3
  clear hP3 HP2
  go_wp2_with fail
  go_ret
  exact ⟨y3, rfl, by omega, unhide HP3⟩
set_option maxRecDepth 100000 in
set_option maxHeartbeats 4000000 in
theorem so_adjacent (blk off cap a sb m N : Nat) (d : Array Int) (hN : d.size = N) (h1 : 1 ≤ a) (ha : a + 1 < N) (hsz : N ≤ 1000000) (hm : m ≤ 90) (w0 w : World) (hne : blk ≠ sb) (hP : PvAt w0 w blk off d sb m) :
    Calls Try.prog 92 #[.slice (some ⟨blk, off, none⟩) N cap, .int .i64 a, .pointer (some ⟨sb, 0, none⟩)] w fun e w' => ∃ x : Nat, e = .returned (.int .i64 x) ∧ a - 1 ≤ x ∧ x ≤ a + 1 ∧ PvAt w0 w' blk off d sb (m + 3) := by
  have HN := hide hN
  have HP := hide hP
  have HC := hide (so_median blk off cap (a - 1) a (a + 1) sb m N d hN (by omega) (by omega) ha hsz hm w0 w hne hP)
  rw [show (((a - 1 : Nat) : Int)) = (a : Int) - 1 by omega, show (((a + 1 : Nat) : Int)) = (a : Int) + 1 by omega] at HC
  clear hP hN
  go_enter Try.func92, Try.ntmps92
  go_wp2_with fail
  refine (unhide HC).mono ?_
  rintro e w1 ⟨x, rfl, hx, hP1⟩
  have HP1 := hide hP1
  clear hP1 HP
  go_wp2_with fail
  go_ret
  exact ⟨x, rfl, by omega, by omega, unhide HP1⟩
end Go.Proofs.Ytemmflhofhngbaa
/- choosePivotOrdered at runes: some place of the range. -/
namespace Go.Proofs.Ytemmflhofhngbaa
open Go.RowKit Go.Shelf
set_option linter.unusedVariables false
theorem pv_so {w W : World} {blk off : Nat} {d : Array Int} {m : Nat} (h : PvAt w W blk off d w.heap.size m) (hl : blk < w.heap.size) : SoAt w W blk off d :=
  ⟨h.row, ⟨h.gr.os, h.gr.tape, h.gr.output, h.gr.size, fun k hk _ => h.gr.block k hk (fun e => by injection e; omega)⟩⟩
set_option maxRecDepth 100000 in
set_option maxHeartbeats 4000000 in
theorem so_pivot (blk off cap a b N : Nat) (d : Array Int) (hN : d.size = N) (hab : a + 12 < b) (hb : b ≤ N) (hsz : N ≤ 1000000) (w : World) (hl : blk < w.heap.size) (hH : Sort.Holds (Value.int .i32) w blk off d) :
    Calls Try.prog 84 #[.slice (some ⟨blk, off, none⟩) N cap, .int .i64 a, .int .i64 b] w fun e w' => ∃ (p : Nat) (h : Int), e = .returned (.tuple #[.int .i64 p, .int .i64 h]) ∧ a ≤ p ∧ p < b ∧ SoAt w w' blk off d := by
  have HN := hide hN
  have HH := hide hH
  have hL : (8 : Int) ≤ (b : Int) - (a : Int) := by omega
  clear hN hH
  go_enter Try.func84, Try.ntmps84
  obtain ⟨I, hI⟩ : ∃ I, I = a + (b - a) / 4 := ⟨_, rfl⟩
  obtain ⟨J, hJ⟩ : ∃ J, J = a + (b - a) / 4 * 2 := ⟨_, rfl⟩
  obtain ⟨K, hK⟩ : ∃ K, K = a + (b - a) / 4 * 3 := ⟨_, rfl⟩
  have E1 := hide (show (a : Int) + ((b : Int) - (a : Int)) / 4 = (I : Int) by omega)
  have E2 := hide (show (a : Int) + ((b : Int) - (a : Int)) / 4 * 2 = (J : Int) by omega)
  have E3 := hide (show (a : Int) + ((b : Int) - (a : Int)) / 4 * 3 = (K : Int) by omega)
  have b1 : a + 1 ≤ I ∧ I + 2 < b := by omega
  have b2 : a + 1 ≤ J ∧ J + 2 < b := by omega
  have b3 : a + 1 ≤ K ∧ K + 2 < b := by omega
  clear hI hJ hK
  have hne : blk ≠ w.heap.size := by omega
  have hP0 : PvAt w (w.alloc (.cells #[.int .i64 0] 3)) blk off d w.heap.size 0 := ⟨holds_of (unhide HH) (Below.heap_alloc w _ blk hl), ⟨rfl, rfl, rfl, by simp, fun k hk _ => Below.heap_alloc w _ k hk⟩, 0, Nat.le_refl _, Blk.new w _ _⟩
  have HP0 := hide hP0
  clear hP0
  by_cases h50 : a + 50 ≤ b
  · have h50' : (50 : Int) ≤ (b : Int) - (a : Int) := by omega
    go_wp2_with fail
    rw [unhide E1, unhide E2, unhide E3]
    refine (so_adjacent blk off cap I w.heap.size 0 N d (unhide HN) (by omega) (by omega) hsz (by omega) w _ hne (unhide HP0)).mono ?_
    rintro e w1 ⟨x1, rfl, h1, h1', hP1⟩
    have HP1 := hide hP1
    clear hP1 HP0
    go_wp2_with fail
    refine (so_adjacent blk off cap J w.heap.size 3 N d (unhide HN) (by omega) (by omega) hsz (by omega) w _ hne (unhide HP1)).mono ?_
    rintro e w2 ⟨x2, rfl, h2, h2', hP2⟩
    have HP2 := hide hP2
    clear hP2 HP1
    go_wp2_with fail
    refine (so_adjacent blk off cap K w.heap.size 6 N d (unhide HN) (by omega) (by omega) hsz (by omega) w _ hne (unhide HP2)).mono ?_
    rintro e w3 ⟨x3, rfl, h3, h3', hP3⟩
    have HP3 := hide hP3
    clear hP3 HP2
    go_wp2_with fail
    refine (so_median blk off cap x1 x2 x3 w.heap.size 9 N d (unhide HN) (by omega) (by omega) (by omega) hsz (by omega) w _ hne (unhide HP3)).mono ?_
    rintro e w4 ⟨x, rfl, hx, hP4⟩
    have HP4 := hide hP4
    clear hP4 HP3
    obtain ⟨s, hs, hbx⟩ := (unhide HP4).box
    have c0 : w4.cell? ⟨w.heap.size, 0, none⟩ = some (.int .i64 s) := hbx.cell 0
    clear hbx
    have HE : Hz (SoAt w w4 blk off d) := hide (pv_so (unhide HP4) hl)
    clear HP4
    go_wp2_with fail
    all_goals
      go_ret2
      exact ⟨x, _, by first | rfl | (congr 3), by omega, by omega, unhide HE⟩
  · have h50' : ¬ (50 : Int) ≤ (b : Int) - (a : Int) := by omega
    go_wp2_with fail
    rw [unhide E1, unhide E2, unhide E3]
    refine (so_median blk off cap I J K w.heap.size 0 N d (unhide HN) (by omega) (by omega) (by omega) hsz (by omega) w _ hne (unhide HP0)).mono ?_
    rintro e w4 ⟨x, rfl, hx, hP4⟩
    have HP4 := hide hP4
    clear hP4 HP0
    obtain ⟨s, hs, hbx⟩ := (unhide HP4).box
    have c0 : w4.cell? ⟨w.heap.size, 0, none⟩ = some (.int .i64 s) := hbx.cell 0
    clear hbx
    have HE : Hz (SoAt w w4 blk off d) := hide (pv_so (unhide HP4) hl)
    clear HP4
    go_wp2_with fail
    all_goals
      go_ret2
      exact ⟨x, _, by first | rfl | (congr 3), by omega, by omega, unhide HE⟩
end Go.Proofs.Ytemmflhofhngbaa
/- What a partition keeps: mathematics. -/
namespace Go.Proofs.Ytemmflhofhngbaa
open Go.RowKit Go.Shelf
set_option linter.unusedVariables false
/-- Left of i all pass the test, right of j none; p stands at a. -/
structure PartI (f : Int → Bool) (p : Int) (a b i j : Nat) (d dk : Array Int) : Prop where
  ai : a < i
  ij : i ≤ j + 1
  jb : j < b
  perm : Sort.PermIn a b d dk
  at_ : dk[a]! = p
  lo : ∀ t, a < t → t < i → f dk[t]! = true
  hi : ∀ t, j < t → t < b → f dk[t]! = false
theorem get_swp {d : Array Int} {i j : Nat} (hi : i < d.size) (hj : j < d.size) : (Sort.swp d i j)[i]! = d[j]! ∧ (Sort.swp d i j)[j]! = d[i]! ∧ ∀ t, t ≠ i → t ≠ j → (Sort.swp d i j)[t]! = d[t]! := by
  have h2 : (Sort.swp d i j)[j]! = d[i]! := Sort.getElem!_set_same _ _ _ (by simpa using hj)
  refine ⟨?_, h2, fun t h3 h4 => ?_⟩
  · by_cases e : i = j
    · subst e; exact h2
    · exact (Sort.getElem!_set_other _ _ _ _ e).trans (Sort.getElem!_set_same _ _ _ hi)
  · exact (Sort.getElem!_set_other _ _ _ _ h4).trans (Sort.getElem!_set_other _ _ _ _ h3)
theorem PartI.start {f : Int → Bool} {a b pv : Nat} {d : Array Int} (ha : a ≤ pv) (hp : pv < b) (hb : b ≤ d.size) : PartI f d[pv]! a b (a + 1) (b - 1) d (Sort.swp d a pv) :=
  ⟨by omega, by omega, by omega, Sort.swp_permIn d a b a pv (by omega) (by omega) ha hp hb, (get_swp (by omega) (by omega)).1, fun t h1 h2 => by omega, fun t h1 h2 => by omega⟩
theorem PartI.up {f : Int → Bool} {p : Int} {a b i j : Nat} {d dk : Array Int} (h : PartI f p a b i j d dk) (hij : i ≤ j) (hf : f dk[i]! = true) : PartI f p a b (i + 1) j d dk :=
  ⟨by have := h.ai; omega, by omega, h.jb, h.perm, h.at_, fun t h1 h2 => by
    by_cases e : t = i
    · subst e; exact hf
    · exact h.lo t h1 (by omega), h.hi⟩
theorem PartI.down {f : Int → Bool} {p : Int} {a b i j : Nat} {d dk : Array Int} (h : PartI f p a b i j d dk) (hij : i ≤ j) (hf : f dk[j]! = false) : PartI f p a b i (j - 1) d dk :=
  ⟨h.ai, by have := h.ai; omega, by have := h.jb; omega, h.perm, h.at_, h.lo, fun t h1 h2 => by
    have := h.ai
    by_cases e : t = j
    · subst e; exact hf
    · exact h.hi t (by omega) h2⟩
theorem PartI.swap {f : Int → Bool} {p : Int} {a b i j : Nat} {d dk : Array Int} (h : PartI f p a b i j d dk) (hb : b ≤ dk.size) (hij : i ≤ j) (hi : f dk[i]! = false) (hj : f dk[j]! = true) : i < j ∧ PartI f p a b (i + 1) (j - 1) d (Sort.swp dk i j) := by
  have hlt : i < j := by
    rcases Nat.lt_or_ge i j with h1 | h1
    · exact h1
    · have e : i = j := by omega
      subst e; rw [hi] at hj; exact absurd hj Bool.false_ne_true
  have h1 := h.ai
  have h2 := h.jb
  obtain ⟨g1, g2, g3⟩ := get_swp (d := dk) (i := i) (j := j) (by omega) (by omega)
  refine ⟨hlt, ⟨by omega, by omega, by omega, Sort.permIn_trans _ _ _ _ _ h.perm (Sort.swp_permIn dk a b i j (by omega) (by omega) (by omega) (by omega) hb), ?_, fun t ht1 ht2 => ?_, fun t ht1 ht2 => ?_⟩⟩
  · rw [g3 a (by omega) (by omega)]; exact h.at_
  · by_cases e : t = i
    · subst e; rw [g1]; exact hj
    · rw [g3 t e (by omega)]; exact h.lo t ht1 (by omega)
  · by_cases e : t = j
    · subst e; rw [g2]; exact hi
    · rw [g3 t (by omega) e]; exact h.hi t (by omega) ht2
/-- A partition is done: what stands where. -/
structure PartOk (a b m : Nat) (d dk : Array Int) : Prop where
  am : a ≤ m
  mb : m < b
  perm : Sort.PermIn a b d dk
  lo : ∀ t, a ≤ t → t < m → Sort.ltInt dk[t]! dk[m]! = true
  hi : ∀ t, m < t → t < b → Sort.ltInt dk[t]! dk[m]! = false
theorem PartI.done {p : Int} {a b i j : Nat} {d dk : Array Int} (h : PartI (fun x => Sort.ltInt x p) p a b i j d dk) (hb : b ≤ dk.size) (hij : j < i) : PartOk a b j d (Sort.swp dk j a) := by
  have h1 := h.ai
  have h2 := h.jb
  have h3 := h.ij
  obtain ⟨g1, g2, g3⟩ := get_swp (d := dk) (i := j) (j := a) (by omega) (by omega)
  refine ⟨by omega, h2, Sort.permIn_trans _ _ _ _ _ h.perm (Sort.swp_permIn dk a b j a (by omega) (by omega) (by omega) (by omega) hb), fun t ht1 ht2 => ?_, fun t ht1 ht2 => ?_⟩
  · rw [g1, h.at_]
    by_cases e : t = a
    · subst e; rw [g2]; exact h.lo j (by omega) (by omega)
    · rw [g3 t (by omega) e]; exact h.lo t (by omega) (by omega)
  · rw [g1, h.at_, g3 t (by omega) (by omega)]; exact h.hi t ht1 ht2
/-- The like ones are moved ahead. -/
structure EqOk (a b m : Nat) (p : Int) (d dk : Array Int) : Prop where
  am : a < m
  mb : m ≤ b
  perm : Sort.PermIn a b d dk
  lo : ∀ t, a ≤ t → t < m → Sort.ltInt p dk[t]! = false
  hi : ∀ t, m ≤ t → t < b → Sort.ltInt p dk[t]! = true
theorem PartI.eq {p : Int} {a b i j : Nat} {d dk : Array Int} (h : PartI (fun x => !Sort.ltInt p x) p a b i j d dk) (hij : j < i) : EqOk a b i p d dk := by
  have h1 := h.ai
  have h2 := h.jb
  have h3 := h.ij
  refine ⟨h1, by omega, h.perm, fun t ht1 ht2 => ?_, fun t ht1 ht2 => ?_⟩
  · by_cases e : t = a
    · subst e; rw [h.at_]; unfold Sort.ltInt; exact decide_eq_false (by omega)
    · have := h.lo t (by omega) ht2
      simpa using this
  · have := h.hi t (by omega) ht2
    simpa using this
end Go.Proofs.Ytemmflhofhngbaa
/- partitionEqualOrdered at runes. -/
namespace Go.Proofs.Ytemmflhofhngbaa
open Go.RowKit Go.Shelf
set_option linter.unusedVariables false
set_option maxRecDepth 100000 in
set_option maxHeartbeats 16000000 in
theorem so_equal (blk off cap a b pv N : Nat) (d : Array Int) (hN : d.size = N) (hap : a ≤ pv) (hpb : pv < b) (hb : b ≤ N) (hsz : N ≤ 1000000) (w : World) (hH : Sort.Holds (Value.int .i32) w blk off d) :
    Calls Try.prog 88 #[.slice (some ⟨blk, off, none⟩) N cap, .int .i64 a, .int .i64 b, .int .i64 pv] w fun e w' => ∃ (m : Nat) (d' : Array Int), e = .returned (.int .i64 m) ∧ EqOk a b m d[pv]! d d' ∧ SoAt w w' blk off d' := by
  obtain ⟨G, hG, hc, hf⟩ := (SoAt.start hH).cells N hN
  have hm1 := mid_cell hc (i := a) (j := pv) (by omega) (by omega)
  have hm2 := mid_frozen (G := G) hf (i := a) (j := pv) (by omega)
  have hA0 := (SoAt.start hH).drew.swap (i := a) (j := pv) (by omega) (by omega)
  rw [← hG, ← hG] at hA0
  have HA0 := hide hA0
  obtain ⟨p, hp⟩ : ∃ p, p = d[pv]! := ⟨_, rfl⟩
  have HP0 := hide (show PartI (fun x => !Sort.ltInt p x) p a b (a + 1) (b - 1) d (Sort.swp d a pv) by rw [hp]; exact PartI.start hap hpb (by omega))
  have HZ := hide (show (Sort.swp d a pv).size = N by rw [size_swp']; exact hN)
  obtain ⟨j0, hj0⟩ : ∃ j0, j0 = b - 1 := ⟨_, rfl⟩
  rw [← hj0] at HP0
  have Hj := hide (show (b : Int) - 1 = (j0 : Int) by omega)
  have hj1 : a ≤ j0 ∧ j0 < b := by omega
  have HPV := hide hp
  clear hA0 hG hH hj0 hp hN
  go_enter Try.func88, Try.ntmps88
  go_wp2_with fail
  go_region
  all_goals go_wp2_with fail
  clear hm1 hm2 hc hf
  generalize Sort.swp d a pv = dk at *
  rw [unhide Hj]
  go_loopw [9, 10] (fun vi vj wr => ∃ (i j : Nat) (dk : Array Int), vi = .int .i64 i ∧ vj = .int .i64 j ∧ a < i ∧ i ≤ j + 1 ∧ j < b ∧ Hz (PartI (fun x => !Sort.ltInt p x) p a b i j d dk ∧ SoAt w wr blk off dk ∧ dk.size = N)) (fun vi vj _ => (intOf vj + 1 - intOf vi).toNat)
  case atStart => exact ⟨a + 1, j0, dk, by go_num, rfl, by omega, by omega, by omega, hide ⟨unhide HP0, unhide HA0, unhide HZ⟩⟩
  case round =>
    clear HP0 HA0 HZ
    clear dk
    obtain ⟨io, jo, dk, rfl, rfl, hai, hij, hjb, HI⟩ := hrel
    have HP := hide (unhide HI).1
    have HA := hide (unhide HI).2.1
    have HZ := hide (unhide HI).2.2
    clear HI
    go_wp2_with fail
    go_loopw [9] (fun vi wr => ∃ i : Nat, vi = .int .i64 i ∧ io ≤ i ∧ i ≤ jo + 1 ∧ Hz (PartI (fun x => !Sort.ltInt p x) p a b i jo d dk ∧ SoAt w wr blk off dk)) (fun vi _ => jo + 1 - (intOf vi).toNat)
    case atStart => exact ⟨io, rfl, Nat.le_refl _, hij, hide ⟨unhide HP, unhide HA⟩⟩
    case round =>
      clear HP HA
      obtain ⟨i, rfl, hio, hij1, HI⟩ := hrel
      have HP := hide (unhide HI).1
      have HA := hide (unhide HI).2
      clear HI
      obtain ⟨G, hG, hc, hf⟩ := (unhide HA).cells N (unhide HZ)
      have HG := hide hG
      clear hG
      go_wp2_with fail
      by_cases hij : i ≤ jo
      · have hij' : (i : Int) ≤ (jo : Int) := by omega
        cases hl : Sort.ltInt (G a) (G i) with
        | false =>
          go_big_quiet (first | (go_at_call 87; refine Calls.quiet_of_same (less32 _ _ _)))
          go_wp2_with fail
          go_roundw
          case rel => exact ⟨i + 1, by go_num, by omega, by omega, hide ⟨(unhide HP).up hij (by rw [← unhide HG]; have hp1 := (unhide HP).at_; rw [← unhide HG] at hp1; rw [← hp1]; show (!Sort.ltInt (G a) (G i)) = true; rw [hl]; rfl), (unhide HA).drewN _⟩⟩
          case measure => simp [intOf]; omega
        | true =>
          go_big_quiet (first | (go_at_call 87; refine Calls.quiet_of_same (less32 _ _ _)))
          go_wp2_with fail
          have HST : Hz (jo < i ∨ (fun x => !Sort.ltInt p x) dk[i]! = false) := hide (.inr (by rw [← unhide HG]; have hp1 := (unhide HP).at_; rw [← unhide HG] at hp1; rw [← hp1]; show (!Sort.ltInt (G a) (G i)) = false; rw [hl]; rfl))
          have HA1 : Hz (SoAt w (wr.drewN nq) blk off dk) := hide ((unhide HA).drewN nq)
          clear hc hf HA HG hl
          generalize wr.drewN nq = W1 at *
          clear nq
          go_loopw [10] (fun vj wr => ∃ j2 : Nat, vj = .int .i64 j2 ∧ i ≤ j2 + 1 ∧ j2 ≤ jo ∧ Hz (PartI (fun x => !Sort.ltInt p x) p a b i j2 d dk ∧ SoAt w wr blk off dk ∧ (j2 < i ∨ (fun x => !Sort.ltInt p x) dk[i]! = false))) (fun vj _ => (intOf vj).toNat)
          case atStart => exact ⟨jo, rfl, by omega, Nat.le_refl _, hide ⟨unhide HP, unhide HA1, unhide HST⟩⟩
          case round =>
            clear HP HA1 HST
            obtain ⟨j2, rfl, hij2, hjb2, HI⟩ := hrel
            have HP := hide (unhide HI).1
            have HA := hide (unhide HI).2.1
            have HST := hide (unhide HI).2.2
            clear HI
            obtain ⟨G, hG, hc, hf⟩ := (unhide HA).cells N (unhide HZ)
            have HG := hide hG
            clear hG
            go_wp2_with fail
            by_cases hij : i ≤ j2
            · have hij' : (i : Int) ≤ (j2 : Int) := by omega
              cases hl : Sort.ltInt (G a) (G j2) with
              | true =>
                go_big_quiet (first | (go_at_call 87; refine Calls.quiet_of_same (less32 _ _ _)))
                go_wp2_with fail
                go_roundw
                case rel => exact ⟨j2 - 1, by congr 1; omega, by omega, by omega, hide ⟨(unhide HP).down hij (by rw [← unhide HG]; have hp1 := (unhide HP).at_; rw [← unhide HG] at hp1; rw [← hp1]; show (!Sort.ltInt (G a) (G j2)) = false; rw [hl]; rfl), (unhide HA).drewN _, by rcases unhide HST with h | h; exact .inl (by omega); exact .inr h⟩⟩
                case measure => simp [intOf]; omega
              | false =>
                go_big_quiet (first | (go_at_call 87; refine Calls.quiet_of_same (less32 _ _ _)))
                go_wp2_with fail
                have hF1 : (fun x => !Sort.ltInt p x) dk[i]! = false := by rcases unhide HST with h | h; omega; exact h
                have hF2 : (fun x => !Sort.ltInt p x) dk[j2]! = true := by rw [← unhide HG]; have hp1 := (unhide HP).at_; rw [← unhide HG] at hp1; rw [← hp1]; show (!Sort.ltInt (G a) (G j2)) = true; rw [hl]; rfl
                obtain ⟨hlt, hP2⟩ := (unhide HP).swap (by have := unhide HZ; omega) hij hF1 hF2
                have HP2 := hide hP2
                have HA1 : Hz (SoAt w (wr.drewN nq) blk off dk) := hide ((unhide HA).drewN nq)
                clear hP2 hF1 hF2 hl hc hf HA HG HP HST
                generalize wr.drewN nq = W2 at *
                clear nq
                have hnot : ¬ (j2 : Int) < (i : Int) := by omega
                obtain ⟨G, hG, hc, hf⟩ := (unhide HA1).cells N (unhide HZ)
                have hm1 := mid_cell hc (i := i) (j := j2) (by omega) (by omega)
                have hm2 := mid_frozen (G := G) hf (i := i) (j := j2) (by omega)
                have hA2 := (unhide HA1).drew.swap (i := i) (j := j2) (by have := unhide HZ; omega) (by have := unhide HZ; omega)
                rw [← hG, ← hG] at hA2
                have HA2 := hide hA2
                have HZ2 := hide (show (Sort.swp dk i j2).size = N by rw [size_swp']; exact unhide HZ)
                clear hG hA2 HA1
                go_wp2_with fail
                go_region
                all_goals go_wp2_with fail
                clear hm1 hm2 hc hf
                go_roundw
                case rel => exact ⟨i + 1, j2 - 1, Sort.swp dk i j2, by go_num, by congr 1; omega, by omega, by omega, by omega, hide ⟨unhide HP2, unhide HA2, unhide HZ2⟩⟩
                case measure => simp [intOf]; omega
            · have hij' : decide ((i : Int) ≤ (j2 : Int)) = false := decide_eq_false (by omega)
              go_big_quiet (first | (go_at_call 87; refine Calls.quiet_of_same (less32 _ _ _)))
              go_wp2_with fail
              have HA1 : Hz (SoAt w (wr.drewN nq) blk off dk) := hide ((unhide HA).drewN nq)
              clear hc hf HA HG HST hij'
              generalize wr.drewN nq = W2 at *
              clear nq
              have hyes : (j2 : Int) < (i : Int) := by omega
              go_wp2_with fail
              go_ret
              exact ⟨i, dk, rfl, by rw [← unhide HPV]; exact (unhide HP).eq (by omega), unhide HA1⟩
      · have hij' : decide ((i : Int) ≤ (jo : Int)) = false := decide_eq_false (by omega)
        go_big_quiet (first | (go_at_call 87; refine Calls.quiet_of_same (less32 _ _ _)))
        go_wp2_with fail
        have HST : Hz (jo < i ∨ (fun x => !Sort.ltInt p x) dk[i]! = false) := hide (.inl (by omega))
        have HA1 : Hz (SoAt w (wr.drewN nq) blk off dk) := hide ((unhide HA).drewN nq)
        clear hc hf HA HG hij' hij
        generalize wr.drewN nq = W1 at *
        clear nq
        go_loopw [10] (fun vj wr => ∃ j2 : Nat, vj = .int .i64 j2 ∧ i ≤ j2 + 1 ∧ j2 ≤ jo ∧ Hz (PartI (fun x => !Sort.ltInt p x) p a b i j2 d dk ∧ SoAt w wr blk off dk ∧ (j2 < i ∨ (fun x => !Sort.ltInt p x) dk[i]! = false))) (fun vj _ => (intOf vj).toNat)
        case atStart => exact ⟨jo, rfl, by omega, Nat.le_refl _, hide ⟨unhide HP, unhide HA1, unhide HST⟩⟩
        case round =>
          clear HP HA1 HST
          obtain ⟨j2, rfl, hij2, hjb2, HI⟩ := hrel
          have HP := hide (unhide HI).1
          have HA := hide (unhide HI).2.1
          have HST := hide (unhide HI).2.2
          clear HI
          obtain ⟨G, hG, hc, hf⟩ := (unhide HA).cells N (unhide HZ)
          have HG := hide hG
          clear hG
          go_wp2_with fail
          by_cases hij : i ≤ j2
          · have hij' : (i : Int) ≤ (j2 : Int) := by omega
            cases hl : Sort.ltInt (G a) (G j2) with
            | true =>
              go_big_quiet (first | (go_at_call 87; refine Calls.quiet_of_same (less32 _ _ _)))
              go_wp2_with fail
              go_roundw
              case rel => exact ⟨j2 - 1, by congr 1; omega, by omega, by omega, hide ⟨(unhide HP).down hij (by rw [← unhide HG]; have hp1 := (unhide HP).at_; rw [← unhide HG] at hp1; rw [← hp1]; show (!Sort.ltInt (G a) (G j2)) = false; rw [hl]; rfl), (unhide HA).drewN _, by rcases unhide HST with h | h; exact .inl (by omega); exact .inr h⟩⟩
              case measure => simp [intOf]; omega
            | false =>
              go_big_quiet (first | (go_at_call 87; refine Calls.quiet_of_same (less32 _ _ _)))
              go_wp2_with fail
              have hF1 : (fun x => !Sort.ltInt p x) dk[i]! = false := by rcases unhide HST with h | h; omega; exact h
              have hF2 : (fun x => !Sort.ltInt p x) dk[j2]! = true := by rw [← unhide HG]; have hp1 := (unhide HP).at_; rw [← unhide HG] at hp1; rw [← hp1]; show (!Sort.ltInt (G a) (G j2)) = true; rw [hl]; rfl
              obtain ⟨hlt, hP2⟩ := (unhide HP).swap (by have := unhide HZ; omega) hij hF1 hF2
              have HP2 := hide hP2
              have HA1 : Hz (SoAt w (wr.drewN nq) blk off dk) := hide ((unhide HA).drewN nq)
              clear hP2 hF1 hF2 hl hc hf HA HG HP HST
              generalize wr.drewN nq = W2 at *
              clear nq
              have hnot : ¬ (j2 : Int) < (i : Int) := by omega
              obtain ⟨G, hG, hc, hf⟩ := (unhide HA1).cells N (unhide HZ)
              have hm1 := mid_cell hc (i := i) (j := j2) (by omega) (by omega)
              have hm2 := mid_frozen (G := G) hf (i := i) (j := j2) (by omega)
              have hA2 := (unhide HA1).drew.swap (i := i) (j := j2) (by have := unhide HZ; omega) (by have := unhide HZ; omega)
              rw [← hG, ← hG] at hA2
              have HA2 := hide hA2
              have HZ2 := hide (show (Sort.swp dk i j2).size = N by rw [size_swp']; exact unhide HZ)
              clear hG hA2 HA1
              go_wp2_with fail
              go_region
              all_goals go_wp2_with fail
              clear hm1 hm2 hc hf
              go_roundw
              case rel => exact ⟨i + 1, j2 - 1, Sort.swp dk i j2, by go_num, by congr 1; omega, by omega, by omega, by omega, hide ⟨unhide HP2, unhide HA2, unhide HZ2⟩⟩
              case measure => simp [intOf]; omega
          · have hij' : decide ((i : Int) ≤ (j2 : Int)) = false := decide_eq_false (by omega)
            go_big_quiet (first | (go_at_call 87; refine Calls.quiet_of_same (less32 _ _ _)))
            go_wp2_with fail
            have HA1 : Hz (SoAt w (wr.drewN nq) blk off dk) := hide ((unhide HA).drewN nq)
            clear hc hf HA HG HST hij'
            generalize wr.drewN nq = W2 at *
            clear nq
            have hyes : (j2 : Int) < (i : Int) := by omega
            go_wp2_with fail
            go_ret
            exact ⟨i, dk, rfl, by rw [← unhide HPV]; exact (unhide HP).eq (by omega), unhide HA1⟩
end Go.Proofs.Ytemmflhofhngbaa
/- partitionOrdered at runes. -/
namespace Go.Proofs.Ytemmflhofhngbaa
open Go.RowKit Go.Shelf
set_option linter.unusedVariables false
set_option maxRecDepth 100000 in
set_option maxHeartbeats 16000000 in
theorem so_part (blk off cap a b pv N : Nat) (d : Array Int) (hN : d.size = N) (hap : a ≤ pv) (hpb : pv < b) (hb : b ≤ N) (hsz : N ≤ 1000000) (w : World) (hH : Sort.Holds (Value.int .i32) w blk off d) :
    Calls Try.prog 89 #[.slice (some ⟨blk, off, none⟩) N cap, .int .i64 a, .int .i64 b, .int .i64 pv] w fun e w' => ∃ (m : Nat) (ap : Bool) (d' : Array Int), e = .returned (.tuple #[.int .i64 m, .bool ap]) ∧ PartOk a b m d d' ∧ SoAt w w' blk off d' := by
  obtain ⟨G, hG, hc, hf⟩ := (SoAt.start hH).cells N hN
  have hm1 := mid_cell hc (i := a) (j := pv) (by omega) (by omega)
  have hm2 := mid_frozen (G := G) hf (i := a) (j := pv) (by omega)
  have hA0 := (SoAt.start hH).drew.swap (i := a) (j := pv) (by omega) (by omega)
  rw [← hG, ← hG] at hA0
  have HA0 := hide hA0
  obtain ⟨p, hp⟩ : ∃ p, p = d[pv]! := ⟨_, rfl⟩
  have HP0 := hide (show PartI (fun x => Sort.ltInt x p) p a b (a + 1) (b - 1) d (Sort.swp d a pv) by rw [hp]; exact PartI.start hap hpb (by omega))
  have HZ := hide (show (Sort.swp d a pv).size = N by rw [size_swp']; exact hN)
  obtain ⟨j0, hj0⟩ : ∃ j0, j0 = b - 1 := ⟨_, rfl⟩
  rw [← hj0] at HP0
  have Hj := hide (show (b : Int) - 1 = (j0 : Int) by omega)
  have hj1 : a ≤ j0 ∧ j0 < b := by omega
  have HPV := hide hp
  clear hA0 hG hH hj0 hp hN
  go_enter Try.func89, Try.ntmps89
  go_wp2_with fail
  go_region
  all_goals go_wp2_with fail
  clear hm1 hm2 hc hf
  generalize Sort.swp d a pv = dk at *
  rw [unhide Hj]
  go_loopw [10] (fun vi wr => ∃ i : Nat, vi = .int .i64 i ∧ a + 1 ≤ i ∧ i ≤ j0 + 1 ∧ Hz (PartI (fun x => Sort.ltInt x p) p a b i j0 d dk ∧ SoAt w wr blk off dk)) (fun vi _ => j0 + 1 - (intOf vi).toNat)
  case atStart => exact ⟨a + 1, by go_num, Nat.le_refl _, by omega, hide ⟨unhide HP0, unhide HA0⟩⟩
  case round =>
    clear HP0 HA0
    obtain ⟨i, rfl, hio, hij1, HI⟩ := hrel
    have HP := hide (unhide HI).1
    have HA := hide (unhide HI).2
    clear HI
    obtain ⟨G, hG, hc, hf⟩ := (unhide HA).cells N (unhide HZ)
    have HG := hide hG
    clear hG
    go_wp2_with fail
    by_cases hij : i ≤ j0
    · have hij' : (i : Int) ≤ (j0 : Int) := by omega
      cases hl : Sort.ltInt (G i) (G a) with
      | true =>
        go_big_quiet (first | (go_at_call 87; refine Calls.quiet_of_same (less32 _ _ _)))
        go_wp2_with fail
        go_roundw
        case rel => exact ⟨i + 1, by go_num, by omega, by omega, hide ⟨(unhide HP).up hij (by rw [← unhide HG]; have hp1 := (unhide HP).at_; rw [← unhide HG] at hp1; rw [← hp1]; exact hl), (unhide HA).drewN _⟩⟩
        case measure => simp [intOf]; omega
      | false =>
        go_big_quiet (first | (go_at_call 87; refine Calls.quiet_of_same (less32 _ _ _)))
        go_wp2_with fail
        have HST : Hz (j0 < i ∨ (fun x => Sort.ltInt x p) dk[i]! = false) := hide (.inr (by rw [← unhide HG]; have hp1 := (unhide HP).at_; rw [← unhide HG] at hp1; rw [← hp1]; exact hl))
        have HA1 : Hz (SoAt w (wr.drewN nq) blk off dk) := hide ((unhide HA).drewN nq)
        clear hc hf HA HG hl
        generalize wr.drewN nq = W1 at *
        clear nq
        go_loopw [11] (fun vj wr => ∃ j2 : Nat, vj = .int .i64 j2 ∧ i ≤ j2 + 1 ∧ j2 ≤ j0 ∧ Hz (PartI (fun x => Sort.ltInt x p) p a b i j2 d dk ∧ SoAt w wr blk off dk ∧ (j2 < i ∨ (fun x => Sort.ltInt x p) dk[i]! = false))) (fun vj _ => (intOf vj).toNat)
        case atStart => exact ⟨j0, rfl, by omega, Nat.le_refl _, hide ⟨unhide HP, unhide HA1, unhide HST⟩⟩
        case round =>
          clear HP HA1 HST
          obtain ⟨j2, rfl, hij2, hjb2, HI⟩ := hrel
          have HP := hide (unhide HI).1
          have HA := hide (unhide HI).2.1
          have HST := hide (unhide HI).2.2
          clear HI
          obtain ⟨G, hG, hc, hf⟩ := (unhide HA).cells N (unhide HZ)
          have HG := hide hG
          clear hG
          go_wp2_with fail
          by_cases hij : i ≤ j2
          · have hij' : (i : Int) ≤ (j2 : Int) := by omega
            cases hl : Sort.ltInt (G j2) (G a) with
            | false =>
              go_big_quiet (first | (go_at_call 87; refine Calls.quiet_of_same (less32 _ _ _)))
              go_wp2_with fail
              go_roundw
              case rel => exact ⟨j2 - 1, by congr 1; omega, by omega, by omega, hide ⟨(unhide HP).down hij (by rw [← unhide HG]; have hp1 := (unhide HP).at_; rw [← unhide HG] at hp1; rw [← hp1]; exact hl), (unhide HA).drewN _, by rcases unhide HST with h | h; exact .inl (by omega); exact .inr h⟩⟩
              case measure => simp [intOf]; omega
            | true =>
              go_big_quiet (first | (go_at_call 87; refine Calls.quiet_of_same (less32 _ _ _)))
              go_wp2_with fail
              have hF1 : (fun x => Sort.ltInt x p) dk[i]! = false := by rcases unhide HST with h | h; omega; exact h
              have hF2 : (fun x => Sort.ltInt x p) dk[j2]! = true := by rw [← unhide HG]; have hp1 := (unhide HP).at_; rw [← unhide HG] at hp1; rw [← hp1]; exact hl
              obtain ⟨hlt, hP2⟩ := (unhide HP).swap (by have := unhide HZ; omega) hij hF1 hF2
              have HP2 := hide hP2
              have HA1 : Hz (SoAt w (wr.drewN nq) blk off dk) := hide ((unhide HA).drewN nq)
              clear hP2 hF1 hF2 hl hc hf HA HG HP HST
              generalize wr.drewN nq = W2 at *
              clear nq
              have hnot : ¬ (j2 : Int) < (i : Int) := by omega
              obtain ⟨G, hG, hc, hf⟩ := (unhide HA1).cells N (unhide HZ)
              have hm1 := mid_cell hc (i := i) (j := j2) (by omega) (by omega)
              have hm2 := mid_frozen (G := G) hf (i := i) (j := j2) (by omega)
              have hA2 := (unhide HA1).drew.swap (i := i) (j := j2) (by have := unhide HZ; omega) (by have := unhide HZ; omega)
              rw [← hG, ← hG] at hA2
              have HA2 := hide hA2
              have HZ2 := hide (show (Sort.swp dk i j2).size = N by rw [size_swp']; exact unhide HZ)
              clear hG hA2 HA1
              go_wp2_with fail
              go_region
              all_goals go_wp2_with fail
              clear hm1 hm2 hc hf
              go_loopw [10, 11] (fun vi vj wr => ∃ (i j : Nat) (dk : Array Int), vi = .int .i64 i ∧ vj = .int .i64 j ∧ a < i ∧ i ≤ j + 1 ∧ j < b ∧ Hz (PartI (fun x => Sort.ltInt x p) p a b i j d dk ∧ SoAt w wr blk off dk ∧ dk.size = N)) (fun vi vj _ => (intOf vj + 1 - intOf vi).toNat)
              case atStart => exact ⟨i + 1, j2 - 1, Sort.swp dk i j2, by go_num, by congr 1; omega, by omega, by omega, by omega, hide ⟨unhide HP2, unhide HA2, unhide HZ2⟩⟩
              case round =>
                clear HP2 HA2 HZ2 HZ
                obtain ⟨io, jo, dk, rfl, rfl, hai, hij, hjb, HI⟩ := hrel
                have HP := hide (unhide HI).1
                have HA := hide (unhide HI).2.1
                have HZ := hide (unhide HI).2.2
                clear HI
                go_wp2_with fail
                go_loopw [10] (fun vi wr => ∃ i : Nat, vi = .int .i64 i ∧ io ≤ i ∧ i ≤ jo + 1 ∧ Hz (PartI (fun x => Sort.ltInt x p) p a b i jo d dk ∧ SoAt w wr blk off dk)) (fun vi _ => jo + 1 - (intOf vi).toNat)
                case atStart => exact ⟨io, rfl, Nat.le_refl _, hij, hide ⟨unhide HP, unhide HA⟩⟩
                case round =>
                  clear HP HA
                  obtain ⟨i, rfl, hio, hij1, HI⟩ := hrel
                  have HP := hide (unhide HI).1
                  have HA := hide (unhide HI).2
                  clear HI
                  obtain ⟨G, hG, hc, hf⟩ := (unhide HA).cells N (unhide HZ)
                  have HG := hide hG
                  clear hG
                  go_wp2_with fail
                  by_cases hij : i ≤ jo
                  · have hij' : (i : Int) ≤ (jo : Int) := by omega
                    cases hl : Sort.ltInt (G i) (G a) with
                    | true =>
                      go_big_quiet (first | (go_at_call 87; refine Calls.quiet_of_same (less32 _ _ _)))
                      go_wp2_with fail
                      go_roundw
                      case rel => exact ⟨i + 1, by go_num, by omega, by omega, hide ⟨(unhide HP).up hij (by rw [← unhide HG]; have hp1 := (unhide HP).at_; rw [← unhide HG] at hp1; rw [← hp1]; exact hl), (unhide HA).drewN _⟩⟩
                      case measure => simp [intOf]; omega
                    | false =>
                      go_big_quiet (first | (go_at_call 87; refine Calls.quiet_of_same (less32 _ _ _)))
                      go_wp2_with fail
                      have HST : Hz (jo < i ∨ (fun x => Sort.ltInt x p) dk[i]! = false) := hide (.inr (by rw [← unhide HG]; have hp1 := (unhide HP).at_; rw [← unhide HG] at hp1; rw [← hp1]; exact hl))
                      have HA1 : Hz (SoAt w (wr.drewN nq) blk off dk) := hide ((unhide HA).drewN nq)
                      clear hc hf HA HG hl
                      generalize wr.drewN nq = W1 at *
                      clear nq
                      go_loopw [11] (fun vj wr => ∃ j2 : Nat, vj = .int .i64 j2 ∧ i ≤ j2 + 1 ∧ j2 ≤ jo ∧ Hz (PartI (fun x => Sort.ltInt x p) p a b i j2 d dk ∧ SoAt w wr blk off dk ∧ (j2 < i ∨ (fun x => Sort.ltInt x p) dk[i]! = false))) (fun vj _ => (intOf vj).toNat)
                      case atStart => exact ⟨jo, rfl, by omega, Nat.le_refl _, hide ⟨unhide HP, unhide HA1, unhide HST⟩⟩
                      case round =>
                        clear HP HA1 HST
                        obtain ⟨j2, rfl, hij2, hjb2, HI⟩ := hrel
                        have HP := hide (unhide HI).1
                        have HA := hide (unhide HI).2.1
                        have HST := hide (unhide HI).2.2
                        clear HI
                        obtain ⟨G, hG, hc, hf⟩ := (unhide HA).cells N (unhide HZ)
                        have HG := hide hG
                        clear hG
                        go_wp2_with fail
                        by_cases hij : i ≤ j2
                        · have hij' : (i : Int) ≤ (j2 : Int) := by omega
                          cases hl : Sort.ltInt (G j2) (G a) with
                          | false =>
                            go_big_quiet (first | (go_at_call 87; refine Calls.quiet_of_same (less32 _ _ _)))
                            go_wp2_with fail
                            go_roundw
                            case rel => exact ⟨j2 - 1, by congr 1; omega, by omega, by omega, hide ⟨(unhide HP).down hij (by rw [← unhide HG]; have hp1 := (unhide HP).at_; rw [← unhide HG] at hp1; rw [← hp1]; exact hl), (unhide HA).drewN _, by rcases unhide HST with h | h; exact .inl (by omega); exact .inr h⟩⟩
                            case measure => simp [intOf]; omega
                          | true =>
                            go_big_quiet (first | (go_at_call 87; refine Calls.quiet_of_same (less32 _ _ _)))
                            go_wp2_with fail
                            have hF1 : (fun x => Sort.ltInt x p) dk[i]! = false := by rcases unhide HST with h | h; omega; exact h
                            have hF2 : (fun x => Sort.ltInt x p) dk[j2]! = true := by rw [← unhide HG]; have hp1 := (unhide HP).at_; rw [← unhide HG] at hp1; rw [← hp1]; exact hl
                            obtain ⟨hlt, hP2⟩ := (unhide HP).swap (by have := unhide HZ; omega) hij hF1 hF2
                            have HP2 := hide hP2
                            have HA1 : Hz (SoAt w (wr.drewN nq) blk off dk) := hide ((unhide HA).drewN nq)
                            clear hP2 hF1 hF2 hl hc hf HA HG HP HST
                            generalize wr.drewN nq = W2 at *
                            clear nq
                            have hnot : ¬ (j2 : Int) < (i : Int) := by omega
                            obtain ⟨G, hG, hc, hf⟩ := (unhide HA1).cells N (unhide HZ)
                            have hm1 := mid_cell hc (i := i) (j := j2) (by omega) (by omega)
                            have hm2 := mid_frozen (G := G) hf (i := i) (j := j2) (by omega)
                            have hA2 := (unhide HA1).drew.swap (i := i) (j := j2) (by have := unhide HZ; omega) (by have := unhide HZ; omega)
                            rw [← hG, ← hG] at hA2
                            have HA2 := hide hA2
                            have HZ2 := hide (show (Sort.swp dk i j2).size = N by rw [size_swp']; exact unhide HZ)
                            clear hG hA2 HA1
                            go_wp2_with fail
                            go_region
                            all_goals go_wp2_with fail
                            clear hm1 hm2 hc hf
                            go_roundw
                            case rel => exact ⟨i + 1, j2 - 1, Sort.swp dk i j2, by go_num, by congr 1; omega, by omega, by omega, by omega, hide ⟨unhide HP2, unhide HA2, unhide HZ2⟩⟩
                            case measure => simp [intOf]; omega
                        · have hij' : decide ((i : Int) ≤ (j2 : Int)) = false := decide_eq_false (by omega)
                          go_big_quiet (first | (go_at_call 87; refine Calls.quiet_of_same (less32 _ _ _)))
                          go_wp2_with fail
                          have HA1 : Hz (SoAt w (wr.drewN nq) blk off dk) := hide ((unhide HA).drewN nq)
                          clear hc hf HA HG HST hij'
                          generalize wr.drewN nq = W2 at *
                          clear nq
                          have hyes : (j2 : Int) < (i : Int) := by omega
                          obtain ⟨G, hG, hc, hf⟩ := (unhide HA1).cells N (unhide HZ)
                          have hm1 := mid_cell hc (i := j2) (j := a) (by omega) (by omega)
                          have hm2 := mid_frozen (G := G) hf (i := j2) (j := a) (by omega)
                          have hA2 := (unhide HA1).drew.swap (i := j2) (j := a) (by have := unhide HZ; omega) (by have := unhide HZ; omega)
                          rw [← hG, ← hG] at hA2
                          have HA2 := hide hA2
                          clear hG hA2 HA1
                          go_wp2_with fail
                          go_region
                          all_goals go_wp2_with fail
                          go_ret2
                          exact ⟨j2, false, Sort.swp dk j2 a, rfl, (unhide HP).done (by have := unhide HZ; omega) (by omega), unhide HA2⟩
                  · have hij' : decide ((i : Int) ≤ (jo : Int)) = false := decide_eq_false (by omega)
                    go_big_quiet (first | (go_at_call 87; refine Calls.quiet_of_same (less32 _ _ _)))
                    go_wp2_with fail
                    have HST : Hz (jo < i ∨ (fun x => Sort.ltInt x p) dk[i]! = false) := hide (.inl (by omega))
                    have HA1 : Hz (SoAt w (wr.drewN nq) blk off dk) := hide ((unhide HA).drewN nq)
                    clear hc hf HA HG hij' hij
                    generalize wr.drewN nq = W1 at *
                    clear nq
                    go_loopw [11] (fun vj wr => ∃ j2 : Nat, vj = .int .i64 j2 ∧ i ≤ j2 + 1 ∧ j2 ≤ jo ∧ Hz (PartI (fun x => Sort.ltInt x p) p a b i j2 d dk ∧ SoAt w wr blk off dk ∧ (j2 < i ∨ (fun x => Sort.ltInt x p) dk[i]! = false))) (fun vj _ => (intOf vj).toNat)
                    case atStart => exact ⟨jo, rfl, by omega, Nat.le_refl _, hide ⟨unhide HP, unhide HA1, unhide HST⟩⟩
                    case round =>
                      clear HP HA1 HST
                      obtain ⟨j2, rfl, hij2, hjb2, HI⟩ := hrel
                      have HP := hide (unhide HI).1
                      have HA := hide (unhide HI).2.1
                      have HST := hide (unhide HI).2.2
                      clear HI
                      obtain ⟨G, hG, hc, hf⟩ := (unhide HA).cells N (unhide HZ)
                      have HG := hide hG
                      clear hG
                      go_wp2_with fail
                      by_cases hij : i ≤ j2
                      · have hij' : (i : Int) ≤ (j2 : Int) := by omega
                        cases hl : Sort.ltInt (G j2) (G a) with
                        | false =>
                          go_big_quiet (first | (go_at_call 87; refine Calls.quiet_of_same (less32 _ _ _)))
                          go_wp2_with fail
                          go_roundw
                          case rel => exact ⟨j2 - 1, by congr 1; omega, by omega, by omega, hide ⟨(unhide HP).down hij (by rw [← unhide HG]; have hp1 := (unhide HP).at_; rw [← unhide HG] at hp1; rw [← hp1]; exact hl), (unhide HA).drewN _, by rcases unhide HST with h | h; exact .inl (by omega); exact .inr h⟩⟩
                          case measure => simp [intOf]; omega
                        | true =>
                          go_big_quiet (first | (go_at_call 87; refine Calls.quiet_of_same (less32 _ _ _)))
                          go_wp2_with fail
                          have hF1 : (fun x => Sort.ltInt x p) dk[i]! = false := by rcases unhide HST with h | h; omega; exact h
                          have hF2 : (fun x => Sort.ltInt x p) dk[j2]! = true := by rw [← unhide HG]; have hp1 := (unhide HP).at_; rw [← unhide HG] at hp1; rw [← hp1]; exact hl
                          obtain ⟨hlt, hP2⟩ := (unhide HP).swap (by have := unhide HZ; omega) hij hF1 hF2
                          have HP2 := hide hP2
                          have HA1 : Hz (SoAt w (wr.drewN nq) blk off dk) := hide ((unhide HA).drewN nq)
                          clear hP2 hF1 hF2 hl hc hf HA HG HP HST
                          generalize wr.drewN nq = W2 at *
                          clear nq
                          have hnot : ¬ (j2 : Int) < (i : Int) := by omega
                          obtain ⟨G, hG, hc, hf⟩ := (unhide HA1).cells N (unhide HZ)
                          have hm1 := mid_cell hc (i := i) (j := j2) (by omega) (by omega)
                          have hm2 := mid_frozen (G := G) hf (i := i) (j := j2) (by omega)
                          have hA2 := (unhide HA1).drew.swap (i := i) (j := j2) (by have := unhide HZ; omega) (by have := unhide HZ; omega)
                          rw [← hG, ← hG] at hA2
                          have HA2 := hide hA2
                          have HZ2 := hide (show (Sort.swp dk i j2).size = N by rw [size_swp']; exact unhide HZ)
                          clear hG hA2 HA1
                          go_wp2_with fail
                          go_region
                          all_goals go_wp2_with fail
                          clear hm1 hm2 hc hf
                          go_roundw
                          case rel => exact ⟨i + 1, j2 - 1, Sort.swp dk i j2, by go_num, by congr 1; omega, by omega, by omega, by omega, hide ⟨unhide HP2, unhide HA2, unhide HZ2⟩⟩
                          case measure => simp [intOf]; omega
                      · have hij' : decide ((i : Int) ≤ (j2 : Int)) = false := decide_eq_false (by omega)
                        go_big_quiet (first | (go_at_call 87; refine Calls.quiet_of_same (less32 _ _ _)))
                        go_wp2_with fail
                        have HA1 : Hz (SoAt w (wr.drewN nq) blk off dk) := hide ((unhide HA).drewN nq)
                        clear hc hf HA HG HST hij'
                        generalize wr.drewN nq = W2 at *
                        clear nq
                        have hyes : (j2 : Int) < (i : Int) := by omega
                        obtain ⟨G, hG, hc, hf⟩ := (unhide HA1).cells N (unhide HZ)
                        have hm1 := mid_cell hc (i := j2) (j := a) (by omega) (by omega)
                        have hm2 := mid_frozen (G := G) hf (i := j2) (j := a) (by omega)
                        have hA2 := (unhide HA1).drew.swap (i := j2) (j := a) (by have := unhide HZ; omega) (by have := unhide HZ; omega)
                        rw [← hG, ← hG] at hA2
                        have HA2 := hide hA2
                        clear hG hA2 HA1
                        go_wp2_with fail
                        go_region
                        all_goals go_wp2_with fail
                        go_ret2
                        exact ⟨j2, false, Sort.swp dk j2 a, rfl, (unhide HP).done (by have := unhide HZ; omega) (by omega), unhide HA2⟩
          · have hij' : decide ((i : Int) ≤ (j2 : Int)) = false := decide_eq_false (by omega)
            go_big_quiet (first | (go_at_call 87; refine Calls.quiet_of_same (less32 _ _ _)))
            go_wp2_with fail
            have HA1 : Hz (SoAt w (wr.drewN nq) blk off dk) := hide ((unhide HA).drewN nq)
            clear hc hf HA HG HST hij'
            generalize wr.drewN nq = W2 at *
            clear nq
            have hyes : (j2 : Int) < (i : Int) := by omega
            obtain ⟨G, hG, hc, hf⟩ := (unhide HA1).cells N (unhide HZ)
            have hm1 := mid_cell hc (i := j2) (j := a) (by omega) (by omega)
            have hm2 := mid_frozen (G := G) hf (i := j2) (j := a) (by omega)
            have hA2 := (unhide HA1).drew.swap (i := j2) (j := a) (by have := unhide HZ; omega) (by have := unhide HZ; omega)
            rw [← hG, ← hG] at hA2
            have HA2 := hide hA2
            clear hG hA2 HA1
            go_wp2_with fail
            go_region
            all_goals go_wp2_with fail
            go_ret2
            exact ⟨j2, true, Sort.swp dk j2 a, rfl, (unhide HP).done (by have := unhide HZ; omega) (by omega), unhide HA2⟩
    · have hij' : decide ((i : Int) ≤ (j0 : Int)) = false := decide_eq_false (by omega)
      go_big_quiet (first | (go_at_call 87; refine Calls.quiet_of_same (less32 _ _ _)))
      go_wp2_with fail
      have HST : Hz (j0 < i ∨ (fun x => Sort.ltInt x p) dk[i]! = false) := hide (.inl (by omega))
      have HA1 : Hz (SoAt w (wr.drewN nq) blk off dk) := hide ((unhide HA).drewN nq)
      clear hc hf HA HG hij' hij
      generalize wr.drewN nq = W1 at *
      clear nq
      go_loopw [11] (fun vj wr => ∃ j2 : Nat, vj = .int .i64 j2 ∧ i ≤ j2 + 1 ∧ j2 ≤ j0 ∧ Hz (PartI (fun x => Sort.ltInt x p) p a b i j2 d dk ∧ SoAt w wr blk off dk ∧ (j2 < i ∨ (fun x => Sort.ltInt x p) dk[i]! = false))) (fun vj _ => (intOf vj).toNat)
      case atStart => exact ⟨j0, rfl, by omega, Nat.le_refl _, hide ⟨unhide HP, unhide HA1, unhide HST⟩⟩
      case round =>
        clear HP HA1 HST
        obtain ⟨j2, rfl, hij2, hjb2, HI⟩ := hrel
        have HP := hide (unhide HI).1
        have HA := hide (unhide HI).2.1
        have HST := hide (unhide HI).2.2
        clear HI
        obtain ⟨G, hG, hc, hf⟩ := (unhide HA).cells N (unhide HZ)
        have HG := hide hG
        clear hG
        go_wp2_with fail
        by_cases hij : i ≤ j2
        · have hij' : (i : Int) ≤ (j2 : Int) := by omega
          cases hl : Sort.ltInt (G j2) (G a) with
          | false =>
            go_big_quiet (first | (go_at_call 87; refine Calls.quiet_of_same (less32 _ _ _)))
            go_wp2_with fail
            go_roundw
            case rel => exact ⟨j2 - 1, by congr 1; omega, by omega, by omega, hide ⟨(unhide HP).down hij (by rw [← unhide HG]; have hp1 := (unhide HP).at_; rw [← unhide HG] at hp1; rw [← hp1]; exact hl), (unhide HA).drewN _, by rcases unhide HST with h | h; exact .inl (by omega); exact .inr h⟩⟩
            case measure => simp [intOf]; omega
          | true =>
            go_big_quiet (first | (go_at_call 87; refine Calls.quiet_of_same (less32 _ _ _)))
            go_wp2_with fail
            have hF1 : (fun x => Sort.ltInt x p) dk[i]! = false := by rcases unhide HST with h | h; omega; exact h
            have hF2 : (fun x => Sort.ltInt x p) dk[j2]! = true := by rw [← unhide HG]; have hp1 := (unhide HP).at_; rw [← unhide HG] at hp1; rw [← hp1]; exact hl
            obtain ⟨hlt, hP2⟩ := (unhide HP).swap (by have := unhide HZ; omega) hij hF1 hF2
            have HP2 := hide hP2
            have HA1 : Hz (SoAt w (wr.drewN nq) blk off dk) := hide ((unhide HA).drewN nq)
            clear hP2 hF1 hF2 hl hc hf HA HG HP HST
            generalize wr.drewN nq = W2 at *
            clear nq
            have hnot : ¬ (j2 : Int) < (i : Int) := by omega
            obtain ⟨G, hG, hc, hf⟩ := (unhide HA1).cells N (unhide HZ)
            have hm1 := mid_cell hc (i := i) (j := j2) (by omega) (by omega)
            have hm2 := mid_frozen (G := G) hf (i := i) (j := j2) (by omega)
            have hA2 := (unhide HA1).drew.swap (i := i) (j := j2) (by have := unhide HZ; omega) (by have := unhide HZ; omega)
            rw [← hG, ← hG] at hA2
            have HA2 := hide hA2
            have HZ2 := hide (show (Sort.swp dk i j2).size = N by rw [size_swp']; exact unhide HZ)
            clear hG hA2 HA1
            go_wp2_with fail
            go_region
            all_goals go_wp2_with fail
            clear hm1 hm2 hc hf
            go_loopw [10, 11] (fun vi vj wr => ∃ (i j : Nat) (dk : Array Int), vi = .int .i64 i ∧ vj = .int .i64 j ∧ a < i ∧ i ≤ j + 1 ∧ j < b ∧ Hz (PartI (fun x => Sort.ltInt x p) p a b i j d dk ∧ SoAt w wr blk off dk ∧ dk.size = N)) (fun vi vj _ => (intOf vj + 1 - intOf vi).toNat)
            case atStart => exact ⟨i + 1, j2 - 1, Sort.swp dk i j2, by go_num, by congr 1; omega, by omega, by omega, by omega, hide ⟨unhide HP2, unhide HA2, unhide HZ2⟩⟩
            case round =>
              clear HP2 HA2 HZ2 HZ
              obtain ⟨io, jo, dk, rfl, rfl, hai, hij, hjb, HI⟩ := hrel
              have HP := hide (unhide HI).1
              have HA := hide (unhide HI).2.1
              have HZ := hide (unhide HI).2.2
              clear HI
              go_wp2_with fail
              go_loopw [10] (fun vi wr => ∃ i : Nat, vi = .int .i64 i ∧ io ≤ i ∧ i ≤ jo + 1 ∧ Hz (PartI (fun x => Sort.ltInt x p) p a b i jo d dk ∧ SoAt w wr blk off dk)) (fun vi _ => jo + 1 - (intOf vi).toNat)
              case atStart => exact ⟨io, rfl, Nat.le_refl _, hij, hide ⟨unhide HP, unhide HA⟩⟩
              case round =>
                clear HP HA
                obtain ⟨i, rfl, hio, hij1, HI⟩ := hrel
                have HP := hide (unhide HI).1
                have HA := hide (unhide HI).2
                clear HI
                obtain ⟨G, hG, hc, hf⟩ := (unhide HA).cells N (unhide HZ)
                have HG := hide hG
                clear hG
                go_wp2_with fail
                by_cases hij : i ≤ jo
                · have hij' : (i : Int) ≤ (jo : Int) := by omega
                  cases hl : Sort.ltInt (G i) (G a) with
                  | true =>
                    go_big_quiet (first | (go_at_call 87; refine Calls.quiet_of_same (less32 _ _ _)))
                    go_wp2_with fail
                    go_roundw
                    case rel => exact ⟨i + 1, by go_num, by omega, by omega, hide ⟨(unhide HP).up hij (by rw [← unhide HG]; have hp1 := (unhide HP).at_; rw [← unhide HG] at hp1; rw [← hp1]; exact hl), (unhide HA).drewN _⟩⟩
                    case measure => simp [intOf]; omega
                  | false =>
                    go_big_quiet (first | (go_at_call 87; refine Calls.quiet_of_same (less32 _ _ _)))
                    go_wp2_with fail
                    have HST : Hz (jo < i ∨ (fun x => Sort.ltInt x p) dk[i]! = false) := hide (.inr (by rw [← unhide HG]; have hp1 := (unhide HP).at_; rw [← unhide HG] at hp1; rw [← hp1]; exact hl))
                    have HA1 : Hz (SoAt w (wr.drewN nq) blk off dk) := hide ((unhide HA).drewN nq)
                    clear hc hf HA HG hl
                    generalize wr.drewN nq = W1 at *
                    clear nq
                    go_loopw [11] (fun vj wr => ∃ j2 : Nat, vj = .int .i64 j2 ∧ i ≤ j2 + 1 ∧ j2 ≤ jo ∧ Hz (PartI (fun x => Sort.ltInt x p) p a b i j2 d dk ∧ SoAt w wr blk off dk ∧ (j2 < i ∨ (fun x => Sort.ltInt x p) dk[i]! = false))) (fun vj _ => (intOf vj).toNat)
                    case atStart => exact ⟨jo, rfl, by omega, Nat.le_refl _, hide ⟨unhide HP, unhide HA1, unhide HST⟩⟩
                    case round =>
                      clear HP HA1 HST
                      obtain ⟨j2, rfl, hij2, hjb2, HI⟩ := hrel
                      have HP := hide (unhide HI).1
                      have HA := hide (unhide HI).2.1
                      have HST := hide (unhide HI).2.2
                      clear HI
                      obtain ⟨G, hG, hc, hf⟩ := (unhide HA).cells N (unhide HZ)
                      have HG := hide hG
                      clear hG
                      go_wp2_with fail
                      by_cases hij : i ≤ j2
                      · have hij' : (i : Int) ≤ (j2 : Int) := by omega
                        cases hl : Sort.ltInt (G j2) (G a) with
                        | false =>
                          go_big_quiet (first | (go_at_call 87; refine Calls.quiet_of_same (less32 _ _ _)))
                          go_wp2_with fail
                          go_roundw
                          case rel => exact ⟨j2 - 1, by congr 1; omega, by omega, by omega, hide ⟨(unhide HP).down hij (by rw [← unhide HG]; have hp1 := (unhide HP).at_; rw [← unhide HG] at hp1; rw [← hp1]; exact hl), (unhide HA).drewN _, by rcases unhide HST with h | h; exact .inl (by omega); exact .inr h⟩⟩
                          case measure => simp [intOf]; omega
                        | true =>
                          go_big_quiet (first | (go_at_call 87; refine Calls.quiet_of_same (less32 _ _ _)))
                          go_wp2_with fail
                          have hF1 : (fun x => Sort.ltInt x p) dk[i]! = false := by rcases unhide HST with h | h; omega; exact h
                          have hF2 : (fun x => Sort.ltInt x p) dk[j2]! = true := by rw [← unhide HG]; have hp1 := (unhide HP).at_; rw [← unhide HG] at hp1; rw [← hp1]; exact hl
                          obtain ⟨hlt, hP2⟩ := (unhide HP).swap (by have := unhide HZ; omega) hij hF1 hF2
                          have HP2 := hide hP2
                          have HA1 : Hz (SoAt w (wr.drewN nq) blk off dk) := hide ((unhide HA).drewN nq)
                          clear hP2 hF1 hF2 hl hc hf HA HG HP HST
                          generalize wr.drewN nq = W2 at *
                          clear nq
                          have hnot : ¬ (j2 : Int) < (i : Int) := by omega
                          obtain ⟨G, hG, hc, hf⟩ := (unhide HA1).cells N (unhide HZ)
                          have hm1 := mid_cell hc (i := i) (j := j2) (by omega) (by omega)
                          have hm2 := mid_frozen (G := G) hf (i := i) (j := j2) (by omega)
                          have hA2 := (unhide HA1).drew.swap (i := i) (j := j2) (by have := unhide HZ; omega) (by have := unhide HZ; omega)
                          rw [← hG, ← hG] at hA2
                          have HA2 := hide hA2
                          have HZ2 := hide (show (Sort.swp dk i j2).size = N by rw [size_swp']; exact unhide HZ)
                          clear hG hA2 HA1
                          go_wp2_with fail
                          go_region
                          all_goals go_wp2_with fail
                          clear hm1 hm2 hc hf
                          go_roundw
                          case rel => exact ⟨i + 1, j2 - 1, Sort.swp dk i j2, by go_num, by congr 1; omega, by omega, by omega, by omega, hide ⟨unhide HP2, unhide HA2, unhide HZ2⟩⟩
                          case measure => simp [intOf]; omega
                      · have hij' : decide ((i : Int) ≤ (j2 : Int)) = false := decide_eq_false (by omega)
                        go_big_quiet (first | (go_at_call 87; refine Calls.quiet_of_same (less32 _ _ _)))
                        go_wp2_with fail
                        have HA1 : Hz (SoAt w (wr.drewN nq) blk off dk) := hide ((unhide HA).drewN nq)
                        clear hc hf HA HG HST hij'
                        generalize wr.drewN nq = W2 at *
                        clear nq
                        have hyes : (j2 : Int) < (i : Int) := by omega
                        obtain ⟨G, hG, hc, hf⟩ := (unhide HA1).cells N (unhide HZ)
                        have hm1 := mid_cell hc (i := j2) (j := a) (by omega) (by omega)
                        have hm2 := mid_frozen (G := G) hf (i := j2) (j := a) (by omega)
                        have hA2 := (unhide HA1).drew.swap (i := j2) (j := a) (by have := unhide HZ; omega) (by have := unhide HZ; omega)
                        rw [← hG, ← hG] at hA2
                        have HA2 := hide hA2
                        clear hG hA2 HA1
                        go_wp2_with fail
                        go_region
                        all_goals go_wp2_with fail
                        go_ret2
                        exact ⟨j2, false, Sort.swp dk j2 a, rfl, (unhide HP).done (by have := unhide HZ; omega) (by omega), unhide HA2⟩
                · have hij' : decide ((i : Int) ≤ (jo : Int)) = false := decide_eq_false (by omega)
                  go_big_quiet (first | (go_at_call 87; refine Calls.quiet_of_same (less32 _ _ _)))
                  go_wp2_with fail
                  have HST : Hz (jo < i ∨ (fun x => Sort.ltInt x p) dk[i]! = false) := hide (.inl (by omega))
                  have HA1 : Hz (SoAt w (wr.drewN nq) blk off dk) := hide ((unhide HA).drewN nq)
                  clear hc hf HA HG hij' hij
                  generalize wr.drewN nq = W1 at *
                  clear nq
                  go_loopw [11] (fun vj wr => ∃ j2 : Nat, vj = .int .i64 j2 ∧ i ≤ j2 + 1 ∧ j2 ≤ jo ∧ Hz (PartI (fun x => Sort.ltInt x p) p a b i j2 d dk ∧ SoAt w wr blk off dk ∧ (j2 < i ∨ (fun x => Sort.ltInt x p) dk[i]! = false))) (fun vj _ => (intOf vj).toNat)
                  case atStart => exact ⟨jo, rfl, by omega, Nat.le_refl _, hide ⟨unhide HP, unhide HA1, unhide HST⟩⟩
                  case round =>
                    clear HP HA1 HST
                    obtain ⟨j2, rfl, hij2, hjb2, HI⟩ := hrel
                    have HP := hide (unhide HI).1
                    have HA := hide (unhide HI).2.1
                    have HST := hide (unhide HI).2.2
                    clear HI
                    obtain ⟨G, hG, hc, hf⟩ := (unhide HA).cells N (unhide HZ)
                    have HG := hide hG
                    clear hG
                    go_wp2_with fail
                    by_cases hij : i ≤ j2
                    · have hij' : (i : Int) ≤ (j2 : Int) := by omega
                      cases hl : Sort.ltInt (G j2) (G a) with
                      | false =>
                        go_big_quiet (first | (go_at_call 87; refine Calls.quiet_of_same (less32 _ _ _)))
                        go_wp2_with fail
                        go_roundw
                        case rel => exact ⟨j2 - 1, by congr 1; omega, by omega, by omega, hide ⟨(unhide HP).down hij (by rw [← unhide HG]; have hp1 := (unhide HP).at_; rw [← unhide HG] at hp1; rw [← hp1]; exact hl), (unhide HA).drewN _, by rcases unhide HST with h | h; exact .inl (by omega); exact .inr h⟩⟩
                        case measure => simp [intOf]; omega
                      | true =>
                        go_big_quiet (first | (go_at_call 87; refine Calls.quiet_of_same (less32 _ _ _)))
                        go_wp2_with fail
                        have hF1 : (fun x => Sort.ltInt x p) dk[i]! = false := by rcases unhide HST with h | h; omega; exact h
                        have hF2 : (fun x => Sort.ltInt x p) dk[j2]! = true := by rw [← unhide HG]; have hp1 := (unhide HP).at_; rw [← unhide HG] at hp1; rw [← hp1]; exact hl
                        obtain ⟨hlt, hP2⟩ := (unhide HP).swap (by have := unhide HZ; omega) hij hF1 hF2
                        have HP2 := hide hP2
                        have HA1 : Hz (SoAt w (wr.drewN nq) blk off dk) := hide ((unhide HA).drewN nq)
                        clear hP2 hF1 hF2 hl hc hf HA HG HP HST
                        generalize wr.drewN nq = W2 at *
                        clear nq
                        have hnot : ¬ (j2 : Int) < (i : Int) := by omega
                        obtain ⟨G, hG, hc, hf⟩ := (unhide HA1).cells N (unhide HZ)
                        have hm1 := mid_cell hc (i := i) (j := j2) (by omega) (by omega)
                        have hm2 := mid_frozen (G := G) hf (i := i) (j := j2) (by omega)
                        have hA2 := (unhide HA1).drew.swap (i := i) (j := j2) (by have := unhide HZ; omega) (by have := unhide HZ; omega)
                        rw [← hG, ← hG] at hA2
                        have HA2 := hide hA2
                        have HZ2 := hide (show (Sort.swp dk i j2).size = N by rw [size_swp']; exact unhide HZ)
                        clear hG hA2 HA1
                        go_wp2_with fail
                        go_region
                        all_goals go_wp2_with fail
                        clear hm1 hm2 hc hf
                        go_roundw
                        case rel => exact ⟨i + 1, j2 - 1, Sort.swp dk i j2, by go_num, by congr 1; omega, by omega, by omega, by omega, hide ⟨unhide HP2, unhide HA2, unhide HZ2⟩⟩
                        case measure => simp [intOf]; omega
                    · have hij' : decide ((i : Int) ≤ (j2 : Int)) = false := decide_eq_false (by omega)
                      go_big_quiet (first | (go_at_call 87; refine Calls.quiet_of_same (less32 _ _ _)))
                      go_wp2_with fail
                      have HA1 : Hz (SoAt w (wr.drewN nq) blk off dk) := hide ((unhide HA).drewN nq)
                      clear hc hf HA HG HST hij'
                      generalize wr.drewN nq = W2 at *
                      clear nq
                      have hyes : (j2 : Int) < (i : Int) := by omega
                      obtain ⟨G, hG, hc, hf⟩ := (unhide HA1).cells N (unhide HZ)
                      have hm1 := mid_cell hc (i := j2) (j := a) (by omega) (by omega)
                      have hm2 := mid_frozen (G := G) hf (i := j2) (j := a) (by omega)
                      have hA2 := (unhide HA1).drew.swap (i := j2) (j := a) (by have := unhide HZ; omega) (by have := unhide HZ; omega)
                      rw [← hG, ← hG] at hA2
                      have HA2 := hide hA2
                      clear hG hA2 HA1
                      go_wp2_with fail
                      go_region
                      all_goals go_wp2_with fail
                      go_ret2
                      exact ⟨j2, false, Sort.swp dk j2 a, rfl, (unhide HP).done (by have := unhide HZ; omega) (by omega), unhide HA2⟩
        · have hij' : decide ((i : Int) ≤ (j2 : Int)) = false := decide_eq_false (by omega)
          go_big_quiet (first | (go_at_call 87; refine Calls.quiet_of_same (less32 _ _ _)))
          go_wp2_with fail
          have HA1 : Hz (SoAt w (wr.drewN nq) blk off dk) := hide ((unhide HA).drewN nq)
          clear hc hf HA HG HST hij'
          generalize wr.drewN nq = W2 at *
          clear nq
          have hyes : (j2 : Int) < (i : Int) := by omega
          obtain ⟨G, hG, hc, hf⟩ := (unhide HA1).cells N (unhide HZ)
          have hm1 := mid_cell hc (i := j2) (j := a) (by omega) (by omega)
          have hm2 := mid_frozen (G := G) hf (i := j2) (j := a) (by omega)
          have hA2 := (unhide HA1).drew.swap (i := j2) (j := a) (by have := unhide HZ; omega) (by have := unhide HZ; omega)
          rw [← hG, ← hG] at hA2
          have HA2 := hide hA2
          clear hG hA2 HA1
          go_wp2_with fail
          go_region
          all_goals go_wp2_with fail
          go_ret2
          exact ⟨j2, true, Sort.swp dk j2 a, rfl, (unhide HP).done (by have := unhide HZ; omega) (by omega), unhide HA2⟩
end Go.Proofs.Ytemmflhofhngbaa
/- partialInsertionSortOrdered at runes. -/
namespace Go.Proofs.Ytemmflhofhngbaa
open Go.RowKit Go.Shelf
set_option linter.unusedVariables false
theorem ss_go {d : Array Int} {b i : Nat} (h : i < b) (hl : Sort.ltInt d[i]! d[i - 1]! = false) : Sort.scanSorted Sort.ltInt d b i = Sort.scanSorted Sort.ltInt d b (i + 1) := by
  rw [Sort.scanSorted, if_pos (by rw [hl]; simpa using h)]
theorem ss_stop {d : Array Int} {b i : Nat} (h : ¬ i < b ∨ Sort.ltInt d[i]! d[i - 1]! = true) : Sort.scanSorted Sort.ltInt d b i = i := by
  rw [Sort.scanSorted, if_neg (by
    intro e
    rcases Bool.and_eq_true_iff.1 e with ⟨e1, e2⟩
    have := of_decide_eq_true e1
    rcases h with h | h
    · omega
    · rw [h] at e2; exact absurd e2 (by decide))]
theorem dn_go {d : Array Int} {j : Nat} (h : 1 ≤ j) (hl : Sort.ltInt d[j]! d[j - 1]! = true) : Sort.shiftDown Sort.ltInt j d = Sort.shiftDown Sort.ltInt (j - 1) (Sort.swp d j (j - 1)) := by
  cases j with
  | zero => omega
  | succ k =>
    rw [Nat.add_sub_cancel] at hl ⊢
    show (if _ then _ else _) = _
    rw [if_neg (by rw [hl]; decide)]
theorem dn_stop {d : Array Int} {j : Nat} (h : ¬ 1 ≤ j ∨ Sort.ltInt d[j]! d[j - 1]! = false) : Sort.shiftDown Sort.ltInt j d = d := by
  cases j with
  | zero => rfl
  | succ k =>
    rw [Nat.add_sub_cancel] at h
    show (if _ then _ else _) = _
    rw [if_pos (by
      rcases h with h | h
      · omega
      · rw [h]; decide)]
theorem su_go {d : Array Int} {b j : Nat} (h : j < b) (hl : Sort.ltInt d[j]! d[j - 1]! = true) : Sort.shiftUp Sort.ltInt b j d = Sort.shiftUp Sort.ltInt b (j + 1) (Sort.swp d j (j - 1)) := by
  rw [Sort.shiftUp, if_pos h, if_neg (by rw [hl]; decide)]
theorem su_stop {d : Array Int} {b j : Nat} (h : ¬ j < b ∨ Sort.ltInt d[j]! d[j - 1]! = false) : Sort.shiftUp Sort.ltInt b j d = d := by
  rw [Sort.shiftUp]
  by_cases hb : j < b
  · rw [if_pos hb, if_pos (by
      rcases h with h | h
      · omega
      · rw [h]; decide)]
  · rw [if_neg hb]
theorem pI_true {a b m i : Nat} {d : Array Int} (hk : Sort.scanSorted Sort.ltInt d b i = b) : Sort.partialIns Sort.ltInt a b (m + 1) i d = (d, true) := by
  rw [Sort.partialIns]
  simp only [hk, if_true]
theorem pI_false {a b m i k : Nat} {d : Array Int} (hk : Sort.scanSorted Sort.ltInt d b i = k) (h1 : k ≠ b) (h2 : b - a < 50) : Sort.partialIns Sort.ltInt a b (m + 1) i d = (d, false) := by
  rw [Sort.partialIns]
  simp only [hk, if_neg h1, if_pos h2]
def dnD (a k : Nat) (d : Array Int) : Array Int := if k - a ≥ 2 then Sort.shiftDown Sort.ltInt (k - 1) d else d
def upD (b k : Nat) (d : Array Int) : Array Int := if b - k ≥ 2 then Sort.shiftUp Sort.ltInt b (k + 1) d else d
theorem pI_next {a b m i k : Nat} {d : Array Int} (hk : Sort.scanSorted Sort.ltInt d b i = k) (h1 : k ≠ b) (h2 : ¬ b - a < 50) : Sort.partialIns Sort.ltInt a b (m + 1) i d = Sort.partialIns Sort.ltInt a b m k (upD b k (dnD a k (Sort.swp d k (k - 1)))) := by
  rw [Sort.partialIns]
  simp only [hk, if_neg h1, if_neg h2]
  rfl
set_option maxRecDepth 100000 in
set_option maxHeartbeats 16000000 in
theorem so_partial (blk off cap a b N : Nat) (d : Array Int) (hN : d.size = N) (hab : a < b) (hb : b ≤ N) (hsz : N ≤ 1000000) (w : World) (hH : Sort.Holds (Value.int .i32) w blk off d) :
    Calls Try.prog 86 #[.slice (some ⟨blk, off, none⟩) N cap, .int .i64 a, .int .i64 b] w fun e w' => e = .returned (.bool (Sort.partialInsertionSort Sort.ltInt d a b).2) ∧ SoAt w w' blk off (Sort.partialInsertionSort Sort.ltInt d a b).1 := by
  have HS := hide (SoAt.start hH)
  have HN := hide hN
  obtain ⟨R, hR⟩ : ∃ R, R = Sort.partialInsertionSort Sort.ltInt d a b := ⟨_, rfl⟩
  rw [← hR]
  have HR := hide (show Sort.partialIns Sort.ltInt a b 5 (a + 1) d = R by rw [hR]; rfl)
  clear hH hN hR
  go_enter Try.func86, Try.ntmps86
  go_wp2_with fail
  go_loopw [7, 8] (fun vi vs wr => ∃ (i s : Nat) (dk0 : Array Int), vi = .int .i64 i ∧ vs = .int .i64 s ∧ s ≤ 5 ∧ a < i ∧ i ≤ b ∧ Hz (dk0.size = N ∧ SoAt w wr blk off dk0 ∧ Sort.partialIns Sort.ltInt a b (5 - s) i dk0 = R)) (fun vi vs _ => 5 - (intOf vs).toNat)
  case atStart => exact ⟨a + 1, 0, d, by go_num, rfl, by omega, by omega, by omega, hide ⟨unhide HN, unhide HS, unhide HR⟩⟩
  case round =>
    clear HS HR
    obtain ⟨i, s, dk0, rfl, rfl, hs, hai, hib, HI⟩ := hrel
    have HZ := hide (unhide HI).1
    have HA := hide (unhide HI).2.1
    have HE := hide (unhide HI).2.2
    clear HI
    by_cases hs5 : s < 5
    · have hs5' : (s : Int) < 5 := by omega
      rw [show 5 - s = 4 - s + 1 by omega] at HE
      go_wp2_with fail
      go_loopw [7] (fun vi wr => ∃ (k : Nat), vi = .int .i64 k ∧ i ≤ k ∧ k ≤ b ∧ Hz (SoAt w wr blk off dk0 ∧ Sort.scanSorted Sort.ltInt dk0 b i = Sort.scanSorted Sort.ltInt dk0 b k)) (fun vi _ => b - (intOf vi).toNat)
      case atStart => exact ⟨i, rfl, Nat.le_refl _, hib, hide ⟨unhide HA, rfl⟩⟩
      case round =>
        clear HA
        obtain ⟨k, rfl, hik, hkb, HI⟩ := hrel
        have HA := hide (unhide HI).1
        have HK := hide (unhide HI).2
        clear HI
        obtain ⟨G, hG, hc, hf⟩ := (unhide HA).cells N (unhide HZ)
        have HG := hide hG
        clear hG
        go_wp2_with fail
        by_cases hlt : k < b
        · have hlt' : (k : Int) < (b : Int) := by omega
          cases hl : Sort.ltInt (G k) (G (k - 1)) with
          | false =>
            go_big_quiet (first | (go_at_call 87; refine Calls.quiet_of_same (less32 _ _ _)))
            go_wp2_with fail
            go_roundw
            case rel => exact ⟨k + 1, by go_num, by omega, by omega, hide ⟨(unhide HA).drewN _, by rw [unhide HK, ss_go hlt (by rw [← unhide HG, ← unhide HG]; exact hl)]⟩⟩
            case measure => simp [intOf]; omega
          | true =>
            have hne : ((k : Int) == (b : Int)) = false := beq_eq_false_iff_ne.2 (by omega)
            have HK2 : Hz (Sort.scanSorted Sort.ltInt dk0 b i = k) := hide (by rw [unhide HK, ss_stop (.inr (by rw [← unhide HG, ← unhide HG]; exact hl))])
            by_cases h50 : b < a + 50
            · have h50' : (b : Int) - (a : Int) < 50 := by omega
              go_big_quiet (first | (go_at_call 87; refine Calls.quiet_of_same (less32 _ _ _)))
              go_wp2_with fail
              go_ret
              exact ⟨by rw [← unhide HE, pI_false (unhide HK2) (by omega) (by omega)]; rfl, by rw [← unhide HE, pI_false (unhide HK2) (by omega) (by omega)]; exact (unhide HA).drewN _⟩
            · have h50' : ¬ (b : Int) - (a : Int) < 50 := by omega
              go_big_quiet (first | (go_at_call 87; refine Calls.quiet_of_same (less32 _ _ _)))
              go_wp2_with fail
              have HA1 : Hz (SoAt w (wr.drewN nq) blk off dk0) := hide ((unhide HA).drewN nq)
              clear HK hl hc hf HA HG
              generalize wr.drewN nq = W1 at *
              clear nq
              rw [pI_next (unhide HK2) (by omega) (by omega)] at HE
              obtain ⟨G, hG, hc, hf⟩ := (unhide HA1).cells N (unhide HZ)
              have hm1 := mid_cell hc (i := k) (j := k - 1) (by omega) (by omega)
              have hm2 := mid_frozen (G := G) hf (i := k) (j := k - 1) (by omega)
              have hA2 := (unhide HA1).drew.swap (i := k) (j := k - 1) (by have := unhide HZ; omega) (by have := unhide HZ; omega)
              rw [← hG, ← hG] at hA2
              have HA2 := hide hA2
              clear hG hA2
              clear HA1
              have HZ3 := hide (show (Sort.swp dk0 k (k - 1)).size = N by rw [size_swp']; exact unhide HZ)
              by_cases h2 : a + 2 ≤ k
              · have h2' : (2 : Int) ≤ (k : Int) - (a : Int) := by omega
                by_cases h3 : k + 2 ≤ b
                · have h3' : (2 : Int) ≤ (b : Int) - (k : Int) := by omega
                  go_region
                  all_goals go_wp2_with fail
                  clear HZ hm1 hm2 hc hf
                  have HZ := HZ3
                  have HA := HA2
                  clear HZ3 HA2
                  go_loopw [9] (fun vj wr => ∃ (j : Nat) (dn : Array Int), vj = .int .i64 j ∧ j ≤ k - 1 ∧ Hz (dn.size = N ∧ SoAt w wr blk off dn ∧ Sort.shiftDown Sort.ltInt j dn = dnD a k (Sort.swp dk0 k (k - 1)))) (fun vj _ => (intOf vj).toNat)
                  case atStart => exact ⟨k - 1, Sort.swp dk0 k (k - 1), by congr 1; omega, Nat.le_refl _, hide ⟨unhide HZ, unhide HA, by unfold dnD; rw [if_pos (by omega)]⟩⟩
                  case round =>
                    clear HZ HA
                    obtain ⟨j, dn, rfl, hj1, HI⟩ := hrel
                    have HZ := hide (unhide HI).1
                    have HA := hide (unhide HI).2.1
                    have HU := hide (unhide HI).2.2
                    clear HI
                    obtain ⟨G, hG, hc, hf⟩ := (unhide HA).cells N (unhide HZ)
                    have HG := hide hG
                    clear hG
                    by_cases hjb : 1 ≤ j
                    · have hjb' : (1 : Int) ≤ (j : Int) := by omega
                      cases hl : Sort.ltInt (G j) (G (j - 1)) with
                      | true =>
                        go_wp2_with fail
                        go_big_quiet (first | (go_at_call 87; refine Calls.quiet_of_same (less32 _ _ _)))
                        go_wp2_with fail
                        have HA1 : Hz (SoAt w (wr.drewN nq) blk off dn) := hide ((unhide HA).drewN nq)
                        have HL := hide (show Sort.ltInt dn[j]! dn[j - 1]! = true by rw [← unhide HG, ← unhide HG]; exact hl)
                        clear hc hf HA HG hl
                        generalize wr.drewN nq = W1 at *
                        clear nq
                        obtain ⟨G, hG, hc, hf⟩ := (unhide HA1).cells N (unhide HZ)
                        have hm1 := mid_cell hc (i := j) (j := j - 1) (by omega) (by omega)
                        have hm2 := mid_frozen (G := G) hf (i := j) (j := j - 1) (by omega)
                        have hA2 := (unhide HA1).drew.swap (i := j) (j := j - 1) (by have := unhide HZ; omega) (by have := unhide HZ; omega)
                        rw [← hG, ← hG] at hA2
                        have HA2 := hide hA2
                        clear hG hA2
                        clear HA1
                        go_region
                        all_goals go_wp2_with fail
                        go_roundw
                        case rel => exact ⟨j - 1, Sort.swp dn j (j - 1), by congr 1; omega, by omega, hide ⟨by rw [size_swp']; exact unhide HZ, unhide HA2, by rw [← dn_go hjb (unhide HL)]; exact unhide HU⟩⟩
                        case measure => simp [intOf]; omega
                      | false =>
                        go_wp2_with fail
                        go_big_quiet (first | (go_at_call 87; refine Calls.quiet_of_same (less32 _ _ _)))
                        go_wp2_with fail
                        have HD : Hz (dnD a k (Sort.swp dk0 k (k - 1)) = dn) := hide (by rw [← unhide HU, dn_stop (.inr (by rw [← unhide HG, ← unhide HG]; exact hl))])
                        have HA1 : Hz (SoAt w (wr.drewN nq) blk off dn) := hide ((unhide HA).drewN nq)
                        clear HA
                        have HA := HA1
                        clear hc hf HG hl HU HA1
                        generalize wr.drewN nq = W3 at *
                        clear nq
                        go_loopw [10] (fun vj wr => ∃ (j : Nat) (du : Array Int), vj = .int .i64 j ∧ k + 1 ≤ j ∧ j ≤ b ∧ Hz (du.size = N ∧ SoAt w wr blk off du ∧ Sort.shiftUp Sort.ltInt b j du = upD b k (dnD a k (Sort.swp dk0 k (k - 1))))) (fun vj _ => b - (intOf vj).toNat)
                        case atStart => exact ⟨k + 1, dn, by go_num, by omega, by omega, hide ⟨unhide HZ, unhide HA, by rw [unhide HD]; unfold upD; rw [if_pos (by omega)]⟩⟩
                        case round =>
                          clear HZ HA HD
                          obtain ⟨j, du, rfl, hj1, hj2, HI⟩ := hrel
                          have HZ := hide (unhide HI).1
                          have HA := hide (unhide HI).2.1
                          have HU := hide (unhide HI).2.2
                          clear HI
                          obtain ⟨G, hG, hc, hf⟩ := (unhide HA).cells N (unhide HZ)
                          have HG := hide hG
                          clear hG
                          by_cases hjb : j < b
                          · have hjb' : (j : Int) < (b : Int) := by omega
                            cases hl : Sort.ltInt (G j) (G (j - 1)) with
                            | true =>
                              go_wp2_with fail
                              go_big_quiet (first | (go_at_call 87; refine Calls.quiet_of_same (less32 _ _ _)))
                              go_wp2_with fail
                              have HA1 : Hz (SoAt w (wr.drewN nq) blk off du) := hide ((unhide HA).drewN nq)
                              have HL := hide (show Sort.ltInt du[j]! du[j - 1]! = true by rw [← unhide HG, ← unhide HG]; exact hl)
                              clear hc hf HA HG hl
                              generalize wr.drewN nq = W1 at *
                              clear nq
                              obtain ⟨G, hG, hc, hf⟩ := (unhide HA1).cells N (unhide HZ)
                              have hm1 := mid_cell hc (i := j) (j := j - 1) (by omega) (by omega)
                              have hm2 := mid_frozen (G := G) hf (i := j) (j := j - 1) (by omega)
                              have hA2 := (unhide HA1).drew.swap (i := j) (j := j - 1) (by have := unhide HZ; omega) (by have := unhide HZ; omega)
                              rw [← hG, ← hG] at hA2
                              have HA2 := hide hA2
                              clear hG hA2
                              clear HA1
                              go_region
                              all_goals go_wp2_with fail
                              go_roundw
                              case rel => exact ⟨j + 1, Sort.swp du j (j - 1), by go_num, by omega, by omega, hide ⟨by rw [size_swp']; exact unhide HZ, unhide HA2, by rw [← su_go hjb (unhide HL)]; exact unhide HU⟩⟩
                              case measure => simp [intOf]; omega
                            | false =>
                              go_wp2_with fail
                              go_big_quiet (first | (go_at_call 87; refine Calls.quiet_of_same (less32 _ _ _)))
                              go_wp2_with fail
                              have HD : Hz (upD b k (dnD a k (Sort.swp dk0 k (k - 1))) = du) := hide (by rw [← unhide HU, su_stop (.inr (by rw [← unhide HG, ← unhide HG]; exact hl))])
                              have HA1 : Hz (SoAt w (wr.drewN nq) blk off du) := hide ((unhide HA).drewN nq)
                              clear HA
                              have HA := HA1
                              clear hc hf HG hl HU HA1
                              go_roundw
                              case rel => exact ⟨k, s + 1, du, rfl, by go_num, by omega, by omega, by omega, hide ⟨unhide HZ, unhide HA, by rw [show 5 - (s + 1) = 4 - s by omega, ← unhide HD]; exact unhide HE⟩⟩
                              case measure => simp [intOf]; omega
                          · have hjb' : ¬ (j : Int) < (b : Int) := by omega
                            go_wp2_with fail
                            have HD : Hz (upD b k (dnD a k (Sort.swp dk0 k (k - 1))) = du) := hide (by rw [← unhide HU, su_stop (.inl hjb)])
                            clear hc hf HG HU
                            go_roundw
                            case rel => exact ⟨k, s + 1, du, rfl, by go_num, by omega, by omega, by omega, hide ⟨unhide HZ, unhide HA, by rw [show 5 - (s + 1) = 4 - s by omega, ← unhide HD]; exact unhide HE⟩⟩
                            case measure => simp [intOf]; omega
                    · have hjb' : ¬ (1 : Int) ≤ (j : Int) := by omega
                      go_wp2_with fail
                      have HD : Hz (dnD a k (Sort.swp dk0 k (k - 1)) = dn) := hide (by rw [← unhide HU, dn_stop (.inl hjb)])
                      clear hc hf HG HU
                      go_loopw [10] (fun vj wr => ∃ (j : Nat) (du : Array Int), vj = .int .i64 j ∧ k + 1 ≤ j ∧ j ≤ b ∧ Hz (du.size = N ∧ SoAt w wr blk off du ∧ Sort.shiftUp Sort.ltInt b j du = upD b k (dnD a k (Sort.swp dk0 k (k - 1))))) (fun vj _ => b - (intOf vj).toNat)
                      case atStart => exact ⟨k + 1, dn, by go_num, by omega, by omega, hide ⟨unhide HZ, unhide HA, by rw [unhide HD]; unfold upD; rw [if_pos (by omega)]⟩⟩
                      case round =>
                        clear HZ HA HD
                        obtain ⟨j, du, rfl, hj1, hj2, HI⟩ := hrel
                        have HZ := hide (unhide HI).1
                        have HA := hide (unhide HI).2.1
                        have HU := hide (unhide HI).2.2
                        clear HI
                        obtain ⟨G, hG, hc, hf⟩ := (unhide HA).cells N (unhide HZ)
                        have HG := hide hG
                        clear hG
                        by_cases hjb : j < b
                        · have hjb' : (j : Int) < (b : Int) := by omega
                          cases hl : Sort.ltInt (G j) (G (j - 1)) with
                          | true =>
                            go_wp2_with fail
                            go_big_quiet (first | (go_at_call 87; refine Calls.quiet_of_same (less32 _ _ _)))
                            go_wp2_with fail
                            have HA1 : Hz (SoAt w (wr.drewN nq) blk off du) := hide ((unhide HA).drewN nq)
                            have HL := hide (show Sort.ltInt du[j]! du[j - 1]! = true by rw [← unhide HG, ← unhide HG]; exact hl)
                            clear hc hf HA HG hl
                            generalize wr.drewN nq = W1 at *
                            clear nq
                            obtain ⟨G, hG, hc, hf⟩ := (unhide HA1).cells N (unhide HZ)
                            have hm1 := mid_cell hc (i := j) (j := j - 1) (by omega) (by omega)
                            have hm2 := mid_frozen (G := G) hf (i := j) (j := j - 1) (by omega)
                            have hA2 := (unhide HA1).drew.swap (i := j) (j := j - 1) (by have := unhide HZ; omega) (by have := unhide HZ; omega)
                            rw [← hG, ← hG] at hA2
                            have HA2 := hide hA2
                            clear hG hA2
                            clear HA1
                            go_region
                            all_goals go_wp2_with fail
                            go_roundw
                            case rel => exact ⟨j + 1, Sort.swp du j (j - 1), by go_num, by omega, by omega, hide ⟨by rw [size_swp']; exact unhide HZ, unhide HA2, by rw [← su_go hjb (unhide HL)]; exact unhide HU⟩⟩
                            case measure => simp [intOf]; omega
                          | false =>
                            go_wp2_with fail
                            go_big_quiet (first | (go_at_call 87; refine Calls.quiet_of_same (less32 _ _ _)))
                            go_wp2_with fail
                            have HD : Hz (upD b k (dnD a k (Sort.swp dk0 k (k - 1))) = du) := hide (by rw [← unhide HU, su_stop (.inr (by rw [← unhide HG, ← unhide HG]; exact hl))])
                            have HA1 : Hz (SoAt w (wr.drewN nq) blk off du) := hide ((unhide HA).drewN nq)
                            clear HA
                            have HA := HA1
                            clear hc hf HG hl HU HA1
                            go_roundw
                            case rel => exact ⟨k, s + 1, du, rfl, by go_num, by omega, by omega, by omega, hide ⟨unhide HZ, unhide HA, by rw [show 5 - (s + 1) = 4 - s by omega, ← unhide HD]; exact unhide HE⟩⟩
                            case measure => simp [intOf]; omega
                        · have hjb' : ¬ (j : Int) < (b : Int) := by omega
                          go_wp2_with fail
                          have HD : Hz (upD b k (dnD a k (Sort.swp dk0 k (k - 1))) = du) := hide (by rw [← unhide HU, su_stop (.inl hjb)])
                          clear hc hf HG HU
                          go_roundw
                          case rel => exact ⟨k, s + 1, du, rfl, by go_num, by omega, by omega, by omega, hide ⟨unhide HZ, unhide HA, by rw [show 5 - (s + 1) = 4 - s by omega, ← unhide HD]; exact unhide HE⟩⟩
                          case measure => simp [intOf]; omega
                · have h3' : ¬ (2 : Int) ≤ (b : Int) - (k : Int) := by omega
                  go_region
                  all_goals go_wp2_with fail
                  clear HZ hm1 hm2 hc hf
                  have HZ := HZ3
                  have HA := HA2
                  clear HZ3 HA2
                  go_loopw [9] (fun vj wr => ∃ (j : Nat) (dn : Array Int), vj = .int .i64 j ∧ j ≤ k - 1 ∧ Hz (dn.size = N ∧ SoAt w wr blk off dn ∧ Sort.shiftDown Sort.ltInt j dn = dnD a k (Sort.swp dk0 k (k - 1)))) (fun vj _ => (intOf vj).toNat)
                  case atStart => exact ⟨k - 1, Sort.swp dk0 k (k - 1), by congr 1; omega, Nat.le_refl _, hide ⟨unhide HZ, unhide HA, by unfold dnD; rw [if_pos (by omega)]⟩⟩
                  case round =>
                    clear HZ HA
                    obtain ⟨j, dn, rfl, hj1, HI⟩ := hrel
                    have HZ := hide (unhide HI).1
                    have HA := hide (unhide HI).2.1
                    have HU := hide (unhide HI).2.2
                    clear HI
                    obtain ⟨G, hG, hc, hf⟩ := (unhide HA).cells N (unhide HZ)
                    have HG := hide hG
                    clear hG
                    by_cases hjb : 1 ≤ j
                    · have hjb' : (1 : Int) ≤ (j : Int) := by omega
                      cases hl : Sort.ltInt (G j) (G (j - 1)) with
                      | true =>
                        go_wp2_with fail
                        go_big_quiet (first | (go_at_call 87; refine Calls.quiet_of_same (less32 _ _ _)))
                        go_wp2_with fail
                        have HA1 : Hz (SoAt w (wr.drewN nq) blk off dn) := hide ((unhide HA).drewN nq)
                        have HL := hide (show Sort.ltInt dn[j]! dn[j - 1]! = true by rw [← unhide HG, ← unhide HG]; exact hl)
                        clear hc hf HA HG hl
                        generalize wr.drewN nq = W1 at *
                        clear nq
                        obtain ⟨G, hG, hc, hf⟩ := (unhide HA1).cells N (unhide HZ)
                        have hm1 := mid_cell hc (i := j) (j := j - 1) (by omega) (by omega)
                        have hm2 := mid_frozen (G := G) hf (i := j) (j := j - 1) (by omega)
                        have hA2 := (unhide HA1).drew.swap (i := j) (j := j - 1) (by have := unhide HZ; omega) (by have := unhide HZ; omega)
                        rw [← hG, ← hG] at hA2
                        have HA2 := hide hA2
                        clear hG hA2
                        clear HA1
                        go_region
                        all_goals go_wp2_with fail
                        go_roundw
                        case rel => exact ⟨j - 1, Sort.swp dn j (j - 1), by congr 1; omega, by omega, hide ⟨by rw [size_swp']; exact unhide HZ, unhide HA2, by rw [← dn_go hjb (unhide HL)]; exact unhide HU⟩⟩
                        case measure => simp [intOf]; omega
                      | false =>
                        go_wp2_with fail
                        go_big_quiet (first | (go_at_call 87; refine Calls.quiet_of_same (less32 _ _ _)))
                        go_wp2_with fail
                        have HD : Hz (dnD a k (Sort.swp dk0 k (k - 1)) = dn) := hide (by rw [← unhide HU, dn_stop (.inr (by rw [← unhide HG, ← unhide HG]; exact hl))])
                        have HA1 : Hz (SoAt w (wr.drewN nq) blk off dn) := hide ((unhide HA).drewN nq)
                        clear HA
                        have HA := HA1
                        clear hc hf HG hl HU HA1
                        generalize wr.drewN nq = W3 at *
                        clear nq
                        have HD2 : Hz (upD b k (dnD a k (Sort.swp dk0 k (k - 1))) = dn) := hide (by rw [unhide HD]; unfold upD; rw [if_neg (by omega)])
                        clear HD
                        have HD := HD2
                        clear HD2
                        go_roundw
                        case rel => exact ⟨k, s + 1, dn, rfl, by go_num, by omega, by omega, by omega, hide ⟨unhide HZ, unhide HA, by rw [show 5 - (s + 1) = 4 - s by omega, ← unhide HD]; exact unhide HE⟩⟩
                        case measure => simp [intOf]; omega
                    · have hjb' : ¬ (1 : Int) ≤ (j : Int) := by omega
                      go_wp2_with fail
                      have HD : Hz (dnD a k (Sort.swp dk0 k (k - 1)) = dn) := hide (by rw [← unhide HU, dn_stop (.inl hjb)])
                      clear hc hf HG HU
                      have HD2 : Hz (upD b k (dnD a k (Sort.swp dk0 k (k - 1))) = dn) := hide (by rw [unhide HD]; unfold upD; rw [if_neg (by omega)])
                      clear HD
                      have HD := HD2
                      clear HD2
                      go_roundw
                      case rel => exact ⟨k, s + 1, dn, rfl, by go_num, by omega, by omega, by omega, hide ⟨unhide HZ, unhide HA, by rw [show 5 - (s + 1) = 4 - s by omega, ← unhide HD]; exact unhide HE⟩⟩
                      case measure => simp [intOf]; omega
              · have h2' : ¬ (2 : Int) ≤ (k : Int) - (a : Int) := by omega
                by_cases h3 : k + 2 ≤ b
                · have h3' : (2 : Int) ≤ (b : Int) - (k : Int) := by omega
                  go_region
                  all_goals go_wp2_with fail
                  clear HZ hm1 hm2 hc hf
                  have HZ := HZ3
                  have HA := HA2
                  clear HZ3 HA2
                  have HD : Hz (dnD a k (Sort.swp dk0 k (k - 1)) = Sort.swp dk0 k (k - 1)) := hide (by unfold dnD; rw [if_neg (by omega)])
                  go_loopw [10] (fun vj wr => ∃ (j : Nat) (du : Array Int), vj = .int .i64 j ∧ k + 1 ≤ j ∧ j ≤ b ∧ Hz (du.size = N ∧ SoAt w wr blk off du ∧ Sort.shiftUp Sort.ltInt b j du = upD b k (dnD a k (Sort.swp dk0 k (k - 1))))) (fun vj _ => b - (intOf vj).toNat)
                  case atStart => exact ⟨k + 1, (Sort.swp dk0 k (k - 1)), by go_num, by omega, by omega, hide ⟨unhide HZ, unhide HA, by rw [unhide HD]; unfold upD; rw [if_pos (by omega)]⟩⟩
                  case round =>
                    clear HZ HA HD
                    obtain ⟨j, du, rfl, hj1, hj2, HI⟩ := hrel
                    have HZ := hide (unhide HI).1
                    have HA := hide (unhide HI).2.1
                    have HU := hide (unhide HI).2.2
                    clear HI
                    obtain ⟨G, hG, hc, hf⟩ := (unhide HA).cells N (unhide HZ)
                    have HG := hide hG
                    clear hG
                    by_cases hjb : j < b
                    · have hjb' : (j : Int) < (b : Int) := by omega
                      cases hl : Sort.ltInt (G j) (G (j - 1)) with
                      | true =>
                        go_wp2_with fail
                        go_big_quiet (first | (go_at_call 87; refine Calls.quiet_of_same (less32 _ _ _)))
                        go_wp2_with fail
                        have HA1 : Hz (SoAt w (wr.drewN nq) blk off du) := hide ((unhide HA).drewN nq)
                        have HL := hide (show Sort.ltInt du[j]! du[j - 1]! = true by rw [← unhide HG, ← unhide HG]; exact hl)
                        clear hc hf HA HG hl
                        generalize wr.drewN nq = W1 at *
                        clear nq
                        obtain ⟨G, hG, hc, hf⟩ := (unhide HA1).cells N (unhide HZ)
                        have hm1 := mid_cell hc (i := j) (j := j - 1) (by omega) (by omega)
                        have hm2 := mid_frozen (G := G) hf (i := j) (j := j - 1) (by omega)
                        have hA2 := (unhide HA1).drew.swap (i := j) (j := j - 1) (by have := unhide HZ; omega) (by have := unhide HZ; omega)
                        rw [← hG, ← hG] at hA2
                        have HA2 := hide hA2
                        clear hG hA2
                        clear HA1
                        go_region
                        all_goals go_wp2_with fail
                        go_roundw
                        case rel => exact ⟨j + 1, Sort.swp du j (j - 1), by go_num, by omega, by omega, hide ⟨by rw [size_swp']; exact unhide HZ, unhide HA2, by rw [← su_go hjb (unhide HL)]; exact unhide HU⟩⟩
                        case measure => simp [intOf]; omega
                      | false =>
                        go_wp2_with fail
                        go_big_quiet (first | (go_at_call 87; refine Calls.quiet_of_same (less32 _ _ _)))
                        go_wp2_with fail
                        have HD : Hz (upD b k (dnD a k (Sort.swp dk0 k (k - 1))) = du) := hide (by rw [← unhide HU, su_stop (.inr (by rw [← unhide HG, ← unhide HG]; exact hl))])
                        have HA1 : Hz (SoAt w (wr.drewN nq) blk off du) := hide ((unhide HA).drewN nq)
                        clear HA
                        have HA := HA1
                        clear hc hf HG hl HU HA1
                        go_roundw
                        case rel => exact ⟨k, s + 1, du, rfl, by go_num, by omega, by omega, by omega, hide ⟨unhide HZ, unhide HA, by rw [show 5 - (s + 1) = 4 - s by omega, ← unhide HD]; exact unhide HE⟩⟩
                        case measure => simp [intOf]; omega
                    · have hjb' : ¬ (j : Int) < (b : Int) := by omega
                      go_wp2_with fail
                      have HD : Hz (upD b k (dnD a k (Sort.swp dk0 k (k - 1))) = du) := hide (by rw [← unhide HU, su_stop (.inl hjb)])
                      clear hc hf HG HU
                      go_roundw
                      case rel => exact ⟨k, s + 1, du, rfl, by go_num, by omega, by omega, by omega, hide ⟨unhide HZ, unhide HA, by rw [show 5 - (s + 1) = 4 - s by omega, ← unhide HD]; exact unhide HE⟩⟩
                      case measure => simp [intOf]; omega
                · have h3' : ¬ (2 : Int) ≤ (b : Int) - (k : Int) := by omega
                  exfalso
                  omega
        · have hlt' : decide ((k : Int) < (b : Int)) = false := decide_eq_false (by omega)
          obtain rfl : k = b := by omega
          have hne : ((k : Int) == (k : Int)) = true := by simp
          have HK2 : Hz (Sort.scanSorted Sort.ltInt dk0 k i = k) := hide (by rw [unhide HK, ss_stop (.inl hlt)])
          go_big_quiet (first | (go_at_call 87; refine Calls.quiet_of_same (less32 _ _ _)))
          go_wp2_with fail
          go_ret
          exact ⟨by rw [← unhide HE, pI_true (unhide HK2)]; rfl, by rw [← unhide HE, pI_true (unhide HK2)]; exact (unhide HA).drewN _⟩
    · have hs5' : ¬ (s : Int) < 5 := by omega
      obtain rfl : s = 5 := by omega
      go_wp2_with fail
      go_ret
      exact ⟨by rw [← unhide HE]; rfl, by rw [← unhide HE]; exact unhide HA⟩
end Go.Proofs.Ytemmflhofhngbaa
