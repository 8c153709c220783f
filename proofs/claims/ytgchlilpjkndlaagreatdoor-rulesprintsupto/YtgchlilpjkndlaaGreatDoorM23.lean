/- Texts of this claim, one behind the other. -/
import Derived.Test.YtgchlilpjkndlaaGreatDoorRmB
import Derived.Test.YtgchlilpjkndlaaGreatDoorRmC
import Derived.Lib.QuietBelow
import Derived.BigQuiet
import Derived.Test.YtgchlilpjkndlaaGreatDoorM22
/- Do all marks stand in a table that Whole made (guisekeep6.Still). -/
namespace Go.Proofs.YtgchlilpjkndlaaGreatDoor
open Go.RowKit Go.Shelf
set_option linter.unusedVariables false
theorem mkN_get (cs : List Value) : ∀ (m j r : Nat), j < m → r < cs.length → (mkN cs m)[j * cs.length + r]? = cs[r]?
  | 0, j, r, hj, _ => absurd hj (Nat.not_lt_zero j)
  | m + 1, j, r, hj, hr => by
    rw [mkN]
    rcases Nat.lt_or_ge j m with h | h
    · have h2 : j * cs.length + r < m * cs.length := by
        have := Nat.mul_le_mul_right cs.length (show j + 1 ≤ m by omega)
        rw [Nat.succ_mul] at this
        omega
      rw [List.getElem?_append_left (by rw [mkN_length]; exact h2)]
      exact mkN_get cs m j r h hr
    · obtain rfl : j = m := by omega
      rw [List.getElem?_append_right (by rw [mkN_length]; omega), mkN_length, Nat.add_sub_cancel_left]
theorem own_mark {w : World} {lo E sz n g : Nat} {xs cs : List Value} (h : w.ownsRow lo E sz (.slice (some ⟨g, 0, none⟩) (n + 8) (n + 8)) (n + 8) (xs ++ mkN cs 8)) (hl : xs.length = n * cs.length) (k r : Nat) (hk : n ≤ k) (hk8 : k < n + 8) (u : Value) (hu : cs[r]? = some u) : w.cell? ⟨g, k * cs.length + r, none⟩ = some u := by
  refine own_cell h _ u ?_
  have h1 : n * cs.length ≤ k * cs.length := Nat.mul_le_mul_right _ hk
  rw [List.getElem?_append_right (by omega), hl]
  have hr := (List.getElem?_eq_some_iff.1 hu).1
  have := mkN_get cs 8 (k - n) r (by omega) hr
  rw [Nat.sub_mul] at this
  rw [show k * cs.length + r - n * cs.length = k * cs.length - n * cs.length + r by omega, this, hu]
set_option maxRecDepth 100000 in
set_option maxHeartbeats 8000000 in
theorem keepStill_any (T : TV) (hO : TabOk T) (lo : Nat) (g : Nat → Nat) (vs : List Value) (W : World) (hA : WhAt W lo T g vs) (hR : EnvR W) :
    Calls Tryz.prog 16 #[.agg #[.slice (some ⟨g 0, 0, none⟩) T.sc.length (T.sc.length + 8), .slice (some ⟨g 1, 0, none⟩) T.co.length (T.co.length + 8), .slice (some ⟨g 2, 0, none⟩) T.ma.length (T.ma.length + 8), .slice (some ⟨g 3, 0, none⟩) T.pr.length (T.pr.length + 8), .slice (some ⟨g 4, 0, none⟩) T.fo.length (T.fo.length + 8), .slice (some ⟨g 5, 0, none⟩) T.lk.length (T.lk.length + 8), .slice (some ⟨g 6, 0, none⟩) T.dr.length (T.dr.length + 8), .slice (some ⟨g 7, 0, none⟩) T.al.length (T.al.length + 8)]] W fun e w' => e = .returned (.bool true) ∧ Below W.heap.size W w' := by
  have hmx : Tryz.prog.follows .mixedOrders = true := by kernel_rfl
  have hB0 : Below W.heap.size W (W.alloc (.cells #[.slice (some ⟨g 0, 0, none⟩) T.sc.length (T.sc.length + 8), .slice (some ⟨g 1, 0, none⟩) T.co.length (T.co.length + 8), .slice (some ⟨g 2, 0, none⟩) T.ma.length (T.ma.length + 8), .slice (some ⟨g 3, 0, none⟩) T.pr.length (T.pr.length + 8), .slice (some ⟨g 4, 0, none⟩) T.fo.length (T.fo.length + 8), .slice (some ⟨g 5, 0, none⟩) T.lk.length (T.lk.length + 8), .slice (some ⟨g 6, 0, none⟩) T.dr.length (T.dr.length + 8), .slice (some ⟨g 7, 0, none⟩) T.al.length (T.al.length + 8)] 33)) := (Below.refl _ W).alloc (Nat.le_refl _) _
  have hX := Blk.new W #[.slice (some ⟨g 0, 0, none⟩) T.sc.length (T.sc.length + 8), .slice (some ⟨g 1, 0, none⟩) T.co.length (T.co.length + 8), .slice (some ⟨g 2, 0, none⟩) T.ma.length (T.ma.length + 8), .slice (some ⟨g 3, 0, none⟩) T.pr.length (T.pr.length + 8), .slice (some ⟨g 4, 0, none⟩) T.fo.length (T.fo.length + 8), .slice (some ⟨g 5, 0, none⟩) T.lk.length (T.lk.length + 8), .slice (some ⟨g 6, 0, none⟩) T.dr.length (T.dr.length + 8), .slice (some ⟨g 7, 0, none⟩) T.al.length (T.al.length + 8)] 33
  have hbig := hR.big
  obtain ⟨w0, hwA⟩ : ∃ w0, w0 = W.alloc (.cells #[.slice (some ⟨g 0, 0, none⟩) T.sc.length (T.sc.length + 8), .slice (some ⟨g 1, 0, none⟩) T.co.length (T.co.length + 8), .slice (some ⟨g 2, 0, none⟩) T.ma.length (T.ma.length + 8), .slice (some ⟨g 3, 0, none⟩) T.pr.length (T.pr.length + 8), .slice (some ⟨g 4, 0, none⟩) T.fo.length (T.fo.length + 8), .slice (some ⟨g 5, 0, none⟩) T.lk.length (T.lk.length + 8), .slice (some ⟨g 6, 0, none⟩) T.dr.length (T.dr.length + 8), .slice (some ⟨g 7, 0, none⟩) T.al.length (T.al.length + 8)] 33) := ⟨_, rfl⟩
  have hZA : w0.heap.size = W.heap.size + 1 := by rw [hwA, World.size_alloc]
  rw [← hwA] at hB0 hX
  have HX0 : Hz (∀ w', Below w0.heap.size w0 w' → w'.cell? ⟨W.heap.size, 0, none⟩ = some (.slice (some ⟨g 0, 0, none⟩) T.sc.length (T.sc.length + 8))) := hide (fun w' hw => (hX.below hw (by omega)).cell 0)
  have HX1 : Hz (∀ w', Below w0.heap.size w0 w' → w'.cell? ⟨W.heap.size, 1, none⟩ = some (.slice (some ⟨g 1, 0, none⟩) T.co.length (T.co.length + 8))) := hide (fun w' hw => (hX.below hw (by omega)).cell 1)
  have HX2 : Hz (∀ w', Below w0.heap.size w0 w' → w'.cell? ⟨W.heap.size, 2, none⟩ = some (.slice (some ⟨g 2, 0, none⟩) T.ma.length (T.ma.length + 8))) := hide (fun w' hw => (hX.below hw (by omega)).cell 2)
  have HX3 : Hz (∀ w', Below w0.heap.size w0 w' → w'.cell? ⟨W.heap.size, 3, none⟩ = some (.slice (some ⟨g 3, 0, none⟩) T.pr.length (T.pr.length + 8))) := hide (fun w' hw => (hX.below hw (by omega)).cell 3)
  have HX4 : Hz (∀ w', Below w0.heap.size w0 w' → w'.cell? ⟨W.heap.size, 4, none⟩ = some (.slice (some ⟨g 4, 0, none⟩) T.fo.length (T.fo.length + 8))) := hide (fun w' hw => (hX.below hw (by omega)).cell 4)
  have HX5 : Hz (∀ w', Below w0.heap.size w0 w' → w'.cell? ⟨W.heap.size, 5, none⟩ = some (.slice (some ⟨g 5, 0, none⟩) T.lk.length (T.lk.length + 8))) := hide (fun w' hw => (hX.below hw (by omega)).cell 5)
  have HX6 : Hz (∀ w', Below w0.heap.size w0 w' → w'.cell? ⟨W.heap.size, 6, none⟩ = some (.slice (some ⟨g 6, 0, none⟩) T.dr.length (T.dr.length + 8))) := hide (fun w' hw => (hX.below hw (by omega)).cell 6)
  have HX7 : Hz (∀ w', Below w0.heap.size w0 w' → w'.cell? ⟨W.heap.size, 7, none⟩ = some (.slice (some ⟨g 7, 0, none⟩) T.al.length (T.al.length + 8))) := hide (fun w' hw => (hX.below hw (by omega)).cell 7)
  have HG0 : Hz (∀ w', Below w0.heap.size w0 w' → w'.cell? ⟨0, 0, none⟩ = some (.int .i32 (-77))) := hide (fun w' hw => (hw.cell (p := ⟨0, 0, none⟩) (by show (0 : Nat) < _; omega)).trans ((hB0.cell (p := ⟨0, 0, none⟩) (by show (0 : Nat) < _; omega)).trans hR.m0))
  have HG1 : Hz (∀ w', Below w0.heap.size w0 w' → w'.cell? ⟨0, 1, none⟩ = some (.int .i32 0)) := hide (fun w' hw => (hw.cell (p := ⟨0, 1, none⟩) (by show (0 : Nat) < _; omega)).trans ((hB0.cell (p := ⟨0, 1, none⟩) (by show (0 : Nat) < _; omega)).trans hR.m1))
  have HG2 : Hz (∀ w', Below w0.heap.size w0 w' → w'.cell? ⟨1, 0, none⟩ = some (.int .i32 0)) := hide (fun w' hw => (hw.cell (p := ⟨1, 0, none⟩) (by show (1 : Nat) < _; omega)).trans ((hB0.cell (p := ⟨1, 0, none⟩) (by show (1 : Nat) < _; omega)).trans hR.m2))
  have HG3 : Hz (∀ w', Below w0.heap.size w0 w' → w'.cell? ⟨1, 1, none⟩ = some (.int .i64 (-77))) := hide (fun w' hw => (hw.cell (p := ⟨1, 1, none⟩) (by show (1 : Nat) < _; omega)).trans ((hB0.cell (p := ⟨1, 1, none⟩) (by show (1 : Nat) < _; omega)).trans hR.m3))
  have HG4 : Hz (∀ w', Below w0.heap.size w0 w' → w'.cell? ⟨2, 0, none⟩ = some (.int .i32 (-77))) := hide (fun w' hw => (hw.cell (p := ⟨2, 0, none⟩) (by show (2 : Nat) < _; omega)).trans ((hB0.cell (p := ⟨2, 0, none⟩) (by show (2 : Nat) < _; omega)).trans hR.m4))
  have HG5 : Hz (∀ w', Below w0.heap.size w0 w' → w'.cell? ⟨2, 1, none⟩ = some (.int .i32 0)) := hide (fun w' hw => (hw.cell (p := ⟨2, 1, none⟩) (by show (2 : Nat) < _; omega)).trans ((hB0.cell (p := ⟨2, 1, none⟩) (by show (2 : Nat) < _; omega)).trans hR.m5))
  have HG6 : Hz (∀ w', Below w0.heap.size w0 w' → w'.cell? ⟨2, 2, none⟩ = some (.int .i32 0)) := hide (fun w' hw => (hw.cell (p := ⟨2, 2, none⟩) (by show (2 : Nat) < _; omega)).trans ((hB0.cell (p := ⟨2, 2, none⟩) (by show (2 : Nat) < _; omega)).trans hR.m6))
  have HG7 : Hz (∀ w', Below w0.heap.size w0 w' → w'.cell? ⟨3, 0, none⟩ = some (.int .i32 (-77))) := hide (fun w' hw => (hw.cell (p := ⟨3, 0, none⟩) (by show (3 : Nat) < _; omega)).trans ((hB0.cell (p := ⟨3, 0, none⟩) (by show (3 : Nat) < _; omega)).trans hR.m7))
  have HG8 : Hz (∀ w', Below w0.heap.size w0 w' → w'.cell? ⟨3, 1, none⟩ = some (.string ⟨#[]⟩)) := hide (fun w' hw => (hw.cell (p := ⟨3, 1, none⟩) (by show (3 : Nat) < _; omega)).trans ((hB0.cell (p := ⟨3, 1, none⟩) (by show (3 : Nat) < _; omega)).trans hR.m8))
  have HA : Hz (∀ w', Below w0.heap.size w0 w' → WhAt w' lo T g vs) := hide (fun w' hw => (hA.below hB0).below hw)
  have HO := hide hO
  have HB0 := hide hB0
  have hn0 := hO.n0
  clear hA hR hB0 hX hO
  have hle : T.sc.length ≤ T.sc.length + 8 := by omega
  have x0 := unhide HX0 _ (Below.refl _ _)
  have HWA := hide hwA
  rw [hwA] at x0
  clear hwA hZA
  go_enter Tryz.func16, Tryz.ntmps16
  go_wp2_with fail
  clear x0
  rw [← unhide HWA]
  clear HWA
  obtain ⟨N, hN⟩ : ∃ N, N = T.sc.length := ⟨_, rfl⟩
  have HN := hide hN
  rw [← hN]
  rw [← hN] at hn0 HX0
  clear hN hle
  go_loopw [4] (fun iv wr => ∃ k : Nat, k ≤ N + 8 ∧ iv = .int .i64 k ∧ Hz (Below w0.heap.size w0 wr)) (fun iv _ => N + 8 - (intOf iv).toNat)
  case atStart => exact ⟨0, by omega, rfl, hide (Below.refl _ _)⟩
  case round =>
    obtain ⟨k, hk9, rfl, HQ⟩ := hrel
    have x0 := unhide HX0 wr (unhide HQ)
    by_cases hk8 : k < N + 8
    · have k1 : ((k : Nat) : Int) < ((N + 8 : Nat) : Int) := by omega
      have k2 : ((k : Nat) : Int).toNat = k := by omega
      have k3 : (0 : Int) ≤ (k : Int) := by omega
      have q0 := unhide HG0 wr (unhide HQ)
      have q1 := unhide HG1 wr (unhide HQ)
      have hAw := unhide HA wr (unhide HQ)
      go_wp2_with fail
      have kx0 := cell_regrown x0
      have kq0 := cell_regrown q0
      have kq1 := cell_regrown q1
      by_cases hkN : k < N
      · have k4 : ((k : Nat) : Int) < (N : Int) := by omega
        obtain ⟨s, hs⟩ : ∃ s, T.sc[k]? = some s := ⟨_, List.getElem?_eq_getElem (by have := unhide HN; omega)⟩
        obtain ⟨x, hx⟩ : ∃ x, vs[k]? = some x := ⟨_, List.getElem?_eq_getElem (by have := unhide HN; have := hAw.lu; omega)⟩
        obtain ⟨b, rfl, hob⟩ := hAw.rs k x s hx hs
        have hsl := ((unhide HO).z0 s (List.mem_of_getElem? hs)).2
        have c1 : wr.cell? ⟨g 0, k * 2 + 1, none⟩ = some (.slice (some ⟨b, 0, none⟩) s.2.length (s.2.length + 8)) := own_cell hAw.r0 _ _ (by
          rw [List.getElem?_append_left (by rw [encSc_length _ _ hAw.lu]; have := unhide HN; omega), Nat.mul_comm, encSc_at _ _ hAw.lu]
          exact hx)
        have kc1 := cell_regrown c1
        have HC : Hz (∀ w', Below wr.heap.size wr w' → Calls Tryz.prog 50 #[.slice (some ⟨b, 0, none⟩) s.2.length (s.2.length + 8), .agg #[.int .i32 (-77), .int .i32 0]] w' fun e w2 => e = .returned (.bool true) ∧ Below w'.heap.size w' w2) := hide (fun w' hw =>
          stillSpan_any b s.2.length hsl (-77) 0 w' (own_ltW (own_bel hob hw) b rfl) (fun k h1 h2 => ⟨own_mark (cs := [.int .i32 (-77), .int .i32 0]) (own_bel hob hw) (encS2_length _) k 0 h1 h2 _ rfl, own_mark (cs := [.int .i32 (-77), .int .i32 0]) (own_bel hob hw) (encS2_length _) k 1 h1 h2 _ rfl⟩))
        clear hAw hob hs hx hsl c1 x0 q0 q1
        have k6 : decide (N ≤ k) = false := decide_eq_false (by omega)
        have k7 : ¬ N ≤ k := by omega
        refine wp_region_quiet_below (by kernel_rfl) (by kernel_rfl) ?_
        repeat (go_big_quiet_step (exact Calls.regrown_of (unhide HC _ (below_regrown _ _ _))))
        first | refine wpQuiet_nil ?_ | skip
        rintro w' ⟨p, rfl⟩
        have HB := hide ((unhide HQ).trans ((below_regrown wr p.d p.os).mono (unhide HQ).size))
        generalize Go.Sort.grow (redrawn wr p.d) p.os = w1 at *
        clear kx0 kq0 kq1 kc1 HC
        go_wp2_with fail
        go_roundw
        case rel => exact ⟨k + 1, by omega, by go_num, HB⟩
        case measure => simp [intOf]; omega
      · have k4 : ¬ ((k : Nat) : Int) < (N : Int) := by omega
        have k5 : ((N : Nat) : Int) ≤ (k : Int) := by omega
        have c0 : wr.cell? ⟨g 0, k * 2, none⟩ = some (.string ⟨#[114, 111, 111, 109]⟩) := own_mark (cs := roomS) hAw.r0 (encSc_length _ _ hAw.lu) k 0 (by have := unhide HN; omega) (by have := unhide HN; omega) _ rfl
        have c1 : wr.cell? ⟨g 0, k * 2 + 1, none⟩ = some (.slice none 0 0) := own_mark (cs := roomS) hAw.r0 (encSc_length _ _ hAw.lu) k 1 (by have := unhide HN; omega) (by have := unhide HN; omega) _ rfl
        have kc0 := cell_regrown c0
        have kc1 := cell_regrown c1
        have HC : Hz (∀ w', Calls Tryz.prog 45 #[.agg #[.string ⟨#[114, 111, 111, 109]⟩, .slice none 0 0], .agg #[.string ⟨#[114, 111, 111, 109]⟩, .slice none 0 0]] w' fun e w2 => e = .returned (.bool true) ∧ Below w'.heap.size w' w2) := hide (fun w' =>
          sameScript_row ⟨#[114, 111, 111, 109]⟩ [] (by decide) none none 0 0 w' (fun h => absurd h (by decide)) (fun h => absurd h (by decide)))
        clear hAw c0 c1 x0 q0 q1
        refine wp_region_quiet_below (by kernel_rfl) (by kernel_rfl) ?_
        repeat (go_big_quiet_step (exact Calls.regrown_of (unhide HC _)))
        first | refine wpQuiet_nil ?_ | skip
        rintro w' ⟨p, rfl⟩
        have HB := hide ((unhide HQ).trans ((below_regrown wr p.d p.os).mono (unhide HQ).size))
        generalize Go.Sort.grow (redrawn wr p.d) p.os = w1 at *
        clear kx0 kq0 kq1 kc0 kc1 HC
        go_wp2_with fail
        go_roundw
        case rel => exact ⟨k + 1, by omega, by go_num, HB⟩
        case measure => simp [intOf]; omega
    · have k1 : ¬ ((k : Nat) : Int) < ((N + 8 : Nat) : Int) := by omega
      clear x0
      have H0 := hide (unhide HQ)
      generalize hw1 : wr = w1 at H0 ⊢
      clear hw1 HQ
      have xx := unhide HX1 w1 (unhide H0)
      have qq0 := unhide HG0 w1 (unhide H0)
      have qq1 := unhide HG1 w1 (unhide H0)
      have HC := hide (stillSpan_any (g 1) T.co.length (unhide HO).n1 (-77) 0 w1 (own_ltW (unhide HA w1 (unhide H0)).l.r1 _ rfl) (fun k h1 h2 => ⟨own_mark (cs := [.int .i32 (-77), .int .i32 0]) (unhide HA w1 (unhide H0)).l.r1 (encS2_length _) k 0 h1 h2 _ rfl, own_mark (cs := [.int .i32 (-77), .int .i32 0]) (unhide HA w1 (unhide H0)).l.r1 (encS2_length _) k 1 h1 h2 _ rfl⟩))
      go_wp2_with fail
      refine (unhide HC).mono ?_
      rintro e w2 ⟨rfl, hb⟩
      have H1 := hide ((unhide H0).trans (hb.mono (unhide H0).size))
      clear hb HC xx qq0 qq1
      have xx := unhide HX2 w2 (unhide H1)
      have qq2 := unhide HG2 w2 (unhide H1)
      have qq3 := unhide HG3 w2 (unhide H1)
      have HC := hide (stillMark_any (g 2) T.ma.length (unhide HO).n2 0 (-77) w2 (own_ltW (unhide HA w2 (unhide H1)).l.r2 _ rfl) (fun k h1 h2 => ⟨own_mark (cs := [.int .i32 0, .int .i64 (-77)]) (unhide HA w2 (unhide H1)).l.r2 (encM2_length _) k 0 h1 h2 _ rfl, own_mark (cs := [.int .i32 0, .int .i64 (-77)]) (unhide HA w2 (unhide H1)).l.r2 (encM2_length _) k 1 h1 h2 _ rfl⟩))
      go_wp2_with fail
      refine (unhide HC).mono ?_
      rintro e w3 ⟨rfl, hb⟩
      have H2 := hide ((unhide H1).trans (hb.mono (unhide H1).size))
      clear hb HC xx qq2 qq3
      have xx := unhide HX3 w3 (unhide H2)
      have qq4 := unhide HG4 w3 (unhide H2)
      have qq5 := unhide HG5 w3 (unhide H2)
      have qq6 := unhide HG6 w3 (unhide H2)
      have HC := hide (stillPair_any (g 3) T.pr.length (unhide HO).n3 (-77) 0 0 w3 (own_ltW (unhide HA w3 (unhide H2)).l.r3 _ rfl) (fun k h1 h2 => ⟨own_mark (cs := [.int .i32 (-77), .int .i32 0, .int .i32 0]) (unhide HA w3 (unhide H2)).l.r3 (encP3_length _) k 0 h1 h2 _ rfl, own_mark (cs := [.int .i32 (-77), .int .i32 0, .int .i32 0]) (unhide HA w3 (unhide H2)).l.r3 (encP3_length _) k 1 h1 h2 _ rfl, own_mark (cs := [.int .i32 (-77), .int .i32 0, .int .i32 0]) (unhide HA w3 (unhide H2)).l.r3 (encP3_length _) k 2 h1 h2 _ rfl⟩))
      go_wp2_with fail
      refine (unhide HC).mono ?_
      rintro e w4 ⟨rfl, hb⟩
      have H3 := hide ((unhide H2).trans (hb.mono (unhide H2).size))
      clear hb HC xx qq4 qq5 qq6
      have xx := unhide HX4 w4 (unhide H3)
      have qq7 := unhide HG7 w4 (unhide H3)
      have qq8 := unhide HG8 w4 (unhide H3)
      have HC := hide (stillMap_any (g 4) T.fo.length (unhide HO).n4 (-77) ⟨#[]⟩ w4 (own_ltW (unhide HA w4 (unhide H3)).l.r4 _ rfl) (fun k h1 h2 => ⟨own_mark (cs := [.int .i32 (-77), .string ⟨#[]⟩]) (unhide HA w4 (unhide H3)).l.r4 (encF2_length _) k 0 h1 h2 _ rfl, own_mark (cs := [.int .i32 (-77), .string ⟨#[]⟩]) (unhide HA w4 (unhide H3)).l.r4 (encF2_length _) k 1 h1 h2 _ rfl⟩))
      go_wp2_with fail
      refine (unhide HC).mono ?_
      rintro e w5 ⟨rfl, hb⟩
      have H4 := hide ((unhide H3).trans (hb.mono (unhide H3).size))
      clear hb HC xx qq7 qq8
      have xx := unhide HX5 w5 (unhide H4)
      have qq7 := unhide HG7 w5 (unhide H4)
      have qq8 := unhide HG8 w5 (unhide H4)
      have HC := hide (stillMap_any (g 5) T.lk.length (unhide HO).n5 (-77) ⟨#[]⟩ w5 (own_ltW (unhide HA w5 (unhide H4)).l.r5 _ rfl) (fun k h1 h2 => ⟨own_mark (cs := [.int .i32 (-77), .string ⟨#[]⟩]) (unhide HA w5 (unhide H4)).l.r5 (encF2_length _) k 0 h1 h2 _ rfl, own_mark (cs := [.int .i32 (-77), .string ⟨#[]⟩]) (unhide HA w5 (unhide H4)).l.r5 (encF2_length _) k 1 h1 h2 _ rfl⟩))
      go_wp2_with fail
      refine (unhide HC).mono ?_
      rintro e w6 ⟨rfl, hb⟩
      have H5 := hide ((unhide H4).trans (hb.mono (unhide H4).size))
      clear hb HC xx qq7 qq8
      have xx := unhide HX6 w6 (unhide H5)
      have qq0 := unhide HG0 w6 (unhide H5)
      have qq1 := unhide HG1 w6 (unhide H5)
      have HC := hide (stillSpan_any (g 6) T.dr.length (unhide HO).n6 (-77) 0 w6 (own_ltW (unhide HA w6 (unhide H5)).l.r6 _ rfl) (fun k h1 h2 => ⟨own_mark (cs := [.int .i32 (-77), .int .i32 0]) (unhide HA w6 (unhide H5)).l.r6 (encS2_length _) k 0 h1 h2 _ rfl, own_mark (cs := [.int .i32 (-77), .int .i32 0]) (unhide HA w6 (unhide H5)).l.r6 (encS2_length _) k 1 h1 h2 _ rfl⟩))
      go_wp2_with fail
      refine (unhide HC).mono ?_
      rintro e w7 ⟨rfl, hb⟩
      have H6 := hide ((unhide H5).trans (hb.mono (unhide H5).size))
      clear hb HC xx qq0 qq1
      have xx := unhide HX7 w7 (unhide H6)
      have qq0 := unhide HG0 w7 (unhide H6)
      have qq1 := unhide HG1 w7 (unhide H6)
      have HC := hide (stillSpan_any (g 7) T.al.length (unhide HO).n7 (-77) 0 w7 (own_ltW (unhide HA w7 (unhide H6)).l.r7 _ rfl) (fun k h1 h2 => ⟨own_mark (cs := [.int .i32 (-77), .int .i32 0]) (unhide HA w7 (unhide H6)).l.r7 (encS2_length _) k 0 h1 h2 _ rfl, own_mark (cs := [.int .i32 (-77), .int .i32 0]) (unhide HA w7 (unhide H6)).l.r7 (encS2_length _) k 1 h1 h2 _ rfl⟩))
      go_wp2_with fail
      refine (unhide HC).mono ?_
      rintro e w8 ⟨rfl, hb⟩
      have H7 := hide ((unhide H6).trans (hb.mono (unhide H6).size))
      clear hb HC xx qq0 qq1
      go_wp2_with fail
      go_ret
      exact ⟨rfl, (unhide HB0).trans ((unhide H7).mono (by have := (unhide HB0).size; omega))⟩
def scN (l : List (ByteArray × List (Int × Int))) : Nat := (l.map (fun x => x.2.length + 1)).foldr (· + ·) 0
def lenN (T : TV) : Nat := T.co.length + T.ma.length + T.pr.length + T.fo.length + T.lk.length + T.dr.length + T.al.length
def largeB (T : TV) : Bool := decide (6000 < lenN T + scN (T.sc.take 200)) || decide (100 < T.sc.length)
theorem scN_app (a b : List (ByteArray × List (Int × Int))) : scN (a ++ b) = scN a + scN b := by
  induction a with
  | nil => show scN b = 0 + scN b; omega
  | cons x a ih => show x.2.length + 1 + scN (a ++ b) = x.2.length + 1 + scN a + scN b; rw [ih]; omega
theorem scN_le {n : Nat} : ∀ (l : List (ByteArray × List (Int × Int))), (∀ x ∈ l, x.2.length ≤ n) → scN l ≤ l.length * (n + 1)
  | [], _ => Nat.zero_le _
  | x :: l, h => by
    have h1 := h x (List.mem_cons_self ..)
    have h2 := scN_le l (fun y hy => h y (List.mem_cons_of_mem _ hy))
    show x.2.length + 1 + scN l ≤ (l.length + 1) * (n + 1)
    rw [Nat.succ_mul]
    omega
theorem scN_mem : ∀ (l : List (ByteArray × List (Int × Int))) (x : ByteArray × List (Int × Int)), x ∈ l → x.2.length ≤ scN l
  | [], x, h => by cases h
  | y :: l, x, h => by
    show x.2.length ≤ y.2.length + 1 + scN l
    rcases List.mem_cons.1 h with rfl | h
    · omega
    · have := scN_mem l x h; omega
structure TabB (T : TV) : Prop where
  n0 : T.sc.length ≤ 1048576
  n1 : T.co.length ≤ 1048576
  n2 : T.ma.length ≤ 1048576
  n3 : T.pr.length ≤ 1048576
  n4 : T.fo.length ≤ 1048576
  n5 : T.lk.length ≤ 1048576
  n6 : T.dr.length ≤ 1048576
  n7 : T.al.length ≤ 1048576
  z0 : ∀ x ∈ T.sc, x.1.size ≤ 1048576 ∧ x.2.length ≤ 1048576
  z2 : ∀ x ∈ T.ma, -9223372036854775808 ≤ x.2 ∧ x.2 ≤ 9223372036854775807
  z4 : ∀ x ∈ T.fo, x.2.size ≤ 1048576
  z5 : ∀ x ∈ T.lk, x.2.size ≤ 1048576
theorem TabB.ok {T : TV} (h : TabB T) (hl : largeB T = false) : TabOk T := by
  unfold largeB at hl
  rw [Bool.or_eq_false_iff] at hl
  have h1 := of_decide_eq_false hl.1
  have h2 := of_decide_eq_false hl.2
  unfold lenN at h1
  rw [List.take_of_length_le (by omega)] at h1
  refine ⟨by omega, by omega, by omega, by omega, by omega, by omega, by omega, by omega, fun x hx => ⟨?_, ?_⟩, h.z2, fun x hx => ?_, fun x hx => ?_⟩
  · have := (h.z0 x hx).1; unfold maxLen; omega
  · have := scN_mem T.sc x hx; omega
  · have := h.z4 x hx; unfold maxLen; omega
  · have := h.z5 x hx; unfold maxLen; omega
set_option maxRecDepth 100000 in
set_option maxHeartbeats 4000000 in
theorem large_any (T : TV) (hT : TabB T) (a0 a1 a2 a3 a4 a5 a6 a7 : Option Addr) (c0 c1 c2 c3 c4 c5 c6 c7 : Nat) (us : List Value) (W : World) (hA : TabIn W T a0 a1 a2 a3 a4 a5 a6 a7 us) :
    Calls Tryz.prog 11 #[.agg (tabV T a0 a1 a2 a3 a4 a5 a6 a7 c0 c1 c2 c3 c4 c5 c6 c7)] W fun e w' => e = .returned (.bool (largeB T)) ∧ Below W.heap.size W w' := by
  have hB0 : Below W.heap.size W (W.alloc (.cells (tabV T a0 a1 a2 a3 a4 a5 a6 a7 c0 c1 c2 c3 c4 c5 c6 c7) 33)) := (Below.refl _ W).alloc (Nat.le_refl _) _
  have bA := Blk.new W (tabV T a0 a1 a2 a3 a4 a5 a6 a7 c0 c1 c2 c3 c4 c5 c6 c7) 33
  have HH := hide (And.intro (hA.lower hB0) (And.intro hB0 bA))
  have HT := hide hT
  have HV : Hz (largeB T = (decide (6000 < lenN T + scN (T.sc.take 200)) || decide (100 < T.sc.length))) := hide rfl
  have hn0 := hT.n0
  have hn1 := hT.n1
  have hn2 := hT.n2
  have hn3 := hT.n3
  have hn4 := hT.n4
  have hn5 := hT.n5
  have hn6 := hT.n6
  have hn7 := hT.n7
  generalize largeB T = LB at *
  have z0 := bA.cell 0
  have z1 := bA.cell 1
  have z2 := bA.cell 2
  have z3 := bA.cell 3
  have z4 := bA.cell 4
  have z5 := bA.cell 5
  have z6 := bA.cell 6
  have z7 := bA.cell 7
  clear hA hB0 bA hT
  unfold tabV at *
  go_enter Tryz.func11, Tryz.ntmps11
  go_wp2_with fail
  generalize W.alloc (.cells #[.slice a0 T.sc.length c0, .slice a1 T.co.length c1, .slice a2 T.ma.length c2, .slice a3 T.pr.length c3, .slice a4 T.fo.length c4, .slice a5 T.lk.length c5, .slice a6 T.dr.length c6, .slice a7 T.al.length c7] 33) = w0 at *
  have HN0 : Hz ((T.co.length : Int) + T.ma.length + T.pr.length + T.fo.length + T.lk.length + T.dr.length + T.al.length = ((lenN T + scN (T.sc.take 0) : Nat) : Int)) := hide (by unfold lenN; show _ = ((_ + 0 : Nat) : Int); omega)
  have hLN : lenN T ≤ 7340032 := by unfold lenN; omega
  generalize (T.co.length : Int) + T.ma.length + T.pr.length + T.fo.length + T.lk.length + T.dr.length + T.al.length = S0 at *
  clear hn1 hn2 hn3 hn4 hn5 hn6 hn7 z1 z2 z3 z4 z5 z6 z7
  go_loopw [3, 4] (fun n i wr => ∃ (k m q : Nat), k ≤ T.sc.length ∧ k ≤ 200 ∧ n = .int .i64 m ∧ i = .int .i64 k ∧ Hz (m = lenN T + scN (T.sc.take k)) ∧ wr = w0.drewN q) (fun _ i _ => 200 - (intOf i).toNat)
  case atStart => exact ⟨0, lenN T + scN (T.sc.take 0), 0, by omega, by omega, by rw [unhide HN0], rfl, hide rfl, rfl⟩
  case round =>
    obtain ⟨k, m, q, hk, hk200, rfl, rfl, HM, rfl⟩ := hrel
    have hmle : m ≤ 400000000 := by
      have h1 := scN_le (n := 1048576) (T.sc.take k) (fun x hx => ((unhide HT).z0 x (List.mem_of_mem_take hx)).2)
      rw [List.length_take] at h1
      have h2 := unhide HM
      have h3 : min k T.sc.length * (1048576 + 1) ≤ 200 * 1048577 := Nat.mul_le_mul (by omega) (by omega)
      omega
    by_cases hkn : k < T.sc.length
    · by_cases hk2 : k < 200
      · obtain ⟨x, hx⟩ : ∃ x, T.sc[k]? = some x := ⟨_, List.getElem?_eq_getElem hkn⟩
        obtain ⟨u, hu⟩ : ∃ u, us[k]? = some u := ⟨_, List.getElem?_eq_getElem (by rw [(unhide HH).1.lu]; exact hkn)⟩
        obtain ⟨g, o, rfl, hg, hc⟩ := (unhide HH).1.r0 (by rw [encSc_length _ _ (unhide HH).1.lu]; omega)
        obtain ⟨q1, d1, rfl, r1⟩ := (unhide HH).1.rs k x u hx hu
        have e1 : w0.cell? ⟨g, o + k * 2 + 1, none⟩ = some (.slice q1 x.2.length d1) := by
          have h1 := hc (2 * k + 1) _ ((encSc_at T.sc us (unhide HH).1.lu k).trans hu)
          rw [show o + (2 * k + 1) = o + k * 2 + 1 by omega] at h1
          exact h1
        have hx2 : x.2.length ≤ 1048576 := ((unhide HT).z0 x (List.mem_of_getElem? hx)).2
        have HM2 : Hz (m + 1 + x.2.length = lenN T + scN (T.sc.take (k + 1))) := hide (by
          rw [List.take_add_one, hx, scN_app, unhide HM]
          show _ = _ + (_ + (x.2.length + 1 + 0))
          omega)
        generalize x.2.length = xl at *
        have k1 : (k : Int) < (T.sc.length : Int) := by omega
        have k2 : (k : Int) < 200 := by omega
        have k3 : ((k : Nat) : Int).toNat = k := by omega
        clear hc hx hu r1
        go_wp2_with fail
        exact ⟨⟨k + 1, m + 1 + xl, q, by omega, by omega, by first | rfl | (congr 1; omega), by first | rfl | (congr 1; omega), HM2, rfl⟩, by simp [intOf]; omega⟩
      · have k1 : (k : Int) < (T.sc.length : Int) := by omega
        have k2 : ¬ (k : Int) < 200 := by omega
        have HMV : Hz (LB = (decide (6000 < m) || decide (100 < T.sc.length))) := hide (by rw [unhide HV, unhide HM, show k = 200 by omega])
        clear HV HM
        have HW : Hz (Below W.heap.size W (w0.drewN q)) := hide (below_drewNW (unhide HH).2.1 q)
        by_cases q1 : 6000 < m
        · have k4 : (6000 : Int) < (m : Int) := by omega
          go_wp2_with fail
          go_ret
          exact ⟨by rw [unhide HMV, decide_eq_true q1]; rfl, unhide HW⟩
        · have k4 : ¬ (6000 : Int) < (m : Int) := by omega
          by_cases q2 : 100 < T.sc.length
          · have k5 : (100 : Int) < (T.sc.length : Int) := by omega
            go_wp2_with fail
            go_ret
            exact ⟨by rw [unhide HMV, decide_eq_false q1, decide_eq_true q2]; first | rfl | simp [k5], unhide HW⟩
          · exact absurd (show 100 < T.sc.length by omega) q2
    · have k1 : ¬ (k : Int) < (T.sc.length : Int) := by omega
      have HMV : Hz (LB = (decide (6000 < m) || decide (100 < T.sc.length))) := hide (by rw [unhide HV, unhide HM, List.take_of_length_le (show T.sc.length ≤ k by omega), List.take_of_length_le (show T.sc.length ≤ 200 by omega)])
      clear HV HM
      have HW : Hz (Below W.heap.size W (w0.drewN q)) := hide (below_drewNW (unhide HH).2.1 q)
      by_cases q1 : 6000 < m
      · have k4 : (6000 : Int) < (m : Int) := by omega
        go_wp2_with fail
        go_ret
        exact ⟨by rw [unhide HMV, decide_eq_true q1]; rfl, unhide HW⟩
      · have k4 : ¬ (6000 : Int) < (m : Int) := by omega
        by_cases q2 : 100 < T.sc.length
        · have k5 : (100 : Int) < (T.sc.length : Int) := by omega
          go_wp2_with fail
          go_ret
          exact ⟨by rw [unhide HMV, decide_eq_false q1, decide_eq_true q2]; first | rfl | simp [k5], unhide HW⟩
        · have k5 : ¬ (100 : Int) < (T.sc.length : Int) := by omega
          go_wp2_with fail
          go_ret
          exact ⟨by rw [unhide HMV, decide_eq_false q1, decide_eq_false q2]; first | rfl | simp [k5], unhide HW⟩
end Go.Proofs.YtgchlilpjkndlaaGreatDoor
