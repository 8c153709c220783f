/- cut: its jumps. -/
import Derived.Test.YtjgfmobmilgapaaGreatDoorM9
namespace Go.Proofs.YtjgfmobmilgapaaGreatDoor
open Go.RowKit Go.Shelf
set_option linter.unusedVariables false
theorem lcF_bound (t : ByteArray) : ∀ (ps : List Nat) (x : Nat × Nat), 1 ≤ x.2 → 1 ≤ (lcF t x ps).2 ∧ (lcF t x ps).2 ≤ x.2 + ps.length ∧ (lcF t x ps).1 ≤ x.1 + ps.length
  | [], x, h => ⟨h, Nat.le_refl _, Nat.le_refl _⟩
  | p :: ps, x, h => by
    have h1 : 1 ≤ (lcStep t x p).2 ∧ (lcStep t x p).2 ≤ x.2 + 1 ∧ (lcStep t x p).1 ≤ x.1 + 1 := by unfold lcStep; split <;> simp
    have := lcF_bound t ps (lcStep t x p) h1.1
    have e : lcF t x (p :: ps) = lcF t (lcStep t x p) ps := rfl
    rw [e, List.length_cons]
    omega
theorem lcB_bound (t : ByteArray) (x : Nat × Nat) (n : Nat) (h : 1 ≤ x.2) : 1 ≤ (lcB t x n).2 ∧ (lcB t x n).2 ≤ x.2 + n ∧ (lcB t x n).1 ≤ x.1 + n := by
  have h1 := lcF_bound (t.extract 0 n) (starts (t.extract 0 n)) x h
  have h2 := starts_length (t.extract 0 n)
  have h3 : (t.extract 0 n).size ≤ n := by rw [ByteArray.size_extract]; omega
  unfold lcB
  omega
theorem CutV.parts {R : CutV} {o : Bool} {b : Nat} {x : Nat × Nat} {ws : List Wd} (h : R = ⟨o, b, x, ws⟩) : R.ok = o ∧ R.b = b ∧ R.lc = x ∧ R.ws = ws := by subst h; exact ⟨rfl, rfl, rfl, rfl⟩
/-- From a word's first byte on. -/
def cutWord (s : ByteArray) (f b : Nat) (x : Nat × Nat) (ws : List Wd) : CutV :=
  if (wordV (rst s b)).ok = false then ⟨false, b + (wordV (rst s b)).n, lcB (rst s b) x (wordV (rst s b)).n, ws⟩
  else cutGo s f (b + (wordV (rst s b)).n) (lcB (rst s b) x (wordV (rst s b)).n) (ws ++ [⟨wordV (rst s b), b, x.1, x.2, b + (wordV (rst s b)).n⟩])
theorem cutGo_succ (s : ByteArray) (f b : Nat) (x : Nat × Nat) (ws : List Wd) : cutGo s (f + 1) b x ws = if (gapV (rst s b)).2 = false then ⟨false, gB s b, gLC s b x, ws⟩ else if (rst s (gB s b)).size = 0 then ⟨true, gB s b, gLC s b x, ws⟩ else cutWord s f (gB s b) (gLC s b x) ws := rfl
abbrev wd0 (b : Nat) (x : Nat × Nat) : Array Value := #[.int .i64 0, .string ByteArray.empty, .int .i32 0, .int .i64 0, .int .i64 b, .int .i64 x.1, .int .i64 x.2, .int .i64 0]
abbrev wd1 (y : WV) (b : Nat) (x : Nat × Nat) : Array Value := #[.int .i64 y.kind, .string y.S, .int .i32 y.R, .int .i64 y.N, .int .i64 b, .int .i64 x.1, .int .i64 x.2, .int .i64 0]
theorem set8 {cs : Array Value} (h : cs.size = 8) (a0 a1 a2 a3 a4 a5 a6 a7 : Value) : (((((((cs.setIfInBounds 0 a0).setIfInBounds 1 a1).setIfInBounds 2 a2).setIfInBounds 3 a3).setIfInBounds 4 a4).setIfInBounds 5 a5).setIfInBounds 6 a6).setIfInBounds 7 a7 = #[a0, a1, a2, a3, a4, a5, a6, a7] := by
  have e : ∃ b0 b1 b2 b3 b4 b5 b6 b7, cs = #[b0, b1, b2, b3, b4, b5, b6, b7] := by
    obtain ⟨l⟩ := cs
    match l, h with
    | [b0, b1, b2, b3, b4, b5, b6, b7], _ => exact ⟨b0, b1, b2, b3, b4, b5, b6, b7, rfl⟩
  obtain ⟨b0, b1, b2, b3, b4, b5, b6, b7, rfl⟩ := e
  simp
/-- The bounds of a place. -/
def PlB (s : ByteArray) (b : Nat) (x : Nat × Nat) (j : Nat) : Prop := b ≤ s.size ∧ 1 ≤ x.2 ∧ x.2 ≤ 1 + b ∧ x.1 ≤ 1 + b ∧ j ≤ b
/-- What holds at each label. -/
def cutJ (w : World) (C : Nat) (s : ByteArray) (R : CutV) : Nat → Nat → Act → World → Prop
  | 0, k, a, W => ∃ (f b : Nat) (x : Nat × Nat) (ws : List Wd) (v : Value) (cs : Array Value), k = 10 * (s.size - b) + 9 ∧ PlB s b x ws.length ∧ s.size + 1 ≤ b + f ∧ cs.size = 8 ∧ R = cutGo s f b x ws ∧ CutSt w W C s b x v ws cs ∧ ∃ U : Nat → Value, a = { tmps := #[.pointer (some ⟨C, 0, none⟩), U 1, .bool false, .pointer (some ⟨w.heap.size, 0, none⟩), U 4, U 5, U 6, U 7, U 8, U 9, U 10, U 11, U 12, U 13, U 14, U 15, U 16, U 17, U 18, U 19, U 20, U 21, U 22, U 23, U 24, U 25, U 26, U 27, U 28, U 29, U 30, U 31, U 32, U 33, U 34, U 35, U 36, U 37, U 38, U 39, U 40, U 41, U 42, U 43, U 44, U 45, U 46, U 47, U 48, U 49, U 50, U 51, U 52, U 53, U 54, U 55, U 56, U 57, U 58, U 59, U 60, U 61, U 62, U 63, U 64, U 65, U 66, U 67, U 68, U 69, U 70, U 71, U 72, U 73, U 74, U 75, U 76, U 77, U 78, U 79, U 80, U 81, U 82, U 83, U 84, U 85, U 86, U 87, U 88, U 89, U 90, U 91, U 92, U 93, U 94, U 95, U 96, U 97, U 98, U 99, U 100, U 101, U 102, U 103, U 104, U 105, U 106, U 107, U 108, U 109, U 110, U 111, U 112, U 113], defers := [] }
  | 5, k, a, W => ∃ (f b : Nat) (x : Nat × Nat) (ws : List Wd) (v : Value) (cs : Array Value), k = 10 * (s.size - b) + 2 ∧ PlB s b x ws.length ∧ s.size + 1 ≤ b + 1 + f ∧ 0 < (rst s b).size ∧ cs.size = 8 ∧ ((wordV (rst s b)).ok = true → cs = wd1 (wordV (rst s b)) b x) ∧ R = cutWord s f b x ws ∧ CutSt w W C s b x v ws cs ∧ ∃ U : Nat → Value, a = { tmps := #[.pointer (some ⟨C, 0, none⟩), U 1, .bool false, .pointer (some ⟨w.heap.size, 0, none⟩), .string (rst s b), .int .i64 ((wordV (rst s b)).n : Nat), .bool (wordV (rst s b)).ok, U 7, U 8, U 9, U 10, U 11, U 12, U 13, U 14, U 15, U 16, U 17, U 18, U 19, U 20, U 21, U 22, U 23, U 24, U 25, U 26, U 27, U 28, U 29, U 30, U 31, U 32, U 33, U 34, U 35, U 36, U 37, U 38, U 39, U 40, U 41, U 42, U 43, U 44, U 45, U 46, U 47, U 48, U 49, U 50, U 51, U 52, U 53, U 54, U 55, U 56, U 57, U 58, U 59, U 60, U 61, U 62, U 63, U 64, U 65, U 66, U 67, U 68, U 69, U 70, U 71, U 72, U 73, U 74, U 75, U 76, U 77, U 78, U 79, U 80, U 81, U 82, U 83, U 84, U 85, U 86, U 87, U 88, U 89, U 90, U 91, U 92, U 93, U 94, U 95, U 96, U 97, U 98, U 99, U 100, U 101, U 102, U 103, U 104, U 105, U 106, U 107, U 108, U 109, U 110, U 111, U 112, U 113], defers := [] }
  | 6, k, a, W => ∃ (f b : Nat) (x : Nat × Nat) (ws : List Wd) (v : Value), k = 10 * (s.size - b) + 3 ∧ PlB s b x ws.length ∧ s.size + 1 ≤ b + 1 + f ∧ 0 < (rst s b).size ∧ (wordV (rst s b)).ok = edgeB (rst s b) (wordV (rst s b)).n ∧ R = cutWord s f b x ws ∧ CutSt w W C s b x v ws (wd1 (wordV (rst s b)) b x) ∧ ∃ U : Nat → Value, a = { tmps := #[.pointer (some ⟨C, 0, none⟩), U 1, .bool false, .pointer (some ⟨w.heap.size, 0, none⟩), .string (rst s b), .int .i64 ((wordV (rst s b)).n : Nat), U 6, U 7, U 8, U 9, U 10, U 11, U 12, U 13, U 14, U 15, U 16, U 17, U 18, U 19, U 20, U 21, U 22, U 23, U 24, U 25, U 26, U 27, U 28, U 29, U 30, U 31, U 32, U 33, U 34, U 35, U 36, U 37, U 38, U 39, U 40, U 41, U 42, U 43, U 44, U 45, U 46, U 47, U 48, U 49, U 50, U 51, U 52, U 53, U 54, U 55, U 56, U 57, U 58, U 59, U 60, U 61, U 62, U 63, U 64, U 65, U 66, U 67, U 68, U 69, U 70, U 71, U 72, U 73, U 74, U 75, U 76, U 77, U 78, U 79, U 80, U 81, U 82, U 83, U 84, U 85, U 86, U 87, U 88, U 89, U 90, U 91, U 92, U 93, U 94, U 95, U 96, U 97, U 98, U 99, U 100, U 101, U 102, U 103, U 104, U 105, U 106, U 107, U 108, U 109, U 110, U 111, U 112, U 113], defers := [] }
  | l, k, a, W => (1 ≤ l ∧ l ≤ 4) ∧ ∃ (f b : Nat) (x : Nat × Nat) (ws : List Wd) (v : Value), k = 10 * (s.size - b) + 5 ∧ PlB s b x ws.length ∧ s.size + 1 ≤ b + 1 + f ∧ 0 < (rst s b).size ∧
      ((l = 1 ∧ smallB (bt (rst s b) 0) = true) ∨ (l = 2 ∧ smallB (bt (rst s b) 0) = false ∧ digB (bt (rst s b) 0) = true) ∨ (l = 3 ∧ bt (rst s b) 0 = 85) ∨ (l = 4 ∧ bt (rst s b) 0 = 39)) ∧ R = cutWord s f b x ws ∧ CutSt w W C s b x v ws (wd0 b x) ∧ ∃ U : Nat → Value, a = { tmps := #[.pointer (some ⟨C, 0, none⟩), U 1, .bool false, .pointer (some ⟨w.heap.size, 0, none⟩), .string (rst s b), U 5, U 6, U 7, U 8, U 9, U 10, U 11, U 12, U 13, U 14, U 15, U 16, U 17, U 18, U 19, U 20, U 21, U 22, U 23, U 24, U 25, U 26, U 27, U 28, U 29, U 30, U 31, U 32, U 33, U 34, U 35, U 36, U 37, U 38, U 39, U 40, U 41, U 42, U 43, U 44, U 45, U 46, U 47, U 48, U 49, U 50, U 51, U 52, U 53, U 54, U 55, U 56, U 57, U 58, U 59, U 60, U 61, U 62, U 63, U 64, U 65, U 66, U 67, U 68, U 69, U 70, U 71, U 72, U 73, U 74, U 75, U 76, U 77, U 78, U 79, U 80, U 81, U 82, U 83, U 84, U 85, U 86, U 87, U 88, U 89, U 90, U 91, U 92, U 93, U 94, U 95, U 96, U 97, U 98, U 99, U 100, U 101, U 102, U 103, U 104, U 105, U 106, U 107, U 108, U 109, U 110, U 111, U 112, U 113], defers := [] }
set_option maxRecDepth 100000 in
set_option maxHeartbeats 16000000 in
theorem cutter_any (C : Nat) (s : ByteArray) (hs : s.size ≤ 262144) (m : Int) (w : World) (h : Blk w C (ctrC s (0 : Nat) (1 : Nat) (1 : Nat) (.slice none 0 0)) 103) (hm : w.cell? ⟨7, 0, none⟩ = some (.int .i64 m)) (hg : 7 < C) (R : CutV) (hR : R = cutGo s (s.size + 1) 0 (1, 1) []) :
    Calls Tryz.prog 38 #[.pointer (some ⟨C, 0, none⟩)] w fun e w' => e = .returned (.bool R.ok) ∧ ∃ v cs, CutSt w w' C s R.b R.lc v R.ws cs := by
  have HB := hide h
  have HM := hide hm
  have HR := hide hR
  clear h hm hR
  go_enter Tryz.func38, Tryz.ntmps38
  go_wp2
  refine wp_scope_cut (cutJ w C s R) ⟨_, rfl, ?zero, ?first⟩ ⟨_, rfl, ?five, ?six⟩ ?pass
  case first =>
    intro hp
    have hC := (unhide HB).lt
    have hal := (Below.refl w.heap.size w).alloc (Nat.le_refl _) (.cells #[.int .i64 0, .string ⟨#[]⟩, .int .i32 0, .int .i64 0, .int .i64 0, .int .i64 0, .int .i64 0, .int .i64 0] 115)
    have HST : Hz (CutSt w (w.alloc (.cells #[.int .i64 0, .string ⟨#[]⟩, .int .i32 0, .int .i64 0, .int .i64 0, .int .i64 0, .int .i64 0, .int .i64 0] 115)) C s 0 (1, 1) (.slice none 0 0) [] #[.int .i64 0, .string ⟨#[]⟩, .int .i32 0, .int .i64 0, .int .i64 0, .int .i64 0, .int .i64 0, .int .i64 0]) := hide ⟨(unhide HB).below hal hC, Blk.new w _ _, World.ownsRow_nil _ _ _ _, ⟨hal.os, hal.tape, hal.output, hal.size, fun k hk _ => hal.block k hk⟩, hC⟩
    have HP := hide hp
    clear hp hal
    go_wp2
    rename_i K hK
    go_step3
    apply hK
    clear hK
    exact unhide HP (10 * (s.size - 0) + 9) _ _ ⟨s.size + 1, 0, (1, 1), [], .slice none 0 0, _, rfl, ⟨Nat.zero_le _, by decide, by decide, by decide, Nat.zero_le _⟩, by omega, rfl, unhide HR, unhide HST, mk_act rfl⟩
  case zero =>
    rintro k a W ⟨f, b, x, ws, v, cs, hk, hpl, hfu, hcs, hRe, hst, U, ha⟩
    subst ha
    obtain ⟨f, rfl⟩ : ∃ g, f = g + 1 := ⟨f - 1, by have := hpl.1; omega⟩
    rw [cutGo_succ] at hRe
    have hb0 := hpl.1
    have hgl := gapV_le (rst s b)
    have hrz := rst_size s b
    have hgB := gB_le s b hb0
    have hMW : ∀ W', w.grownBy W' (some C) → W'.cell? ⟨7, 0, none⟩ = some (.int .i64 m) := fun W' hgr => (World.cell?_of_block (a := ⟨7, 0, none⟩) (hgr.block 7 (by have := hst.lt; omega) (fun e => by have := Option.some.inj e; omega))).trans (unhide HM)
    have hMg : 7 < W.heap.size := by have := hst.lt; have := hst.gr.size; omega
    have hrest := rest_any C s b hb0 (by omega) x.1 x.2 v W hst.blk
    have hgap := fun q => gap_any (rst s b) (by omega) m (W.drewN q) (hMW _ (hst.drew q).gr) hMg
    obtain ⟨n0, hn0⟩ : ∃ n0, n0 = (gapV (rst s b)).1 := ⟨_, rfl⟩
    obtain ⟨o0, ho0⟩ : ∃ o0, o0 = (gapV (rst s b)).2 := ⟨_, rfl⟩
    rw [← ho0] at hRe
    have hgv : gapV (rst s b) = (n0, o0) := by rw [hn0, ho0]
    simp only [hgv] at hgap
    have hbn : b + n0 ≤ s.size := by rw [hn0]; omega
    have hpass := fun W' (h : Blk W' C (ctrC s b x.1 x.2 v) 103) => pass_any C s b n0 hbn (by omega) x.1 x.2 (by have := hpl.2.2.2; omega) (by have := hpl.2.2.1; omega) v W' h
    have HST := hide hst
    have HRE := hide hRe
    have HRS := hide hrest
    have HGP := hide hgap
    have HPS := hide hpass
    have HPL := hide hpl
    have HN0 := hide hn0
    have HHK := hide hk
    have hgb0 : gB s b = b + n0 := by unfold gB; rw [hn0]
    have HGB := hide hgb0
    have hlc0 : gLC s b x = lcB (rst s b) x n0 := by unfold gLC; rw [hn0]
    have HLC := hide hlc0
    clear hst hRe hrest hgap hpass hpl hn0 ho0 hgv hk hgb0 hlc0 hMW hgl hrz
    go_wp2_with fail
    refine (unhide HRS).mono ?_
    rintro e w1 ⟨rfl, q, rfl⟩
    go_wp2_with fail
    refine (unhide HGP q).mono ?_
    rintro e w2 ⟨rfl, hb⟩
    have HS2 := hide (((unhide HST).drew q).below hb)
    clear hb HRS HGP HST
    go_wp2_with fail
    refine (unhide HPS w2 (unhide HS2).blk).mono ?_
    rintro e w3 ⟨rfl, hblk, hgr⟩
    have HS3 := hide ((unhide HS2).pass (x' := lcB (rst s b) x n0) hblk hgr)
    clear hblk hgr HPS HS2
    cases o0 with
    | false =>
      have hRe := unhide HRE
      have HRF : Hz (R = ⟨false, gB s b, gLC s b x, ws⟩) := hide (by rw [hRe, if_pos rfl])
      clear hRe HRE
      go_wp2_with fail
      show Exit.noGoto _ Exit.ret _ _
      rw [Exit.noGoto_ret]
      go_ret
      obtain ⟨r1, r2, r3, r4⟩ := CutV.parts (unhide HRF)
      have h3 := unhide HS3
      rw [← unhide HLC, ← unhide HGB] at h3
      rw [r1, r2, r3, r4]
      exact ⟨rfl, v, cs, h3⟩
    | true =>
      have hRe := unhide HRE
      have HR2 : Hz (R = if (rst s (gB s b)).size = 0 then ⟨true, gB s b, gLC s b x, ws⟩ else cutWord s f (gB s b) (gLC s b x) ws) := hide (by rw [hRe, if_neg (by decide)])
      have h3 := unhide HS3
      rw [← unhide HLC, ← unhide HGB] at h3
      obtain ⟨b1, hb1⟩ : ∃ b1, b1 = gB s b := ⟨_, rfl⟩
      obtain ⟨x1, hx1⟩ : ∃ x1, x1 = gLC s b x := ⟨_, rfl⟩
      have hbd := lcB_bound (rst s b) x n0 (unhide HPL).2.1
      rw [← unhide HLC] at hbd
      have hpl1 : PlB s b1 x1 ws.length := by
        have hq := (unhide HPL)
        have hg0 := unhide HGB
        rw [hb1, hx1]
        exact ⟨hgB.2, hbd.1, by have := hq.2.2.1; omega, by have := hq.2.2.2; omega, by have := hq.2.2.2; omega⟩
      have hb1s : b1 ≤ s.size := hpl1.1
      have hbb1 : b ≤ b1 := by rw [hb1]; exact hgB.1
      rw [← hb1, ← hx1] at h3
      have HR3 : Hz (R = if (rst s b1).size = 0 then ⟨true, b1, x1, ws⟩ else cutWord s f b1 x1 ws) := hide (by rw [hb1, hx1]; exact unhide HR2)
      have HS4 := hide h3
      have HPL1 := hide hpl1
      clear hRe HRE HR2 h3 hb1 hx1 hbd hpl1 HS3 HLC HGB HPL hgB HN0 hbn
      have c1 := (unhide HS4).blk.cell 1
      have c2 := (unhide HS4).blk.cell 2
      have c3 := (unhide HS4).blk.cell 3
      have HBL : Hz (Blk w3.drew C (ctrC s b1 x1.1 x1.2 v) 103) := hide (unhide HS4).blk
      have g0 := (unhide HS4).box.frozen
      have k0 := (unhide HS4).box.cell
      go_wp2_with fail
      go_region_with ((go_at_call 65; refine (rest_any C s b1 hb1s (by omega) x1.1 x1.2 v _ (unhide HBL)).mono ?_; rintro e w' ⟨rfl, q, rfl⟩))
      all_goals
        have h5 := (((((((((unhide HS4).drew (1 + q)).set 0 (.int .i64 0)).set 1 (.string ⟨#[]⟩)).set 2 (.int .i32 0)).set 3 (.int .i64 0)).set 4 (.int .i64 b1)).set 5 (.int .i64 x1.1)).set 6 (.int .i64 x1.2)).set 7 (.int .i64 0)
        rw [set8 hcs] at h5
        have HS6 : Hz (CutSt w _ C s b1 x1 v ws (wd0 b1 x1)) := hide h5
        clear h5 c1 c2 c3 g0 k0 HBL HS4
        generalize (((((((((w3.drewN (1 + q)).setCell ⟨w.heap.size, 0, none⟩ (.int .i64 0)).setCell ⟨w.heap.size, 1, none⟩ (.string ⟨#[]⟩)).setCell ⟨w.heap.size, 2, none⟩ (.int .i32 0)).setCell ⟨w.heap.size, 3, none⟩ (.int .i64 0)).setCell ⟨w.heap.size, 4, none⟩ (.int .i64 b1)).setCell ⟨w.heap.size, 5, none⟩ (.int .i64 x1.1)).setCell ⟨w.heap.size, 6, none⟩ (.int .i64 x1.2)).setCell ⟨w.heap.size, 7, none⟩ (.int .i64 0)) = W5 at *
        have hrz1 := rst_size s b1
        by_cases hz1 : 0 < (rst s b1).size
        · have hne := toList_ne (rst s b1) hz1
          have hbt := bt_get (rst s b1) 0 hz1
          have HZP := hide hz1
          have HRW : Hz (R = cutWord s f b1 x1 ws) := hide (by rw [unhide HR3, if_neg (by omega)])
          clear HR3
          have hne' : ((rst s b1).toList == []) = false := by simpa using hne
          clear hne
          cases hsm : smallB (bt (rst s b1) 0) with
          | true =>
            have HF := hide hsm
            rw [hbt] at hsm
            clear hbt
            go_wp2_with (first | (go_at_call 67; refine (isSmall_any _ _).mono ?_; rintro e w' ⟨rfl, rfl⟩) | (go_at_call 68; refine (isDigit_any _ _).mono ?_; rintro e w' ⟨rfl, rfl⟩))
            go_step3
            exact ⟨10 * (s.size - b1) + 5, by have := unhide HHK; omega, ⟨by omega, by omega⟩, f, b1, x1, ws, v, rfl, unhide HPL1, by omega, unhide HZP, .inl ⟨rfl, unhide HF⟩, unhide HRW, unhide HS6, mk_act rfl⟩
          | false =>
            cases hdg : digB (bt (rst s b1) 0) with
            | true =>
              have HF := hide (And.intro hsm hdg)
              rw [hbt] at hsm hdg
              clear hbt
              go_wp2_with (first | (go_at_call 67; refine (isSmall_any _ _).mono ?_; rintro e w' ⟨rfl, rfl⟩) | (go_at_call 68; refine (isDigit_any _ _).mono ?_; rintro e w' ⟨rfl, rfl⟩))
              go_step3
              exact ⟨10 * (s.size - b1) + 5, by have := unhide HHK; omega, ⟨by omega, by omega⟩, f, b1, x1, ws, v, rfl, unhide HPL1, by omega, unhide HZP, .inr (.inl ⟨rfl, (unhide HF).1, (unhide HF).2⟩), unhide HRW, unhide HS6, mk_act rfl⟩
            | false =>
              by_cases h85 : bt (rst s b1) 0 = 85
              · have HF := hide h85
                have h85' : ((((rst s b1)[0]'hz1).toNat : Int) == 85) = true := by rw [← hbt, h85]; rfl
                rw [hbt] at hsm hdg
                clear hbt h85
                go_wp2_with (first | (go_at_call 67; refine (isSmall_any _ _).mono ?_; rintro e w' ⟨rfl, rfl⟩) | (go_at_call 68; refine (isDigit_any _ _).mono ?_; rintro e w' ⟨rfl, rfl⟩))
                go_step3
                exact ⟨10 * (s.size - b1) + 5, by have := unhide HHK; omega, ⟨by omega, by omega⟩, f, b1, x1, ws, v, rfl, unhide HPL1, by omega, unhide HZP, .inr (.inr (.inl ⟨rfl, unhide HF⟩)), unhide HRW, unhide HS6, mk_act rfl⟩
              · have h85' : ((((rst s b1)[0]'hz1).toNat : Int) == 85) = false := by rw [beq_eq_false_iff_ne, ← hbt]; omega
                by_cases h39 : bt (rst s b1) 0 = 39
                · have HF := hide h39
                  have h39' : ((((rst s b1)[0]'hz1).toNat : Int) == 39) = true := by rw [← hbt, h39]; rfl
                  rw [hbt] at hsm hdg
                  clear hbt h85 h39
                  go_wp2_with (first | (go_at_call 67; refine (isSmall_any _ _).mono ?_; rintro e w' ⟨rfl, rfl⟩) | (go_at_call 68; refine (isDigit_any _ _).mono ?_; rintro e w' ⟨rfl, rfl⟩))
                  go_step3
                  exact ⟨10 * (s.size - b1) + 5, by have := unhide HHK; omega, ⟨by omega, by omega⟩, f, b1, x1, ws, v, rfl, unhide HPL1, by omega, unhide HZP, .inr (.inr (.inr ⟨rfl, unhide HF⟩)), unhide HRW, unhide HS6, mk_act rfl⟩
                · have h39' : ((((rst s b1)[0]'hz1).toNat : Int) == 39) = false := by rw [beq_eq_false_iff_ne, ← hbt]; omega
                  have hwv : wordV (rst s b1) = ⟨(sgnV (rst s b1)).1, ByteArray.empty, 0, 0, (sgnV (rst s b1)).2.1, (sgnV (rst s b1)).2.2⟩ := by unfold wordV; rw [if_neg (by rw [hsm]; decide), if_neg (by rw [hdg]; decide), if_neg h85, if_neg h39]
                  have HWV := hide hwv
                  rw [hbt] at hsm hdg
                  clear hbt h85 h39 hwv
                  go_wp2_with (first | (go_at_call 67; refine (isSmall_any _ _).mono ?_; rintro e w' ⟨rfl, rfl⟩) | (go_at_call 68; refine (isDigit_any _ _).mono ?_; rintro e w' ⟨rfl, rfl⟩))
                  refine (sign_any (rst s b1) hz1 _).mono ?_
                  rintro e w6 ⟨rfl, rfl⟩
                  have k0 := (unhide HS6).box.cell 0
                  have f0 := (unhide HS6).box.frozen 0
                  have HS7 := hide ((unhide HS6).set 0 (.int .i64 ((sgnV (rst s b1)).1 : Nat)))
                  have e1 : (wordV (rst s b1)).n = (sgnV (rst s b1)).2.1 := by rw [unhide HWV]
                  have e2 : (wordV (rst s b1)).ok = (sgnV (rst s b1)).2.2 := by rw [unhide HWV]
                  have HE := hide (And.intro e1 e2)
                  clear e1 e2
                  go_wp2_with fail
                  go_step3
                  refine ⟨10 * (s.size - b1) + 2, by have := unhide HHK; omega, f, b1, x1, ws, v, _, rfl, unhide HPL1, by omega, unhide HZP, rfl, fun _ => ?_, unhide HRW, unhide HS7, ?_⟩
                  · rw [unhide HWV]; rfl
                  · rw [(unhide HE).1, (unhide HE).2]; exact mk_act rfl
        · have he : rst s b1 = ByteArray.empty := toList_nil _ (by omega)
          have hte : ((rst s b1).toList == []) = true := by rw [he, ByteArray.toList_eq]; rfl
          have HRF : Hz (R = ⟨true, b1, x1, ws⟩) := hide (by rw [unhide HR3, if_pos (by omega)])
          clear HR3 he hz1
          go_wp2_with fail
          show Exit.noGoto _ Exit.ret _ _
          rw [Exit.noGoto_ret]
          go_ret
          obtain ⟨r1, r2, r3, r4⟩ := CutV.parts (unhide HRF)
          rw [r1, r2, r3, r4]
          exact ⟨rfl, v, _, unhide HS6⟩
  case pass =>
    rintro l k a W hl4 hl5 hJ
    match l, hJ, hl4, hl5 with
    | 0, ⟨_, f, b, x, ws, v, hk, hpl, hfu, hz, hcase, hRe, hst, U, ha⟩, _, _ =>
      subst ha
      refine ⟨_, rfl, ?_⟩
      have hsm : smallB (bt (rst s b) 0) = true := by
        rcases hcase with h | h | h | h
        · exact h.2
        · omega
        · omega
        · omega
      have hwv : wordV (rst s b) = ⟨1, (rst s b).extract 0 (nameLen (rst s b)), 0, 0, nameLen (rst s b), edgeB (rst s b) (nameLen (rst s b))⟩ := by unfold wordV; rw [if_pos hsm]
      have hrz := rst_size s b
      have hnl := (nameLen_le (rst s b)).1
      have hnm := named_any (rst s b) (by unfold maxLen; omega) W
      obtain ⟨n, hn⟩ : ∃ n, n = nameLen (rst s b) := ⟨_, rfl⟩
      rw [← hn] at hwv hnl hnm
      have hn1 : (n : Int) ≤ ((rst s b).size : Int) := by omega
      have hn2 : ((n : Nat) : Int).toNat = n := by omega
      have k0 := hst.box.cell 0
      have k1 := hst.box.cell 1
      have f0 := hst.box.frozen 0
      have f1 := hst.box.frozen 1
      have HNM := hide hnm
      have HWV := hide hwv
      have H0 := hide (And.intro hk (And.intro hpl (And.intro hfu (And.intro hz hRe))))
      have HST := hide hst
      clear hnm hwv hk hpl hfu hz hRe hst hcase hn
      go_wp2_with fail
      refine (unhide HNM).mono ?_
      rintro e w1 ⟨rfl, rfl⟩
      go_wp2_with fail
      go_region_with (fail)
      all_goals
        have h5 := (((unhide HST).set 0 (.int .i64 1)).set 1 (.string ((rst s b).extract 0 n))).drew1
        have HS7 := hide h5
        have e1 : (wordV (rst s b)).n = n := by rw [unhide HWV]
        have e2 : (wordV (rst s b)).ok = edgeB (rst s b) (wordV (rst s b)).n := by rw [unhide HWV]
        have HE := hide (And.intro e1 e2)
        clear h5 e1 e2 k0 k1 f0 f1 HST
        generalize ((w1.setCell ⟨w.heap.size, 0, none⟩ (.int .i64 1)).setCell ⟨w.heap.size, 1, none⟩ (.string ((rst s b).extract 0 n))).drew = W5 at *
        go_wp2_with fail
        go_step3
        obtain ⟨hk, hpl, hfu, hz, hRe⟩ := unhide H0
        refine ⟨10 * (s.size - b) + 3, by omega, f, b, x, ws, v, rfl, hpl, hfu, hz, (unhide HE).2, hRe, ?_, ?_⟩
        · exact CutSt.as (unhide HS7) (by rw [unhide HWV]; simp)
        · rw [(unhide HE).1]; exact mk_act rfl
    | 1, ⟨_, f, b, x, ws, v, hk, hpl, hfu, hz, hcase, hRe, hst, U, ha⟩, _, _ =>
      subst ha
      refine ⟨_, rfl, ?_⟩
      have hsd : smallB (bt (rst s b) 0) = false ∧ digB (bt (rst s b) 0) = true := by
        rcases hcase with h | h | h | h
        · omega
        · exact h.2
        · omega
        · omega
      have hwv : wordV (rst s b) = ⟨2, ByteArray.empty, 0, (numV (rst s b)).1, (numV (rst s b)).2, edgeB (rst s b) (numV (rst s b)).2⟩ := by unfold wordV; rw [if_neg (by rw [hsd.1]; decide), if_pos hsd.2]
      have hrz := rst_size s b
      have hnm := fun W' => number_any (rst s b) (by omega) hz hsd.2 W'
      obtain ⟨n, hn⟩ : ∃ n, n = (numV (rst s b)).2 := ⟨_, rfl⟩
      obtain ⟨y, hy⟩ : ∃ y, y = (numV (rst s b)).1 := ⟨_, rfl⟩
      rw [← hn, ← hy] at hwv
      simp only [← hn, ← hy] at hnm
      have h1 := hst.set 0 (.int .i64 2)
      have k0 := hst.box.cell 0
      have f0 := hst.box.frozen 0
      have k3 := h1.box.cell 3
      have f3 := h1.box.frozen 3
      have HS7 := hide (h1.set 3 (.int .i64 y))
      have HNM := hide hnm
      have HWV := hide hwv
      have H0 := hide (And.intro hk (And.intro hpl (And.intro hfu (And.intro hz hRe))))
      clear hnm hwv hk hpl hfu hz hRe hst hcase hn hy h1 hsd
      go_wp2_with fail
      refine (unhide HNM _).mono ?_
      rintro e w1 ⟨rfl, rfl⟩
      have e1 : (wordV (rst s b)).n = n := by rw [unhide HWV]
      have e2 : (wordV (rst s b)).ok = edgeB (rst s b) (wordV (rst s b)).n := by rw [unhide HWV]
      have HE := hide (And.intro e1 e2)
      clear e1 e2
      go_wp2_with fail
      go_step3
      obtain ⟨hk, hpl, hfu, hz, hRe⟩ := unhide H0
      refine ⟨10 * (s.size - b) + 3, by omega, f, b, x, ws, v, rfl, hpl, hfu, hz, (unhide HE).2, hRe, ?_, ?_⟩
      · exact CutSt.as (unhide HS7) (by rw [unhide HWV]; simp)
      · rw [(unhide HE).1]; exact mk_act rfl
    | 2, ⟨_, f, b, x, ws, v, hk, hpl, hfu, hz, hcase, hRe, hst, U, ha⟩, _, _ =>
      subst ha
      refine ⟨_, rfl, ?_⟩
      have h85 : bt (rst s b) 0 = 85 := by
        rcases hcase with h | h | h | h
        · omega
        · omega
        · exact h.2
        · omega
      have hwv : wordV (rst s b) = ⟨3, ByteArray.empty, (numdV (rst s b)).1, 0, (numdV (rst s b)).2.1, (numdV (rst s b)).2.2 && edgeB (rst s b) (numdV (rst s b)).2.1⟩ := by unfold wordV; rw [h85, if_neg (by decide), if_neg (by decide), if_pos rfl]
      have hrz := rst_size s b
      have hnm := fun W' => numbered_any (rst s b) (by omega) W'
      obtain ⟨y, n, o, hno⟩ : ∃ y n o, numdV (rst s b) = (y, n, o) := prod3 _
      rw [hno] at hwv
      simp only [hno] at hnm
      have h1 := hst.set 0 (.int .i64 3)
      have k0 := hst.box.cell 0
      have f0 := hst.box.frozen 0
      have k2 := h1.box.cell 2
      have f2 := h1.box.frozen 2
      have HS7 := hide (h1.set 2 (.int .i32 y))
      have HNM := hide hnm
      have HWV := hide hwv
      have H0 := hide (And.intro hk (And.intro hpl (And.intro hfu (And.intro hz hRe))))
      clear hnm hwv hk hpl hfu hz hRe hst hcase hno h1 h85
      go_wp2_with fail
      refine (unhide HNM _).mono ?_
      rintro e w1 ⟨rfl, rfl⟩
      cases o with
      | true =>
        have e1 : (wordV (rst s b)).n = n := by rw [unhide HWV]
        have e2 : (wordV (rst s b)).ok = edgeB (rst s b) (wordV (rst s b)).n := by rw [unhide HWV]; rfl
        have HE := hide (And.intro e1 e2)
        clear e1 e2
        go_wp2_with fail
        go_step3
        obtain ⟨hk, hpl, hfu, hz, hRe⟩ := unhide H0
        refine ⟨10 * (s.size - b) + 3, by omega, f, b, x, ws, v, rfl, hpl, hfu, hz, (unhide HE).2, hRe, ?_, ?_⟩
        · exact CutSt.as (unhide HS7) (by rw [unhide HWV]; simp)
        · rw [(unhide HE).1]; exact mk_act rfl
      | false =>
        have e1 : (wordV (rst s b)).n = n := by rw [unhide HWV]
        have e2 : (wordV (rst s b)).ok = false := by rw [unhide HWV]; rfl
        have HE := hide (And.intro e1 e2)
        clear e1 e2
        go_wp2_with fail
        go_step3
        obtain ⟨hk, hpl, hfu, hz, hRe⟩ := unhide H0
        refine ⟨10 * (s.size - b) + 2, by omega, f, b, x, ws, v, _, rfl, hpl, hfu, hz, rfl, fun h => absurd ((unhide HE).2.symm.trans h) (by decide), hRe, unhide HS7, ?_⟩
        rw [(unhide HE).1, (unhide HE).2]; exact mk_act rfl
    | 3, ⟨_, f, b, x, ws, v, hk, hpl, hfu, hz, hcase, hRe, hst, U, ha⟩, _, _ =>
      subst ha
      refine ⟨_, rfl, ?_⟩
      have h39 : bt (rst s b) 0 = 39 := by
        rcases hcase with h | h | h | h
        · omega
        · omega
        · omega
        · exact h.2
      have hwv : wordV (rst s b) = ⟨3, ByteArray.empty, (quoV (rst s b)).1, 0, (quoV (rst s b)).2.1, (quoV (rst s b)).2.2⟩ := by unfold wordV; rw [h39, if_neg (by decide), if_neg (by decide), if_neg (by decide), if_pos rfl]
      have hrz := rst_size s b
      have hnm := fun W' => quoted_any (rst s b) (by omega) hz W'
      obtain ⟨y, n, o, hno⟩ : ∃ y n o, quoV (rst s b) = (y, n, o) := prod3 _
      rw [hno] at hwv
      simp only [hno] at hnm
      have h1 := hst.set 0 (.int .i64 3)
      have k0 := hst.box.cell 0
      have f0 := hst.box.frozen 0
      have HS6 := hide h1
      have HNM := hide hnm
      have HWV := hide hwv
      have H0 := hide (And.intro hk (And.intro hpl (And.intro hfu (And.intro hz hRe))))
      clear hnm hwv hk hpl hfu hz hRe hst hcase hno h1 h39
      go_wp2_with fail
      refine (unhide HNM _).mono ?_
      rintro e w1 ⟨rfl, hb⟩
      have h2 := (unhide HS6).below hb
      have k2 := h2.box.cell 2
      have f2 := h2.box.frozen 2
      have HS7 := hide (h2.set 2 (.int .i32 y))
      have e1 : (wordV (rst s b)).n = n := by rw [unhide HWV]
      have e2 : (wordV (rst s b)).ok = o := by rw [unhide HWV]
      have HE := hide (And.intro e1 e2)
      clear e1 e2 hb h2 k0 f0 HS6
      go_wp2_with fail
      go_step3
      obtain ⟨hk, hpl, hfu, hz, hRe⟩ := unhide H0
      refine ⟨10 * (s.size - b) + 2, by omega, f, b, x, ws, v, _, rfl, hpl, hfu, hz, rfl, fun h => ?_, hRe, unhide HS7, ?_⟩
      · rw [unhide HWV]; simp
      · rw [(unhide HE).1, (unhide HE).2]; exact mk_act rfl
    | 4, hJ, h4, _ => exact absurd rfl h4
    | 5, hJ, _, h5 => exact absurd rfl h5
    | n + 6, ⟨h, _⟩, _, _ => omega
  case six =>
    rintro h5 k a W ⟨f, b, x, ws, v, hk, hpl, hfu, hz, hok, hRe, hst, U, ha⟩
    subst ha
    refine ⟨_, rfl, ?_⟩
    have hrz := rst_size s b
    have hnl := (wordV_le (rst s b) hz).1
    obtain ⟨n, hn⟩ : ∃ n, n = (wordV (rst s b)).n := ⟨_, rfl⟩
    have hok2 : (wordV (rst s b)).ok = edgeB (rst s b) n := by rw [hn]; exact hok
    rw [← hn] at hnl
    rw [← hn]
    have H5 := hide h5
    have HST := hide hst
    have H0 := hide (And.intro hk (And.intro hpl (And.intro hfu (And.intro hz hRe))))
    have HOK := hide hok2
    have HN := hide hn
    clear h5 hst hk hpl hfu hRe hok hok2 hn
    obtain ⟨t, ht⟩ : ∃ t, t = rst s b := ⟨_, rfl⟩
    have fin : ∀ (o : Bool) (a' : Act), o = edgeB t n → (∃ U : Nat → Value, a' = { tmps := #[.pointer (some ⟨C, 0, none⟩), U 1, .bool false, .pointer (some ⟨w.heap.size, 0, none⟩), .string t, .int .i64 n, .bool o, U 7, U 8, U 9, U 10, U 11, U 12, U 13, U 14, U 15, U 16, U 17, U 18, U 19, U 20, U 21, U 22, U 23, U 24, U 25, U 26, U 27, U 28, U 29, U 30, U 31, U 32, U 33, U 34, U 35, U 36, U 37, U 38, U 39, U 40, U 41, U 42, U 43, U 44, U 45, U 46, U 47, U 48, U 49, U 50, U 51, U 52, U 53, U 54, U 55, U 56, U 57, U 58, U 59, U 60, U 61, U 62, U 63, U 64, U 65, U 66, U 67, U 68, U 69, U 70, U 71, U 72, U 73, U 74, U 75, U 76, U 77, U 78, U 79, U 80, U 81, U 82, U 83, U 84, U 85, U 86, U 87, U 88, U 89, U 90, U 91, U 92, U 93, U 94, U 95, U 96, U 97, U 98, U 99, U 100, U 101, U 102, U 103, U 104, U 105, U 106, U 107, U 108, U 109, U 110, U 111, U 112, U 113], defers := [] }) → cutJ w C s R 5 (10 * (s.size - b) + 2) a' W := by
      rintro o a' ho ⟨U, rfl⟩
      obtain ⟨hk, hpl, hfu, hz, hRe⟩ := unhide H0
      refine ⟨f, b, x, ws, v, _, rfl, hpl, hfu, hz, rfl, fun _ => rfl, hRe, unhide HST, U, ?_⟩
      rw [← unhide HN, unhide HOK, ho, ht]
    have FIN := hide fin
    have hnl2 : n ≤ t.size := by rw [ht]; exact hnl
    have HH0 := hide (unhide H0).1
    rw [← ht]
    clear fin hnl hrz hz ht HOK HN HST
    by_cases hns : n = t.size
    · have he : edgeB t n = true := by unfold edgeB; rw [decide_eq_true hns]; rfl
      have HE := hide he
      subst hns
      have hns' : ((t.size : Int) == (t.size : Int)) = true := by simp
      clear he
      go_wp2_with fail
      rename_i K hK
      go_step3
      apply hK
      refine jumps_mono (unhide H5 (10 * (s.size - b) + 2) _ _ (unhide FIN true _ (unhide HE).symm (mk_act rfl))) ?_
      exact fun l a w ⟨k', hlt, hk'⟩ => ⟨k', by have := unhide HH0; omega, hk'⟩
    · have hlt : n < t.size := by omega
      have hbt := bt_get t n hlt
      have he : edgeB t n = !stkB (bt t n) := by unfold edgeB; rw [decide_eq_false hns]; rfl
      rw [hbt] at he
      have hns' : ((n : Int) == (t.size : Int)) = false := by rw [beq_eq_false_iff_ne]; omega
      have hi1 : (n : Int) < (t.size : Int) := by omega
      have hi2 : ((n : Nat) : Int).toNat = n := by omega
      have HE := hide he
      clear hns he hbt
      go_wp2_with fail
      refine (sticks_any _ _).mono ?_
      rintro e w1 ⟨rfl, rfl⟩
      go_wp2_with fail
      rename_i K hK
      go_step3
      apply hK
      refine jumps_mono (unhide H5 (10 * (s.size - b) + 2) _ _ (unhide FIN _ _ (unhide HE).symm (mk_act rfl))) ?_
      exact fun l a w ⟨k', hlt, hk'⟩ => ⟨k', by have := unhide HH0; omega, hk'⟩
  case five =>
    rintro k a W ⟨f, b, x, ws, v, cs, hk, hpl, hfu, hz, hcs, hw1, hRe, hst, U, ha⟩
    subst ha
    have hrz := rst_size s b
    have hle := wordV_le (rst s b) hz
    obtain ⟨n, hn⟩ : ∃ n, n = (wordV (rst s b)).n := ⟨_, rfl⟩
    obtain ⟨o, ho⟩ : ∃ o, o = (wordV (rst s b)).ok := ⟨_, rfl⟩
    obtain ⟨y, hy⟩ : ∃ y, y = wordV (rst s b) := ⟨_, rfl⟩
    rw [← hn, ← ho] at hle
    rw [← ho, ← hy] at hw1
    rw [← hn, ← ho]
    have hbn : b + n ≤ s.size := by omega
    have hps := pass_any C s b n hbn (by omega) x.1 x.2 (by have := hpl.2.2.2; omega) (by have := hpl.2.2.1; omega) v W hst.blk
    have hRe2 : R = if o = false then ⟨false, b + n, lcB (rst s b) x n, ws⟩ else cutGo s f (b + n) (lcB (rst s b) x n) (ws ++ [⟨y, b, x.1, x.2, b + n⟩]) := by rw [hRe, hn, ho, hy]; rfl
    have HPS := hide hps
    have HST := hide hst
    have HRE := hide hRe2
    have HW1 := hide hw1
    have H0 := hide (And.intro hk (And.intro hpl (And.intro hfu hle)))
    clear hps hst hRe hRe2 hw1 hk hpl hfu hz hn ho hy hle hrz
    go_wp2_with fail
    refine (unhide HPS).mono ?_
    rintro e w1 ⟨rfl, hblk, hgr⟩
    have HS2 := hide ((unhide HST).pass (x' := lcB (rst s b) x n) hblk hgr)
    clear hblk hgr HPS HST
    cases o with
    | false =>
      have HRF : Hz (R = ⟨false, b + n, lcB (rst s b) x n, ws⟩) := hide (by rw [unhide HRE, if_pos rfl])
      clear HRE
      go_wp2_with fail
      show Exit.noGoto _ Exit.ret _ _
      rw [Exit.noGoto_ret]
      go_ret
      obtain ⟨r1, r2, r3, r4⟩ := CutV.parts (unhide HRF)
      rw [r1, r2, r3, r4]
      exact ⟨rfl, v, cs, unhide HS2⟩
    | true =>
      have HRF : Hz (R = cutGo s f (b + n) (lcB (rst s b) x n) (ws ++ [⟨y, b, x.1, x.2, b + n⟩])) := hide (by rw [unhide HRE, if_neg (by decide)])
      obtain rfl := unhide HW1 rfl
      have h2 := unhide HS2
      have c1 := h2.blk.cell 1
      have k7 := h2.box.cell 7
      have f7 := h2.box.frozen 7
      obtain ⟨ci, hci⟩ : ∃ ci, ci = (#[.int .i64 y.kind, .string y.S, .int .i32 y.R, .int .i64 y.N, .int .i64 b, .int .i64 x.1, .int .i64 x.2, .int .i64 ((b : Int) + n)] : Array Value) := ⟨_, rfl⟩
      have HS3 : Hz (CutSt w (w1.setCell ⟨w.heap.size, 7, none⟩ (.int .i64 ((b : Int) + n))) C s (b + n) (lcB (rst s b) x n) v ws ci) := hide ((h2.set 7 (.int .i64 ((b : Int) + n))).as (by rw [hci]; simp))
      have hbb : (b : Int) ≤ 262144 := by omega
      have hnb : (n : Int) ≤ 262144 := by omega
      have c1' : w1.cell? ⟨C, 1, none⟩ = some (.int .i64 ((b : Int) + n)) := by rw [c1]; simp [Int.natCast_add]
      clear HRE HW1 h2 HS2 c1
      go_wp2_with fail
      clear c1' k7 f7
      generalize w1.setCell ⟨w.heap.size, 7, none⟩ (.int .i64 ((b : Int) + n)) = W3 at *
      have h3 := unhide HS3
      subst hci
      obtain ⟨i0, hi, hz0, hz1, hz2⟩ := info_parts infoWord
      have HI := hide (And.intro hi (And.intro hz0 (And.intro hz1 hz2)))
      have d4 := h3.blk.cell 4
      have e4 := h3.blk.frozen 4
      have m0 := h3.box.cell 0
      have m1 := h3.box.cell 1
      have m2 := h3.box.cell 2
      have m3 := h3.box.cell 3
      have m4 := h3.box.cell 4
      have m5 := h3.box.cell 5
      have m6 := h3.box.cell 6
      have m7 := h3.box.cell 7
      have hmx : Tryz.prog.follows .mixedOrders = true := by kernel_rfl
      have hown := h3.own
      have hbase : w.heap.size + 1 ≤ W3.heap.size := h3.box.lt
      have hwl : ws.length ≤ 262144 := by have := (unhide H0).2.1; have h9 := this.2.2.2; have h8 := this.1; omega
      have dd4 : ∀ o, (W3.alloc o).cell? ⟨C, 4, none⟩ = some v := fun o => (h3.blk.alloc o).cell 4
      have dd5 : ∀ o, (W3.alloc o).drew.cell? ⟨C, 4, none⟩ = some v := dd4
      have fz : ∀ o, (W3.alloc o).frozen? ⟨C, 4, none⟩ = false := fun o => (h3.blk.alloc o).frozen 4
      have fz2 : ∀ o, (W3.alloc o).drew.frozen? ⟨C, 4, none⟩ = false := fz
      clear hi hz0 hz1 hz2 h3
      go_region_law ((refine step_append_lies _ (by rfl) _ _ _ (by rfl) (w.heap.size + 1) 115 i0 _ 8 72 Tryz.underlying47 (unhide HI).1 (unhide HI).2.1 (unhide HI).2.2.1 (unhide HI).2.2.2 rfl (by omega) v ws.length (encWs ws) (by rfl) ((hown.alloc _).drew) ⟨W3.heap.size, 0, none⟩ 1 1 [.int .i64 y.kind, .string y.S, .int .i32 y.R, .int .i64 y.N, .int .i64 b, .int .i64 x.1, .int .i64 x.2, .int .i64 ((b : Int) + n)] (by rfl) (by rfl) (World.news_of_block (cs := #[.int .i64 y.kind, .string y.S, .int .i32 y.R, .int .i64 y.N, .int .i64 b, .int .i64 x.1, .int .i64 x.2, .int .i64 ((b : Int) + n)]) (t := 115) (fr := (0, 0)) (heap_alloc_new W3 _)) (by simp [Value.oneCell']) (by omega) (by unfold maxLen; omega) (by omega) (by simp; omega) (W3.heap.size + 1) (by simp) ?_; intro gg cap w3 hown1 hgrow hatt hlt; obtain ⟨q1, q2⟩ := (unhide HS3).app hgrow; have q3 := q1.cell 4; have q4 := q1.frozen 4))
      all_goals
        have ew : wdCells ⟨y, b, x.1, x.2, b + n⟩ = [.int .i64 y.kind, .string y.S, .int .i32 y.R, .int .i64 y.N, .int .i64 b, .int .i64 x.1, .int .i64 x.2, .int .i64 ((b : Int) + n)] := by simp [wdCells, Int.natCast_add]
        have h9 := (unhide HS3).push (X := ⟨y, b, x.1, x.2, b + n⟩) hgrow (by rw [ew]; exact hown1)
        have HS9 := hide h9
        clear h9 hown1 hgrow hatt hlt q1 q2 q3 q4 d4 e4 m0 m1 m2 m3 m4 m5 m6 m7 dd4 dd5 fz fz2 hown HS3
        go_wp2_with fail
        go_step3
        obtain ⟨hk, hpl, hfu, hle⟩ := unhide H0
        have h1n := hle.2 (by trivial)
        have hbd := lcB_bound (rst s b) x n hpl.2.1
        refine ⟨10 * (s.size - (b + n)) + 9, by omega, f, b + n, lcB (rst s b) x n, _, _, _, rfl, ⟨hbn, hbd.1, by have := hpl.2.2.1; omega, by have := hpl.2.2.2; omega, ?_⟩, by omega, rfl, unhide HRF, unhide HS9, mk_act rfl⟩
        rw [List.length_append]
        have := hpl.2.2.2
        simp
        omega
end Go.Proofs.YtjgfmobmilgapaaGreatDoor
