/- A table in new memory, marks behind all of its lists (guisekeep6.Whole). -/
import Derived.Test.YtjgfmobmilgapaaGreatDoorM21
import Derived.Test.YtjgfmobmilgapaaGreatDoorM22
import Derived.Test.YtjgfmobmilgapaaGreatDoorM19
import Derived.Deep.RegionHeld3
namespace Go.Proofs.YtjgfmobmilgapaaGreatDoor
open Go.RowKit Go.Shelf
set_option linter.unusedVariables false
/-- The marks' variables. -/
structure EnvR (W : World) : Prop where
  m0 : W.cell? ⟨0, 0, none⟩ = some (.int .i32 (-77))
  m1 : W.cell? ⟨0, 1, none⟩ = some (.int .i32 0)
  m2 : W.cell? ⟨1, 0, none⟩ = some (.int .i32 0)
  m3 : W.cell? ⟨1, 1, none⟩ = some (.int .i64 (-77))
  m4 : W.cell? ⟨2, 0, none⟩ = some (.int .i32 (-77))
  m5 : W.cell? ⟨2, 1, none⟩ = some (.int .i32 0)
  m6 : W.cell? ⟨2, 2, none⟩ = some (.int .i32 0)
  m7 : W.cell? ⟨3, 0, none⟩ = some (.int .i32 (-77))
  m8 : W.cell? ⟨3, 1, none⟩ = some (.string ⟨#[]⟩)
  big : 4 ≤ W.heap.size
theorem EnvR.below {W W' : World} (h : EnvR W) (hb : Below W.heap.size W W') : EnvR W' :=
  ⟨(hb.cell (p := ⟨0, 0, none⟩) (by have := h.big; show (0 : Nat) < _; omega)).trans h.m0, (hb.cell (p := ⟨0, 1, none⟩) (by have := h.big; show (0 : Nat) < _; omega)).trans h.m1, (hb.cell (p := ⟨1, 0, none⟩) (by have := h.big; show (1 : Nat) < _; omega)).trans h.m2, (hb.cell (p := ⟨1, 1, none⟩) (by have := h.big; show (1 : Nat) < _; omega)).trans h.m3, (hb.cell (p := ⟨2, 0, none⟩) (by have := h.big; show (2 : Nat) < _; omega)).trans h.m4, (hb.cell (p := ⟨2, 1, none⟩) (by have := h.big; show (2 : Nat) < _; omega)).trans h.m5, (hb.cell (p := ⟨2, 2, none⟩) (by have := h.big; show (2 : Nat) < _; omega)).trans h.m6, (hb.cell (p := ⟨3, 0, none⟩) (by have := h.big; show (3 : Nat) < _; omega)).trans h.m7, (hb.cell (p := ⟨3, 1, none⟩) (by have := h.big; show (3 : Nat) < _; omega)).trans h.m8, Nat.le_trans h.big hb.size⟩
theorem own_bel {w w' : World} {lo E sz n : Nat} {v : Value} {xs : List Value} (h : w.ownsRow lo E sz v n xs) (hb : Below w.heap.size w w') : w'.ownsRow lo E sz v n xs :=
  rd_other h (below_grown (row := none) hb) (by cases v.ownBlock <;> simp)
/-- A list with room behind it. -/
def RmG (w : World) (lo E sz n : Nat) (xs : List Value) (v : Value) : Prop :=
  ∃ g, v = .slice (some ⟨g, 0, none⟩) n (n + 8) ∧ w.ownsRow lo E sz (.slice (some ⟨g, 0, none⟩) (n + 8) (n + 8)) (n + 8) xs
theorem RmG.below {w w' : World} {lo E sz n : Nat} {xs : List Value} {v : Value} (h : RmG w lo E sz n xs v) (hb : Below w.heap.size w w') : RmG w' lo E sz n xs v := by
  obtain ⟨g, e, ho⟩ := h
  exact ⟨g, e, own_bel ho hb⟩
theorem RmG.lt {w : World} {lo E sz n : Nat} {xs : List Value} {v : Value} (h : RmG w lo E sz n xs v) (b : Nat) (hb : v.ownBlock = some b) : b < w.heap.size := by
  obtain ⟨g, rfl, ho⟩ := h
  exact own_ltW ho b hb
/-- The seven lists without rows of their own. -/
structure WhL (w : World) (lo : Nat) (T : TV) (g : Nat → Nat) : Prop where
  r1 : w.ownsRow lo 68 2 (.slice (some ⟨g 1, 0, none⟩) (T.co.length + 8) (T.co.length + 8)) (T.co.length + 8) (encS2 T.co ++ mkN [.int .i32 (-77), .int .i32 0] 8)
  r2 : w.ownsRow lo 71 2 (.slice (some ⟨g 2, 0, none⟩) (T.ma.length + 8) (T.ma.length + 8)) (T.ma.length + 8) (encM2 T.ma ++ mkN [.int .i32 0, .int .i64 (-77)] 8)
  r3 : w.ownsRow lo 74 3 (.slice (some ⟨g 3, 0, none⟩) (T.pr.length + 8) (T.pr.length + 8)) (T.pr.length + 8) (encP3 T.pr ++ mkN [.int .i32 (-77), .int .i32 0, .int .i32 0] 8)
  r4 : w.ownsRow lo 77 2 (.slice (some ⟨g 4, 0, none⟩) (T.fo.length + 8) (T.fo.length + 8)) (T.fo.length + 8) (encF2 T.fo ++ mkN [.int .i32 (-77), .string ⟨#[]⟩] 8)
  r5 : w.ownsRow lo 77 2 (.slice (some ⟨g 5, 0, none⟩) (T.lk.length + 8) (T.lk.length + 8)) (T.lk.length + 8) (encF2 T.lk ++ mkN [.int .i32 (-77), .string ⟨#[]⟩] 8)
  r6 : w.ownsRow lo 68 2 (.slice (some ⟨g 6, 0, none⟩) (T.dr.length + 8) (T.dr.length + 8)) (T.dr.length + 8) (encS2 T.dr ++ mkN [.int .i32 (-77), .int .i32 0] 8)
  r7 : w.ownsRow lo 68 2 (.slice (some ⟨g 7, 0, none⟩) (T.al.length + 8) (T.al.length + 8)) (T.al.length + 8) (encS2 T.al ++ mkN [.int .i32 (-77), .int .i32 0] 8)
  ap : ∀ i j, 1 ≤ i → i ≤ 7 → 1 ≤ j → j ≤ 7 → i ≠ j → g i ≠ g j
theorem WhL.below {w w' : World} {lo : Nat} {T : TV} {g : Nat → Nat} (h : WhL w lo T g) (hb : Below w.heap.size w w') : WhL w' lo T g :=
  ⟨own_bel h.r1 hb, own_bel h.r2 hb, own_bel h.r3 hb, own_bel h.r4 hb, own_bel h.r5 hb, own_bel h.r6 hb, own_bel h.r7 hb, h.ap⟩
theorem WhL.kept {w w' : World} {lo N : Nat} {T : TV} {g : Nat → Nat} (h : WhL w lo T g) (hg : w.grownBy w' (some N)) (hN : ∀ i, 1 ≤ i → i ≤ 7 → g i ≠ N) : WhL w' lo T g :=
  ⟨rd_other h.r1 hg (.inr (fun e => hN 1 (by decide) (by decide) (Option.some.inj e))), rd_other h.r2 hg (.inr (fun e => hN 2 (by decide) (by decide) (Option.some.inj e))), rd_other h.r3 hg (.inr (fun e => hN 3 (by decide) (by decide) (Option.some.inj e))), rd_other h.r4 hg (.inr (fun e => hN 4 (by decide) (by decide) (Option.some.inj e))), rd_other h.r5 hg (.inr (fun e => hN 5 (by decide) (by decide) (Option.some.inj e))), rd_other h.r6 hg (.inr (fun e => hN 6 (by decide) (by decide) (Option.some.inj e))), rd_other h.r7 hg (.inr (fun e => hN 7 (by decide) (by decide) (Option.some.inj e))), h.ap⟩
/-- What is said of each value of the first region. -/
def whD (B lo : Nat) (T : TV) (a0 a1 a2 a3 a4 a5 a6 a7 : Option Addr) (c0 c1 c2 c3 c4 c5 c6 c7 : Nat) : Nat → Value → World → Prop
  | 0, v, w => v = .pointer (some ⟨B, 1, none⟩)
  | 1, v, w => v = .slice a1 T.co.length c1
  | 2, v, w => v = .agg #[.int .i32 (-77), .int .i32 0]
  | 3, v, w => RmG w lo 68 2 T.co.length (encS2 T.co ++ mkN [.int .i32 (-77), .int .i32 0] 8) v
  | 4, v, w => v = .pointer (some ⟨B, 2, none⟩)
  | 5, v, w => v = .slice a2 T.ma.length c2
  | 6, v, w => v = .agg #[.int .i32 0, .int .i64 (-77)]
  | 7, v, w => RmG w lo 71 2 T.ma.length (encM2 T.ma ++ mkN [.int .i32 0, .int .i64 (-77)] 8) v
  | 8, v, w => v = .pointer (some ⟨B, 3, none⟩)
  | 9, v, w => v = .slice a3 T.pr.length c3
  | 10, v, w => v = .agg #[.int .i32 (-77), .int .i32 0, .int .i32 0]
  | 11, v, w => RmG w lo 74 3 T.pr.length (encP3 T.pr ++ mkN [.int .i32 (-77), .int .i32 0, .int .i32 0] 8) v
  | 12, v, w => v = .pointer (some ⟨B, 4, none⟩)
  | 13, v, w => v = .slice a4 T.fo.length c4
  | 14, v, w => v = .agg #[.int .i32 (-77), .string ⟨#[]⟩]
  | 15, v, w => RmG w lo 77 2 T.fo.length (encF2 T.fo ++ mkN [.int .i32 (-77), .string ⟨#[]⟩] 8) v
  | 16, v, w => v = .pointer (some ⟨B, 5, none⟩)
  | 17, v, w => v = .slice a5 T.lk.length c5
  | 18, v, w => v = .agg #[.int .i32 (-77), .string ⟨#[]⟩]
  | 19, v, w => RmG w lo 77 2 T.lk.length (encF2 T.lk ++ mkN [.int .i32 (-77), .string ⟨#[]⟩] 8) v
  | 20, v, w => v = .pointer (some ⟨B, 6, none⟩)
  | 21, v, w => v = .slice a6 T.dr.length c6
  | 22, v, w => v = .agg #[.int .i32 (-77), .int .i32 0]
  | 23, v, w => RmG w lo 68 2 T.dr.length (encS2 T.dr ++ mkN [.int .i32 (-77), .int .i32 0] 8) v
  | 24, v, w => v = .pointer (some ⟨B, 7, none⟩)
  | 25, v, w => v = .slice a7 T.al.length c7
  | 26, v, w => v = .agg #[.int .i32 (-77), .int .i32 0]
  | 27, v, w => RmG w lo 68 2 T.al.length (encS2 T.al ++ mkN [.int .i32 (-77), .int .i32 0] 8) v
  | 28, v, w => ∃ g : Nat → Nat, v = .agg #[.slice none 0 0, .slice (some ⟨g 1, 0, none⟩) T.co.length (T.co.length + 8), .slice (some ⟨g 2, 0, none⟩) T.ma.length (T.ma.length + 8), .slice (some ⟨g 3, 0, none⟩) T.pr.length (T.pr.length + 8), .slice (some ⟨g 4, 0, none⟩) T.fo.length (T.fo.length + 8), .slice (some ⟨g 5, 0, none⟩) T.lk.length (T.lk.length + 8), .slice (some ⟨g 6, 0, none⟩) T.dr.length (T.dr.length + 8), .slice (some ⟨g 7, 0, none⟩) T.al.length (T.al.length + 8)] ∧ WhL w lo T g
  | 29, v, w => ∃ M, v = .pointer (some ⟨M, 0, none⟩) ∧ lo ≤ M ∧ Blk w M #[.slice none 0 0, .slice none 0 0, .slice none 0 0, .slice none 0 0, .slice none 0 0, .slice none 0 0, .slice none 0 0, .slice none 0 0] 28
  | _, v, w => True
def whM (j : Nat) : Bool := decide (j < 28) && j % 4 == 3
theorem whD_st {B lo : Nat} {T : TV} {a0 a1 a2 a3 a4 a5 a6 a7 : Option Addr} {c0 c1 c2 c3 c4 c5 c6 c7 : Nat} {w w' : World} (hb : Below w.heap.size w w') : ∀ (j : Nat) (v : Value), whD B lo T a0 a1 a2 a3 a4 a5 a6 a7 c0 c1 c2 c3 c4 c5 c6 c7 j v w → whD B lo T a0 a1 a2 a3 a4 a5 a6 a7 c0 c1 c2 c3 c4 c5 c6 c7 j v w'
  | 0, v, h => h
  | 1, v, h => h
  | 2, v, h => h
  | 3, v, h => RmG.below h hb
  | 4, v, h => h
  | 5, v, h => h
  | 6, v, h => h
  | 7, v, h => RmG.below h hb
  | 8, v, h => h
  | 9, v, h => h
  | 10, v, h => h
  | 11, v, h => RmG.below h hb
  | 12, v, h => h
  | 13, v, h => h
  | 14, v, h => h
  | 15, v, h => RmG.below h hb
  | 16, v, h => h
  | 17, v, h => h
  | 18, v, h => h
  | 19, v, h => RmG.below h hb
  | 20, v, h => h
  | 21, v, h => h
  | 22, v, h => h
  | 23, v, h => RmG.below h hb
  | 24, v, h => h
  | 25, v, h => h
  | 26, v, h => h
  | 27, v, h => RmG.below h hb
  | 28, v, ⟨g, e, h⟩ => ⟨g, e, h.below hb⟩
  | 29, v, ⟨M, e, h1, h⟩ => ⟨M, e, h1, h.below hb h.lt⟩
  | _ + 30, v, h => h
theorem whD_lt {B lo : Nat} {T : TV} {a0 a1 a2 a3 a4 a5 a6 a7 : Option Addr} {c0 c1 c2 c3 c4 c5 c6 c7 : Nat} {w : World} (j : Nat) (v : Value) (hm : whM j = true) (h : whD B lo T a0 a1 a2 a3 a4 a5 a6 a7 c0 c1 c2 c3 c4 c5 c6 c7 j v w) : ∀ b, v.ownBlock = some b → b < w.heap.size := by
  have hj : j < 28 ∧ j % 4 = 3 := by simpa [whM] using hm
  obtain rfl | rfl | rfl | rfl | rfl | rfl | rfl : j = 3 ∨ j = 7 ∨ j = 11 ∨ j = 15 ∨ j = 19 ∨ j = 23 ∨ j = 27 := by omega
  all_goals exact RmG.lt h
def roomS : List Value := [.string ⟨#[114, 111, 111, 109]⟩, .slice none 0 0]
theorem WhL.ne0 {w : World} {lo lo' N : Nat} {T : TV} {g : Nat → Nat} {n : Nat} {v : Value} {xs : List Value} (h : WhL w lo T g) (h0 : w.ownsRow lo' 64 2 v n xs) (hv : v.ownBlock = some N) : ∀ p, 1 ≤ p → p ≤ 7 → g p ≠ N := by
  intro p h1 h7 e
  obtain rfl | rfl | rfl | rfl | rfl | rfl | rfl : p = 1 ∨ p = 2 ∨ p = 3 ∨ p = 4 ∨ p = 5 ∨ p = 6 ∨ p = 7 := by omega
  · rcases rd_apart h.r1 h0 (by decide) with q | q
    · cases q
    · exact q (by rw [hv, ← e]; rfl)
  · rcases rd_apart h.r2 h0 (by decide) with q | q
    · cases q
    · exact q (by rw [hv, ← e]; rfl)
  · rcases rd_apart h.r3 h0 (by decide) with q | q
    · cases q
    · exact q (by rw [hv, ← e]; rfl)
  · rcases rd_apart h.r4 h0 (by decide) with q | q
    · cases q
    · exact q (by rw [hv, ← e]; rfl)
  · rcases rd_apart h.r5 h0 (by decide) with q | q
    · cases q
    · exact q (by rw [hv, ← e]; rfl)
  · rcases rd_apart h.r6 h0 (by decide) with q | q
    · cases q
    · exact q (by rw [hv, ← e]; rfl)
  · rcases rd_apart h.r7 h0 (by decide) with q | q
    · cases q
    · exact q (by rw [hv, ← e]; rfl)
theorem WhL.lt {w : World} {lo : Nat} {T : TV} {g : Nat → Nat} (h : WhL w lo T g) : ∀ p, 1 ≤ p → p ≤ 7 → g p < w.heap.size ∧ lo ≤ g p := by
  intro p h1 h7
  obtain rfl | rfl | rfl | rfl | rfl | rfl | rfl : p = 1 ∨ p = 2 ∨ p = 3 ∨ p = 4 ∨ p = 5 ∨ p = 6 ∨ p = 7 := by omega
  · exact ⟨own_ltW h.r1 _ rfl, rd_from h.r1 _ rfl⟩
  · exact ⟨own_ltW h.r2 _ rfl, rd_from h.r2 _ rfl⟩
  · exact ⟨own_ltW h.r3 _ rfl, rd_from h.r3 _ rfl⟩
  · exact ⟨own_ltW h.r4 _ rfl, rd_from h.r4 _ rfl⟩
  · exact ⟨own_ltW h.r5 _ rfl, rd_from h.r5 _ rfl⟩
  · exact ⟨own_ltW h.r6 _ rfl, rd_from h.r6 _ rfl⟩
  · exact ⟨own_ltW h.r7 _ rfl, rd_from h.r7 _ rfl⟩
theorem WhL.neB {w : World} {lo M : Nat} {T : TV} {g : Nat → Nat} {cs : Array Value} (h : WhL w lo T g) (hb : Blk w M cs 28) : ∀ p, 1 ≤ p → p ≤ 7 → g p ≠ M := by
  intro p h1 h7 e
  obtain rfl | rfl | rfl | rfl | rfl | rfl | rfl : p = 1 ∨ p = 2 ∨ p = 3 ∨ p = 4 ∨ p = 5 ∨ p = 6 ∨ p = 7 := by omega
  · exact blk_row hb h.r1 (by decide) (by rw [← e]; rfl)
  · exact blk_row hb h.r2 (by decide) (by rw [← e]; rfl)
  · exact blk_row hb h.r3 (by decide) (by rw [← e]; rfl)
  · exact blk_row hb h.r4 (by decide) (by rw [← e]; rfl)
  · exact blk_row hb h.r5 (by decide) (by rw [← e]; rfl)
  · exact blk_row hb h.r6 (by decide) (by rw [← e]; rfl)
  · exact blk_row hb h.r7 (by decide) (by rw [← e]; rfl)
/-- The blocks, the scripts' among them. -/
def whG (g0 : Nat) (g : Nat → Nat) : Nat → Nat
  | 0 => g0
  | k + 1 => g (k + 1)
theorem WhL.whG {w : World} {lo : Nat} {T : TV} {g : Nat → Nat} (h : WhL w lo T g) (g0 : Nat) : WhL w lo T (whG g0 g) :=
  ⟨h.r1, h.r2, h.r3, h.r4, h.r5, h.r6, h.r7, fun i j h1 h7 h2 h8 hne => by
    obtain ⟨i, rfl⟩ : ∃ k, i = k + 1 := ⟨i - 1, by omega⟩
    obtain ⟨j, rfl⟩ : ∃ k, j = k + 1 := ⟨j - 1, by omega⟩
    exact h.ap (i + 1) (j + 1) h1 h7 h2 h8 hne⟩
theorem RmG.kept {w w' : World} {lo E sz n N : Nat} {xs : List Value} {v : Value} (h : RmG w lo E sz n xs v) (hg : w.grownBy w' (some N)) (hN : v.ownBlock ≠ some N) : RmG w' lo E sz n xs v := by
  obtain ⟨g, rfl, ho⟩ := h
  exact ⟨g, rfl, rd_other ho hg (.inr hN)⟩
theorem RmG.neS {w : World} {lo lo' n n' N : Nat} {xs xs' : List Value} {v u : Value} (h : RmG w lo 68 2 n xs v) (h0 : w.ownsRow lo' 64 2 u n' xs') (hu : u.ownBlock = some N) : v.ownBlock ≠ some N := by
  obtain ⟨g, rfl, ho⟩ := h
  rcases rd_apart ho h0 (by decide) with q | q
  · cases q
  · rw [hu] at q; exact q
/-- The scripts that are being given room: the first i of them have spans of their own. -/
structure WkSt (lo : Nat) (T : TV) (us : List Value) (g : Nat → Nat) (i : Nat) (cu : List Value) (wr : World) : Prop where
  l : WhL wr lo T g
  lu : cu.length = T.sc.length
  r0 : wr.ownsRow lo 64 2 (.slice (some ⟨g 0, 0, none⟩) (T.sc.length + 8) (T.sc.length + 8)) (T.sc.length + 8) (encSc T.sc cu ++ mkN roomS 8)
  old : ∀ j, i ≤ j → cu[j]? = us[j]?
  new : ∀ (j : Nat) (x : Value) (s : ByteArray × List (Int × Int)), j < i → cu[j]? = some x → T.sc[j]? = some s → RmG wr lo 68 2 s.2.length (encS2 s.2 ++ mkN [.int .i32 (-77), .int .i32 0] 8) x
  ap : ∀ (j k : Nat) (x y : Value), j < i → k < i → j ≠ k → cu[j]? = some x → cu[k]? = some y → x.ownBlock ≠ y.ownBlock
  ag : ∀ (j : Nat) (x : Value) (p : Nat), j < i → cu[j]? = some x → 1 ≤ p → p ≤ 7 → x.ownBlock ≠ some (g p)
theorem WkSt.next {lo : Nat} {T : TV} {us : List Value} {g : Nat → Nat} {i : Nat} {cu : List Value} {wr w1 : World} (h : WkSt lo T us g i cu wr) {s : ByteArray × List (Int × Int)} (hs : T.sc[i]? = some s) {g' : Nat}
    (ho : w1.ownsRow (wr.heap.size + 1) 68 2 (.slice (some ⟨g', 0, none⟩) (s.2.length + 8) (s.2.length + 8)) (s.2.length + 8) (encS2 s.2 ++ mkN [.int .i32 (-77), .int .i32 0] 8)) (hlo : lo ≤ wr.heap.size) (hb : Below wr.heap.size wr w1) :
    WkSt lo T us g (i + 1) (cu.set i (.slice (some ⟨g', 0, none⟩) s.2.length (s.2.length + 8))) (w1.setCell ⟨g 0, 2 * i + 1, none⟩ (.slice (some ⟨g', 0, none⟩) s.2.length (s.2.length + 8))) := by
  have hi := (List.getElem?_eq_some_iff.1 hs).1
  have hlu := h.lu
  have hg0 : g 0 < wr.heap.size := own_ltW h.r0 _ rfl
  have hg1 : wr.heap.size + 1 ≤ g' := rd_from ho g' rfl
  have hq := grown_set' w1 (g 0) (2 * i + 1) (.slice (some ⟨g', 0, none⟩) s.2.length (s.2.length + 8))
  have r1 := own_bel h.r0 hb
  have hgl : ∀ p, 1 ≤ p → p ≤ 7 → g p < wr.heap.size := fun p h1 h7 => (h.l.lt p h1 h7).1
  have hnl : ∀ (j : Nat) (x : Value), j < i → cu[j]? = some x → ∃ s', T.sc[j]? = some s' ∧ RmG wr lo 68 2 s'.2.length (encS2 s'.2 ++ mkN [.int .i32 (-77), .int .i32 0] 8) x := fun j x hj hx => by
    obtain ⟨s', hs'⟩ : ∃ s', T.sc[j]? = some s' := ⟨_, List.getElem?_eq_getElem (by omega)⟩
    exact ⟨s', hs', h.new j x s' hj hx hs'⟩
  refine ⟨(h.l.below hb).kept hq ((h.l.below hb).ne0 r1 rfl), by rw [List.length_set]; exact hlu, ?_, fun j hj => by rw [List.getElem?_set_ne (by omega)]; exact h.old j (by omega), ?_, ?_, ?_⟩
  · have r2 := own_set r1 (2 * i + 1) (by omega) (.slice (some ⟨g', 0, none⟩) s.2.length (s.2.length + 8))
    rw [List.set_append_left _ _ (by rw [encSc_length _ _ hlu]; omega), encSc_set _ _ hlu] at r2
    exact r2
  · intro j x t hj hx ht
    by_cases e : j = i
    · subst e
      rw [List.getElem?_set_self (by omega)] at hx
      obtain rfl := Option.some.inj hx
      obtain rfl := Option.some.inj (hs.symm.trans ht)
      exact ⟨g', rfl, rd_other (own_lower ho (by omega)) hq (.inr (fun e => by have h9 : g' = g 0 := Option.some.inj e; omega))⟩
    · rw [List.getElem?_set_ne (Ne.symm e)] at hx
      have o1 := (h.new j x t (by omega) hx ht).below hb
      exact o1.kept hq (o1.neS r1 rfl)
  · intro j k x y hj hk hjk hx hy
    by_cases e : j = i
    · subst e
      rw [List.getElem?_set_self (by omega)] at hx
      rw [List.getElem?_set_ne hjk] at hy
      obtain rfl := Option.some.inj hx
      obtain ⟨s', _, hn⟩ := hnl k y (by omega) hy
      intro e2
      have : g' < wr.heap.size := hn.lt g' e2.symm
      omega
    · rw [List.getElem?_set_ne (Ne.symm e)] at hx
      by_cases e3 : k = i
      · subst e3
        rw [List.getElem?_set_self (by omega)] at hy
        obtain rfl := Option.some.inj hy
        obtain ⟨s', _, hn⟩ := hnl j x (by omega) hx
        intro e2
        have : g' < wr.heap.size := hn.lt g' e2
        omega
      · rw [List.getElem?_set_ne (Ne.symm e3)] at hy
        exact h.ap j k x y (by omega) (by omega) hjk hx hy
  · intro j x p hj hx h1 h7
    by_cases e : j = i
    · subst e
      rw [List.getElem?_set_self (by omega)] at hx
      obtain rfl := Option.some.inj hx
      intro e2
      have h9 : g' = g p := Option.some.inj e2
      have := hgl p h1 h7
      omega
    · rw [List.getElem?_set_ne (Ne.symm e)] at hx
      exact h.ag j x p (by omega) hx h1 h7
/-- Whole at work. -/
structure WhW (W0 : World) (lo M : Nat) (T : TV) (us : List Value) (g : Nat → Nat) (i : Nat) (cu : List Value) (wr : World) : Prop where
  st : WkSt lo T us g i cu wr
  bel : Below lo W0 wr
  box : Blk wr M #[.slice (some ⟨g 0, 0, none⟩) T.sc.length (T.sc.length + 8), .slice (some ⟨g 1, 0, none⟩) T.co.length (T.co.length + 8), .slice (some ⟨g 2, 0, none⟩) T.ma.length (T.ma.length + 8), .slice (some ⟨g 3, 0, none⟩) T.pr.length (T.pr.length + 8), .slice (some ⟨g 4, 0, none⟩) T.fo.length (T.fo.length + 8), .slice (some ⟨g 5, 0, none⟩) T.lk.length (T.lk.length + 8), .slice (some ⟨g 6, 0, none⟩) T.dr.length (T.dr.length + 8), .slice (some ⟨g 7, 0, none⟩) T.al.length (T.al.length + 8)] 28
  lm : lo ≤ M
  lw : lo ≤ wr.heap.size
theorem WhW.below {W0 : World} {lo M : Nat} {T : TV} {us : List Value} {g : Nat → Nat} {i : Nat} {cu : List Value} {wr w' : World} (h : WhW W0 lo M T us g i cu wr) (hb : Below wr.heap.size wr w') : WhW W0 lo M T us g i cu w' :=
  ⟨⟨h.st.l.below hb, h.st.lu, own_bel h.st.r0 hb, h.st.old, fun j x s hj hx hs => (h.st.new j x s hj hx hs).below hb, h.st.ap, h.st.ag⟩, h.bel.trans (hb.mono h.lw), h.box.below hb h.box.lt, h.lm, Nat.le_trans h.lw hb.size⟩
theorem WhW.next {W0 : World} {lo M : Nat} {T : TV} {us : List Value} {g : Nat → Nat} {i : Nat} {cu : List Value} {wr w1 : World} (h : WhW W0 lo M T us g i cu wr) {s : ByteArray × List (Int × Int)} (hs : T.sc[i]? = some s) {g' : Nat}
    (ho : w1.ownsRow (wr.heap.size + 1) 68 2 (.slice (some ⟨g', 0, none⟩) (s.2.length + 8) (s.2.length + 8)) (s.2.length + 8) (encS2 s.2 ++ mkN [.int .i32 (-77), .int .i32 0] 8)) (hb : Below wr.heap.size wr w1) :
    WhW W0 lo M T us g (i + 1) (cu.set i (.slice (some ⟨g', 0, none⟩) s.2.length (s.2.length + 8))) (w1.setCell ⟨g 0, i * 2 + 1, none⟩ (.slice (some ⟨g', 0, none⟩) s.2.length (s.2.length + 8))) := by
  have h2 := h.below hb
  have hq := grown_set' w1 (g 0) (i * 2 + 1) (.slice (some ⟨g', 0, none⟩) s.2.length (s.2.length + 8))
  have hn := h.st.next hs ho h.lw hb
  rw [show 2 * i + 1 = i * 2 + 1 by omega] at hn
  have hg0 : lo ≤ g 0 := rd_from h.st.r0 _ rfl
  have hne : some M ≠ some (g 0) := blk_row h2.box h2.st.r0 (by decide)
  exact ⟨hn, h2.bel.setCell (p := ⟨g 0, i * 2 + 1, none⟩) hg0 _, h2.box.kept hq hne, h.lm, Nat.le_trans h2.lw hq.size⟩
/-- A table that Whole made. -/
structure WhAt (w : World) (lo : Nat) (T : TV) (g : Nat → Nat) (us : List Value) : Prop where
  l : WhL w lo T g
  lu : us.length = T.sc.length
  r0 : w.ownsRow lo 64 2 (.slice (some ⟨g 0, 0, none⟩) (T.sc.length + 8) (T.sc.length + 8)) (T.sc.length + 8) (encSc T.sc us ++ mkN roomS 8)
  rs : ∀ (j : Nat) (x : Value) (s : ByteArray × List (Int × Int)), us[j]? = some x → T.sc[j]? = some s → RmG w lo 68 2 s.2.length (encS2 s.2 ++ mkN [.int .i32 (-77), .int .i32 0] 8) x
  ap : ∀ (j k : Nat) (x y : Value), j ≠ k → us[j]? = some x → us[k]? = some y → x.ownBlock ≠ y.ownBlock
  ag : ∀ (j : Nat) (x : Value) (p : Nat), us[j]? = some x → 1 ≤ p → p ≤ 7 → x.ownBlock ≠ some (g p)
theorem WkSt.fin {lo : Nat} {T : TV} {us : List Value} {g : Nat → Nat} {i : Nat} {cu : List Value} {wr : World} (h : WkSt lo T us g i cu wr) (hi : i = T.sc.length) : WhAt wr lo T g cu :=
  have hl : ∀ (j : Nat) (x : Value), cu[j]? = some x → j < i := fun j x hx => by have := (List.getElem?_eq_some_iff.1 hx).1; have := h.lu; omega
  ⟨h.l, h.lu, h.r0, fun j x s hx hs => h.new j x s (hl j x hx) hx hs, fun j k x y hjk hx hy => h.ap j k x y (hl j x hx) (hl k y hy) hjk hx hy, fun j x p hx h1 h7 => h.ag j x p (hl j x hx) hx h1 h7⟩
theorem WhAt.kept {w w' : World} {lo N : Nat} {T : TV} {g : Nat → Nat} {us : List Value} (h : WhAt w lo T g us) (hg : w.grownBy w' (some N)) (hN : N < lo) : WhAt w' lo T g us :=
  ⟨h.l.kept hg (fun p h1 h7 e => by have := (h.l.lt p h1 h7).2; omega), h.lu, rd_other h.r0 hg (.inr (fun e => by have h1 : lo ≤ g 0 := rd_from h.r0 _ rfl; have h2 : g 0 = N := Option.some.inj e; omega)), fun j x s hx hs => by
    obtain ⟨b, e, ho⟩ := h.rs j x s hx hs
    exact ⟨b, e, rd_other ho hg (.inr (fun e => by have h1 : lo ≤ b := rd_from ho _ rfl; have h2 : b = N := Option.some.inj e; omega))⟩, h.ap, h.ag⟩
theorem own_thaw {w : World} {lo E sz n C g : Nat} {xs : List Value} (h : w.ownsRow lo E sz (.slice (some ⟨g, 0, none⟩) n C) n xs) (j : Nat) : w.frozen? ⟨g, j, none⟩ = false := by
  rcases h.2 with ⟨e, _⟩ | ⟨g', cap', cur, e, hb, hg, hc, hm, hcs, hx⟩
  · cases e
  · injection e with e1 e2 e3
    injection e1 with e1
    injection e1 with e1
    subst e1
    exact (show Blk w g cur E from hg).frozen _
theorem own_cell {w : World} {lo E sz n C g : Nat} {xs : List Value} (h : w.ownsRow lo E sz (.slice (some ⟨g, 0, none⟩) n C) n xs) (j : Nat) (u : Value) (hj : xs[j]? = some u) : w.cell? ⟨g, j, none⟩ = some u := by
  rcases h.2 with ⟨e, _⟩ | ⟨g', cap', cur, e, hb, hg, hc, hm, hcs, hx⟩
  · cases e
  · injection e with e1 e2 e3
    injection e1 with e1
    injection e1 with e1
    subst e1
    have b : Blk w g cur E := hg
    rw [b.cell j]
    rw [← hx] at hj
    have hlt : j < n * sz := by
      have h5 := (List.getElem?_eq_some_iff.1 hj).1
      rw [List.length_take] at h5
      omega
    rw [List.getElem?_take_of_lt hlt, Array.getElem?_toList] at hj
    exact hj
/-- What is said of each value of a region. -/
def wlD (lo : Nat) (M : Nat) (G : Nat) (N : Nat) (i : Nat) (xb : Option Addr) (n : Nat) (xd : Nat) (xs : List Value) : Nat → Value → World → Prop
  | 0, v, w => v = .pointer (some ⟨M, 0, none⟩)
  | 1, v, w => v = .slice (some ⟨G, 0, none⟩) N (N + 8)
  | 2, v, w => v = .int .i64 (i : Int)
  | 3, v, w => v = .pointer (some ⟨M, 0, none⟩)
  | 4, v, w => v = .slice (some ⟨G, 0, none⟩) N (N + 8)
  | 5, v, w => v = .int .i64 (i : Int)
  | 6, v, w => v = .pointer (some ⟨G, i * 2, none⟩)
  | 7, v, w => v = .pointer (some ⟨G, i * 2 + 1, none⟩)
  | 8, v, w => v = .slice xb n xd
  | 9, v, w => v = .agg #[.int .i32 (-77), .int .i32 0]
  | 10, v, w => ∃ g, v = .slice (some ⟨g, 0, none⟩) n (n + 8) ∧ w.ownsRow (lo + 1) 68 2 (.slice (some ⟨g, 0, none⟩) (n + 8) (n + 8)) (n + 8) xs
  | 11, v, w => v = .pointer (some ⟨G, i * 2, none⟩)
  | 12, v, w => v = .pointer (some ⟨G, i * 2 + 1, none⟩)
  | _, v, w => True
def wlDM (j : Nat) : Bool := false
theorem wlD_st {lo : Nat} {M : Nat} {G : Nat} {N : Nat} {i : Nat} {xb : Option Addr} {n : Nat} {xd : Nat} {xs : List Value} {w w' : World} (hb : Below w.heap.size w w') : ∀ (j : Nat) (v : Value), wlD lo M G N i xb n xd xs j v w → wlD lo M G N i xb n xd xs j v w'
  | 0, v, h => h
  | 1, v, h => h
  | 2, v, h => h
  | 3, v, h => h
  | 4, v, h => h
  | 5, v, h => h
  | 6, v, h => h
  | 7, v, h => h
  | 8, v, h => h
  | 9, v, h => h
  | 10, v, h => let ⟨g, e, ho⟩ := h; ⟨g, e, own_bel ho hb⟩
  | 11, v, h => h
  | 12, v, h => h
  | _ + 13, v, h => h
theorem wlD_lt {lo : Nat} {M : Nat} {G : Nat} {N : Nat} {i : Nat} {xb : Option Addr} {n : Nat} {xd : Nat} {xs : List Value} {w : World} (j : Nat) (v : Value) (hm : wlDM j = true) (h : wlD lo M G N i xb n xd xs j v w) : ∀ b, v.ownBlock = some b → b < w.heap.size := by
  cases hm
set_option maxRecDepth 100000 in
set_option maxHeartbeats 8000000 in
theorem keepWhole_any (T : TV) (hO : TabOk T) (a0 a1 a2 a3 a4 a5 a6 a7 : Option Addr) (c0 c1 c2 c3 c4 c5 c6 c7 : Nat) (us : List Value) (W : World) (hT : TabIn W T a0 a1 a2 a3 a4 a5 a6 a7 us) (hR : EnvR W) :
    Calls Tryz.prog 27 #[.agg (tabV T a0 a1 a2 a3 a4 a5 a6 a7 c0 c1 c2 c3 c4 c5 c6 c7)] W fun e w' => ∃ (g : Nat → Nat) (vs : List Value), e = .returned (.agg #[.slice (some ⟨g 0, 0, none⟩) T.sc.length (T.sc.length + 8), .slice (some ⟨g 1, 0, none⟩) T.co.length (T.co.length + 8), .slice (some ⟨g 2, 0, none⟩) T.ma.length (T.ma.length + 8), .slice (some ⟨g 3, 0, none⟩) T.pr.length (T.pr.length + 8), .slice (some ⟨g 4, 0, none⟩) T.fo.length (T.fo.length + 8), .slice (some ⟨g 5, 0, none⟩) T.lk.length (T.lk.length + 8), .slice (some ⟨g 6, 0, none⟩) T.dr.length (T.dr.length + 8), .slice (some ⟨g 7, 0, none⟩) T.al.length (T.al.length + 8)]) ∧ WhAt w' (W.heap.size + 2) T g vs ∧ Below W.heap.size W w' := by
  have hmx : Tryz.prog.follows .mixedOrders = true := by kernel_rfl
  have hbig := hR.big
  have hB0 : Below W.heap.size W (((W.alloc (.cells #[.slice a0 T.sc.length c0, .slice a1 T.co.length c1, .slice a2 T.ma.length c2, .slice a3 T.pr.length c3, .slice a4 T.fo.length c4, .slice a5 T.lk.length c5, .slice a6 T.dr.length c6, .slice a7 T.al.length c7] 28)).alloc (.cells #[.slice none 0 0, .slice none 0 0, .slice none 0 0, .slice none 0 0, .slice none 0 0, .slice none 0 0, .slice none 0 0, .slice none 0 0] 28)).drew) := (((Below.refl W.heap.size W).alloc (Nat.le_refl _) _).alloc (by simp) _).trans ⟨rfl, rfl, rfl, Nat.le_refl _, fun _ _ => rfl⟩
  have hZ : (((W.alloc (.cells #[.slice a0 T.sc.length c0, .slice a1 T.co.length c1, .slice a2 T.ma.length c2, .slice a3 T.pr.length c3, .slice a4 T.fo.length c4, .slice a5 T.lk.length c5, .slice a6 T.dr.length c6, .slice a7 T.al.length c7] 28)).alloc (.cells #[.slice none 0 0, .slice none 0 0, .slice none 0 0, .slice none 0 0, .slice none 0 0, .slice none 0 0, .slice none 0 0, .slice none 0 0] 28)).drew).heap.size = W.heap.size + 2 := by show (World.alloc _ _).heap.size = _; simp
  have hX : Blk (((W.alloc (.cells #[.slice a0 T.sc.length c0, .slice a1 T.co.length c1, .slice a2 T.ma.length c2, .slice a3 T.pr.length c3, .slice a4 T.fo.length c4, .slice a5 T.lk.length c5, .slice a6 T.dr.length c6, .slice a7 T.al.length c7] 28)).alloc (.cells #[.slice none 0 0, .slice none 0 0, .slice none 0 0, .slice none 0 0, .slice none 0 0, .slice none 0 0, .slice none 0 0, .slice none 0 0] 28)).drew) W.heap.size #[.slice a0 T.sc.length c0, .slice a1 T.co.length c1, .slice a2 T.ma.length c2, .slice a3 T.pr.length c3, .slice a4 T.fo.length c4, .slice a5 T.lk.length c5, .slice a6 T.dr.length c6, .slice a7 T.al.length c7] 28 := (Blk.new W #[.slice a0 T.sc.length c0, .slice a1 T.co.length c1, .slice a2 T.ma.length c2, .slice a3 T.pr.length c3, .slice a4 T.fo.length c4, .slice a5 T.lk.length c5, .slice a6 T.dr.length c6, .slice a7 T.al.length c7] 28).alloc _
  have HZ := hide hZ
  have HXR : Hz (∀ w', Below (W.heap.size + 2) (((W.alloc (.cells #[.slice a0 T.sc.length c0, .slice a1 T.co.length c1, .slice a2 T.ma.length c2, .slice a3 T.pr.length c3, .slice a4 T.fo.length c4, .slice a5 T.lk.length c5, .slice a6 T.dr.length c6, .slice a7 T.al.length c7] 28)).alloc (.cells #[.slice none 0 0, .slice none 0 0, .slice none 0 0, .slice none 0 0, .slice none 0 0, .slice none 0 0, .slice none 0 0, .slice none 0 0] 28)).drew) w' → Blk w' (W.heap.size + 1) #[.slice none 0 0, .slice none 0 0, .slice none 0 0, .slice none 0 0, .slice none 0 0, .slice none 0 0, .slice none 0 0, .slice none 0 0] 28) := hide (fun w' hw => by
    have h5 := Blk.new (W.alloc (.cells #[.slice a0 T.sc.length c0, .slice a1 T.co.length c1, .slice a2 T.ma.length c2, .slice a3 T.pr.length c3, .slice a4 T.fo.length c4, .slice a5 T.lk.length c5, .slice a6 T.dr.length c6, .slice a7 T.al.length c7] 28)) #[.slice none 0 0, .slice none 0 0, .slice none 0 0, .slice none 0 0, .slice none 0 0, .slice none 0 0, .slice none 0 0, .slice none 0 0] 28
    rw [World.size_alloc] at h5
    exact (show Blk (((W.alloc (.cells #[.slice a0 T.sc.length c0, .slice a1 T.co.length c1, .slice a2 T.ma.length c2, .slice a3 T.pr.length c3, .slice a4 T.fo.length c4, .slice a5 T.lk.length c5, .slice a6 T.dr.length c6, .slice a7 T.al.length c7] 28)).alloc (.cells #[.slice none 0 0, .slice none 0 0, .slice none 0 0, .slice none 0 0, .slice none 0 0, .slice none 0 0, .slice none 0 0, .slice none 0 0] 28)).drew) (W.heap.size + 1) #[.slice none 0 0, .slice none 0 0, .slice none 0 0, .slice none 0 0, .slice none 0 0, .slice none 0 0, .slice none 0 0, .slice none 0 0] 28 from h5).below hw (by omega))
  have HX0 : Hz (∀ w', Below (W.heap.size + 2) (((W.alloc (.cells #[.slice a0 T.sc.length c0, .slice a1 T.co.length c1, .slice a2 T.ma.length c2, .slice a3 T.pr.length c3, .slice a4 T.fo.length c4, .slice a5 T.lk.length c5, .slice a6 T.dr.length c6, .slice a7 T.al.length c7] 28)).alloc (.cells #[.slice none 0 0, .slice none 0 0, .slice none 0 0, .slice none 0 0, .slice none 0 0, .slice none 0 0, .slice none 0 0, .slice none 0 0] 28)).drew) w' → w'.cell? ⟨W.heap.size, 0, none⟩ = some (.slice a0 T.sc.length c0)) := hide (fun w' hw => (hX.below hw (by omega)).cell 0)
  have HX1 : Hz (∀ w', Below (W.heap.size + 2) (((W.alloc (.cells #[.slice a0 T.sc.length c0, .slice a1 T.co.length c1, .slice a2 T.ma.length c2, .slice a3 T.pr.length c3, .slice a4 T.fo.length c4, .slice a5 T.lk.length c5, .slice a6 T.dr.length c6, .slice a7 T.al.length c7] 28)).alloc (.cells #[.slice none 0 0, .slice none 0 0, .slice none 0 0, .slice none 0 0, .slice none 0 0, .slice none 0 0, .slice none 0 0, .slice none 0 0] 28)).drew) w' → w'.cell? ⟨W.heap.size, 1, none⟩ = some (.slice a1 T.co.length c1)) := hide (fun w' hw => (hX.below hw (by omega)).cell 1)
  have HX2 : Hz (∀ w', Below (W.heap.size + 2) (((W.alloc (.cells #[.slice a0 T.sc.length c0, .slice a1 T.co.length c1, .slice a2 T.ma.length c2, .slice a3 T.pr.length c3, .slice a4 T.fo.length c4, .slice a5 T.lk.length c5, .slice a6 T.dr.length c6, .slice a7 T.al.length c7] 28)).alloc (.cells #[.slice none 0 0, .slice none 0 0, .slice none 0 0, .slice none 0 0, .slice none 0 0, .slice none 0 0, .slice none 0 0, .slice none 0 0] 28)).drew) w' → w'.cell? ⟨W.heap.size, 2, none⟩ = some (.slice a2 T.ma.length c2)) := hide (fun w' hw => (hX.below hw (by omega)).cell 2)
  have HX3 : Hz (∀ w', Below (W.heap.size + 2) (((W.alloc (.cells #[.slice a0 T.sc.length c0, .slice a1 T.co.length c1, .slice a2 T.ma.length c2, .slice a3 T.pr.length c3, .slice a4 T.fo.length c4, .slice a5 T.lk.length c5, .slice a6 T.dr.length c6, .slice a7 T.al.length c7] 28)).alloc (.cells #[.slice none 0 0, .slice none 0 0, .slice none 0 0, .slice none 0 0, .slice none 0 0, .slice none 0 0, .slice none 0 0, .slice none 0 0] 28)).drew) w' → w'.cell? ⟨W.heap.size, 3, none⟩ = some (.slice a3 T.pr.length c3)) := hide (fun w' hw => (hX.below hw (by omega)).cell 3)
  have HX4 : Hz (∀ w', Below (W.heap.size + 2) (((W.alloc (.cells #[.slice a0 T.sc.length c0, .slice a1 T.co.length c1, .slice a2 T.ma.length c2, .slice a3 T.pr.length c3, .slice a4 T.fo.length c4, .slice a5 T.lk.length c5, .slice a6 T.dr.length c6, .slice a7 T.al.length c7] 28)).alloc (.cells #[.slice none 0 0, .slice none 0 0, .slice none 0 0, .slice none 0 0, .slice none 0 0, .slice none 0 0, .slice none 0 0, .slice none 0 0] 28)).drew) w' → w'.cell? ⟨W.heap.size, 4, none⟩ = some (.slice a4 T.fo.length c4)) := hide (fun w' hw => (hX.below hw (by omega)).cell 4)
  have HX5 : Hz (∀ w', Below (W.heap.size + 2) (((W.alloc (.cells #[.slice a0 T.sc.length c0, .slice a1 T.co.length c1, .slice a2 T.ma.length c2, .slice a3 T.pr.length c3, .slice a4 T.fo.length c4, .slice a5 T.lk.length c5, .slice a6 T.dr.length c6, .slice a7 T.al.length c7] 28)).alloc (.cells #[.slice none 0 0, .slice none 0 0, .slice none 0 0, .slice none 0 0, .slice none 0 0, .slice none 0 0, .slice none 0 0, .slice none 0 0] 28)).drew) w' → w'.cell? ⟨W.heap.size, 5, none⟩ = some (.slice a5 T.lk.length c5)) := hide (fun w' hw => (hX.below hw (by omega)).cell 5)
  have HX6 : Hz (∀ w', Below (W.heap.size + 2) (((W.alloc (.cells #[.slice a0 T.sc.length c0, .slice a1 T.co.length c1, .slice a2 T.ma.length c2, .slice a3 T.pr.length c3, .slice a4 T.fo.length c4, .slice a5 T.lk.length c5, .slice a6 T.dr.length c6, .slice a7 T.al.length c7] 28)).alloc (.cells #[.slice none 0 0, .slice none 0 0, .slice none 0 0, .slice none 0 0, .slice none 0 0, .slice none 0 0, .slice none 0 0, .slice none 0 0] 28)).drew) w' → w'.cell? ⟨W.heap.size, 6, none⟩ = some (.slice a6 T.dr.length c6)) := hide (fun w' hw => (hX.below hw (by omega)).cell 6)
  have HX7 : Hz (∀ w', Below (W.heap.size + 2) (((W.alloc (.cells #[.slice a0 T.sc.length c0, .slice a1 T.co.length c1, .slice a2 T.ma.length c2, .slice a3 T.pr.length c3, .slice a4 T.fo.length c4, .slice a5 T.lk.length c5, .slice a6 T.dr.length c6, .slice a7 T.al.length c7] 28)).alloc (.cells #[.slice none 0 0, .slice none 0 0, .slice none 0 0, .slice none 0 0, .slice none 0 0, .slice none 0 0, .slice none 0 0, .slice none 0 0] 28)).drew) w' → w'.cell? ⟨W.heap.size, 7, none⟩ = some (.slice a7 T.al.length c7)) := hide (fun w' hw => (hX.below hw (by omega)).cell 7)
  have HG0 : Hz (∀ w', Below (W.heap.size + 2) (((W.alloc (.cells #[.slice a0 T.sc.length c0, .slice a1 T.co.length c1, .slice a2 T.ma.length c2, .slice a3 T.pr.length c3, .slice a4 T.fo.length c4, .slice a5 T.lk.length c5, .slice a6 T.dr.length c6, .slice a7 T.al.length c7] 28)).alloc (.cells #[.slice none 0 0, .slice none 0 0, .slice none 0 0, .slice none 0 0, .slice none 0 0, .slice none 0 0, .slice none 0 0, .slice none 0 0] 28)).drew) w' → w'.cell? ⟨0, 0, none⟩ = some (.int .i32 (-77))) := hide (fun w' hw => (hw.cell (p := ⟨0, 0, none⟩) (by show (0 : Nat) < _; omega)).trans ((hB0.cell (p := ⟨0, 0, none⟩) (by show (0 : Nat) < _; omega)).trans hR.m0))
  have HG1 : Hz (∀ w', Below (W.heap.size + 2) (((W.alloc (.cells #[.slice a0 T.sc.length c0, .slice a1 T.co.length c1, .slice a2 T.ma.length c2, .slice a3 T.pr.length c3, .slice a4 T.fo.length c4, .slice a5 T.lk.length c5, .slice a6 T.dr.length c6, .slice a7 T.al.length c7] 28)).alloc (.cells #[.slice none 0 0, .slice none 0 0, .slice none 0 0, .slice none 0 0, .slice none 0 0, .slice none 0 0, .slice none 0 0, .slice none 0 0] 28)).drew) w' → w'.cell? ⟨0, 1, none⟩ = some (.int .i32 0)) := hide (fun w' hw => (hw.cell (p := ⟨0, 1, none⟩) (by show (0 : Nat) < _; omega)).trans ((hB0.cell (p := ⟨0, 1, none⟩) (by show (0 : Nat) < _; omega)).trans hR.m1))
  have HG2 : Hz (∀ w', Below (W.heap.size + 2) (((W.alloc (.cells #[.slice a0 T.sc.length c0, .slice a1 T.co.length c1, .slice a2 T.ma.length c2, .slice a3 T.pr.length c3, .slice a4 T.fo.length c4, .slice a5 T.lk.length c5, .slice a6 T.dr.length c6, .slice a7 T.al.length c7] 28)).alloc (.cells #[.slice none 0 0, .slice none 0 0, .slice none 0 0, .slice none 0 0, .slice none 0 0, .slice none 0 0, .slice none 0 0, .slice none 0 0] 28)).drew) w' → w'.cell? ⟨1, 0, none⟩ = some (.int .i32 0)) := hide (fun w' hw => (hw.cell (p := ⟨1, 0, none⟩) (by show (1 : Nat) < _; omega)).trans ((hB0.cell (p := ⟨1, 0, none⟩) (by show (1 : Nat) < _; omega)).trans hR.m2))
  have HG3 : Hz (∀ w', Below (W.heap.size + 2) (((W.alloc (.cells #[.slice a0 T.sc.length c0, .slice a1 T.co.length c1, .slice a2 T.ma.length c2, .slice a3 T.pr.length c3, .slice a4 T.fo.length c4, .slice a5 T.lk.length c5, .slice a6 T.dr.length c6, .slice a7 T.al.length c7] 28)).alloc (.cells #[.slice none 0 0, .slice none 0 0, .slice none 0 0, .slice none 0 0, .slice none 0 0, .slice none 0 0, .slice none 0 0, .slice none 0 0] 28)).drew) w' → w'.cell? ⟨1, 1, none⟩ = some (.int .i64 (-77))) := hide (fun w' hw => (hw.cell (p := ⟨1, 1, none⟩) (by show (1 : Nat) < _; omega)).trans ((hB0.cell (p := ⟨1, 1, none⟩) (by show (1 : Nat) < _; omega)).trans hR.m3))
  have HG4 : Hz (∀ w', Below (W.heap.size + 2) (((W.alloc (.cells #[.slice a0 T.sc.length c0, .slice a1 T.co.length c1, .slice a2 T.ma.length c2, .slice a3 T.pr.length c3, .slice a4 T.fo.length c4, .slice a5 T.lk.length c5, .slice a6 T.dr.length c6, .slice a7 T.al.length c7] 28)).alloc (.cells #[.slice none 0 0, .slice none 0 0, .slice none 0 0, .slice none 0 0, .slice none 0 0, .slice none 0 0, .slice none 0 0, .slice none 0 0] 28)).drew) w' → w'.cell? ⟨2, 0, none⟩ = some (.int .i32 (-77))) := hide (fun w' hw => (hw.cell (p := ⟨2, 0, none⟩) (by show (2 : Nat) < _; omega)).trans ((hB0.cell (p := ⟨2, 0, none⟩) (by show (2 : Nat) < _; omega)).trans hR.m4))
  have HG5 : Hz (∀ w', Below (W.heap.size + 2) (((W.alloc (.cells #[.slice a0 T.sc.length c0, .slice a1 T.co.length c1, .slice a2 T.ma.length c2, .slice a3 T.pr.length c3, .slice a4 T.fo.length c4, .slice a5 T.lk.length c5, .slice a6 T.dr.length c6, .slice a7 T.al.length c7] 28)).alloc (.cells #[.slice none 0 0, .slice none 0 0, .slice none 0 0, .slice none 0 0, .slice none 0 0, .slice none 0 0, .slice none 0 0, .slice none 0 0] 28)).drew) w' → w'.cell? ⟨2, 1, none⟩ = some (.int .i32 0)) := hide (fun w' hw => (hw.cell (p := ⟨2, 1, none⟩) (by show (2 : Nat) < _; omega)).trans ((hB0.cell (p := ⟨2, 1, none⟩) (by show (2 : Nat) < _; omega)).trans hR.m5))
  have HG6 : Hz (∀ w', Below (W.heap.size + 2) (((W.alloc (.cells #[.slice a0 T.sc.length c0, .slice a1 T.co.length c1, .slice a2 T.ma.length c2, .slice a3 T.pr.length c3, .slice a4 T.fo.length c4, .slice a5 T.lk.length c5, .slice a6 T.dr.length c6, .slice a7 T.al.length c7] 28)).alloc (.cells #[.slice none 0 0, .slice none 0 0, .slice none 0 0, .slice none 0 0, .slice none 0 0, .slice none 0 0, .slice none 0 0, .slice none 0 0] 28)).drew) w' → w'.cell? ⟨2, 2, none⟩ = some (.int .i32 0)) := hide (fun w' hw => (hw.cell (p := ⟨2, 2, none⟩) (by show (2 : Nat) < _; omega)).trans ((hB0.cell (p := ⟨2, 2, none⟩) (by show (2 : Nat) < _; omega)).trans hR.m6))
  have HG7 : Hz (∀ w', Below (W.heap.size + 2) (((W.alloc (.cells #[.slice a0 T.sc.length c0, .slice a1 T.co.length c1, .slice a2 T.ma.length c2, .slice a3 T.pr.length c3, .slice a4 T.fo.length c4, .slice a5 T.lk.length c5, .slice a6 T.dr.length c6, .slice a7 T.al.length c7] 28)).alloc (.cells #[.slice none 0 0, .slice none 0 0, .slice none 0 0, .slice none 0 0, .slice none 0 0, .slice none 0 0, .slice none 0 0, .slice none 0 0] 28)).drew) w' → w'.cell? ⟨3, 0, none⟩ = some (.int .i32 (-77))) := hide (fun w' hw => (hw.cell (p := ⟨3, 0, none⟩) (by show (3 : Nat) < _; omega)).trans ((hB0.cell (p := ⟨3, 0, none⟩) (by show (3 : Nat) < _; omega)).trans hR.m7))
  have HG8 : Hz (∀ w', Below (W.heap.size + 2) (((W.alloc (.cells #[.slice a0 T.sc.length c0, .slice a1 T.co.length c1, .slice a2 T.ma.length c2, .slice a3 T.pr.length c3, .slice a4 T.fo.length c4, .slice a5 T.lk.length c5, .slice a6 T.dr.length c6, .slice a7 T.al.length c7] 28)).alloc (.cells #[.slice none 0 0, .slice none 0 0, .slice none 0 0, .slice none 0 0, .slice none 0 0, .slice none 0 0, .slice none 0 0, .slice none 0 0] 28)).drew) w' → w'.cell? ⟨3, 1, none⟩ = some (.string ⟨#[]⟩)) := hide (fun w' hw => (hw.cell (p := ⟨3, 1, none⟩) (by show (3 : Nat) < _; omega)).trans ((hB0.cell (p := ⟨3, 1, none⟩) (by show (3 : Nat) < _; omega)).trans hR.m8))
  have HT : Hz (∀ w', Below (W.heap.size + 2) (((W.alloc (.cells #[.slice a0 T.sc.length c0, .slice a1 T.co.length c1, .slice a2 T.ma.length c2, .slice a3 T.pr.length c3, .slice a4 T.fo.length c4, .slice a5 T.lk.length c5, .slice a6 T.dr.length c6, .slice a7 T.al.length c7] 28)).alloc (.cells #[.slice none 0 0, .slice none 0 0, .slice none 0 0, .slice none 0 0, .slice none 0 0, .slice none 0 0, .slice none 0 0, .slice none 0 0] 28)).drew) w' → TabIn w' T a0 a1 a2 a3 a4 a5 a6 a7 us) := hide (fun w' hw => (hT.lower hB0).lower (by rw [hZ]; exact hw))
  have HO := hide hO
  have HB0 := hide hB0
  clear hT hR hB0 hX hO hZ
  unfold tabV
  go_enter Tryz.func27, Tryz.ntmps27
  go_wp2_with fail
  refine wp_region_inv hmx 30 (by decide) (by kernel_rfl) (by kernel_rfl) (fun l a w => ∃ U : Nat → Value, a = { tmps := #[.agg #[.slice a0 T.sc.length c0, .slice a1 T.co.length c1, .slice a2 T.ma.length c2, .slice a3 T.pr.length c3, .slice a4 T.fo.length c4, .slice a5 T.lk.length c5, .slice a6 T.dr.length c6, .slice a7 T.al.length c7], .pointer (some ⟨W.heap.size, 0, none⟩), .pointer (some ⟨W.heap.size + 1, 0, none⟩), U 29, undef, U 0, U 1, U 2, U 3, U 4, U 5, U 6, U 7, U 8, U 9, U 10, U 11, U 12, U 13, U 14, U 15, U 16, U 17, U 18, U 19, U 20, U 21, U 22, U 23, U 24, U 25, U 26, U 27, U 28, undef, undef, undef, undef, undef, undef, undef, undef, undef, undef, undef, undef, undef, undef, undef, undef, undef, undef, undef, undef, undef, undef, undef, undef, undef, undef], defers := [] } ∧ RgJ (((W.alloc (.cells #[.slice a0 T.sc.length c0, .slice a1 T.co.length c1, .slice a2 T.ma.length c2, .slice a3 T.pr.length c3, .slice a4 T.fo.length c4, .slice a5 T.lk.length c5, .slice a6 T.dr.length c6, .slice a7 T.al.length c7] 28)).alloc (.cells #[.slice none 0 0, .slice none 0 0, .slice none 0 0, .slice none 0 0, .slice none 0 0, .slice none 0 0, .slice none 0 0, .slice none 0 0] 28)).drew) (W.heap.size + 2) (whD W.heap.size (W.heap.size + 2) T a0 a1 a2 a3 a4 a5 a6 a7 c0 c1 c2 c3 c4 c5 c6 c7) whM l U w) ⟨fun _ => undef, rfl, RgJ.start _ _ (by rw [unhide HZ]; exact Nat.le_refl _)⟩ ?_ ?_
  · rintro l a w i ⟨U, rfl, hJ⟩ hl hi hif
    have h0 := (mem_ready.1 hi).1
    have hlt : i < 31 := by
      have : i < l.size := by
        rcases Nat.lt_or_ge i l.size with h | h
        · exact h
        · simp [Array.getElem?_eq_none h] at h0
      rw [hl] at this
      exact this
    have HJ := hide hJ
    clear hJ hl
    obtain rfl | rfl | rfl | rfl | rfl | rfl | rfl | rfl | rfl | rfl | rfl | rfl | rfl | rfl | rfl | rfl | rfl | rfl | rfl | rfl | rfl | rfl | rfl | rfl | rfl | rfl | rfl | rfl | rfl | rfl : i = 0 ∨ i = 1 ∨ i = 2 ∨ i = 3 ∨ i = 4 ∨ i = 5 ∨ i = 6 ∨ i = 7 ∨ i = 8 ∨ i = 9 ∨ i = 10 ∨ i = 11 ∨ i = 12 ∨ i = 13 ∨ i = 14 ∨ i = 15 ∨ i = 16 ∨ i = 17 ∨ i = 18 ∨ i = 19 ∨ i = 20 ∨ i = 21 ∨ i = 22 ∨ i = 23 ∨ i = 24 ∨ i = 25 ∨ i = 26 ∨ i = 27 ∨ i = 28 ∨ i = 29 := by omega
    · refine wpOp_step rfl (fun K hK => ?_)
      clear hlt hif
      go_simp
      exact hK _ _ ⟨slotPut U 0 (_), rfl, (unhide HJ).put 0 _ h0 (Below.refl _ _) (whD_st (Below.refl _ _)) rfl whD_lt (fun h => absurd h (by decide))⟩
    · refine wpOp_step rfl (fun K hK => ?_)
      clear hlt hif
      have d : U 0 = .pointer (some ⟨W.heap.size, 1, none⟩) := (unhide HJ).val 0 (rg_dep hi 0 (by kernel_rfl))
      have q := unhide HX1 w (unhide HJ).bel
      go_simp
      exact hK _ _ ⟨slotPut U 1 (_), (by rw [slotEq d]; rfl), (unhide HJ).put 1 _ h0 (Below.refl _ _) (whD_st (Below.refl _ _)) rfl whD_lt (fun h => absurd h (by decide))⟩
    · refine wpOp_step rfl (fun K hK => ?_)
      clear hlt hif
      have q0 := unhide HG0 w (unhide HJ).bel
      have q1 := unhide HG1 w (unhide HJ).bel
      go_simp
      exact hK _ _ ⟨slotPut U 2 (_), rfl, (unhide HJ).put 2 _ h0 (Below.refl _ _) (whD_st (Below.refl _ _)) rfl whD_lt (fun h => absurd h (by decide))⟩
    · refine wpOp_step rfl (fun K hK => ?_)
      clear hlt hif
      have d1 : U 1 = .slice a1 T.co.length c1 := (unhide HJ).val 1 (rg_dep hi 1 (by kernel_rfl))
      have d2 : U 2 = .agg #[.int .i32 (-77), .int .i32 0] := (unhide HJ).val 2 (rg_dep hi 2 (by kernel_rfl))
      go_simp
      refine (roomySpan_any a1 c1 T.co.length (encS2 T.co) (encS2_length _) (encS2_one T.co) (unhide HO).n1 (-77) 0 w (unhide HT _ (unhide HJ).bel).r1).mono ?_
      rintro e w' ⟨g, rfl, hg, ho, hb⟩
      have hz := (unhide HJ).sz
      exact hK _ _ ⟨slotPut U 3 _, (by rw [slotEq d1, slotEq d2]; rfl), (unhide HJ).put 3 _ h0 hb (whD_st hb) ⟨g, rfl, own_lower ho (by omega)⟩ whD_lt (fun _ b e => by have h5 : g = b := Option.some.inj e; omega)⟩
    · refine wpOp_step rfl (fun K hK => ?_)
      clear hlt hif
      go_simp
      exact hK _ _ ⟨slotPut U 4 (_), rfl, (unhide HJ).put 4 _ h0 (Below.refl _ _) (whD_st (Below.refl _ _)) rfl whD_lt (fun h => absurd h (by decide))⟩
    · refine wpOp_step rfl (fun K hK => ?_)
      clear hlt hif
      have d : U 4 = .pointer (some ⟨W.heap.size, 2, none⟩) := (unhide HJ).val 4 (rg_dep hi 4 (by kernel_rfl))
      have q := unhide HX2 w (unhide HJ).bel
      go_simp
      exact hK _ _ ⟨slotPut U 5 (_), (by rw [slotEq d]; rfl), (unhide HJ).put 5 _ h0 (Below.refl _ _) (whD_st (Below.refl _ _)) rfl whD_lt (fun h => absurd h (by decide))⟩
    · refine wpOp_step rfl (fun K hK => ?_)
      clear hlt hif
      have q2 := unhide HG2 w (unhide HJ).bel
      have q3 := unhide HG3 w (unhide HJ).bel
      go_simp
      exact hK _ _ ⟨slotPut U 6 (_), rfl, (unhide HJ).put 6 _ h0 (Below.refl _ _) (whD_st (Below.refl _ _)) rfl whD_lt (fun h => absurd h (by decide))⟩
    · refine wpOp_step rfl (fun K hK => ?_)
      clear hlt hif
      have d1 : U 5 = .slice a2 T.ma.length c2 := (unhide HJ).val 5 (rg_dep hi 5 (by kernel_rfl))
      have d2 : U 6 = .agg #[.int .i32 0, .int .i64 (-77)] := (unhide HJ).val 6 (rg_dep hi 6 (by kernel_rfl))
      go_simp
      refine (roomyMark_any a2 c2 T.ma.length (encM2 T.ma) (encM2_length _) (encM2_one T.ma) (unhide HO).n2 0 (-77) w (unhide HT _ (unhide HJ).bel).r2).mono ?_
      rintro e w' ⟨g, rfl, hg, ho, hb⟩
      have hz := (unhide HJ).sz
      exact hK _ _ ⟨slotPut U 7 _, (by rw [slotEq d1, slotEq d2]; rfl), (unhide HJ).put 7 _ h0 hb (whD_st hb) ⟨g, rfl, own_lower ho (by omega)⟩ whD_lt (fun _ b e => by have h5 : g = b := Option.some.inj e; omega)⟩
    · refine wpOp_step rfl (fun K hK => ?_)
      clear hlt hif
      go_simp
      exact hK _ _ ⟨slotPut U 8 (_), rfl, (unhide HJ).put 8 _ h0 (Below.refl _ _) (whD_st (Below.refl _ _)) rfl whD_lt (fun h => absurd h (by decide))⟩
    · refine wpOp_step rfl (fun K hK => ?_)
      clear hlt hif
      have d : U 8 = .pointer (some ⟨W.heap.size, 3, none⟩) := (unhide HJ).val 8 (rg_dep hi 8 (by kernel_rfl))
      have q := unhide HX3 w (unhide HJ).bel
      go_simp
      exact hK _ _ ⟨slotPut U 9 (_), (by rw [slotEq d]; rfl), (unhide HJ).put 9 _ h0 (Below.refl _ _) (whD_st (Below.refl _ _)) rfl whD_lt (fun h => absurd h (by decide))⟩
    · refine wpOp_step rfl (fun K hK => ?_)
      clear hlt hif
      have q4 := unhide HG4 w (unhide HJ).bel
      have q5 := unhide HG5 w (unhide HJ).bel
      have q6 := unhide HG6 w (unhide HJ).bel
      go_simp
      exact hK _ _ ⟨slotPut U 10 (_), rfl, (unhide HJ).put 10 _ h0 (Below.refl _ _) (whD_st (Below.refl _ _)) rfl whD_lt (fun h => absurd h (by decide))⟩
    · refine wpOp_step rfl (fun K hK => ?_)
      clear hlt hif
      have d1 : U 9 = .slice a3 T.pr.length c3 := (unhide HJ).val 9 (rg_dep hi 9 (by kernel_rfl))
      have d2 : U 10 = .agg #[.int .i32 (-77), .int .i32 0, .int .i32 0] := (unhide HJ).val 10 (rg_dep hi 10 (by kernel_rfl))
      go_simp
      refine (roomyPair_any a3 c3 T.pr.length (encP3 T.pr) (encP3_length _) (encP3_one T.pr) (unhide HO).n3 (-77) 0 0 w (unhide HT _ (unhide HJ).bel).r3).mono ?_
      rintro e w' ⟨g, rfl, hg, ho, hb⟩
      have hz := (unhide HJ).sz
      exact hK _ _ ⟨slotPut U 11 _, (by rw [slotEq d1, slotEq d2]; rfl), (unhide HJ).put 11 _ h0 hb (whD_st hb) ⟨g, rfl, own_lower ho (by omega)⟩ whD_lt (fun _ b e => by have h5 : g = b := Option.some.inj e; omega)⟩
    · refine wpOp_step rfl (fun K hK => ?_)
      clear hlt hif
      go_simp
      exact hK _ _ ⟨slotPut U 12 (_), rfl, (unhide HJ).put 12 _ h0 (Below.refl _ _) (whD_st (Below.refl _ _)) rfl whD_lt (fun h => absurd h (by decide))⟩
    · refine wpOp_step rfl (fun K hK => ?_)
      clear hlt hif
      have d : U 12 = .pointer (some ⟨W.heap.size, 4, none⟩) := (unhide HJ).val 12 (rg_dep hi 12 (by kernel_rfl))
      have q := unhide HX4 w (unhide HJ).bel
      go_simp
      exact hK _ _ ⟨slotPut U 13 (_), (by rw [slotEq d]; rfl), (unhide HJ).put 13 _ h0 (Below.refl _ _) (whD_st (Below.refl _ _)) rfl whD_lt (fun h => absurd h (by decide))⟩
    · refine wpOp_step rfl (fun K hK => ?_)
      clear hlt hif
      have q7 := unhide HG7 w (unhide HJ).bel
      have q8 := unhide HG8 w (unhide HJ).bel
      go_simp
      exact hK _ _ ⟨slotPut U 14 (_), rfl, (unhide HJ).put 14 _ h0 (Below.refl _ _) (whD_st (Below.refl _ _)) rfl whD_lt (fun h => absurd h (by decide))⟩
    · refine wpOp_step rfl (fun K hK => ?_)
      clear hlt hif
      have d1 : U 13 = .slice a4 T.fo.length c4 := (unhide HJ).val 13 (rg_dep hi 13 (by kernel_rfl))
      have d2 : U 14 = .agg #[.int .i32 (-77), .string ⟨#[]⟩] := (unhide HJ).val 14 (rg_dep hi 14 (by kernel_rfl))
      go_simp
      refine (roomyMap_any a4 c4 T.fo.length (encF2 T.fo) (encF2_length _) (encF2_one T.fo) (unhide HO).n4 (-77) ⟨#[]⟩ w (unhide HT _ (unhide HJ).bel).r4).mono ?_
      rintro e w' ⟨g, rfl, hg, ho, hb⟩
      have hz := (unhide HJ).sz
      exact hK _ _ ⟨slotPut U 15 _, (by rw [slotEq d1, slotEq d2]; rfl), (unhide HJ).put 15 _ h0 hb (whD_st hb) ⟨g, rfl, own_lower ho (by omega)⟩ whD_lt (fun _ b e => by have h5 : g = b := Option.some.inj e; omega)⟩
    · refine wpOp_step rfl (fun K hK => ?_)
      clear hlt hif
      go_simp
      exact hK _ _ ⟨slotPut U 16 (_), rfl, (unhide HJ).put 16 _ h0 (Below.refl _ _) (whD_st (Below.refl _ _)) rfl whD_lt (fun h => absurd h (by decide))⟩
    · refine wpOp_step rfl (fun K hK => ?_)
      clear hlt hif
      have d : U 16 = .pointer (some ⟨W.heap.size, 5, none⟩) := (unhide HJ).val 16 (rg_dep hi 16 (by kernel_rfl))
      have q := unhide HX5 w (unhide HJ).bel
      go_simp
      exact hK _ _ ⟨slotPut U 17 (_), (by rw [slotEq d]; rfl), (unhide HJ).put 17 _ h0 (Below.refl _ _) (whD_st (Below.refl _ _)) rfl whD_lt (fun h => absurd h (by decide))⟩
    · refine wpOp_step rfl (fun K hK => ?_)
      clear hlt hif
      have q7 := unhide HG7 w (unhide HJ).bel
      have q8 := unhide HG8 w (unhide HJ).bel
      go_simp
      exact hK _ _ ⟨slotPut U 18 (_), rfl, (unhide HJ).put 18 _ h0 (Below.refl _ _) (whD_st (Below.refl _ _)) rfl whD_lt (fun h => absurd h (by decide))⟩
    · refine wpOp_step rfl (fun K hK => ?_)
      clear hlt hif
      have d1 : U 17 = .slice a5 T.lk.length c5 := (unhide HJ).val 17 (rg_dep hi 17 (by kernel_rfl))
      have d2 : U 18 = .agg #[.int .i32 (-77), .string ⟨#[]⟩] := (unhide HJ).val 18 (rg_dep hi 18 (by kernel_rfl))
      go_simp
      refine (roomyMap_any a5 c5 T.lk.length (encF2 T.lk) (encF2_length _) (encF2_one T.lk) (unhide HO).n5 (-77) ⟨#[]⟩ w (unhide HT _ (unhide HJ).bel).r5).mono ?_
      rintro e w' ⟨g, rfl, hg, ho, hb⟩
      have hz := (unhide HJ).sz
      exact hK _ _ ⟨slotPut U 19 _, (by rw [slotEq d1, slotEq d2]; rfl), (unhide HJ).put 19 _ h0 hb (whD_st hb) ⟨g, rfl, own_lower ho (by omega)⟩ whD_lt (fun _ b e => by have h5 : g = b := Option.some.inj e; omega)⟩
    · refine wpOp_step rfl (fun K hK => ?_)
      clear hlt hif
      go_simp
      exact hK _ _ ⟨slotPut U 20 (_), rfl, (unhide HJ).put 20 _ h0 (Below.refl _ _) (whD_st (Below.refl _ _)) rfl whD_lt (fun h => absurd h (by decide))⟩
    · refine wpOp_step rfl (fun K hK => ?_)
      clear hlt hif
      have d : U 20 = .pointer (some ⟨W.heap.size, 6, none⟩) := (unhide HJ).val 20 (rg_dep hi 20 (by kernel_rfl))
      have q := unhide HX6 w (unhide HJ).bel
      go_simp
      exact hK _ _ ⟨slotPut U 21 (_), (by rw [slotEq d]; rfl), (unhide HJ).put 21 _ h0 (Below.refl _ _) (whD_st (Below.refl _ _)) rfl whD_lt (fun h => absurd h (by decide))⟩
    · refine wpOp_step rfl (fun K hK => ?_)
      clear hlt hif
      have q0 := unhide HG0 w (unhide HJ).bel
      have q1 := unhide HG1 w (unhide HJ).bel
      go_simp
      exact hK _ _ ⟨slotPut U 22 (_), rfl, (unhide HJ).put 22 _ h0 (Below.refl _ _) (whD_st (Below.refl _ _)) rfl whD_lt (fun h => absurd h (by decide))⟩
    · refine wpOp_step rfl (fun K hK => ?_)
      clear hlt hif
      have d1 : U 21 = .slice a6 T.dr.length c6 := (unhide HJ).val 21 (rg_dep hi 21 (by kernel_rfl))
      have d2 : U 22 = .agg #[.int .i32 (-77), .int .i32 0] := (unhide HJ).val 22 (rg_dep hi 22 (by kernel_rfl))
      go_simp
      refine (roomySpan_any a6 c6 T.dr.length (encS2 T.dr) (encS2_length _) (encS2_one T.dr) (unhide HO).n6 (-77) 0 w (unhide HT _ (unhide HJ).bel).r6).mono ?_
      rintro e w' ⟨g, rfl, hg, ho, hb⟩
      have hz := (unhide HJ).sz
      exact hK _ _ ⟨slotPut U 23 _, (by rw [slotEq d1, slotEq d2]; rfl), (unhide HJ).put 23 _ h0 hb (whD_st hb) ⟨g, rfl, own_lower ho (by omega)⟩ whD_lt (fun _ b e => by have h5 : g = b := Option.some.inj e; omega)⟩
    · refine wpOp_step rfl (fun K hK => ?_)
      clear hlt hif
      go_simp
      exact hK _ _ ⟨slotPut U 24 (_), rfl, (unhide HJ).put 24 _ h0 (Below.refl _ _) (whD_st (Below.refl _ _)) rfl whD_lt (fun h => absurd h (by decide))⟩
    · refine wpOp_step rfl (fun K hK => ?_)
      clear hlt hif
      have d : U 24 = .pointer (some ⟨W.heap.size, 7, none⟩) := (unhide HJ).val 24 (rg_dep hi 24 (by kernel_rfl))
      have q := unhide HX7 w (unhide HJ).bel
      go_simp
      exact hK _ _ ⟨slotPut U 25 (_), (by rw [slotEq d]; rfl), (unhide HJ).put 25 _ h0 (Below.refl _ _) (whD_st (Below.refl _ _)) rfl whD_lt (fun h => absurd h (by decide))⟩
    · refine wpOp_step rfl (fun K hK => ?_)
      clear hlt hif
      have q0 := unhide HG0 w (unhide HJ).bel
      have q1 := unhide HG1 w (unhide HJ).bel
      go_simp
      exact hK _ _ ⟨slotPut U 26 (_), rfl, (unhide HJ).put 26 _ h0 (Below.refl _ _) (whD_st (Below.refl _ _)) rfl whD_lt (fun h => absurd h (by decide))⟩
    · refine wpOp_step rfl (fun K hK => ?_)
      clear hlt hif
      have d1 : U 25 = .slice a7 T.al.length c7 := (unhide HJ).val 25 (rg_dep hi 25 (by kernel_rfl))
      have d2 : U 26 = .agg #[.int .i32 (-77), .int .i32 0] := (unhide HJ).val 26 (rg_dep hi 26 (by kernel_rfl))
      go_simp
      refine (roomySpan_any a7 c7 T.al.length (encS2 T.al) (encS2_length _) (encS2_one T.al) (unhide HO).n7 (-77) 0 w (unhide HT _ (unhide HJ).bel).r7).mono ?_
      rintro e w' ⟨g, rfl, hg, ho, hb⟩
      have hz := (unhide HJ).sz
      exact hK _ _ ⟨slotPut U 27 _, (by rw [slotEq d1, slotEq d2]; rfl), (unhide HJ).put 27 _ h0 hb (whD_st hb) ⟨g, rfl, own_lower ho (by omega)⟩ whD_lt (fun _ b e => by have h5 : g = b := Option.some.inj e; omega)⟩
    · refine wpOp_step rfl (fun K hK => ?_)
      clear hlt hif
      obtain ⟨g1, v1, o1⟩ := (unhide HJ).val 3 (rg_dep hi 3 (by kernel_rfl))
      obtain ⟨g2, v2, o2⟩ := (unhide HJ).val 7 (rg_dep hi 7 (by kernel_rfl))
      obtain ⟨g3, v3, o3⟩ := (unhide HJ).val 11 (rg_dep hi 11 (by kernel_rfl))
      obtain ⟨g4, v4, o4⟩ := (unhide HJ).val 15 (rg_dep hi 15 (by kernel_rfl))
      obtain ⟨g5, v5, o5⟩ := (unhide HJ).val 19 (rg_dep hi 19 (by kernel_rfl))
      obtain ⟨g6, v6, o6⟩ := (unhide HJ).val 23 (rg_dep hi 23 (by kernel_rfl))
      obtain ⟨g7, v7, o7⟩ := (unhide HJ).val 27 (rg_dep hi 27 (by kernel_rfl))
      have HAP : Hz (∀ i j, whM i = true → whM j = true → i ≠ j → (rgDeps .any _ 28).contains i = true → (rgDeps .any _ 28).contains j = true → (U i).ownBlock = none ∨ (U i).ownBlock ≠ (U j).ownBlock) := hide (fun i j h1 h2 h3 h4 h5 => (unhide HJ).ap i j h1 h2 h3 (rg_dep hi i h4) (rg_dep hi j h5))
      have HOW := hide (And.intro o1 (And.intro o2 (And.intro o3 (And.intro o4 (And.intro o5 (And.intro o6 o7))))))
      clear o1 o2 o3 o4 o5 o6 o7
      go_simp
      refine hK _ _ ⟨slotPut U 28 _, (by rw [slotEq v1, slotEq v2, slotEq v3, slotEq v4, slotEq v5, slotEq v6, slotEq v7]; rfl), (unhide HJ).put 28 _ h0 (Below.refl _ _) (whD_st (Below.refl _ _)) ⟨fun k => match k with | 1 => g1 | 2 => g2 | 3 => g3 | 4 => g4 | 5 => g5 | 6 => g6 | _ => g7, rfl, ⟨(unhide HOW).1, (unhide HOW).2.1, (unhide HOW).2.2.1, (unhide HOW).2.2.2.1, (unhide HOW).2.2.2.2.1, (unhide HOW).2.2.2.2.2.1, (unhide HOW).2.2.2.2.2.2, ?_⟩⟩ whD_lt (fun h => absurd h (by decide))⟩
      intro p q hp1 hp7 hq1 hq7 hpq
      have hne := unhide HAP (4 * p - 1) (4 * q - 1)
      obtain rfl | rfl | rfl | rfl | rfl | rfl | rfl : p = 1 ∨ p = 2 ∨ p = 3 ∨ p = 4 ∨ p = 5 ∨ p = 6 ∨ p = 7 := by omega
      all_goals
        obtain rfl | rfl | rfl | rfl | rfl | rfl | rfl : q = 1 ∨ q = 2 ∨ q = 3 ∨ q = 4 ∨ q = 5 ∨ q = 6 ∨ q = 7 := by omega
      all_goals first
        | exact absurd rfl hpq
        | (have h1 := hne (by decide) (by decide) (by decide) (by kernel_rfl) (by kernel_rfl)
           simp only [Nat.reduceMul, Nat.reduceSub, v1, v2, v3, v4, v5, v6, v7] at h1
           rcases h1 with h1 | h1
           · exact absurd h1 (by simp [Value.ownBlock])
           · intro e
             exact h1 (congrArg some e))
    · refine wpOp_step rfl (fun K hK => ?_)
      clear hlt hif
      go_simp
      have hz := (unhide HJ).sz
      exact hK _ _ ⟨slotPut U 29 _, rfl, (unhide HJ).put 29 _ h0 ((Below.refl _ _).alloc (Nat.le_refl _) _) (whD_st ((Below.refl _ _).alloc (Nat.le_refl _) _)) ⟨w.heap.size, rfl, hz, Blk.new w _ _⟩ whD_lt (fun h => absurd h (by decide))⟩
  · rintro l a w ⟨U, rfl, hJ⟩ hall
    obtain ⟨g, hv, hL⟩ := hJ.val 28 (hall 28 (by decide) (by decide))
    obtain ⟨M, hM, hlo, hbk⟩ := hJ.val 29 (hall 29 (by decide) (by decide))
    have HJ := hide hJ
    clear hJ hall
    refine wpOp_step rfl (fun K hK => ?_)
    have e0 := hbk.cell 0
    have f0 := hbk.frozen 0
    have e1 := hbk.cell 1
    have f1 := hbk.frozen 1
    have e2 := hbk.cell 2
    have f2 := hbk.frozen 2
    have e3 := hbk.cell 3
    have f3 := hbk.frozen 3
    have e4 := hbk.cell 4
    have f4 := hbk.frozen 4
    have e5 := hbk.cell 5
    have f5 := hbk.frozen 5
    have e6 := hbk.cell 6
    have f6 := hbk.frozen 6
    have e7 := hbk.cell 7
    have f7 := hbk.frozen 7
    have b9 := box8b hbk (.slice none 0 0) (.slice (some ⟨g 1, 0, none⟩) T.co.length (T.co.length + 8)) (.slice (some ⟨g 2, 0, none⟩) T.ma.length (T.ma.length + 8)) (.slice (some ⟨g 3, 0, none⟩) T.pr.length (T.pr.length + 8)) (.slice (some ⟨g 4, 0, none⟩) T.fo.length (T.fo.length + 8)) (.slice (some ⟨g 5, 0, none⟩) T.lk.length (T.lk.length + 8)) (.slice (some ⟨g 6, 0, none⟩) T.dr.length (T.dr.length + 8)) (.slice (some ⟨g 7, 0, none⟩) T.al.length (T.al.length + 8))
    have g9 := grown8 w M (.slice none 0 0) (.slice (some ⟨g 1, 0, none⟩) T.co.length (T.co.length + 8)) (.slice (some ⟨g 2, 0, none⟩) T.ma.length (T.ma.length + 8)) (.slice (some ⟨g 3, 0, none⟩) T.pr.length (T.pr.length + 8)) (.slice (some ⟨g 4, 0, none⟩) T.fo.length (T.fo.length + 8)) (.slice (some ⟨g 5, 0, none⟩) T.lk.length (T.lk.length + 8)) (.slice (some ⟨g 6, 0, none⟩) T.dr.length (T.dr.length + 8)) (.slice (some ⟨g 7, 0, none⟩) T.al.length (T.al.length + 8))
    have HB9 := hide ((unhide HJ).bel.grown g9 (unhide HJ).sz (fun k hk => by cases hk; exact hlo))
    have HL9 := hide (hL.kept g9 (fun p h1 h7 e => by
      obtain rfl | rfl | rfl | rfl | rfl | rfl | rfl : p = 1 ∨ p = 2 ∨ p = 3 ∨ p = 4 ∨ p = 5 ∨ p = 6 ∨ p = 7 := by omega
      · exact blk_row hbk hL.r1 (by decide) (by rw [← e]; rfl)
      · exact blk_row hbk hL.r2 (by decide) (by rw [← e]; rfl)
      · exact blk_row hbk hL.r3 (by decide) (by rw [← e]; rfl)
      · exact blk_row hbk hL.r4 (by decide) (by rw [← e]; rfl)
      · exact blk_row hbk hL.r5 (by decide) (by rw [← e]; rfl)
      · exact blk_row hbk hL.r6 (by decide) (by rw [← e]; rfl)
      · exact blk_row hbk hL.r7 (by decide) (by rw [← e]; rfl)))
    have HBX9 := hide b9
    have HLO := hide hlo
    have HZ9 : Hz (W.heap.size + 2 ≤ _) := hide (Nat.le_trans (unhide HJ).sz g9.size)
    clear hL hlo hbk b9 g9 HJ
    go_simp
    refine hK _ _ ?_
    clear hK K e0 e1 e2 e3 e4 e5 e6 e7 f0 f1 f2 f3 f4 f5 f6 f7
    generalize ((((((((w.setCell _ _).setCell _ _).setCell _ _).setCell _ _).setCell _ _).setCell _ _).setCell _ _).setCell _ _) = w9 at *
    have x0 := unhide HX0 w9 (unhide HB9)
    have HC := hide (roomyScript_any a0 c0 T.sc.length (encSc T.sc us) (encSc_length _ _ (unhide HT _ (unhide HB9)).lu) (encSc_one _ _ (fun u hu => by
      obtain ⟨j, hj⟩ := List.mem_iff_getElem?.1 hu
      obtain ⟨s, hs⟩ : ∃ s, T.sc[j]? = some s := ⟨_, List.getElem?_eq_getElem (by have := (List.getElem?_eq_some_iff.1 hj).1; have := (unhide HT _ (unhide HB9)).lu; omega)⟩
      obtain ⟨b, d, rfl, _⟩ := (unhide HT _ (unhide HB9)).rs j s u hs hj
      rfl)) (unhide HO).n0 ⟨#[114, 111, 111, 109]⟩ none 0 0 w9 (unhide HT _ (unhide HB9)).r0)
    go_wp2_with fail
    refine (unhide HC).mono ?_
    rintro e w10 ⟨g0, rfl, hg0, ho0, hb10⟩
    have b10 := (unhide HBX9).below hb10 (unhide HBX9).lt
    have l10 := (unhide HL9).below hb10
    have e0 := b10.cell 0
    have f0 := b10.frozen 0
    have HW : Hz (WhW (((W.alloc (.cells #[.slice a0 T.sc.length c0, .slice a1 T.co.length c1, .slice a2 T.ma.length c2, .slice a3 T.pr.length c3, .slice a4 T.fo.length c4, .slice a5 T.lk.length c5, .slice a6 T.dr.length c6, .slice a7 T.al.length c7] 28)).alloc (.cells #[.slice none 0 0, .slice none 0 0, .slice none 0 0, .slice none 0 0, .slice none 0 0, .slice none 0 0, .slice none 0 0, .slice none 0 0] 28)).drew) (W.heap.size + 2) M T us (whG g0 g) 0 us (w10.setCell ⟨M, 0, none⟩ (.slice (some ⟨g0, 0, none⟩) T.sc.length (T.sc.length + 8)))) := hide (by
      have g11 := grown_set' w10 M 0 (.slice (some ⟨g0, 0, none⟩) T.sc.length (T.sc.length + 8))
      have b11 := b10.set 0 (.slice (some ⟨g0, 0, none⟩) T.sc.length (T.sc.length + 8))
      have hz := unhide HZ9
      have r0 := own_lower ho0 (show W.heap.size + 2 ≤ w9.heap.size + 1 by omega)
      have hne : some M ≠ some g0 := blk_row b10 r0 (by decide)
      have hlu := (unhide HT _ (unhide HB9)).lu
      exact ⟨⟨(l10.kept g11 (l10.neB b10)).whG g0, hlu, rd_other r0 g11 (.inr (fun e => hne e.symm)), fun _ _ => rfl, fun j _ _ hj => absurd hj (Nat.not_lt_zero j), fun j _ _ _ hj => absurd hj (Nat.not_lt_zero j), fun j _ _ hj => absurd hj (Nat.not_lt_zero j)⟩, ((unhide HB9).trans (hb10.mono hz)).setCell (p := ⟨M, 0, none⟩) (unhide HLO) _, b11, unhide HLO, Nat.le_trans hz (Nat.le_trans hb10.size g11.size)⟩)
    clear hg0 ho0 hb10 b10 l10 HC HBX9 HL9 HB9 HZ9 x0 HX0 HX1 HX2 HX3 HX4 HX5 HX6 HX7
    go_wp2_with fail
    clear e0 f0
    generalize w10.setCell ⟨M, 0, none⟩ _ = w11 at *
    obtain ⟨N, hN⟩ : ∃ N, N = T.sc.length := ⟨_, rfl⟩
    have HN := hide hN
    have hN1 : N ≤ 1000000 := by have := (unhide HO).n0; omega
    clear hN
    generalize whG g0 g = gg at *
    go_loopw [4] (fun iv wr => ∃ (i : Nat) (cu : List Value), iv = .int .i64 (i : Int) ∧ i ≤ N ∧ Hz (WhW (((W.alloc (.cells #[.slice a0 T.sc.length c0, .slice a1 T.co.length c1, .slice a2 T.ma.length c2, .slice a3 T.pr.length c3, .slice a4 T.fo.length c4, .slice a5 T.lk.length c5, .slice a6 T.dr.length c6, .slice a7 T.al.length c7] 28)).alloc (.cells #[.slice none 0 0, .slice none 0 0, .slice none 0 0, .slice none 0 0, .slice none 0 0, .slice none 0 0, .slice none 0 0, .slice none 0 0] 28)).drew) (W.heap.size + 2) M T us gg i cu wr)) (fun iv _ => N - cntI iv)
    case atStart => exact ⟨0, us, rfl, Nat.zero_le _, HW⟩
    case round =>
      obtain ⟨i, cu, rfl, hi, HQ⟩ := hrel
      clear HW
      have x0 : wr.cell? ⟨M, 0, none⟩ = some (.slice (some ⟨gg 0, 0, none⟩) N (N + 8)) := by have h5 := (unhide HQ).box.cell 0; rw [h5, unhide HN]; rfl
      by_cases hlt : i < N
      · have hlt2 : (i : Int) < (N : Int) := by omega
        have hi0 : (0 : Int) ≤ (i : Int) := by omega
        obtain ⟨s, hs⟩ : ∃ s, T.sc[i]? = some s := ⟨_, List.getElem?_eq_getElem (by have := unhide HN; omega)⟩
        obtain ⟨x, hx⟩ : ∃ x, us[i]? = some x := ⟨_, List.getElem?_eq_getElem (by have := unhide HN; have := (unhide HT _ (unhide HQ).bel).lu; omega)⟩
        have hcx : cu[i]? = some x := ((unhide HQ).st.old i (Nat.le_refl _)).trans hx
        obtain ⟨xb, xd, rfl, hrow⟩ := (unhide HT _ (unhide HQ).bel).rs i s x hs hx
        have x1 : wr.cell? ⟨gg 0, i * 2 + 1, none⟩ = some (.slice xb s.2.length xd) := own_cell (unhide HQ).st.r0 _ _ (by
          have hlu := (unhide HQ).st.lu
          rw [List.getElem?_append_left (by rw [encSc_length _ _ hlu]; have := unhide HN; omega), Nat.mul_comm, encSc_at _ _ hlu]
          exact hcx)
        have x2 := unhide HG0 wr (unhide HQ).bel
        have x3 := unhide HG1 wr (unhide HQ).bel
        have hsl := ((unhide HO).z0 s (List.mem_of_getElem? hs)).2
        have HC : Hz (∀ w', Below wr.heap.size wr.drew w' → Calls Tryz.prog 47 #[.slice xb s.2.length xd, .agg #[.int .i32 (-77), .int .i32 0]] w' fun e w2 => ∃ g', e = .returned (.slice (some ⟨g', 0, none⟩) s.2.length (s.2.length + 8)) ∧ Below w'.heap.size w' w2 ∧ w2.ownsRow (wr.heap.size + 1) 68 2 (.slice (some ⟨g', 0, none⟩) (s.2.length + 8) (s.2.length + 8)) (s.2.length + 8) (encS2 s.2 ++ mkN [.int .i32 (-77), .int .i32 0] 8)) := hide (fun w' hw => by
          have hw2 : Below wr.heap.size wr w' := ((Below.refl wr.heap.size wr).drew).trans hw
          refine (roomySpan_any xb xd s.2.length (encS2 s.2) (encS2_length _) (encS2_one _) hsl (-77) 0 w' (hrow.below hw2 hw2.size)).mono ?_
          rintro e w2 ⟨g', rfl, hg, ho, hb⟩
          exact ⟨g', rfl, hb, own_lower ho (by have := hw2.size; omega)⟩)
        have HNX : Hz (∀ (w2 : World) (g' : Nat), Below wr.heap.size wr w2 → w2.ownsRow (wr.heap.size + 1) 68 2 (.slice (some ⟨g', 0, none⟩) (s.2.length + 8) (s.2.length + 8)) (s.2.length + 8) (encS2 s.2 ++ mkN [.int .i32 (-77), .int .i32 0] 8) → WhW (((W.alloc (.cells #[.slice a0 T.sc.length c0, .slice a1 T.co.length c1, .slice a2 T.ma.length c2, .slice a3 T.pr.length c3, .slice a4 T.fo.length c4, .slice a5 T.lk.length c5, .slice a6 T.dr.length c6, .slice a7 T.al.length c7] 28)).alloc (.cells #[.slice none 0 0, .slice none 0 0, .slice none 0 0, .slice none 0 0, .slice none 0 0, .slice none 0 0, .slice none 0 0, .slice none 0 0] 28)).drew) (W.heap.size + 2) M T us gg (i + 1) (cu.set i (.slice (some ⟨g', 0, none⟩) s.2.length (s.2.length + 8))) (w2.setCell ⟨gg 0, i * 2 + 1, none⟩ (.slice (some ⟨g', 0, none⟩) s.2.length (s.2.length + 8)))) := hide (fun w2 g' hb ho => (unhide HQ).next hs ho hb)
        have HF : Hz (∀ w2, Below wr.heap.size wr.drew w2 → w2.cell? ⟨M, 0, none⟩ = some (.slice (some ⟨gg 0, 0, none⟩) N (N + 8)) ∧ w2.cell? ⟨gg 0, i * 2 + 1, none⟩ = some (.slice xb s.2.length xd) ∧ w2.cell? ⟨0, 0, none⟩ = some (.int .i32 (-77)) ∧ w2.cell? ⟨0, 1, none⟩ = some (.int .i32 0)) := hide (fun w2 hb' => have hb : Below wr.heap.size wr w2 := ((Below.refl wr.heap.size wr).drew).trans hb'; ⟨(hb.cell (p := ⟨M, 0, none⟩) (unhide HQ).box.lt).trans x0, (hb.cell (p := ⟨gg 0, i * 2 + 1, none⟩) (own_ltW (unhide HQ).st.r0 _ rfl)).trans x1, (hb.cell (p := ⟨0, 0, none⟩) (block_lt_of_cell x2)).trans x2, (hb.cell (p := ⟨0, 1, none⟩) (block_lt_of_cell x3)).trans x3⟩)
        have HFR : Hz (∀ w2, Below wr.heap.size wr w2 → w2.frozen? ⟨gg 0, i * 2 + 1, none⟩ = false) := hide (fun w2 hb => own_thaw (own_bel (unhide HQ).st.r0 hb) _)
        have HBD : Hz (Below wr.heap.size wr wr.drew) := hide (Below.refl _ _).drew
        clear hs hx hcx hrow hsl HQ x1 x2 x3
        go_wp2_with fail
        clear x0
        refine wp_region_inv hmx 13 (by decide) (by kernel_rfl) (by kernel_rfl) (fun l a w => ∃ V : Nat → Value, a = { tmps := #[.agg #[.slice a0 T.sc.length c0, .slice a1 T.co.length c1, .slice a2 T.ma.length c2, .slice a3 T.pr.length c3, .slice a4 T.fo.length c4, .slice a5 T.lk.length c5, .slice a6 T.dr.length c6, .slice a7 T.al.length c7], .pointer (some ⟨W.heap.size, 0, none⟩), .pointer (some ⟨W.heap.size + 1, 0, none⟩), .pointer (some ⟨M, 0, none⟩), .int .i64 (i : Int), U 0, U 1, U 2, U 3, U 4, U 5, U 6, U 7, U 8, U 9, U 10, U 11, U 12, U 13, U 14, U 15, U 16, U 17, U 18, U 19, U 20, U 21, U 22, U 23, U 24, U 25, U 26, U 27, .agg #[.slice none 0 0, .slice (some ⟨g 1, 0, none⟩) T.co.length (T.co.length + 8), .slice (some ⟨g 2, 0, none⟩) T.ma.length (T.ma.length + 8), .slice (some ⟨g 3, 0, none⟩) T.pr.length (T.pr.length + 8), .slice (some ⟨g 4, 0, none⟩) T.fo.length (T.fo.length + 8), .slice (some ⟨g 5, 0, none⟩) T.lk.length (T.lk.length + 8), .slice (some ⟨g 6, 0, none⟩) T.dr.length (T.dr.length + 8), .slice (some ⟨g 7, 0, none⟩) T.al.length (T.al.length + 8)], .pointer (some ⟨W.heap.size, 0, none⟩), .slice a0 T.sc.length c0, .agg #[.string ⟨#[114, 111, 111, 109]⟩, .slice none 0 0], .slice (some ⟨g0, 0, none⟩) T.sc.length (T.sc.length + 8), .pointer (some ⟨M, 0, none⟩), .int .i64 (i : Int), .pointer (some ⟨M, 0, none⟩), .slice (some ⟨gg 0, 0, none⟩) N (N + 8), .int .i64 (N : Int), .bool true, u44, u45, V 0, V 1, V 2, V 3, V 4, V 5, V 6, V 7, V 8, V 9, V 10, V 11, V 12, undef], defers := [] } ∧ RgJ (wr.drew) (wr.heap.size) (wlD wr.heap.size M (gg 0) N i xb s.2.length xd (encS2 s.2 ++ mkN [.int .i32 (-77), .int .i32 0] 8)) wlDM l V w) ⟨fun k => match k with | 0 => u46 | 1 => u47 | 2 => u48 | 3 => u49 | 4 => u50 | 5 => u51 | 6 => u52 | 7 => u53 | 8 => u54 | 9 => u55 | 10 => u56 | 11 => u57 | _ => u58, rfl, RgJ.start _ _ (Nat.le_refl _)⟩ ?_ ?_
        · rintro l a w i ⟨V, rfl, hJ⟩ hl hi hif
          have h0 := (mem_ready.1 hi).1
          have hlt := rg_lt hl h0
          have HJ := hide hJ
          clear hJ hl
          replace hlt : i < 14 := hlt
          obtain rfl | rfl | rfl | rfl | rfl | rfl | rfl | rfl | rfl | rfl | rfl | rfl | rfl : i = 0 ∨ i = 1 ∨ i = 2 ∨ i = 3 ∨ i = 4 ∨ i = 5 ∨ i = 6 ∨ i = 7 ∨ i = 8 ∨ i = 9 ∨ i = 10 ∨ i = 11 ∨ i = 12 := by omega
          · refine wpOp_step rfl (fun K hK => ?_)
            clear hlt hif
            go_simp
            exact hK _ _ ⟨slotPut V 0 _, rfl, (unhide HJ).put 0 _ h0 (Below.refl _ _) (wlD_st (Below.refl _ _)) rfl wlD_lt (fun h => absurd h (by decide))⟩
          · refine wpOp_step rfl (fun K hK => ?_)
            clear hlt hif
            have d0 : V 0 = .pointer (some ⟨M, 0, none⟩) := (unhide HJ).val 0 (rg_dep hi 0 (by kernel_rfl))
            have q := (unhide HF w (unhide HJ).bel).1
            go_simp
            exact hK _ _ ⟨slotPut V 1 _, (by rw [slotEq d0]; rfl), (unhide HJ).put 1 _ h0 (Below.refl _ _) (wlD_st (Below.refl _ _)) rfl wlD_lt (fun h => absurd h (by decide))⟩
          · refine wpOp_step rfl (fun K hK => ?_)
            clear hlt hif
            go_simp
            exact hK _ _ ⟨slotPut V 2 _, rfl, (unhide HJ).put 2 _ h0 (Below.refl _ _) (wlD_st (Below.refl _ _)) rfl wlD_lt (fun h => absurd h (by decide))⟩
          · refine wpOp_step rfl (fun K hK => ?_)
            clear hlt hif
            go_simp
            exact hK _ _ ⟨slotPut V 3 _, rfl, (unhide HJ).put 3 _ h0 (Below.refl _ _) (wlD_st (Below.refl _ _)) rfl wlD_lt (fun h => absurd h (by decide))⟩
          · refine wpOp_step rfl (fun K hK => ?_)
            clear hlt hif
            have d3 : V 3 = .pointer (some ⟨M, 0, none⟩) := (unhide HJ).val 3 (rg_dep hi 3 (by kernel_rfl))
            have q := (unhide HF w (unhide HJ).bel).1
            go_simp
            exact hK _ _ ⟨slotPut V 4 _, (by rw [slotEq d3]; rfl), (unhide HJ).put 4 _ h0 (Below.refl _ _) (wlD_st (Below.refl _ _)) rfl wlD_lt (fun h => absurd h (by decide))⟩
          · refine wpOp_step rfl (fun K hK => ?_)
            clear hlt hif
            go_simp
            exact hK _ _ ⟨slotPut V 5 _, rfl, (unhide HJ).put 5 _ h0 (Below.refl _ _) (wlD_st (Below.refl _ _)) rfl wlD_lt (fun h => absurd h (by decide))⟩
          · refine wpOp_step rfl (fun K hK => ?_)
            clear hlt hif
            have d4 : V 4 = .slice (some ⟨gg 0, 0, none⟩) N (N + 8) := (unhide HJ).val 4 (rg_dep hi 4 (by kernel_rfl))
            have d5 : V 5 = .int .i64 (i : Int) := (unhide HJ).val 5 (rg_dep hi 5 (by kernel_rfl))
            go_simp
            exact hK _ _ ⟨slotPut V 6 _, (by rw [slotEq d4, slotEq d5]; rfl), (unhide HJ).put 6 _ h0 (Below.refl _ _) (wlD_st (Below.refl _ _)) rfl wlD_lt (fun h => absurd h (by decide))⟩
          · refine wpOp_step rfl (fun K hK => ?_)
            clear hlt hif
            have d6 : V 6 = .pointer (some ⟨gg 0, i * 2, none⟩) := (unhide HJ).val 6 (rg_dep hi 6 (by kernel_rfl))
            go_simp
            exact hK _ _ ⟨slotPut V 7 _, (by rw [slotEq d6]; rfl), (unhide HJ).put 7 _ h0 (Below.refl _ _) (wlD_st (Below.refl _ _)) rfl wlD_lt (fun h => absurd h (by decide))⟩
          · refine wpOp_step rfl (fun K hK => ?_)
            clear hlt hif
            have d7 : V 7 = .pointer (some ⟨gg 0, i * 2 + 1, none⟩) := (unhide HJ).val 7 (rg_dep hi 7 (by kernel_rfl))
            have q := (unhide HF w (unhide HJ).bel).2.1
            go_simp
            exact hK _ _ ⟨slotPut V 8 _, (by rw [slotEq d7]; rfl), (unhide HJ).put 8 _ h0 (Below.refl _ _) (wlD_st (Below.refl _ _)) rfl wlD_lt (fun h => absurd h (by decide))⟩
          · refine wpOp_step rfl (fun K hK => ?_)
            clear hlt hif
            have q := (unhide HF w (unhide HJ).bel).2.2.1
            have q2 := (unhide HF w (unhide HJ).bel).2.2.2
            go_simp
            exact hK _ _ ⟨slotPut V 9 _, rfl, (unhide HJ).put 9 _ h0 (Below.refl _ _) (wlD_st (Below.refl _ _)) rfl wlD_lt (fun h => absurd h (by decide))⟩
          · refine wpOp_step rfl (fun K hK => ?_)
            clear hlt hif
            have d8 : V 8 = .slice xb s.2.length xd := (unhide HJ).val 8 (rg_dep hi 8 (by kernel_rfl))
            have d9 : V 9 = .agg #[.int .i32 (-77), .int .i32 0] := (unhide HJ).val 9 (rg_dep hi 9 (by kernel_rfl))
            go_simp
            refine (unhide HC _ (unhide HJ).bel).mono ?_
            rintro e w' ⟨g', rfl, hb, ho⟩
            exact hK _ _ ⟨slotPut V 10 _, (by rw [slotEq d8, slotEq d9]; rfl), (unhide HJ).put 10 _ h0 hb (wlD_st hb) ⟨g', rfl, ho⟩ wlD_lt (fun h => absurd h (by decide))⟩
          · refine wpOp_step rfl (fun K hK => ?_)
            clear hlt hif
            have d1 : V 1 = .slice (some ⟨gg 0, 0, none⟩) N (N + 8) := (unhide HJ).val 1 (rg_dep hi 1 (by kernel_rfl))
            have d2 : V 2 = .int .i64 (i : Int) := (unhide HJ).val 2 (rg_dep hi 2 (by kernel_rfl))
            go_simp
            exact hK _ _ ⟨slotPut V 11 _, (by rw [slotEq d1, slotEq d2]; rfl), (unhide HJ).put 11 _ h0 (Below.refl _ _) (wlD_st (Below.refl _ _)) rfl wlD_lt (fun h => absurd h (by decide))⟩
          · refine wpOp_step rfl (fun K hK => ?_)
            clear hlt hif
            have d11 : V 11 = .pointer (some ⟨gg 0, i * 2, none⟩) := (unhide HJ).val 11 (rg_dep hi 11 (by kernel_rfl))
            go_simp
            exact hK _ _ ⟨slotPut V 12 _, (by rw [slotEq d11]; rfl), (unhide HJ).put 12 _ h0 (Below.refl _ _) (wlD_st (Below.refl _ _)) rfl wlD_lt (fun h => absurd h (by decide))⟩
        · rintro l a w ⟨V, rfl, hJ⟩ hall
          obtain ⟨g', hv, ho⟩ := hJ.val 10 (hall 10 (by decide) (by decide))
          have hp : V 12 = .pointer (some ⟨gg 0, i * 2 + 1, none⟩) := hJ.val 12 (hall 12 (by decide) (by decide))
          have hb2 : Below wr.heap.size wr w := (unhide HBD).trans hJ.bel
          have z0 := unhide HFR _ hb2
          have z1 := (unhide HF w hJ.bel).2.1
          have HQ2 := hide (unhide HNX _ g' hb2 ho)
          clear hJ hall ho hb2
          refine wpOp_step rfl (fun K hK => ?_)
          go_simp
          refine hK _ _ ?_
          clear hK K z0 z1
          generalize w.setCell _ _ = w3 at *
          go_wp2_with fail
          go_roundw
          case rel => exact ⟨i + 1, _, rfl, hlt, HQ2⟩
          case measure => show N - ((i : Int) + 1).toNat < N - (i : Int).toNat; omega
      · have hle : ¬ ((i : Int) < (N : Int)) := by omega
        have hiN : i = N := by omega
        have hfin := (unhide HQ).st.fin (by rw [hiN]; exact unhide HN)
        have m0 : wr.cell? ⟨M, 0, none⟩ = some (.slice (some ⟨gg 0, 0, none⟩) T.sc.length (T.sc.length + 8)) := (unhide HQ).box.cell 0
        have m1 : wr.cell? ⟨M, 1, none⟩ = some (.slice (some ⟨gg 1, 0, none⟩) T.co.length (T.co.length + 8)) := (unhide HQ).box.cell 1
        have m2 : wr.cell? ⟨M, 2, none⟩ = some (.slice (some ⟨gg 2, 0, none⟩) T.ma.length (T.ma.length + 8)) := (unhide HQ).box.cell 2
        have m3 : wr.cell? ⟨M, 3, none⟩ = some (.slice (some ⟨gg 3, 0, none⟩) T.pr.length (T.pr.length + 8)) := (unhide HQ).box.cell 3
        have m4 : wr.cell? ⟨M, 4, none⟩ = some (.slice (some ⟨gg 4, 0, none⟩) T.fo.length (T.fo.length + 8)) := (unhide HQ).box.cell 4
        have m5 : wr.cell? ⟨M, 5, none⟩ = some (.slice (some ⟨gg 5, 0, none⟩) T.lk.length (T.lk.length + 8)) := (unhide HQ).box.cell 5
        have m6 : wr.cell? ⟨M, 6, none⟩ = some (.slice (some ⟨gg 6, 0, none⟩) T.dr.length (T.dr.length + 8)) := (unhide HQ).box.cell 6
        have m7 : wr.cell? ⟨M, 7, none⟩ = some (.slice (some ⟨gg 7, 0, none⟩) T.al.length (T.al.length + 8)) := (unhide HQ).box.cell 7
        have bR := unhide HXR wr (unhide HQ).bel
        have e0 := bR.cell 0
        have f0 := bR.frozen 0
        have e1 := bR.cell 1
        have f1 := bR.frozen 1
        have e2 := bR.cell 2
        have f2 := bR.frozen 2
        have e3 := bR.cell 3
        have f3 := bR.frozen 3
        have e4 := bR.cell 4
        have f4 := bR.frozen 4
        have e5 := bR.cell 5
        have f5 := bR.frozen 5
        have e6 := bR.cell 6
        have f6 := bR.frozen 6
        have e7 := bR.cell 7
        have f7 := bR.frozen 7
        have b12 := box8b bR (.slice (some ⟨gg 0, 0, none⟩) T.sc.length (T.sc.length + 8)) (.slice (some ⟨gg 1, 0, none⟩) T.co.length (T.co.length + 8)) (.slice (some ⟨gg 2, 0, none⟩) T.ma.length (T.ma.length + 8)) (.slice (some ⟨gg 3, 0, none⟩) T.pr.length (T.pr.length + 8)) (.slice (some ⟨gg 4, 0, none⟩) T.fo.length (T.fo.length + 8)) (.slice (some ⟨gg 5, 0, none⟩) T.lk.length (T.lk.length + 8)) (.slice (some ⟨gg 6, 0, none⟩) T.dr.length (T.dr.length + 8)) (.slice (some ⟨gg 7, 0, none⟩) T.al.length (T.al.length + 8))
        have g12 := grown8 wr (W.heap.size + 1) (.slice (some ⟨gg 0, 0, none⟩) T.sc.length (T.sc.length + 8)) (.slice (some ⟨gg 1, 0, none⟩) T.co.length (T.co.length + 8)) (.slice (some ⟨gg 2, 0, none⟩) T.ma.length (T.ma.length + 8)) (.slice (some ⟨gg 3, 0, none⟩) T.pr.length (T.pr.length + 8)) (.slice (some ⟨gg 4, 0, none⟩) T.fo.length (T.fo.length + 8)) (.slice (some ⟨gg 5, 0, none⟩) T.lk.length (T.lk.length + 8)) (.slice (some ⟨gg 6, 0, none⟩) T.dr.length (T.dr.length + 8)) (.slice (some ⟨gg 7, 0, none⟩) T.al.length (T.al.length + 8))
        have HR12 := hide b12
        have HF12 := hide (hfin.kept g12 (by omega))
        have HB12 : Hz (Below W.heap.size W _) := hide (((unhide HB0).trans ((unhide HQ).bel.mono (by omega))).grown g12 (Nat.le_trans (Nat.le_add_right _ 2) (unhide HQ).lw) (fun k hk => by cases hk; exact Nat.le_succ _))
        clear hfin bR b12 g12 x0
        rw [unhide HN] at hle
        clear HQ
        go_wp2_with fail
        have b12 := unhide HR12
        have r0 := b12.cell 0
        have r1 := b12.cell 1
        have r2 := b12.cell 2
        have r3 := b12.cell 3
        have r4 := b12.cell 4
        have r5 := b12.cell 5
        have r6 := b12.cell 6
        have r7 := b12.cell 7
        exact bodyPost_ret (v := Value.agg #[.slice (some ⟨gg 0, 0, none⟩) T.sc.length (T.sc.length + 8), .slice (some ⟨gg 1, 0, none⟩) T.co.length (T.co.length + 8), .slice (some ⟨gg 2, 0, none⟩) T.ma.length (T.ma.length + 8), .slice (some ⟨gg 3, 0, none⟩) T.pr.length (T.pr.length + 8), .slice (some ⟨gg 4, 0, none⟩) T.fo.length (T.fo.length + 8), .slice (some ⟨gg 5, 0, none⟩) T.lk.length (T.lk.length + 8), .slice (some ⟨gg 6, 0, none⟩) T.dr.length (T.dr.length + 8), .slice (some ⟨gg 7, 0, none⟩) T.al.length (T.al.length + 8)]) (by simp [results, Tryz.results27, go_sem, r0, r1, r2, r3, r4, r5, r6, r7]) rfl ⟨gg, rfl, ⟨cu, unhide HF12⟩, unhide HB12⟩
end Go.Proofs.YtjgfmobmilgapaaGreatDoor
