/- The function that Bads of a text hands back, as an iterator: the places of the bad spots. It ranges over All. -/
import Derived.Test.YtnphbjhikapoeaaTextIter
namespace Go.Proofs.Ytnphbjhikapoeaa
open Go.RowKit Go.Shelf
attribute [local go_sem] Oper.semAt_some
set_option linter.unusedVariables false
/-- Is the m-th spot bad? -/
def badAt (s : ByteArray) (m : Nat) : Bool := (spotV s (stAt s m)).2.2
/-- The bad ones of the first m spots. -/
def bads (s : ByteArray) (m : Nat) : List Nat := (List.range m).filter (badAt s)
theorem bads_yes {s : ByteArray} {m : Nat} (h : badAt s m = true) : bads s (m + 1) = bads s m ++ [m] := by unfold bads; rw [List.range_succ, List.filter_append]; simp [h]
theorem bads_no {s : ByteArray} {m : Nat} (h : badAt s m = false) : bads s (m + 1) = bads s m := by unfold bads; rw [List.range_succ, List.filter_append]; simp [h]
abbrev encsD (s : ByteArray) (m : Nat) : Array Value := #[.agg #[.int .i64 (stAt s m : Int), .int .i64 (m : Int)]]
def TBadI (W0 : World) (l : Nat) (s : ByteArray) (J : List Nat → World → Prop) (pre : List Nat) (W : World) : Prop :=
  ∃ m, m ≤ (starts s).length ∧ pre = List.range m ∧ J (bads s m) W ∧ Blk W W0.heap.size #[.func (.yield l) #[] #[]] 91
theorem TBadI.old {W0 : World} {l : Nat} {s : ByteArray} {J : List Nat → World → Prop} (hJ : Old W0.heap.size J) : Old (W0.heap.size + 2) (TBadI W0 l s J) := fun p X Y ⟨m, h0, h1, h2, h4⟩ hb =>
  ⟨m, h0, h1, hJ _ _ _ h2 (hb.mono (by omega)), h4.below hb (by omega)⟩
theorem tall_call (B : Nat) (w : World) : Calls Try.prog 18 #[.pointer (some ⟨B, 0, none⟩)] w fun e w' => e = .returned (.func (.func 46) #[] #[.pointer (some ⟨w.heap.size, 0, none⟩)]) ∧ w' = w.alloc (.cells #[.pointer (some ⟨B, 0, none⟩)] 22) := by
  go_enter Try.func18, Try.ntmps18
  go_wp2
  go_ret
  exact ⟨rfl, rfl⟩
set_option maxRecDepth 100000 in
set_option maxHeartbeats 4000000 in
theorem tbads_in (Kp : World → World → Prop) (n l Bn B : Nat) (hn : 6 ≤ n) (s : ByteArray) (hs : s.size ≤ 70000) (J Jx : List Nat → World → Prop) (w W0 : World) (hw : Below w.heap.size w W0) (hB : w.cell? ⟨B, 0, none⟩ = some (.string s)) (hbx : w.cell? ⟨Bn, 0, none⟩ = some (.pointer (some ⟨B, 0, none⟩))) (hJ : Old W0.heap.size J) (hJx : Old W0.heap.size Jx)
    (hY : ∀ pre x W1, J pre W1 → (x < (starts s).length ∧ badAt s x = true ∧ pre = bads s x) → W0.heap.size ≤ W1.heap.size → YieldAt Fence.wide (n - 1) Try.prog l (encsD s x) W1 fun e W' => Above W0.heap.size W1 W' ∧
      ((e = .returned (.bool true) ∧ J (pre ++ [x]) W' ∧ Kp W1 W') ∨ (e = .returned (.bool false) ∧ Jx (pre ++ [x]) W')))
    (h0 : J [] W0) :
    CallsIn Fence.wide n Try.prog 44 #[.func (.yield l) #[] #[], .pointer (some ⟨Bn, 0, none⟩)] W0 fun e W' => (∃ v, e = .returned v) ∧
      ((∃ ys, ys = bads s (starts s).length ∧ J ys W') ∨ (∃ pre, (∃ m, m < (starts s).length ∧ badAt s m = true ∧ pre = bads s (m + 1)) ∧ Jx pre W')) := by
  have h1 : 1 ≤ n := by omega
  have hK0 := Kept.of hw
  have hww := hw.size
  have hsl := starts_length s
  have d0 := fun o => alloc_cell o (hK0.cell hbx)
  have hBb := fun o o' => alloc_cell o' (alloc_cell o (hK0.cell hB))
  refine callsIn_of_wp_marks Try.func44 rfl trivial ?_ rfl
  simp only [Try.ntmps44, List.size_toArray, List.length_cons, List.length_nil, Nat.reduceAdd, Nat.reduceSub, Array.replicate_succ, Array.replicate_zero, List.push_toArray, List.append_toArray, List.nil_append, List.cons_append]
  gi_wp2_with fail
  refine ⟨trivial, ?_⟩
  refine (callsIn_wide.2 (tall_call B _)).mono ?_
  rintro e w' ⟨rfl, rfl⟩
  gi_wp2
  have bY := (Blk.new W0 #[.func (.yield l) #[] #[]] 91).alloc (.cells #[.pointer (some ⟨B, 0, none⟩)] 22)
  have bS := Blk.new (W0.alloc (.cells #[.func (.yield l) #[] #[]] 91)) #[.pointer (some ⟨B, 0, none⟩)] 22
  simp only [World.size_alloc] at bS
  have hbb : Below W0.heap.size W0 ((W0.alloc (.cells #[.func (.yield l) #[] #[]] 91)).alloc (.cells #[.pointer (some ⟨B, 0, none⟩)] 22)) := ((Below.refl _ W0).alloc (Nat.le_refl _) _).alloc (by simp) _
  have hsz : ((W0.alloc (.cells #[.func (.yield l) #[] #[]] 91)).alloc (.cells #[.pointer (some ⟨B, 0, none⟩)] 22)).heap.size = W0.heap.size + 2 := by simp
  have hBw := hBb (.cells #[.func (.yield l) #[] #[]] 91) (.cells #[.pointer (some ⟨B, 0, none⟩)] 22)
  generalize (W0.alloc (.cells #[.func (.yield l) #[] #[]] 91)).alloc (.cells #[.pointer (some ⟨B, 0, none⟩)] 22) = Wb at *
  have hJb : J [] Wb := hJ _ _ _ h0 hbb
  refine range_deep rfl h1 (gf := 46) (lb := #[.pointer (some ⟨W0.heap.size + 1, 0, none⟩)]) rfl trivial (enters_of Try.func46 (by kernel_rfl) rfl)
    (tall_deep (fun _ _ => True) (n - 1) (W0.heap.size + 1) B (by omega) s hs Wb hBw (bS.cell 0)) (fun _ _ => trivial) (fun _ _ _ _ => trivial) (Below.refl _ _) (fun _ => rfl)
    (TBadI W0 l s J) (fun c pre W => c = .ret ∧ ∃ m, m < (starts s).length ∧ badAt s m = true ∧ Jx (bads s (m + 1)) W) (by rw [hsz]; exact TBadI.old hJ) (fun c s X Y hs hb => ⟨hs.1, by obtain ⟨m, h1, h2, h3⟩ := hs.2; exact ⟨m, h1, h2, hJx _ _ _ h3 (hb.mono (by omega))⟩⟩)
    ⟨0, Nat.zero_le _, rfl, hJb, bY⟩ ?round ?done ?stop
  case round =>
    rintro pre x W ⟨m, hm, hpre, hj, hyb⟩ ⟨hx, hpre2⟩ hge
    obtain rfl : m = x := by simpa using congrArg List.length (hpre.symm.trans hpre2)
    clear hpre2
    have hal := ((Below.refl W.heap.size W).alloc (Nat.le_refl _) (.cells #[.int .i64 (stAt s m : Int), .int .i64 (m : Int)] 30)).alloc (by simp) (.cells (spotCells (spotV s (stAt s m))) 37)
    have hP := (Blk.new W #[.int .i64 (stAt s m : Int), .int .i64 (m : Int)] 30).alloc (.cells (spotCells (spotV s (stAt s m))) 37)
    have hX := Blk.new (W.alloc (.cells #[.int .i64 (stAt s m : Int), .int .i64 (m : Int)] 30)) (spotCells (spotV s (stAt s m))) 37
    simp only [World.size_alloc] at hX
    dsimp only [encsT]
    gi_wp2
    refine ⟨Above.below hal, trivial, ⟨m, hm, hpre, hJ _ _ _ hj (hal.mono (by omega)), hyb.below hal hyb.lt⟩, ?_⟩
    intro Wr hgr hsr ⟨m2, hm2, hpre2, hj2, hyb2⟩
    obtain rfl : m = m2 := by simpa using congrArg List.length (hpre.symm.trans hpre2)
    have hPr := hP.kept hgr (by simp; omega)
    have hXr := hX.kept hgr (by simp; omega)
    obtain ⟨PP, hPe⟩ : ∃ PP, PP = W.heap.size := ⟨_, rfl⟩
    rw [← hPe] at hPr hXr
    rw [← hPe]
    have hP0 : W0.heap.size + 2 ≤ PP := by omega
    have hWr : W0.heap.size + 2 ≤ Wr.heap.size := by rw [hsr]; simp; omega
    have y0 := hyb2.cell 0
    have p0 := hPr.cell 0
    have p1 := hPr.cell 1
    have x2 := hXr.cell 2
    have hdep : Fence.wide.depth.isSome = true → 1 ≤ n - 1 - 1 := fun _ => by omega
    have HSZ := hide hsz
    have HJ := hide hJ
    cases hbd : badAt s m with
    | true =>
      have hbv : (spotV s (stAt s m)).2.2 = true := hbd
      have hye := hY (bads s m) m Wr hj2 ⟨hx, hbd, rfl⟩ (by omega)
      rw [← bads_yes hbd] at hye
      obtain ⟨fn, tmps, assign, body, hy, hR⟩ := @yield_wide _ (n - 1 - 1 - 1) _ _ _ _ _ hye
      dsimp only [encsD] at hy
      have HRR := hide (round_in (k := Wb.heap.size + 1) hR)
      have HYB := hide hyb2
      have HBD := hide hbd
      have HPR : Hid (pre ++ [m] = List.range (m + 1)) := hide (by rw [hpre, List.range_succ])
      have x2' : Wr.cell? ⟨PP + 1, 2, none⟩ = some (.bool true) := by rw [x2]; show some (Value.bool (spotV s (stAt s m)).2.2) = _; rw [hbv]
      clear hR hye hY hj2 hyb2 hPr hXr hPe hgr hsr hX hP hal hj hyb hpre hpre2 hsz d0 hBb hK0 hJb hbb bY bS hge hJ hBw x2 hbv hbd
      gi_wp2
      refine ⟨hdep, ?_⟩
      refine (unhide HRR).mono ?_
      rintro e W5 ⟨hab, (⟨rfl, hJ5, hP5⟩ | ⟨rfl, hJx5⟩)⟩
      · have c2 : Blk W5 W0.heap.size #[.func (.yield l) #[] #[]] 91 := (hab.same _ (Nat.le_refl _) (unhide HYB).lt).trans (unhide HYB)
        have c6 : Above Wb.heap.size Wr W5 := hab.mono (by have := unhide HSZ; omega)
        have HC := hide (And.intro c2 (And.intro hJ5 c6))
        clear c2 c6 hab hJ5 hP5 y0 p0 p1 x2' hy
        gi_wp2
        obtain ⟨c2, c4, c6⟩ := unhide HC
        exact ⟨c6, trivial, ⟨m + 1, by omega, unhide HPR, c4, c2⟩⟩
      · have HC := hide (And.intro (hab.mono (by have := unhide HSZ; omega) : Above Wb.heap.size Wr W5) hJx5)
        clear hab hJx5 y0 p0 p1 x2' hy
        gi_wp2
        exact ⟨(unhide HC).1, rfl, m, hx, unhide HBD, (unhide HC).2⟩
    | false =>
      have hbv : (spotV s (stAt s m)).2.2 = false := hbd
      have HI : Hid (TBadI W0 l s J (pre ++ [m]) Wr) := hide ⟨m + 1, by omega, by rw [hpre, List.range_succ], by rw [bads_no hbd]; exact hj2, hyb2⟩
      have x2' : Wr.cell? ⟨PP + 1, 2, none⟩ = some (.bool false) := by rw [x2]; show some (Value.bool (spotV s (stAt s m)).2.2) = _; rw [hbv]
      clear hY hj2 hyb2 hPr hXr hPe hgr hsr hX hP hal hj hyb hpre hpre2 hsz d0 hBb hK0 hJb hbb bY bS hge hJ hBw x2 hbv hbd
      gi_wp2
      refine ⟨(fun f h => by cases h), ?_⟩
      gi_wp2
      exact ⟨Above.refl _ _, trivial, unhide HI⟩
  case done =>
    rintro D xs W hD hS ⟨m, hm, hpre, hj, _⟩ hdef
    obtain rfl : m = (starts s).length := by simpa using congrArg List.length (hpre.symm.trans hS)
    have HJ0 := hide hj
    have HJ := hide hJ
    clear hj hpre hS hY
    gi_wp2
    refine ⟨by simp, .inl ⟨_, _, rfl, run_takeDeferred hdef, ?_⟩⟩
    exact ⟨.tuple #[], results_none rfl _ _ _, ⟨_, rfl⟩, .inl ⟨_, rfl, unhide HJ _ _ _ (unhide HJ0) (below_put W (by omega) _)⟩⟩
  case stop =>
    rintro D c pre W hD hSp ⟨rfl, m, hm, hbd, hjx⟩ hdef
    have HJ0 := hide hjx
    have HJ := hide hJx
    clear hY
    gi_wp2
    refine ⟨by simp, .inl ⟨_, _, rfl, run_takeDeferred hdef, ?_⟩⟩
    exact ⟨.tuple #[], results_none rfl _ _ _, ⟨_, rfl⟩, .inr ⟨_, ⟨m, hm, hbd, rfl⟩, unhide HJ _ _ _ (unhide HJ0) (below_put W (by omega) _)⟩⟩
theorem tbads_deep (Kp : World → World → Prop) (n Bn B : Nat) (hn : 6 ≤ n) (s : ByteArray) (hs : s.size ≤ 70000) (w : World) (hB : w.cell? ⟨B, 0, none⟩ = some (.string s)) (hbx : w.cell? ⟨Bn, 0, none⟩ = some (.pointer (some ⟨B, 0, none⟩))) :
    SeqDeep Fence.wide n Try.prog 44 #[.pointer (some ⟨Bn, 0, none⟩)] (encsD s) Kp (fun ys => ys = bads s (starts s).length) (fun pre => ∃ m, m < (starts s).length ∧ badAt s m = true ∧ pre = bads s (m + 1)) (fun pre x => x < (starts s).length ∧ badAt s x = true ∧ pre = bads s x) w := fun l J Jx W hW hJ hJx hY h0 =>
  tbads_in Kp n l Bn B hn s hs J Jx w W hW hB hbx hJ hJx hY h0
end Go.Proofs.Ytnphbjhikapoeaa
