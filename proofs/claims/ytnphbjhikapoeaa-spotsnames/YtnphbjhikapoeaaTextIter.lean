/- The function that All of a text hands back, as an iterator: each spot with its place. It ranges over utf.Spots. -/
import Derived.Test.YtnphbjhikapoeaaSpotsDeep
import Derived.Test.YtnphbjhikapoeaaSetBackW
namespace Go.Proofs.Ytnphbjhikapoeaa
open Go.RowKit Go.Shelf
attribute [local go_sem] Oper.semAt_some
set_option linter.unusedVariables false
/-- The first byte of the m-th spot. -/
def stAt (s : ByteArray) (m : Nat) : Nat := (starts s).getD m 0
/-- A spot with its place. -/
abbrev encsT (s : ByteArray) (m : Nat) : Array Value := #[.agg #[.int .i64 (stAt s m : Int), .int .i64 (m : Int)], encSpot (spotV s (stAt s m))]
def TAllI (W0 : World) (l : Nat) (s : ByteArray) (J : List Nat → World → Prop) (pre : List Nat) (W : World) : Prop :=
  ∃ m, m ≤ (starts s).length ∧ pre = (starts s).take m ∧ J (List.range m) W ∧ Blk W W0.heap.size #[.func (.yield l) #[] #[]] 94 ∧ Blk W (W0.heap.size + 1) #[.int .i64 m] 3 ∧ Blk W (W0.heap.size + 2) #[.string s] 9
theorem TAllI.old {W0 : World} {l : Nat} {s : ByteArray} {J : List Nat → World → Prop} (hJ : Old W0.heap.size J) : Old (W0.heap.size + 3) (TAllI W0 l s J) := fun p X Y ⟨m, h0, h1, h2, h4, h5, h6⟩ hb =>
  ⟨m, h0, h1, hJ _ _ _ h2 (hb.mono (by omega)), h4.below hb (by omega), h5.below hb (by omega), h6.below hb (by omega)⟩
theorem take_pre {l pre : List Nat} {m x : Nat} (hm : m ≤ l.length) (h : pre = l.take m) (hx : pre ++ [x] <+: l) : m < l.length ∧ l.getD m 0 = x ∧ pre ++ [x] = l.take (m + 1) := by
  subst h
  have hl := hx.length_le
  simp at hl
  have hml : m < l.length := by omega
  obtain ⟨t, ht⟩ := hx
  have hg : l[m]? = some x := by
    rw [← ht]
    simp [Nat.min_eq_left (Nat.le_of_lt hml)]
  exact ⟨hml, by simp [List.getD, hg], by rw [List.take_add_one, hg]; rfl⟩
set_option maxRecDepth 100000 in
set_option maxHeartbeats 4000000 in
theorem tall_in (Kp : World → World → Prop) (n l Bn B : Nat) (hn : 3 ≤ n) (s : ByteArray) (hs : s.size ≤ 70000) (J Jx : List Nat → World → Prop) (w W0 : World) (hw : Below w.heap.size w W0) (hB : w.cell? ⟨B, 0, none⟩ = some (.string s)) (hbx : w.cell? ⟨Bn, 0, none⟩ = some (.pointer (some ⟨B, 0, none⟩))) (hJ : Old W0.heap.size J) (hJx : Old W0.heap.size Jx)
    (hY : ∀ pre x W1, J pre W1 → (x < (starts s).length ∧ pre = List.range x) → W0.heap.size ≤ W1.heap.size → YieldAt Fence.wide (n - 1) Try.prog l (encsT s x) W1 fun e W' => Above W0.heap.size W1 W' ∧
      ((e = .returned (.bool true) ∧ J (pre ++ [x]) W' ∧ Kp W1 W') ∨ (e = .returned (.bool false) ∧ Jx (pre ++ [x]) W')))
    (h0 : J [] W0) :
    CallsIn Fence.wide n Try.prog 46 #[.func (.yield l) #[] #[], .pointer (some ⟨Bn, 0, none⟩)] W0 fun e W' => (∃ v, e = .returned v) ∧
      ((∃ ys, ys = List.range (starts s).length ∧ J ys W') ∨ (∃ pre, (∃ m, m < (starts s).length ∧ pre = List.range (m + 1)) ∧ Jx pre W')) := by
  have h1 : 1 ≤ n := by omega
  have hK0 := Kept.of hw
  have hww := hw.size
  have hmax : s.size ≤ maxLen := by unfold maxLen; omega
  have hsl := starts_length s
  have d0 := fun o o' => alloc_cell o' (alloc_cell o (hK0.cell hbx))
  have d1 := fun o o' => alloc_cell o' (alloc_cell o (hK0.cell hB))
  refine callsIn_of_wp_marks Try.func46 rfl trivial ?_ rfl
  simp only [Try.ntmps46, List.size_toArray, List.length_cons, List.length_nil, Nat.reduceAdd, Nat.reduceSub, Array.replicate_succ, Array.replicate_zero, List.push_toArray, List.append_toArray, List.nil_append, List.cons_append]
  gi_wp2_with (refine ⟨trivial, ?_⟩; gi_at_call 47; refine (callsIn_wide.2 (spots_any _ _)).mono ?_; rintro e w' ⟨rfl, rfl⟩)
  have bY := ((Blk.new W0 #[.func (.yield l) #[] #[]] 94).alloc (.cells #[.int .i64 0] 3)).alloc (.cells #[.string s] 9)
  have bN := (Blk.new (W0.alloc (.cells #[.func (.yield l) #[] #[]] 94)) #[.int .i64 0] 3).alloc (.cells #[.string s] 9)
  have bS := Blk.new ((W0.alloc (.cells #[.func (.yield l) #[] #[]] 94)).alloc (.cells #[.int .i64 0] 3)) #[.string s] 9
  simp only [World.size_alloc] at bN bS
  have hbb : Below W0.heap.size W0 (((W0.alloc (.cells #[.func (.yield l) #[] #[]] 94)).alloc (.cells #[.int .i64 0] 3)).alloc (.cells #[.string s] 9)) := (((Below.refl _ W0).alloc (Nat.le_refl _) _).alloc (by simp) _).alloc (by simp; omega) _
  have hsz : (((W0.alloc (.cells #[.func (.yield l) #[] #[]] 94)).alloc (.cells #[.int .i64 0] 3)).alloc (.cells #[.string s] 9)).heap.size = W0.heap.size + 3 := by simp
  generalize ((W0.alloc (.cells #[.func (.yield l) #[] #[]] 94)).alloc (.cells #[.int .i64 0] 3)).alloc (.cells #[.string s] 9) = Wb at *
  have hJb : J [] Wb := hJ _ _ _ h0 hbb
  refine range_deep rfl h1 (gf := 74) (lb := #[.pointer (some ⟨W0.heap.size + 1 + 1, 0, none⟩)]) rfl trivial (enters_of Try.func74 (by kernel_rfl) rfl)
    (spots_deep (n - 1) (W0.heap.size + 1 + 1) (by omega) s hmax Wb (bS.cell 0)) KpO_t (fun W l o hl => KpO_b W l o (by omega)) (Below.refl _ _) (fun _ => rfl)
    (TAllI W0 l s J) (fun c pre W => c = .ret ∧ ∃ m, m < (starts s).length ∧ Jx (List.range (m + 1)) W) (by rw [hsz]; exact TAllI.old hJ) (fun c s X Y hs hb => ⟨hs.1, by obtain ⟨m, h1, h2⟩ := hs.2; exact ⟨m, h1, hJx _ _ _ h2 (hb.mono (by omega))⟩⟩)
    ⟨0, Nat.zero_le _, rfl, hJb, bY, bN, bS⟩ ?round ?done ?stop
  case round =>
    rintro pre x W ⟨m, hm, hpre, hj, hyb, hnb, hsb⟩ hnx hge
    obtain ⟨hml, hgx, hnext⟩ := take_pre hm hpre hnx
    have hX := Blk.new W (spotCells (spotV s x)) 37
    have hal := (Below.refl W.heap.size W).alloc (Nat.le_refl _) (.cells (spotCells (spotV s x)) 37)
    dsimp only [encsS]
    gi_wp2
    refine ⟨Above.below hal, hal.block _ (by omega), ⟨m, hm, hpre, hJ _ _ _ hj (hal.mono (by omega)), hyb.below hal hyb.lt, hnb.below hal hnb.lt, hsb.below hal hsb.lt⟩, ?_⟩
    intro Wr hgr hsr ⟨m2, hm2, hpre2, hj2, hyb2, hnb2, hsb2⟩
    obtain rfl : m = m2 := by
      have := congrArg List.length (hpre.symm.trans hpre2)
      simp at this
      omega
    have hXr := hX.kept hgr (by simp; omega)
    obtain ⟨X, hXe⟩ : ∃ X, X = W.heap.size := ⟨_, rfl⟩
    rw [← hXe] at hXr
    rw [← hXe]
    have hX0 : W0.heap.size + 3 ≤ X := by omega
    have hWr : W0.heap.size ≤ Wr.heap.size := by rw [hsr]; simp; omega
    have hye := hY (List.range m) m Wr hj2 ⟨hml, rfl⟩ hWr
    have hye2 := @yield_wide _ (n - 1 - 1 - 1) _ _ _ _ _ hye
    obtain ⟨fn, tmps, assign, body, hy, hR⟩ := hye2
    dsimp only [encsT] at hy
    rw [show stAt s m = x from hgx] at hy
    have y0 := hyb2.cell 0
    have n0 := hnb2.cell 0
    have nf := hnb2.frozen 0
    have x0 := hXr.cell 0
    have x1 := hXr.cell 1
    have x2 := hXr.cell 2
    have HRR := hide (round_in (k := Wb.heap.size + 1) hR)
    have HPR := hide hpre
    have HNX := hide hnext
    have HNB := hide hnb2
    have HYB := hide hyb2
    have HSB := hide hsb2
    have HSZ := hide hsz
    have HJ := hide hJ
    have hmb : (m : Int) ≤ 70000 := by omega
    have hdep : Fence.wide.depth.isSome = true → 1 ≤ n - 1 - 1 := fun _ => by omega
    clear hR hye hY hj2 hyb2 hnb2 hsb2 hXr hXe hgr hsr hX hal hj hyb hnb hsb hpre hpre2 hnext hgx hnx hsz d0 d1 hK0 hJb hbb bY bN bS hge hJ
    gi_wp2
    refine ⟨hdep, ?_⟩
    refine (unhide HRR).mono ?_
    rintro e W5 ⟨hab, (⟨rfl, hJ5, hP5⟩ | ⟨rfl, hJx5⟩)⟩
    · have hszb := unhide HSZ
      have b1 : Blk W5 (W0.heap.size + 1) #[.int .i64 m] 3 := (hab.same _ (by omega) (unhide HNB).lt).trans (unhide HNB)
      have b2 : Blk W5 W0.heap.size #[.func (.yield l) #[] #[]] 94 := (hab.same _ (Nat.le_refl _) (unhide HYB).lt).trans (unhide HYB)
      have b3 : Blk W5 (W0.heap.size + 2) #[.string s] 9 := (hab.same _ (by omega) (unhide HSB).lt).trans (unhide HSB)
      have m0 := b1.cell 0
      have mf := b1.frozen 0
      have hbl := (Below.refl W0.heap.size W5).setCell (p := ⟨W0.heap.size + 1, 0, none⟩) (by show W0.heap.size ≤ W0.heap.size + 1; omega) (.int .i64 ((m : Int) + 1))
      have c1 : Blk (W5.setCell ⟨W0.heap.size + 1, 0, none⟩ (.int .i64 ((m : Int) + 1))) (W0.heap.size + 1) #[.int .i64 ((m + 1 : Nat) : Int)] 3 := b1.set 0 _
      have c2 := b2.other (i := 0) (B' := W0.heap.size + 1) (by omega) (.int .i64 ((m : Int) + 1))
      have c3 := b3.other (i := 0) (B' := W0.heap.size + 1) (by omega) (.int .i64 ((m : Int) + 1))
      have c4 : J (List.range (m + 1)) (W5.setCell ⟨W0.heap.size + 1, 0, none⟩ (.int .i64 ((m : Int) + 1))) := unhide HJ _ _ _ (by rw [List.range_succ]; exact hJ5) hbl
      have c6 : Above Wb.heap.size Wr (W5.setCell ⟨W0.heap.size + 1, 0, none⟩ (.int .i64 ((m : Int) + 1))) := (hab.mono (by omega)).set (by omega) _
      have c7 : KpO (W0.heap.size + 1 + 1) Wr (W5.setCell ⟨W0.heap.size + 1, 0, none⟩ (.int .i64 ((m : Int) + 1))) := (Below.heap_setCell W5 ⟨W0.heap.size + 1, 0, none⟩ _ (W0.heap.size + 1 + 1) (by show W0.heap.size + 1 + 1 ≠ W0.heap.size + 1; omega)).trans (hab.same _ (by omega) (unhide HSB).lt)
      have HC := hide (And.intro c1 (And.intro c2 (And.intro c3 (And.intro c4 (And.intro c6 c7)))))
      clear b1 b2 b3 hbl c1 c2 c3 c4 c6 c7 hab hJ5 hP5 hszb y0 n0 nf x0 x1 x2 hy
      gi_wp2
      obtain ⟨c1, c2, c3, c4, c6, c7⟩ := unhide HC
      exact ⟨c6, c7, ⟨m + 1, by omega, unhide HNX, c4, c2, c1, c3⟩⟩
    · have HC := hide (And.intro ((hab.mono (by have := unhide HSZ; omega) : Above Wb.heap.size Wr W5)) hJx5)
      clear hab hJx5 y0 n0 nf x0 x1 x2 hy
      gi_wp2
      exact ⟨(unhide HC).1, rfl, m, hml, by rw [List.range_succ]; exact (unhide HC).2⟩
  case done =>
    rintro D xs W hD hS ⟨m, hm, hpre, hj, _, _, _⟩ hdef
    obtain rfl : m = (starts s).length := by
      have := congrArg List.length (hpre.symm.trans hS)
      simp at this
      omega
    have HJ0 := hide hj
    have HJ := hide hJ
    clear hj hpre hS hY
    gi_wp2
    refine ⟨by simp, .inl ⟨_, _, rfl, run_takeDeferred hdef, ?_⟩⟩
    exact ⟨.tuple #[], results_none rfl _ _ _, ⟨_, rfl⟩, .inl ⟨_, rfl, unhide HJ _ _ _ (unhide HJ0) (below_put W (by omega) _)⟩⟩
  case stop =>
    rintro D c pre W hD hSp ⟨rfl, m, hm, hjx⟩ hdef
    have HJ0 := hide hjx
    have HJ := hide hJx
    clear hY
    gi_wp2
    refine ⟨by simp, .inl ⟨_, _, rfl, run_takeDeferred hdef, ?_⟩⟩
    exact ⟨.tuple #[], results_none rfl _ _ _, ⟨_, rfl⟩, .inr ⟨_, ⟨m, hm, rfl⟩, unhide HJ _ _ _ (unhide HJ0) (below_put W (by omega) _)⟩⟩
theorem tall_deep (Kp : World → World → Prop) (n Bn B : Nat) (hn : 3 ≤ n) (s : ByteArray) (hs : s.size ≤ 70000) (w : World) (hB : w.cell? ⟨B, 0, none⟩ = some (.string s)) (hbx : w.cell? ⟨Bn, 0, none⟩ = some (.pointer (some ⟨B, 0, none⟩))) :
    SeqDeep Fence.wide n Try.prog 46 #[.pointer (some ⟨Bn, 0, none⟩)] (encsT s) Kp (fun ys => ys = List.range (starts s).length) (fun pre => ∃ m, m < (starts s).length ∧ pre = List.range (m + 1)) (fun pre x => x < (starts s).length ∧ pre = List.range x) w := fun l J Jx W hW hJ hJx hY h0 =>
  tall_in Kp n l Bn B hn s hs J Jx w W hW hB hbx hJ hJx hY h0
end Go.Proofs.Ytnphbjhikapoeaa
