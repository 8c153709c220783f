/- The function that Back of a text hands back, as an iterator: each spot with its place, from the last one on. -/
import Derived.Test.YtnphbjhikapoeaaTextIter
import Derived.Test.YtnphbjhikapoeaaUBack
import Derived.Test.YtnphbjhikapoeaaSp
namespace Go.Proofs.Ytnphbjhikapoeaa
open Go.RowKit Go.Shelf
attribute [local go_sem] Oper.semAt_some
set_option linter.unusedVariables false
/-- pre is the spots from the m-th on, falling; so many are still to come. -/
def TBackI (w W0 : World) (l : Nat) (s : ByteArray) (J : List Nat → World → Prop) (pre : List Nat) (W : World) : Prop :=
  ∃ m, m ≤ (starts s).length ∧ pre = ((starts s).drop m).reverse ∧ J (dnL (starts s).length m) W ∧ Kept w W ∧ Blk W W0.heap.size #[.func (.yield l) #[] #[]] 94 ∧ Blk W (W0.heap.size + 1) #[.int .i64 m] 3 ∧ Blk W (W0.heap.size + 2) #[.string s] 9
theorem TBackI.old {w W0 : World} {l : Nat} {s : ByteArray} {J : List Nat → World → Prop} (hJ : Old W0.heap.size J) (hw : w.heap.size ≤ W0.heap.size) : Old (W0.heap.size + 3) (TBackI w W0 l s J) := fun p X Y ⟨m, h0, h1, h2, h3, h4, h5, h6⟩ hb =>
  ⟨m, h0, h1, hJ _ _ _ h2 (hb.mono (by omega)), h3.below hb (by omega), h4.below hb (by omega), h5.below hb (by omega), h6.below hb (by omega)⟩
theorem drop_pre {l pre : List Nat} {m x : Nat} (hm : m ≤ l.length) (h : pre = (l.drop m).reverse) (hx : pre ++ [x] <+: l.reverse) : ∃ j, m = j + 1 ∧ j < l.length ∧ l.getD j 0 = x ∧ pre ++ [x] = (l.drop j).reverse := by
  subst h
  have hl := hx.length_le
  simp at hl
  obtain ⟨j, rfl⟩ : ∃ j, m = j + 1 := ⟨m - 1, by omega⟩
  have hj : j < l.length := by omega
  have h2 : (l.drop j).reverse <+: l.reverse := by
    rw [List.reverse_prefix]
    exact List.drop_suffix j l
  have h3 : (l.drop j).reverse = (l.drop (j + 1)).reverse ++ [l[j]] := by rw [List.drop_eq_getElem_cons hj, List.reverse_cons]
  have h4 : (l.drop (j + 1)).reverse ++ [x] = (l.drop (j + 1)).reverse ++ [l[j]] := by
    rw [← h3]
    exact List.IsPrefix.eq_of_length_le (List.prefix_of_prefix_length_le hx h2 (by simp; omega)) (by simp; omega)
  have h5 : x = l[j] := by simpa using h4
  refine ⟨j, rfl, hj, by simp [List.getD, hj, h5], by rw [h3, h5]⟩
set_option maxRecDepth 100000 in
set_option maxHeartbeats 4000000 in
theorem tback_in (n l Bn B : Nat) (hn : 3 ≤ n) (s : ByteArray) (hs : s.size ≤ 65536) (J Jx : List Nat → World → Prop) (w W0 : World) (hw : Below w.heap.size w W0) (hT : TextAt w B s) (hbx : w.cell? ⟨Bn, 0, none⟩ = some (.pointer (some ⟨B, 0, none⟩))) (hJ : Old W0.heap.size J) (hJx : Old W0.heap.size Jx)
    (hY : ∀ pre x W1, J pre W1 → (x < (starts s).length ∧ pre = dnL (starts s).length (x + 1)) → W0.heap.size ≤ W1.heap.size → YieldAt Fence.wide (n - 1) Try.prog l (encsT s x) W1 fun e W' => Above W0.heap.size W1 W' ∧
      ((e = .returned (.bool true) ∧ J (pre ++ [x]) W' ∧ KpB w.heap.size W1 W') ∨ (e = .returned (.bool false) ∧ Jx (pre ++ [x]) W')))
    (h0 : J [] W0) :
    CallsIn Fence.wide n Try.prog 48 #[.func (.yield l) #[] #[], .pointer (some ⟨Bn, 0, none⟩)] W0 fun e W' => (∃ v, e = .returned v) ∧
      ((∃ ys, ys = dnL (starts s).length 0 ∧ J ys W') ∨ (∃ pre, (∃ m, m < (starts s).length ∧ pre = dnL (starts s).length m) ∧ Jx pre W')) := by
  have h1 : 1 ≤ n := by omega
  have hK0 := Kept.of hw
  have hww := hw.size
  have hmax : s.size ≤ maxLen := by unfold maxLen; omega
  have hsl := starts_length s
  have hTW := hT.below hw (Nat.le_refl _)
  obtain ⟨g1, c1, g2, c2, hTB, _⟩ := hT
  have HT1 := hide (hTW.below ((Below.refl W0.heap.size W0).alloc (Nat.le_refl _) (.cells #[.func (.yield l) #[] #[]] 94)) (Nat.le_refl _))
  have d0 := fun o => alloc_cell o (hK0.cell hbx)
  have d1 := fun o o' => alloc_cell o' (alloc_cell o (hK0.cell hbx))
  have d2 := fun o o' => alloc_cell o' (alloc_cell o (hK0.cell (hTB.cell 0)))
  refine callsIn_of_wp_marks Try.func48 rfl trivial ?_ rfl
  simp only [Try.ntmps48, List.size_toArray, List.length_cons, List.length_nil, Nat.reduceAdd, Nat.reduceSub, Array.replicate_succ, Array.replicate_zero, List.push_toArray, List.append_toArray, List.nil_append, List.cons_append]
  gi_wp2_with fail
  refine ⟨trivial, ?_⟩
  refine (callsIn_wide.2 (count_text B s hs _ (unhide HT1))).mono ?_
  rintro e w' ⟨rfl, rfl⟩
  gi_wp2_with fail
  refine ⟨trivial, ?_⟩
  refine (callsIn_wide.2 (uback_call _ _)).mono ?_
  rintro e w' ⟨rfl, rfl⟩
  gi_wp2
  have bY := ((Blk.new W0 #[.func (.yield l) #[] #[]] 94).alloc (.cells #[.int .i64 (starts s).length] 3)).alloc (.cells #[.string s] 9)
  have bN := (Blk.new (W0.alloc (.cells #[.func (.yield l) #[] #[]] 94)) #[.int .i64 (starts s).length] 3).alloc (.cells #[.string s] 9)
  have bS := Blk.new ((W0.alloc (.cells #[.func (.yield l) #[] #[]] 94)).alloc (.cells #[.int .i64 (starts s).length] 3)) #[.string s] 9
  simp only [World.size_alloc] at bN bS
  have hbb : Below W0.heap.size W0 (((W0.alloc (.cells #[.func (.yield l) #[] #[]] 94)).alloc (.cells #[.int .i64 (starts s).length] 3)).alloc (.cells #[.string s] 9)) := (((Below.refl _ W0).alloc (Nat.le_refl _) _).alloc (by simp) _).alloc (by simp; omega) _
  have hsz : (((W0.alloc (.cells #[.func (.yield l) #[] #[]] 94)).alloc (.cells #[.int .i64 (starts s).length] 3)).alloc (.cells #[.string s] 9)).heap.size = W0.heap.size + 3 := by simp
  generalize ((W0.alloc (.cells #[.func (.yield l) #[] #[]] 94)).alloc (.cells #[.int .i64 (starts s).length] 3)).alloc (.cells #[.string s] 9) = Wb at *
  have hkb : Kept w Wb := hK0.below hbb hww
  have hJb : J [] Wb := hJ _ _ _ h0 hbb
  refine range_deep rfl h1 (gf := 76) (lb := #[.pointer (some ⟨W0.heap.size + 1 + 1, 0, none⟩)]) rfl trivial (enters_of Try.func76 (by kernel_rfl) rfl)
    (uback_deep (n - 1) (W0.heap.size + 1 + 1) (by omega) s hmax Wb (bS.cell 0)) KpO_t (fun W l o hl => KpO_b W l o (by omega)) (Below.refl _ _) (fun _ => rfl)
    (TBackI w W0 l s J) (fun c pre W => c = .ret ∧ ∃ m, m < (starts s).length ∧ Jx (dnL (starts s).length m) W) (by rw [hsz]; exact TBackI.old hJ hww) (fun c s X Y hs hb => ⟨hs.1, by obtain ⟨m, h1, h2⟩ := hs.2; exact ⟨m, h1, hJx _ _ _ h2 (hb.mono (by omega))⟩⟩)
    ⟨(starts s).length, Nat.le_refl _, by simp, by rw [dnL_top]; exact hJb, hkb, bY, bN, bS⟩ ?round ?done ?stop
  case round =>
    rintro pre x W ⟨m, hm, hpre, hj, hk, hyb, hnb, hsb⟩ hnx hge
    obtain ⟨j, rfl, hjl, hgx, hnext⟩ := drop_pre hm hpre hnx
    have hX := Blk.new W (spotCells (spotV s x)) 37
    have hal := (Below.refl W.heap.size W).alloc (Nat.le_refl _) (.cells (spotCells (spotV s x)) 37)
    dsimp only [encsS]
    gi_wp2
    refine ⟨Above.below hal, hal.block _ (by omega), ⟨j + 1, hm, hpre, hJ _ _ _ hj (hal.mono (by omega)), hk.below hal hk.1, hyb.below hal hyb.lt, hnb.below hal hnb.lt, hsb.below hal hsb.lt⟩, ?_⟩
    intro Wr hgr hsr ⟨m2, hm2, hpre2, hj2, hk2, hyb2, hnb2, hsb2⟩
    obtain rfl : j + 1 = m2 := by
      have := congrArg List.length (hpre.symm.trans hpre2)
      simp at this
      omega
    have hXr := hX.kept hgr (by simp; omega)
    obtain ⟨X, hXe⟩ : ∃ X, X = W.heap.size := ⟨_, rfl⟩
    rw [← hXe] at hXr
    rw [← hXe]
    have hX0 : W0.heap.size + 3 ≤ X := by omega
    have hWr : W0.heap.size + 3 ≤ Wr.heap.size := by rw [hsr]; simp; omega
    have hbl := (Below.refl W0.heap.size Wr).setCell (p := ⟨W0.heap.size + 1, 0, none⟩) (by show W0.heap.size ≤ W0.heap.size + 1; omega) (.int .i64 (j : Int))
    have b1 : Blk (Wr.setCell ⟨W0.heap.size + 1, 0, none⟩ (.int .i64 (j : Int))) (W0.heap.size + 1) #[.int .i64 (j : Int)] 3 := hnb2.set 0 _
    have b2 := hyb2.other (i := 0) (B' := W0.heap.size + 1) (by omega) (.int .i64 (j : Int))
    have b3 := hsb2.other (i := 0) (B' := W0.heap.size + 1) (by omega) (.int .i64 (j : Int))
    have b4 := hXr.other (i := 0) (B' := W0.heap.size + 1) (by omega) (.int .i64 (j : Int))
    have b5 := hk2.below hbl hww
    have hz6 : (Wr.setCell ⟨W0.heap.size + 1, 0, none⟩ (.int .i64 (j : Int))).heap.size = Wr.heap.size := by simp
    have b6 : Above Wb.heap.size Wr (Wr.setCell ⟨W0.heap.size + 1, 0, none⟩ (.int .i64 (j : Int))) := (Above.refl _ _).set (by omega) _
    have b7 : KpO (W0.heap.size + 1 + 1) Wr (Wr.setCell ⟨W0.heap.size + 1, 0, none⟩ (.int .i64 (j : Int))) := Below.heap_setCell Wr ⟨W0.heap.size + 1, 0, none⟩ _ (W0.heap.size + 1 + 1) (by show W0.heap.size + 1 + 1 ≠ W0.heap.size + 1; omega)
    have hye := hY (dnL (starts s).length (j + 1)) j (Wr.setCell ⟨W0.heap.size + 1, 0, none⟩ (.int .i64 (j : Int))) (hJ _ _ _ hj2 hbl) ⟨hjl, rfl⟩ (by omega)
    rw [← dnL_step hjl] at hye
    obtain ⟨fn, tmps, assign, body, hy, hR⟩ := @yield_wide _ (n - 1 - 1 - 1) _ _ _ _ _ hye
    dsimp only [encsT] at hy
    rw [show stAt s j = x from hgx] at hy
    have n0 := hnb2.cell 0
    have nf := hnb2.frozen 0
    have y0 := b2.cell 0
    have n1 := b1.cell 0
    have x0 := b4.cell 0
    have x1 := b4.cell 1
    have x2 := b4.cell 2
    have HRR := hide (round_in (k := Wb.heap.size + 1) hR)
    have HNX := hide hnext
    have HBS := hide (And.intro b1 (And.intro b2 (And.intro b3 (And.intro b5 (And.intro b6 b7)))))
    have HSZ := hide hsz
    have HJ := hide hJ
    have hjb : (j : Int) ≤ 70000 := by omega
    have hdep : Fence.wide.depth.isSome = true → 1 ≤ n - 1 - 1 := fun _ => by omega
    clear hR hye hY hj2 hk2 hyb2 hnb2 hsb2 hXr hXe hgr hsr hX hal hj hk hyb hnb hsb hpre hpre2 hnext hgx hnx hsz d0 d1 d2 hK0 hJb hkb hbb bY bN bS hge hJ b1 b2 b3 b4 b5 b6 b7 hbl hz6 hTW hTB
    gi_wp2
    refine ⟨hdep, ?_⟩
    refine (unhide HRR).mono ?_
    obtain ⟨b1, b2, b3, b5, b6, b7⟩ := unhide HBS
    rintro e W5 ⟨hab, (⟨rfl, hJ5, hP5⟩ | ⟨rfl, hJx5⟩)⟩
    · have hszb := unhide HSZ
      have c1 : Blk W5 (W0.heap.size + 1) #[.int .i64 (j : Int)] 3 := (hab.same _ (by omega) b1.lt).trans b1
      have c2 : Blk W5 W0.heap.size #[.func (.yield l) #[] #[]] 94 := (hab.same _ (Nat.le_refl _) b2.lt).trans b2
      have c3 : Blk W5 (W0.heap.size + 2) #[.string s] 9 := (hab.same _ (by omega) b3.lt).trans b3
      have c5 := b5.kp hP5 hab.size
      have c6 : Above Wb.heap.size Wr W5 := b6.trans (hab.mono (by omega))
      have c7 : KpO (W0.heap.size + 1 + 1) Wr W5 := KpO_t b7 (hab.same _ (by omega) b3.lt)
      have HC := hide (And.intro c1 (And.intro c2 (And.intro c3 (And.intro hJ5 (And.intro c5 (And.intro c6 c7))))))
      clear c1 c2 c3 c5 c6 c7 hab hJ5 hP5 hszb y0 n0 n1 nf x0 x1 x2 hy b1 b2 b3 b5 b6 b7 HBS
      gi_wp2
      obtain ⟨c1, c2, c3, c4, c5, c6, c7⟩ := unhide HC
      exact ⟨c6, c7, ⟨j, by omega, unhide HNX, c4, c5, c2, c1, c3⟩⟩
    · have HC := hide (And.intro (b6.trans (hab.mono (by have := unhide HSZ; omega))) hJx5)
      clear hab hJx5 y0 n0 n1 nf x0 x1 x2 hy b1 b2 b3 b5 b6 b7 HBS
      gi_wp2
      exact ⟨(unhide HC).1, rfl, j, hjl, (unhide HC).2⟩
  case done =>
    rintro D xs W hD hS ⟨m, hm, hpre, hj, _, _, _, _⟩ hdef
    obtain rfl : m = 0 := by
      have := congrArg List.length (hpre.symm.trans hS)
      simp at this
      omega
    have HJ0 := hide hj
    have HJ := hide hJ
    clear hj hpre hS hY
    gi_wp2
    refine ⟨by simp, .inl ⟨_, _, rfl, run_takeDeferred hdef, ?_⟩⟩
    exact ⟨.tuple #[], results_none rfl _ _ _, ⟨_, rfl⟩, .inl ⟨_, rfl, unhide HJ _ _ _ (unhide HJ0) (below_put W (by omega) _)⟩⟩
  case stop =>
    rintro D c pre W hD hSp ⟨rfl, m, hm, hjx⟩ hdef
    have HJ0 := hide hjx
    have HJ := hide hJx
    clear hY
    gi_wp2
    refine ⟨by simp, .inl ⟨_, _, rfl, run_takeDeferred hdef, ?_⟩⟩
    exact ⟨.tuple #[], results_none rfl _ _ _, ⟨_, rfl⟩, .inr ⟨_, ⟨m, hm, rfl⟩, unhide HJ _ _ _ (unhide HJ0) (below_put W (by omega) _)⟩⟩
theorem tback_deep (n Bn B : Nat) (hn : 3 ≤ n) (s : ByteArray) (hs : s.size ≤ 65536) (w : World) (hT : TextAt w B s) (hbx : w.cell? ⟨Bn, 0, none⟩ = some (.pointer (some ⟨B, 0, none⟩))) :
    SeqDeep Fence.wide n Try.prog 48 #[.pointer (some ⟨Bn, 0, none⟩)] (encsT s) (KpB w.heap.size) (fun ys => ys = dnL (starts s).length 0) (fun pre => ∃ m, m < (starts s).length ∧ pre = dnL (starts s).length m) (fun pre x => x < (starts s).length ∧ pre = dnL (starts s).length (x + 1)) w := fun l J Jx W hW hJ hJx hY h0 =>
  tback_in n l Bn B hn s hs J Jx w W hW hT hbx hJ hJx hY h0
end Go.Proofs.Ytnphbjhikapoeaa
