/- The function that Back hands back, as an iterator: it hands out the runes of the set, falling. It ranges over another one. -/
import Derived.Test.YtemmflhofhngbaaSetIter
import Derived.RangeFuncLeaves
import Derived.Shelf.RegionOpen
namespace Go.Proofs.Ytemmflhofhngbaa
open Go.RowKit Go.Shelf
attribute [local go_sem] Oper.semAt_some
set_option linter.unusedVariables false
theorem allocC {w : World} {a : Addr} {v : Value} (h : w.cell? a = some v) : ∀ o : Obj, (w.alloc o).cell? a = some v := fun o => alloc_cell o h
/-- The numbers below n from i on, falling. -/
def dnL (n i : Nat) : List Nat := ((List.range n).drop i).reverse
theorem dnL_top (n : Nat) : dnL n n = [] := by simp [dnL]
theorem dnL_step {n i : Nat} (h : i < n) : dnL n i = dnL n (i + 1) ++ [i] := by
  unfold dnL
  rw [List.drop_eq_getElem_cons (by simpa using h), List.reverse_cons]
  simp
/-- What is older than b, and one block more, is kept. -/
def Kp2 (b Bn : Nat) (W W' : World) : Prop := KpB b W W' ∧ W'.heap[Bn]? = W.heap[Bn]?
theorem Kp2_t {b Bn : Nat} {A B C : World} (h : Kp2 b Bn A B) (k : Kp2 b Bn B C) : Kp2 b Bn A C := ⟨KpB_t h.1 k.1, k.2.trans h.2⟩
/-- A span with its place. -/
abbrev encsW (zs : List (Int × Int)) (j : Nat) : Array Value := #[.int .i64 j, spanV (zs.getD j (0, 0))]
set_option maxRecDepth 100000 in
set_option maxHeartbeats 4000000 in
theorem backward_in (n l Bn : Nat) (hn : 1 ≤ n) (a : Option Addr) (c : Nat) (zs : List (Int × Int)) (hz : zs.length ≤ 1000000) (J Jx : List Nat → World → Prop) (w W0 : World) (hw : Kept w W0) (hr : RowP w a zs) (hbx : W0.cell? ⟨Bn, 0, none⟩ = some (.slice a zs.length c))
    (hY : ∀ pre x W1, J pre W1 → (x < zs.length ∧ pre = dnL zs.length (x + 1)) → W0.heap.size ≤ W1.heap.size → YieldAt Fence.wide (n - 1) Try.prog l (encsW zs x) W1 fun e W' => Above W0.heap.size W1 W' ∧
      ((e = .returned (.bool true) ∧ J (pre ++ [x]) W' ∧ Kp2 w.heap.size Bn W1 W') ∨ (e = .returned (.bool false) ∧ Jx (pre ++ [x]) W')))
    (h0 : J [] W0) :
    CallsIn Fence.wide n Try.prog 63 #[.func (.yield l) #[] #[], .pointer (some ⟨Bn, 0, none⟩)] W0 fun e W' => (∃ v, e = .returned v) ∧
      ((∃ ys, ys = dnL zs.length 0 ∧ J ys W') ∨ (∃ pre, (∃ m, m < zs.length ∧ pre = dnL zs.length m) ∧ Jx pre W')) := by
  have d0 := hbx
  have HBx := hide hbx
  have HP := hide hr
  have HY := hide hY
  have HW := hide hw
  have H0 := hide h0
  have hzi : (zs.length : Int) ≤ 1000000 := by omega
  clear hr hY hw hbx h0
  refine callsIn_of_wp Try.func63 rfl trivial ?_ rfl
  simp only [Try.ntmps63, List.size_toArray, List.length_cons, List.length_nil, Nat.reduceAdd, Nat.reduceSub, Array.replicate_succ, Array.replicate_zero, List.push_toArray, List.append_toArray, List.nil_append, List.cons_append]
  gi_wp2
  gi_loopw [3] (fun v wr => ∃ i : Nat, v = .int .i64 ((i : Int) - 1) ∧ i ≤ zs.length ∧ Hz (J (dnL zs.length i) wr) ∧ Hz (Kept w wr) ∧ Hz (wr.cell? ⟨Bn, 0, none⟩ = some (.slice a zs.length c)) ∧ W0.heap.size ≤ wr.heap.size) (fun v _ => (intOf v + 1).toNat)
  case atStart => exact ⟨zs.length, rfl, by omega, hide (by rw [dnL_top]; exact unhide H0), HW, HBx, Nat.le_refl _⟩
  case round =>
    obtain ⟨i, rfl, hi, HJ1, HK, HC, hge⟩ := hrel
    have d1 := unhide HC
    cases i with
    | zero =>
      gi_wp2
      go_end0
      first
        | exact ⟨⟨_, rfl⟩, .inl ⟨_, rfl, unhide HJ1⟩⟩
        | exact ⟨⟨_, rfl⟩, .inl (unhide HJ1)⟩
    | succ j =>
      have hj1 : (j : Int) < (zs.length : Int) := by omega
      have hj2 : ((j : Nat) : Int).toNat = j := by omega
      have e1 : ((j + 1 : Nat) : Int) - 1 = (j : Int) := by omega
      obtain ⟨x, hx⟩ : ∃ x, zs[j]? = some x := ⟨_, List.getElem?_eq_getElem (by omega)⟩
      obtain ⟨g, o, rfl, hg, hc⟩ := unhide HP (by omega)
      have c0 := (unhide HK).cell (hc j x hx).1
      have c1 := (unhide HK).cell (hc j x hx).2
      have HYm := hide (unhide HY (dnL zs.length (j + 1)) j _ (unhide HJ1) ⟨by omega, rfl⟩ hge)
      have hgd : zs.getD j (0, 0) = x := by simp [List.getD, hx]
      obtain ⟨fn, tmps, assign, body, hy, hR⟩ := unhide HYm
      dsimp only [encsW] at hy
      rw [hgd] at hy
      obtain ⟨lo, hi'⟩ := x
      simp only [spanV] at c0 c1 hy
      have HRR := hide hR
      rw [e1]
      clear hR hc hx e1 hgd
      gi_wp2
      refine (unhide HRR).mono ?_
      rintro e W4 ⟨hab, (⟨rfl, hJ4, hk4⟩ | ⟨rfl, hJx4⟩)⟩
      · have HJ4 : Hz (J (dnL zs.length j) W4) := hide (by rw [dnL_step (by omega)]; exact hJ4)
        have HK4 := hide ((unhide HK).kp hk4.1 hab.size)
        have HC4 := hide ((World.cell?_of_block hk4.2).trans (unhide HC))
        have hge4 : W0.heap.size ≤ W4.heap.size := by have := hab.size; omega
        clear hab hJ4 hk4 hy
        gi_wp2
        go_roundw
        case rel => exact ⟨j, rfl, by omega, HJ4, HK4, HC4, hge4⟩
        case measure => first | (simp [intOf]; done) | (simp [intOf]; omega)
      · have HJx4 : Hz (Jx (dnL zs.length j) W4) := hide (by rw [dnL_step (by omega)]; exact hJx4)
        clear hab hJx4 hy
        gi_wp2
        refine bodyPost_ret (results_none rfl _ _ _) rfl ?_
        exact ⟨⟨_, rfl⟩, .inr ⟨_, ⟨j, by omega, rfl⟩, unhide HJx4⟩⟩
theorem backward_deep (n Bn : Nat) (hn : 1 ≤ n) (a : Option Addr) (c : Nat) (zs : List (Int × Int)) (hz : zs.length ≤ 1000000) (w wB : World) (hk : Kept w wB) (hr : RowP w a zs) (hbx : wB.cell? ⟨Bn, 0, none⟩ = some (.slice a zs.length c)) :
    SeqDeep Fence.wide n Try.prog 63 #[.pointer (some ⟨Bn, 0, none⟩)] (encsW zs) (Kp2 w.heap.size Bn) (fun ys => ys = dnL zs.length 0) (fun pre => ∃ m, m < zs.length ∧ pre = dnL zs.length m) (fun pre x => x < zs.length ∧ pre = dnL zs.length (x + 1)) wB := fun l J Jx W hW _ _ hY h0 =>
  backward_in n l Bn hn a c zs hz J Jx w W (hk.below hW hk.1) hr ((hW.cell (p := ⟨Bn, 0, none⟩) (cell_lt hbx)).trans hbx) hY h0
theorem dnL_inj {n i j : Nat} (hi : i ≤ n) (hj : j ≤ n) (h : dnL n i = dnL n j) : i = j := by
  have := congrArg List.length h
  simp [dnL] at this
  omega
theorem backward_call (a : Option Addr) (n c : Nat) (w : World) : Calls Try.prog 46 #[.slice a n c] w fun e w' => e = .returned (.func (.func 63) #[] #[.pointer (some ⟨w.heap.size, 0, none⟩)]) ∧ w' = w.alloc (.cells #[.slice a n c] 30) := by
  go_enter Try.func46, Try.ntmps46
  go_wp2
  go_ret
  exact ⟨rfl, rfl⟩
theorem yield_wide {m m' : Nat} {P : Program} {l : Nat} {args : Array Value} {W : World} {R : Ending → World → Prop} (h : YieldAt Fence.wide m P l args W R) : YieldAt Fence.wide m' P l args W R := by
  obtain ⟨fn, tmps, assign, body, h1, h2⟩ := h
  exact ⟨fn, tmps, assign, body, h1, h2.1, fun c cs _ => h2.2 c cs (room_wide _)⟩
theorem round_in {m : Nat} {P : Program} {l k : Nat} {f : FuncId} {tmps : Array Value} {assign body : Code} {W : World} {R : Ending → World → Prop} (h : RoundIn Fence.wide m P l f tmps assign body W R) : RoundIn (Fence.wide.inRound k) m P l f tmps assign body W R := h
/-- What the rounds of the inner range keep. -/
def BackI (w W0 : World) (l : Nat) (a : Option Addr) (c : Nat) (zs : List (Int × Int)) (J : List Nat → World → Prop) (pre : List Nat) (W : World) : Prop :=
  ∃ i, i ≤ zs.length ∧ pre = dnL zs.length i ∧ J (dnL (tot zs) (tot (zs.take i))) W ∧ Kept w W ∧ Blk W W0.heap.size #[.func (.yield l) #[] #[]] 46 ∧ Blk W (W0.heap.size + 1) #[.slice a zs.length c] 30
theorem BackI.old {w W0 : World} {l : Nat} {a : Option Addr} {c : Nat} {zs : List (Int × Int)} {J : List Nat → World → Prop} (hJ : Old W0.heap.size J) (hw : w.heap.size ≤ W0.heap.size) : Old (W0.heap.size + 2) (BackI w W0 l a c zs J) := fun s X Y ⟨i, h1, h2, h3, h4, h5, h6⟩ hb =>
  ⟨i, h1, h2, hJ _ _ _ h3 (hb.mono (by omega)), h4.below hb (by omega), h5.below hb (by omega), h6.below hb (by omega)⟩
set_option maxRecDepth 100000 in
set_option maxHeartbeats 4000000 in
theorem back_in (n l Bn B : Nat) (hn : 3 ≤ n) (zs : List (Int × Int)) (hz : zs.length ≤ 1000000) (J Jx : List Nat → World → Prop) (w W0 : World) (hw : Below w.heap.size w W0) (hs : SetAt w B zs) (hbx : w.cell? ⟨Bn, 0, none⟩ = some (.pointer (some ⟨B, 0, none⟩))) (hJ : Old W0.heap.size J) (hJx : Old W0.heap.size Jx)
    (hY : ∀ pre x W1, J pre W1 → (x < tot zs ∧ pre = dnL (tot zs) (x + 1)) → W0.heap.size ≤ W1.heap.size → YieldAt Fence.wide (n - 1) Try.prog l (encsR zs x) W1 fun e W' => Above W0.heap.size W1 W' ∧
      ((e = .returned (.bool true) ∧ J (pre ++ [x]) W' ∧ KpB w.heap.size W1 W') ∨ (e = .returned (.bool false) ∧ Jx (pre ++ [x]) W')))
    (h0 : J [] W0) :
    CallsIn Fence.wide n Try.prog 45 #[.func (.yield l) #[] #[], .pointer (some ⟨Bn, 0, none⟩)] W0 fun e W' => (∃ v, e = .returned v) ∧
      ((∃ ys, ys = dnL (tot zs) 0 ∧ J ys W') ∨ (∃ pre, (∃ m, m < tot zs ∧ pre = dnL (tot zs) m) ∧ Jx pre W')) := by
  have h1 : 1 ≤ n := by omega
  obtain ⟨⟨a, ca, b, cb, hb0, hp, _⟩, hsp, _⟩ := hs
  have hK0 := Kept.of hw
  have d0 := allocC (hK0.cell hbx)
  have d1 := allocC (hK0.cell (hb0.cell 0))
  have hRt : RightL zs := hsp.ends
  have hww := hw.size
  refine callsIn_of_wp_marks Try.func45 rfl trivial ?_ rfl
  simp only [Try.ntmps45, List.size_toArray, List.length_cons, List.length_nil, Nat.reduceAdd, Nat.reduceSub, Array.replicate_succ, Array.replicate_zero, List.push_toArray, List.append_toArray, List.nil_append, List.cons_append]
  gi_wp2_with (refine ⟨trivial, ?_⟩; gi_at_call 46; refine (callsIn_wide.2 (backward_call _ _ _ _)).mono ?_; rintro e w' ⟨rfl, rfl⟩)
  have bY := (Blk.new W0 #[.func (.yield l) #[] #[]] 46).alloc (.cells #[.slice a zs.length ca] 30)
  have bS := Blk.new (W0.alloc (.cells #[.func (.yield l) #[] #[]] 46)) #[.slice a zs.length ca] 30
  rw [World.size_alloc] at bS
  have hbb : Below W0.heap.size W0 ((W0.alloc (.cells #[.func (.yield l) #[] #[]] 46)).alloc (.cells #[.slice a zs.length ca] 30)) := ((Below.refl _ W0).alloc (Nat.le_refl _) _).alloc (by simp) _
  have hsz : ((W0.alloc (.cells #[.func (.yield l) #[] #[]] 46)).alloc (.cells #[.slice a zs.length ca] 30)).heap.size = W0.heap.size + 2 := by simp
  generalize (W0.alloc (.cells #[.func (.yield l) #[] #[]] 46)).alloc (.cells #[.slice a zs.length ca] 30) = Wb at *
  have hkb : Kept w Wb := hK0.below hbb hww
  have hJb : J [] Wb := hJ _ _ _ h0 hbb
  refine range_deep rfl h1 (gf := 63) (lb := #[.pointer (some ⟨W0.heap.size + 1, 0, none⟩)]) rfl trivial (enters_of Try.func63 (by kernel_rfl) rfl)
    (backward_deep (n - 1) (W0.heap.size + 1) (by omega) a ca zs hz w Wb hkb hp (bS.cell 0)) Kp2_t (fun W l o hl => ⟨KpB_b W l o (by omega), World.putObj_heap_other (by omega)⟩) (Below.refl _ _) (fun _ => rfl)
    (BackI w W0 l a ca zs J) (fun c pre W => c = .ret ∧ ∃ m, m < tot zs ∧ Jx (dnL (tot zs) m) W) (by rw [hsz]; exact BackI.old hJ hww) (fun c s X Y hs hb => ⟨hs.1, by obtain ⟨m, h1, h2⟩ := hs.2; exact ⟨m, h1, hJx _ _ _ h2 (hb.mono (by omega))⟩⟩)
    ⟨zs.length, Nat.le_refl _, (dnL_top _).symm, by rw [List.take_of_length_le (Nat.le_refl _), dnL_top]; exact hJb, hkb, bY, bS⟩ ?round ?done ?stop
  case round =>
    rintro pre x W ⟨i, hi, hpre, hj, hk, hyb, hsb⟩ ⟨hx, hpre2⟩ hge
    obtain rfl : i = x + 1 := dnL_inj hi (by omega) (hpre.symm.trans hpre2)
    subst hpre
    clear hpre2
    obtain ⟨⟨lo, hi'⟩, hxe⟩ : ∃ y, zs[x]? = some y := ⟨_, List.getElem?_eq_getElem hx⟩
    have hgd : zs.getD x (0, 0) = (lo, hi') := by simp [List.getD, hxe]
    dsimp only [encsW]
    rw [hgd]
    have he := endsB_iff (hRt _ (List.mem_of_getElem? hxe)).1
    have r1 := rank_range he.1.1 he.1.2.1
    have r2 := rank_range he.2.1 he.2.2.1
    have hT := tot_take hRt hxe
    have hTL := tot_le hRt (x + 1)
    have hLH : rankOf lo ≤ rankOf hi' := (rank_le he.1.2.2 he.2.2.2).2 (hRt _ (List.mem_of_getElem? hxe)).2
    have hNth : ∀ m : Nat, tot (zs.take x) ≤ m → m < tot (zs.take (x + 1)) → nthOf zs m = rankedOf (rankOf lo + ((m : Int) - tot (zs.take x))) := fun m h1 h2 => by
      have e1 := tot_eq (fun y hy => hRt y (List.mem_of_mem_take hy) : RightL (zs.take x))
      rw [nth_at zs x (lo, hi') m hRt hxe (by omega) (by omega), e1]
    have hSz : spanSize (lo, hi') = rankOf hi' + 1 - rankOf lo := rfl
    have HRk := hide (fun w => rank_any lo (by omega) (by omega) w)
    have HRh := hide (fun w => rank_any hi' (by omega) (by omega) w)
    rw [hSz] at hT
    generalize rankOf lo = rl at *
    generalize rankOf hi' = rh at *
    generalize ht0 : tot (zs.take x) = t0 at *
    generalize ht1 : tot (zs.take (x + 1)) = t1 at *
    have HT0 := hide ht0
    have HNth := hide hNth
    have HTL := hide hTL
    have HT := hide hT
    have HY := hide hY
    have HJ := hide hJ
    have hX := Blk.new W #[.int .i32 lo, .int .i32 hi'] 28
    have hal := (Below.refl W.heap.size W).alloc (Nat.le_refl _) (.cells #[.int .i32 lo, .int .i32 hi'] 28)
    have hge0 : W0.heap.size + 4 ≤ W.heap.size := by omega
    gi_wp2
    refine ⟨Above.below hal, ⟨fun k hk => hal.block k (by omega), hal.block _ (by omega)⟩, ⟨x + 1, hi, rfl, by rw [ht1]; exact hJ _ _ _ hj (hal.mono (by omega)), hk.below hal hk.1, hyb.below hal hyb.lt, hsb.below hal hsb.lt⟩, ?_⟩
    intro Wr hgr hsr hIr
    obtain ⟨i2, hi2, hpre3, hj2, hk2, hyb2, hsb2⟩ := hIr
    obtain rfl : i2 = x + 1 := dnL_inj hi2 hi hpre3.symm
    rw [ht1] at hj2
    have hXr := hX.kept hgr (by simp; omega)
    obtain ⟨X, hXe⟩ : ∃ X, X = W.heap.size := ⟨_, rfl⟩
    rw [← hXe] at hXr ⊢
    have hXge : Wb.heap.size + 2 ≤ X := by omega
    have hXr0 : X < Wr.heap.size := hXr.lt
    have hRW : W0.heap.size + 4 ≤ Wr.heap.size := by omega
    have HJ2 := hide hj2
    have HK2 := hide hk2
    have HYB2 := hide hyb2
    have HSB2 := hide hsb2
    have HX2 := hide hXr
    have HT1 := hide ht1
    have q1 := hXr.cell 1
    clear hj2 hk2 hyb2 hsb2 hXr hgr hsr hX hal hj hk hyb hsb hNth hTL hT hY hJ ht0 ht1 hpre3 hgd d0 d1 hXe hge0 hge
    have HSZ := hide hsz
    clear hsz
    gi_wp2_with fail
    refine ⟨trivial, fun _ => by omega, ?_⟩
    refine (CallsIn.inRound _ (callsIn_wide.2 (unhide HRh _))).mono ?_
    rintro e W2 ⟨rfl, rfl⟩
    clear q1
    have hmx2 : Try.prog.follows .mixedOrders = true := by kernel_rfl
    have hX0 : W0.heap.size ≤ X := by have := unhide HSZ; omega
    gi_wp2
    gi_loopw [5] (fun v wr2 => ∃ m : Nat, v = .int .i64 (rl + ((m : Int) - t0) - 1) ∧ t0 ≤ m ∧ m ≤ t1 ∧ Hz (J (dnL (tot zs) m) wr2) ∧ Hz (Kept w wr2) ∧ Hz (Above W0.heap.size W2 wr2) ∧ Hz (KpB w.heap.size W2 wr2)) (fun v _ => (intOf v + 1 - rl).toNat)
    case atStart => exact ⟨t1, by congr 1; have := unhide HT; omega, by have := unhide HT; omega, Nat.le_refl _, HJ2, HK2, hide (Above.refl _ _), hide (fun _ _ => rfl)⟩
    case round =>
      obtain ⟨m, rfl, hm0, hm1, HJ3, HK3, HA3, HP3⟩ := hrel
      have hx3 : Blk wr X #[.int .i32 lo, .int .i32 hi'] 28 := ((unhide HA3).same X (by omega) (unhide HX2).lt).trans (unhide HX2)
      have hy3 : Blk wr W0.heap.size #[.func (.yield l) #[] #[]] 46 := ((unhide HA3).same W0.heap.size (Nat.le_refl _) (unhide HYB2).lt).trans (unhide HYB2)
      have q0 := hx3.cell 0
      have y0 := hy3.cell 0
      have hgeW : W0.heap.size ≤ wr.heap.size := by have := (unhide HA3).size; omega
      clear hx3 hy3
      by_cases hmt : t0 < m
      · obtain ⟨j, rfl⟩ : ∃ j, m = j + 1 := ⟨m - 1, by omega⟩
        have e1 : rl + (((j + 1 : Nat) : Int) - t0) - 1 = rl + ((j : Int) - t0) := by omega
        have hle : rl ≤ rl + ((j : Int) - t0) := by omega
        have hn0 : 0 ≤ rl + ((j : Int) - t0) := by omega
        have hn1 : rl + ((j : Int) - t0) ≤ 1112063 := by have := unhide HT; omega
        have HRd := hide (fun w => ranked_any (rl + ((j : Int) - t0)) hn0 hn1 w)
        rw [← unhide HNth j (by omega) (by omega)] at HRd
        have HYm := hide (fun W hW hs => @yield_wide _ (n - 1 - 1 - 1) _ _ _ _ _ (unhide HY (dnL (tot zs) (j + 1)) j W hW ⟨by have := unhide HTL; omega, rfl⟩ hs))
        rw [e1]
        clear e1
        have hdep : Fence.wide.depth.isSome = true → 1 ≤ n - 1 - 1 := fun _ => by omega
        gi_wp2_with fail
        refine ⟨trivial, fun _ => by omega, ?_⟩
        refine (CallsIn.inRound _ (callsIn_wide.2 (unhide HRk _))).mono ?_
        rintro e W3 ⟨rfl, rfl⟩
        gi_wp2_with fail
        obtain ⟨fn, tmps, assign, body, hy, hR⟩ := unhide HYm W3.drew (unhide HJ _ _ _ (unhide HJ3) (Below.refl _ _).drew) hgeW
        dsimp only [encsR] at hy
        have HRR := hide (round_in (k := W0.heap.size + 2 + 1) (hR.mono (R' := fun e W' => ∃ bb : Bool, e = .returned (.bool bb) ∧ Hz (Above W0.heap.size W3.drew W') ∧ Hz (bb = true → J (dnL (tot zs) j) W' ∧ KpB w.heap.size W3.drew W') ∧ Hz (bb = false → Jx (dnL (tot zs) j) W')) (fun e W' h => by
          have hst := dnL_step (n := tot zs) (i := j) (by have := unhide HTL; omega)
          rw [← hst] at h
          rcases h with ⟨h1, ⟨h2, h3, h4⟩ | ⟨h2, h3⟩⟩
          · exact ⟨true, h2, hide h1, hide (fun _ => ⟨h3, h4⟩), hide (fun h => by cases h)⟩
          · exact ⟨false, h2, hide h1, hide (fun h => by cases h), hide (fun _ => h3)⟩)))
        clear hR HYm
        gi_region_with_o (first
          | (refine ⟨trivial, hdep, ?_⟩; refine (CallsIn.inRound _ (callsIn_wide.2 (unhide HRd _))).mono ?_; rintro e W4 ⟨rfl, rfl⟩)
          | (refine ⟨hdep, ?_⟩; refine (unhide HRR).mono ?_; rintro e W5 ⟨bb, rfl, HAb, HTr, HFa⟩))
        all_goals
          have hA5 : Above W0.heap.size W2 W5 := (unhide HA3).trans ⟨(unhide HAb).size, (unhide HAb).same⟩
          cases bb with
          | true =>
            obtain ⟨hJ5, hP5⟩ := unhide HTr rfl
            have HJ5 := hide hJ5
            have HA5 := hide hA5
            have HP5 := hide (KpB_t (unhide HP3) hP5)
            have HK5 := hide ((unhide HK3).kp hP5 (unhide HAb).size)
            clear hJ5 hA5 hP5 HTr HFa HAb hy
            gi_wp2
            go_roundw
            case rel => exact ⟨j, rfl, by omega, by omega, HJ5, HK5, HA5, HP5⟩
            case measure => simp [intOf]; omega
          | false =>
            have HJx5 := hide (unhide HFa rfl)
            have HA5 := hide hA5
            clear hA5 HTr HFa HAb hy
            gi_wp2
            exact ⟨(unhide HA5).mono (by have := unhide HSZ; omega), rfl, j, by have := unhide HTL; omega, unhide HJx5⟩
      · have hmeq : m = t0 := by omega
        subst hmeq
        have hle : ¬ rl ≤ rl + ((m : Int) - m) - 1 := by omega
        gi_wp2_with fail
        refine ⟨trivial, fun _ => by omega, ?_⟩
        refine (CallsIn.inRound _ (callsIn_wide.2 (unhide HRk _))).mono ?_
        rintro e W3 ⟨rfl, rfl⟩
        gi_wp2
        have hA := unhide HA3
        have hsz := unhide HSZ
        have hy3 : Blk W3 W0.heap.size #[.func (.yield l) #[] #[]] 46 := (hA.same W0.heap.size (Nat.le_refl _) (unhide HYB2).lt).trans (unhide HYB2)
        have hs3 : Blk W3 (W0.heap.size + 1) #[.slice a zs.length ca] 30 := (hA.same (W0.heap.size + 1) (by omega) (unhide HSB2).lt).trans (unhide HSB2)
        exact ⟨hA.mono (by omega), ⟨unhide HP3, hA.same (W0.heap.size + 1) (by omega) (unhide HSB2).lt⟩, ⟨x, by omega, (dnL_step hx).symm, by rw [unhide HT0]; exact unhide HJ3, unhide HK3, hy3, hs3⟩⟩
  case done =>
    rintro D xs W hD hS ⟨i, hi, hpre, hj, hk, hyb, hsb⟩ hdef
    obtain rfl : i = 0 := dnL_inj hi (Nat.zero_le _) (hpre.symm.trans hS)
    have HJ0 : Hz (J (dnL (tot zs) 0) W) := hide (by simpa [tot, total] using hj)
    have HJ := hide hJ
    clear hj hpre hS hk hyb hsb hY
    gi_wp2
    refine ⟨by simp, .inl ⟨_, _, rfl, run_takeDeferred hdef, ?_⟩⟩
    exact ⟨.tuple #[], results_none rfl _ _ _, ⟨_, rfl⟩, .inl ⟨_, rfl, unhide HJ _ _ _ (unhide HJ0) (below_put W (by omega) _)⟩⟩
  case stop =>
    rintro D c pre W hD hSp ⟨rfl, m, hm, hjx⟩ hdef
    have HJ0 := hide hjx
    have HJ := hide hJx
    clear hY
    gi_wp2
    refine ⟨by simp, .inl ⟨_, _, rfl, run_takeDeferred hdef, ?_⟩⟩
    exact ⟨.tuple #[], results_none rfl _ _ _, ⟨_, rfl⟩, .inr ⟨_, ⟨m, hm, rfl⟩, unhide HJ _ _ _ (unhide HJ0) (below_put W (by omega) _)⟩⟩
theorem back_deep (n Bn B : Nat) (hn : 3 ≤ n) (zs : List (Int × Int)) (hz : zs.length ≤ 1000000) (w : World) (hs : SetAt w B zs) (hbx : w.cell? ⟨Bn, 0, none⟩ = some (.pointer (some ⟨B, 0, none⟩))) :
    SeqDeep Fence.wide n Try.prog 45 #[.pointer (some ⟨Bn, 0, none⟩)] (encsR zs) (KpB w.heap.size) (fun ys => ys = dnL (tot zs) 0) (fun pre => ∃ m, m < tot zs ∧ pre = dnL (tot zs) m) (fun pre x => x < tot zs ∧ pre = dnL (tot zs) (x + 1)) w := fun l J Jx W hW hJ hJx hY h0 =>
  back_in n l Bn B hn zs hz J Jx w W hW hs hbx hJ hJx hY h0
theorem back_call (B : Nat) (w : World) : Calls Try.prog 17 #[.pointer (some ⟨B, 0, none⟩)] w fun e w' => e = .returned (.func (.func 45) #[] #[.pointer (some ⟨w.heap.size, 0, none⟩)]) ∧ w' = w.alloc (.cells #[.pointer (some ⟨B, 0, none⟩)] 23) := by
  go_enter Try.func17, Try.ntmps17
  go_wp2
  go_ret
  exact ⟨rfl, rfl⟩
end Go.Proofs.Ytemmflhofhngbaa
