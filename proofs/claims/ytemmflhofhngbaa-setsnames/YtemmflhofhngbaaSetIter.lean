/- The function that All hands back, as an iterator: it hands out the runes of the set, rising. -/
import Derived.Test.YtemmflhofhngbaaDeep
import Derived.Test.YtemmflhofhngbaaM5
namespace Go.Proofs.Ytemmflhofhngbaa
open Go.RowKit Go.Shelf
attribute [local go_sem] Oper.semAt_some
set_option linter.unusedVariables false
/-- All that lay in w lies as it lay. -/
def Kept (w W : World) : Prop := w.heap.size ≤ W.heap.size ∧ ∀ k, k < w.heap.size → W.heap[k]? = w.heap[k]?
theorem Kept.of {w W : World} (h : Below w.heap.size w W) : Kept w W := ⟨h.size, h.block⟩
theorem Kept.cell {w W : World} (h : Kept w W) {p : Addr} {v : Value} (hv : w.cell? p = some v) : W.cell? p = some v := (World.cell?_of_block (h.2 p.block (cell_lt hv))).trans hv
theorem Kept.below {w W W' : World} {B : Nat} (h : Kept w W) (hb : Below B W W') (hB : w.heap.size ≤ B) : Kept w W' := ⟨Nat.le_trans h.1 hb.size, fun k hk => (hb.block k (by omega)).trans (h.2 k hk)⟩
/-- What a round keeps: what is older than b. -/
def KpB (b : Nat) (W W' : World) : Prop := ∀ k, k < b → W'.heap[k]? = W.heap[k]?
theorem KpB_t {b : Nat} {A B C : World} (h : KpB b A B) (k : KpB b B C) : KpB b A C := fun i hi => (k i hi).trans (h i hi)
theorem KpB_b {b : Nat} (W : World) (l : Nat) (o : Obj) (hl : b ≤ l) : KpB b W (W.putObj l o) := fun i hi => World.putObj_heap_other (by omega)
theorem Kept.kp {w W W' : World} (h : Kept w W) (hk : KpB w.heap.size W W') (hs : W.heap.size ≤ W'.heap.size) : Kept w W' := ⟨Nat.le_trans h.1 hs, fun k hk' => (hk k hk').trans (h.2 k hk')⟩
/-- One rune. -/
abbrev encsR (zs : List (Int × Int)) (m : Nat) : Array Value := #[.int .i32 (nthOf zs m)]
def tot (zs : List (Int × Int)) : Nat := (total zs).toNat
theorem tot_eq {zs : List (Int × Int)} (h : RightL zs) : (tot zs : Int) = total zs := by have := (total_bound h).1; unfold tot; omega
theorem tot_take {zs : List (Int × Int)} (h : RightL zs) {k : Nat} {x : Int × Int} (hx : zs[k]? = some x) : (tot (zs.take (k + 1)) : Int) = tot (zs.take k) + spanSize x := by
  have h1 : RightL (zs.take (k + 1)) := fun y hy => h y (List.mem_of_mem_take hy)
  have h2 : RightL (zs.take k) := fun y hy => h y (List.mem_of_mem_take hy)
  rw [tot_eq h1, tot_eq h2, take_more hx, total_snoc]
theorem total_append : ∀ (a b : List (Int × Int)), total (a ++ b) = total a + total b
  | [], b => by simp [total]
  | x :: a, b => by rw [List.cons_append, total_cons, total_cons, total_append a b]; omega
theorem tot_le {zs : List (Int × Int)} (h : RightL zs) (k : Nat) : tot (zs.take k) ≤ tot zs := by
  have h2 : RightL (zs.take k) := fun y hy => h y (List.mem_of_mem_take hy)
  have h3 : RightL (zs.drop k) := fun y hy => h y (List.mem_of_mem_drop hy)
  have e : total zs = total (zs.take k) + total (zs.drop k) := by
    conv => lhs; rw [← List.take_append_drop k zs]
    exact total_append _ _
  have a := (total_bound h2).1
  have b := (total_bound h3).1
  unfold tot
  omega
set_option maxRecDepth 100000 in
set_option maxHeartbeats 4000000 in
theorem all_in (n l Bn B : Nat) (hn : 1 ≤ n) (zs : List (Int × Int)) (hz : zs.length ≤ 1000000) (J Jx : List Nat → World → Prop) (w W0 : World) (hw : Below w.heap.size w W0) (hs : SetAt w B zs) (hbx : w.cell? ⟨Bn, 0, none⟩ = some (.pointer (some ⟨B, 0, none⟩))) (hJ : Old W0.heap.size J)
    (hY : ∀ pre x W1, J pre W1 → (x < tot zs ∧ pre = List.range x) → W0.heap.size ≤ W1.heap.size → YieldAt Fence.wide (n - 1) Try.prog l (encsR zs x) W1 fun e W' => Above W0.heap.size W1 W' ∧
      ((e = .returned (.bool true) ∧ J (pre ++ [x]) W' ∧ KpB w.heap.size W1 W') ∨ (e = .returned (.bool false) ∧ Jx (pre ++ [x]) W')))
    (h0 : J [] W0) :
    CallsIn Fence.wide n Try.prog 44 #[.func (.yield l) #[] #[], .pointer (some ⟨Bn, 0, none⟩)] W0 fun e W' => (∃ v, e = .returned v) ∧
      ((∃ ys, ys = List.range (tot zs) ∧ J ys W') ∨ (∃ pre, (∃ m, m ≤ tot zs ∧ pre = List.range m) ∧ Jx pre W')) := by
  obtain ⟨⟨a, ca, b, cb, hb0, hp, _⟩, hsp, _⟩ := hs
  have d0 := (Kept.of hw).cell hbx
  have d1 := (Kept.of hw).cell (hb0.cell 0)
  have hRt : RightL zs := hsp.ends
  have HRt := hide hRt
  have HP := hide hp
  have HY := hide hY
  have HJ := hide hJ
  have HW := hide (Kept.of hw)
  have H0 := hide h0
  have hzi : (zs.length : Int) ≤ 1000000 := by omega
  clear hp hY hJ hw hsp hb0 hbx h0 hRt
  refine callsIn_of_wp Try.func44 rfl trivial ?_ rfl
  simp only [Try.ntmps44, List.size_toArray, List.length_cons, List.length_nil, Nat.reduceAdd, Nat.reduceSub, Array.replicate_succ, Array.replicate_zero, List.push_toArray, List.append_toArray, List.nil_append, List.cons_append]
  gi_wp2
  gi_loopw [11] (fun v wr => ∃ k : Nat, v = .int .i64 k ∧ k ≤ zs.length ∧ Hz (J (List.range (tot (zs.take k))) wr) ∧ Hz (Kept w wr) ∧ W0.heap.size ≤ wr.heap.size) (fun v _ => zs.length - (intOf v).toNat)
  case atStart => exact ⟨0, rfl, by omega, hide (by simpa [tot, total] using unhide H0), HW, Nat.le_refl _⟩
  case round =>
    obtain ⟨k, rfl, hk, HJ1, HK, hge⟩ := hrel
    by_cases hkn : k < zs.length
    · have hk1 : (k : Int) < (zs.length : Int) := by omega
      have hk2 : ((k : Nat) : Int).toNat = k := by omega
      obtain ⟨x, hx⟩ : ∃ x, zs[k]? = some x := ⟨_, List.getElem?_eq_getElem hkn⟩
      obtain ⟨g, o, rfl, hg, hc⟩ := unhide HP (by omega)
      have c0 := (unhide HK).cell (hc k x hx).1
      have c1 := (unhide HK).cell (hc k x hx).2
      have he := endsB_iff ((unhide HRt) x (List.mem_of_getElem? hx)).1
      have r1 := rank_range he.1.1 he.1.2.1
      have r2 := rank_range he.2.1 he.2.2.1
      have HT := hide (tot_take (unhide HRt) hx)
      have HTL := hide (tot_le (unhide HRt) (k + 1))
      have HNth : Hz (∀ m : Nat, tot (zs.take k) ≤ m → m < tot (zs.take (k + 1)) → nthOf zs m = rankedOf (rankOf x.1 + ((m : Int) - tot (zs.take k)))) := hide (fun m h1 h2 => by
        have e1 := tot_eq (fun y hy => unhide HRt y (List.mem_of_mem_take hy) : RightL (zs.take k))
        have e2 := unhide HT
        rw [nth_at zs k x m (unhide HRt) hx (by omega) (by omega), e1])
      have HLH : Hz (rankOf x.1 ≤ rankOf x.2) := hide ((rank_le he.1.2.2 he.2.2.2).2 ((unhide HRt) x (List.mem_of_getElem? hx)).2)
      have HSz : Hz (spanSize x = rankOf x.2 + 1 - rankOf x.1) := hide rfl
      obtain ⟨lo, hi⟩ := x
      simp only at c0 c1 he r1 r2 HT HNth HSz HLH
      have HRk := hide (fun w => rank_any lo (by omega) (by omega) w)
      have HRh := hide (fun w => rank_any hi (by omega) (by omega) w)
      have hX : Hz (Blk (wr.alloc (.cells #[.int .i32 lo, .int .i32 hi] 28)) wr.heap.size #[.int .i32 lo, .int .i32 hi] 28) := hide (Blk.new wr _ _)
      have q0 := (unhide hX).cell 0
      generalize rankOf lo = rl at *
      generalize rankOf hi = rh at *
      generalize tot (zs.take k) = t0 at *
      generalize ht1 : tot (zs.take (k + 1)) = t1 at *
      have HT1 := hide ht1
      clear ht1
      have HJa := hide (unhide HJ _ _ _ (unhide HJ1) ((Below.refl W0.heap.size wr).alloc hge (.cells #[.int .i32 lo, .int .i32 hi] 28)))
      have HKa := hide ((unhide HK).below ((Below.refl wr.heap.size wr).alloc (Nat.le_refl _) (.cells #[.int .i32 lo, .int .i32 hi] 28)) (unhide HK).1)
      clear hc hx HJ1
      gi_wp2_with fail
      refine ⟨trivial, ?_⟩
      refine (callsIn_wide.2 (unhide HRk _)).mono ?_
      rintro e W2 ⟨rfl, rfl⟩
      clear c0 c1 q0
      obtain ⟨X, hXe⟩ : ∃ X, X = wr.heap.size := ⟨_, rfl⟩
      have hXge : W0.heap.size ≤ X := by omega
      have hga : W0.heap.size ≤ (wr.alloc (.cells #[.int .i32 lo, .int .i32 hi] 28)).heap.size := by simp; omega
      have e1 : (t1 : Int) = t0 + (rh + 1 - rl) := by rw [unhide HT, unhide HSz]
      have HE1 := hide e1
      rw [← hXe] at hX
      generalize wr.alloc (.cells #[.int .i32 lo, .int .i32 hi] 28) = Wa at *
      gi_wp2
      rw [← hXe]
      clear e1 hXe
      gi_loopw [5] (fun v wr2 => ∃ m : Nat, v = .int .i64 (rl + ((m : Int) - t0)) ∧ t0 ≤ m ∧ m ≤ t1 ∧ Hz (J (List.range m) wr2) ∧ Hz (Kept w wr2) ∧ Hz (Blk wr2 X #[.int .i32 lo, .int .i32 hi] 28) ∧ W0.heap.size ≤ wr2.heap.size) (fun v _ => (rh + 1 - intOf v).toNat)
      case atStart => exact ⟨t0, by congr 1; omega, by omega, by have := unhide HE1; have := unhide HLH; omega, HJa, HKa, hX, hga⟩
      case round =>
        obtain ⟨m, rfl, hm0, hm1, HJ2, HK2, HX2, hge2⟩ := hrel
        obtain ⟨w5, hw5⟩ : ∃ w5, w5 = wr := ⟨_, rfl⟩
        have q1 := (unhide HX2).cell 1
        clear HJa HKa hX
        by_cases hmt : m < t1
        · have hle : rl + ((m : Int) - t0) ≤ rh := by have := unhide HE1; omega
          have hn0 : 0 ≤ rl + ((m : Int) - t0) := by omega
          have hn1 : rl + ((m : Int) - t0) ≤ 1112063 := by omega
          have HRd := hide (fun w => ranked_any (rl + ((m : Int) - t0)) hn0 hn1 w)
          rw [← unhide HNth m hm0 hmt] at HRd
          have HYm := hide (unhide HY (List.range m) m _ (unhide HJ2) ⟨by have := unhide HTL; omega, rfl⟩ hge2)
          gi_wp2_with fail
          refine ⟨trivial, ?_⟩
          refine (callsIn_wide.2 (unhide HRh _)).mono ?_
          rintro e W2 ⟨rfl, rfl⟩
          gi_wp2_with fail
          refine ⟨trivial, ?_⟩
          refine (callsIn_wide.2 (unhide HRd _)).mono ?_
          rintro e W3 ⟨rfl, rfl⟩
          obtain ⟨fn, tmps, assign, body, hy, hR⟩ := unhide HYm
          dsimp only [encsR] at hy
          have HRR := hide hR
          clear q1 hR
          gi_wp2
          refine (unhide HRR).mono ?_
          rintro e W4 ⟨hab, (⟨rfl, hJ4, hk4⟩ | ⟨rfl, hJx4⟩)⟩
          · have HJ4 : Hz (J (List.range (m + 1)) W4) := hide (by rw [List.range_succ]; exact hJ4)
            have HK4 := hide ((unhide HK2).kp hk4 hab.size)
            have HX4 : Hz (Blk W4 X #[.int .i32 lo, .int .i32 hi] 28) := hide ((hab.same X hXge (unhide HX2).lt).trans (unhide HX2))
            have hge4 : W0.heap.size ≤ W4.heap.size := by have := hab.size; omega
            clear hab hJ4 hk4 hy
            gi_wp2
            go_roundw
            case rel => exact ⟨m + 1, by congr 1; omega, by omega, by omega, HJ4, HK4, HX4, hge4⟩
            case measure => simp [intOf]; omega
          · have HJx4 := hide hJx4
            clear hab hJx4 hy
            gi_wp2
            refine bodyPost_ret (results_none rfl _ _ _) rfl ?_
            exact ⟨⟨_, rfl⟩, .inr ⟨_, ⟨m + 1, by have := unhide HTL; omega, by rw [List.range_succ]⟩, unhide HJx4⟩⟩
        · have hle : ¬ rl + ((m : Int) - t0) ≤ rh := by have := unhide HE1; omega
          have hmeq : m = t1 := by omega
          subst hmeq
          gi_wp2_with fail
          refine ⟨trivial, ?_⟩
          refine (callsIn_wide.2 (unhide HRh _)).mono ?_
          rintro e W2 ⟨rfl, rfl⟩
          gi_wp2
          go_roundw
          case rel => exact ⟨k + 1, by congr 1, by omega, by rw [unhide HT1]; exact HJ2, HK2, hge2⟩
          case measure => simp [intOf]; omega
    · have hk1 : ¬ (k : Int) < (zs.length : Int) := by omega
      have HE : Hz (J (List.range (tot zs)) wr) := hide (by have := unhide HJ1; rwa [List.take_of_length_le (by omega)] at this)
      gi_wp2
      go_end0
      first
        | exact ⟨⟨_, rfl⟩, .inl ⟨_, rfl, unhide HE⟩⟩
        | exact ⟨⟨_, rfl⟩, .inl (unhide HE)⟩
theorem all_deep (n Bn B : Nat) (hn : 1 ≤ n) (zs : List (Int × Int)) (hz : zs.length ≤ 1000000) (w : World) (hs : SetAt w B zs) (hbx : w.cell? ⟨Bn, 0, none⟩ = some (.pointer (some ⟨B, 0, none⟩))) :
    SeqDeep Fence.wide n Try.prog 44 #[.pointer (some ⟨Bn, 0, none⟩)] (encsR zs) (KpB w.heap.size) (fun ys => ys = List.range (tot zs)) (fun pre => ∃ m, m ≤ tot zs ∧ pre = List.range m) (fun pre x => x < tot zs ∧ pre = List.range x) w := fun l J Jx W hW hJ _ hY h0 =>
  all_in n l Bn B hn zs hz J Jx w W hW hs hbx hJ hY h0
theorem all_call (B : Nat) (w : World) : Calls Try.prog 16 #[.pointer (some ⟨B, 0, none⟩)] w fun e w' => e = .returned (.func (.func 44) #[] #[.pointer (some ⟨w.heap.size, 0, none⟩)]) ∧ w' = w.alloc (.cells #[.pointer (some ⟨B, 0, none⟩)] 23) := by
  go_enter Try.func16, Try.ntmps16
  go_wp2
  go_ret
  exact ⟨rfl, rfl⟩
end Go.Proofs.Ytemmflhofhngbaa
