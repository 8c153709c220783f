/- SpotsAll: the spots of any text with their places, there and back, and the bad ones; left early, and again. -/
import Derived.Test.YtnphbjhikapoeaaTextBack
import Derived.Test.YtnphbjhikapoeaaTextBads
import Derived.Test.YtnphbjhikapoeaaRow4
import Derived.Test.YtnphbjhikapoeaaWithin
import Derived.Test.YtnphbjhikapoeaaRoundBelow
namespace Go.Proofs.Ytnphbjhikapoeaa
open Go.RowKit Go.Shelf
attribute [local go_sem] Oper.semAt_some
set_option linter.unusedVariables false
theorem eq_nilS2 (f : FuncId) (p : Value) (w : World) : (binOp BinOp.eql 52 (.func (.func f) #[] #[p]) .nilFunc).run Try.prog w = .ok (.bool false) w := by
  have e : ∃ d, Op.maxDepth = d + 1 := ⟨_, rfl⟩
  obtain ⟨d, hd⟩ := e
  simp [binOp, Op.equal, hd, Op.equalIn, run_underlying Try.underlying52]
theorem eq_nilS1 (f : FuncId) (p : Value) (w : World) : (binOp BinOp.eql 42 (.func (.func f) #[] #[p]) .nilFunc).run Try.prog w = .ok (.bool false) w := by
  have e : ∃ d, Op.maxDepth = d + 1 := ⟨_, rfl⟩
  obtain ⟨d, hd⟩ := e
  simp [binOp, Op.equal, hd, Op.equalIn, run_underlying Try.underlying42]
theorem tback_call (B : Nat) (w : World) : Calls Try.prog 19 #[.pointer (some ⟨B, 0, none⟩)] w fun e w' => e = .returned (.func (.func 48) #[] #[.pointer (some ⟨w.heap.size, 0, none⟩)]) ∧ w' = w.alloc (.cells #[.pointer (some ⟨B, 0, none⟩)] 22) := by
  go_enter Try.func19, Try.ntmps19
  go_wp2
  go_ret
  exact ⟨rfl, rfl⟩
theorem tbads_call (B : Nat) (w : World) : Calls Try.prog 13 #[.pointer (some ⟨B, 0, none⟩)] w fun e w' => e = .returned (.func (.func 44) #[] #[.pointer (some ⟨w.heap.size, 0, none⟩)]) ∧ w' = w.alloc (.cells #[.pointer (some ⟨B, 0, none⟩)] 22) := by
  go_enter Try.func13, Try.ntmps13
  go_wp2
  go_ret
  exact ⟨rfl, rfl⟩
theorem bads_len (s : ByteArray) (k : Nat) : (bads s k).length ≤ (bads s (k + 1)).length ∧ (badAt s k = true → (bads s (k + 1)).length = (bads s k).length + 1) := by
  cases h : badAt s k with
  | true => rw [bads_yes h]; simp
  | false => rw [bads_no h]; simp
theorem bads_mono (s : ByteArray) (k : Nat) : ∀ d, (bads s k).length ≤ (bads s (k + d)).length
  | 0 => Nat.le_refl _
  | d + 1 => Nat.le_trans (bads_mono s k d) (bads_len s (k + d)).1
theorem bads_gap {s : ByteArray} {m n k : Nat} (h : bads s m = bads s n) (h1 : m ≤ k) (h2 : k < n) : badAt s k = false := by
  cases hk : badAt s k with
  | false => rfl
  | true =>
    have e := congrArg List.length h
    have a1 := bads_mono s m (k - m)
    have a2 := (bads_len s k).2 hk
    have a3 := bads_mono s (k + 1) (n - (k + 1))
    rw [show m + (k - m) = k by omega] at a1
    rw [show k + 1 + (n - (k + 1)) = n by omega] at a3
    omega
theorem bads_before {s : ByteArray} {m x : Nat} (h : bads s m = bads s x) (hx : badAt s x = true) : m ≤ x := by
  by_cases hl : m ≤ x
  · exact hl
  · have := bads_gap h.symm (Nat.le_refl x) (by omega)
    rw [hx] at this
    cases this
/-- What the law's rounds stand on. -/
structure SaT (w T : World) (B B8 Ba Bb Bc : Nat) (a : Option Addr) (cap : Nat) (s : ByteArray) (st : Int) : Prop where
  text : TextAt T B s
  stop : Blk T w.heap.size #[.int .i64 st] 3
  res : Blk T (w.heap.size + 1) #[.bool false] 4
  want : Blk T B8 #[.slice a (starts s).length cap] 49
  row : Row1 T.heap.size T a 56 ((starts s).flatMap (refCells s))
  there : Blk T Ba #[.pointer (some ⟨B, 0, none⟩)] 22
  back : Blk T Bb #[.pointer (some ⟨B, 0, none⟩)] 22
  bads : Blk T Bc #[.pointer (some ⟨B, 0, none⟩)] 22
  old : Below w.heap.size w T
theorem SaT.string {w T : World} {B B8 Ba Bb Bc : Nat} {a : Option Addr} {cap : Nat} {s : ByteArray} {st : Int} (h : SaT w T B B8 Ba Bb Bc a cap s st) : T.cell? ⟨B, 0, none⟩ = some (.string s) := by
  obtain ⟨g1, c1, g2, c2, hB, _⟩ := h.text
  exact hB.cell 0
theorem starts_at {s : ByteArray} {m : Nat} (h : m < (starts s).length) : (starts s)[m]? = some (stAt s m) := by
  unfold stAt
  simp [List.getD, List.getElem?_eq_getElem h]
/-- What the reference's list holds of a spot. -/
theorem SaT.cells {w T W : World} {B B8 Ba Bb Bc : Nat} {a : Option Addr} {cap : Nat} {s : ByteArray} {st : Int} (h : SaT w T B B8 Ba Bb Bc a cap s st) (hW : Below T.heap.size T W) {m : Nat} (hm : m < (starts s).length) :
    ∃ g, a = some ⟨g, 0, none⟩ ∧ W.cell? ⟨g, m * 4, none⟩ = some (.int .i32 (spotV s (stAt s m)).1) ∧ W.cell? ⟨g, m * 4 + 1, none⟩ = some (.int .i64 (stAt s m : Int)) ∧ W.cell? ⟨g, m * 4 + 2, none⟩ = some (.int .i64 (spotV s (stAt s m)).2.1) ∧ W.cell? ⟨g, m * 4 + 3, none⟩ = some (.bool (spotV s (stAt s m)).2.2) :=
  row_cells4 (h.row.below hW (Nat.le_refl _)) m _ (starts_at hm)
/-- What a round of the law's loop keeps: the counter, the round's number, the marks. -/
structure SaI (T : World) (Br Bn hi r : Nat) (ds : List Deferred) (m : Int) (W : World) : Prop where
  n : Blk W Bn #[.int .i64 m] 3
  r : Blk W Br #[.int .i64 r] 3
  old : Below T.heap.size T W
  marks : Marks T.heap.size W hi ds
theorem SaI.below {T : World} {Br Bn hi r B : Nat} {ds : List Deferred} {m : Int} {X Y : World} (h : SaI T Br Bn hi r ds m X) (hb : Below B X Y) (h1 : Bn < B) (h2 : Br < B) (h3 : T.heap.size ≤ B) (h4 : hi ≤ B) : SaI T Br Bn hi r ds m Y :=
  ⟨h.n.below hb h1, h.r.below hb h2, h.old.trans (hb.mono h3), h.marks.old hb h4⟩
theorem SaI.grow {T : World} {Br Bn hi r : Nat} {ds : List Deferred} {m : Int} {X Y : World} (h : SaI T Br Bn hi r ds m X) (hb : Below X.heap.size X Y) (h4 : hi ≤ X.heap.size) : SaI T Br Bn hi r ds m Y :=
  h.below hb h.n.lt h.r.lt h.old.size h4
theorem SaI.setn {T : World} {Br Bn hi r : Nat} {ds : List Deferred} {m : Int} {X : World} (h : SaI T Br Bn hi r ds m X) (h1 : Br ≠ Bn) (h2 : T.heap.size ≤ Bn) (m' : Int) : SaI T Br Bn hi r ds m' (X.setCell ⟨Bn, 0, none⟩ (.int .i64 m')) :=
  ⟨h.n.set 0 _, h.r.other h1 _, h.old.setCell (p := ⟨Bn, 0, none⟩) h2 _, h.marks.keep (fun k hk he => (Below.heap_setCell X ⟨Bn, 0, none⟩ _ k (by intro e; have e' : k = Bn := e; rw [e', show X.heap[Bn]? = _ from h.n] at he; cases he)).trans he)⟩
theorem SaI.drew {T : World} {Br Bn hi r : Nat} {ds : List Deferred} {m : Int} {X : World} (h : SaI T Br Bn hi r ds m X) (q : Nat) : SaI T Br Bn hi r ds m (X.drewN q) :=
  ⟨h.n, h.r, below_drewN h.old q, h.marks.keep (fun k _ he => he)⟩
def ThereJ (T : World) (Br Bn hi r : Nat) (ds : List Deferred) (N : Nat) (pre : List Nat) (W : World) : Prop := ∃ m : Nat, pre = List.range m ∧ m ≤ N ∧ SaI T Br Bn hi r ds m W
def BackJ (T : World) (Br Bn hi r : Nat) (ds : List Deferred) (N : Nat) (pre : List Nat) (W : World) : Prop := ∃ m : Nat, pre = dnL N m ∧ m ≤ N ∧ SaI T Br Bn hi r ds m W
def BadsJ (T : World) (Br Bn hi r : Nat) (ds : List Deferred) (s : ByteArray) (N : Nat) (pre : List Nat) (W : World) : Prop := ∃ m : Nat, pre = bads s m ∧ m ≤ N ∧ SaI T Br Bn hi r ds m W
def LeftJ (T : World) (Br Bn hi r : Nat) (ds : List Deferred) (N id : Nat) (c : Code) (pre : List Nat) (W : World) : Prop := c = .exit id ∧ r = 0 ∧ ∃ m : Nat, m ≤ N ∧ SaI T Br Bn hi r ds m W
theorem ThereJ.old {T : World} {Br Bn hi r N B : Nat} {ds : List Deferred} (h1 : Bn < B) (h2 : Br < B) (h3 : T.heap.size ≤ B) (h4 : hi ≤ B) : Old B (ThereJ T Br Bn hi r ds N) := fun s X Y ⟨m, p1, p2, p3⟩ hb => ⟨m, p1, p2, p3.below hb h1 h2 h3 h4⟩
theorem BackJ.old {T : World} {Br Bn hi r N B : Nat} {ds : List Deferred} (h1 : Bn < B) (h2 : Br < B) (h3 : T.heap.size ≤ B) (h4 : hi ≤ B) : Old B (BackJ T Br Bn hi r ds N) := fun s X Y ⟨m, p1, p2, p3⟩ hb => ⟨m, p1, p2, p3.below hb h1 h2 h3 h4⟩
theorem BadsJ.old {T : World} {Br Bn hi r N B : Nat} {ds : List Deferred} {t : ByteArray} (h1 : Bn < B) (h2 : Br < B) (h3 : T.heap.size ≤ B) (h4 : hi ≤ B) : Old B (BadsJ T Br Bn hi r ds t N) := fun s X Y ⟨m, p1, p2, p3⟩ hb => ⟨m, p1, p2, p3.below hb h1 h2 h3 h4⟩
theorem LeftJ.old {T : World} {Br Bn hi r N B id : Nat} {ds : List Deferred} (h1 : Bn < B) (h2 : Br < B) (h3 : T.heap.size ≤ B) (h4 : hi ≤ B) (c : Code) : Old B (LeftJ T Br Bn hi r ds N id c) := fun s X Y ⟨p0, p1, m, p2, p3⟩ hb => ⟨p0, p1, m, p2, p3.below hb h1 h2 h3 h4⟩
set_option maxRecDepth 100000 in
set_option maxHeartbeats 8000000 in
theorem law_sall_in (n : Nat) (hn : 8 ≤ n) (s : ByteArray) (hs : s.size ≤ 65536) (stop : Int) (w : World) :
    CallsIn Fence.wide n Try.prog 4 #[.string s, .int .i64 stop] w fun e w' => e = .returned (.bool true) ∧ Below w.heap.size w w' := by
  have h1 : 1 ≤ n := by omega
  have hnl := starts_length s
  refine callsIn_of_wp_marks Try.func4 rfl trivial ?_ rfl
  simp only [Try.ntmps4, List.size_toArray, List.length_cons, List.length_nil, Nat.reduceAdd, Nat.reduceSub, Array.replicate_succ, Array.replicate_zero, List.push_toArray, List.append_toArray, List.nil_append, List.cons_append]
  have b0 := (Blk.new w #[.int .i64 stop] 3).alloc (.cells #[.bool false] 4)
  have b1 := Blk.new (w.alloc (.cells #[.int .i64 stop] 3)) #[.bool false] 4
  simp only [World.size_alloc] at b1
  have hB0 := ((Below.refl w.heap.size w).alloc (Nat.le_refl _) (.cells #[.int .i64 stop] 3)).alloc (by simp) (.cells #[.bool false] 4)
  have hz0 : ((w.alloc (.cells #[.int .i64 stop] 3)).alloc (.cells #[.bool false] 4)).heap.size = w.heap.size + 2 := by simp
  have Hb0 := hide b0
  have Hb1 := hide b1
  have HB0 := hide hB0
  have HZ0 := hide hz0
  clear b0 b1 hB0 hz0
  gi_wp2_with fail
  refine ⟨trivial, ?_⟩
  refine (callsIn_wide.2 (begun_from s hs _)).mono ?_
  rintro e w1 ⟨B, rfl, hT, hb⟩
  rw [unhide HZ0] at hb hT
  have Hc0 := hide ((unhide Hb0).below hb (by omega))
  have Hc1 := hide ((unhide Hb1).below hb (by omega))
  have HB1 := hide ((unhide HB0).trans (hb.mono (by omega)))
  have HT := hide hT
  clear hT hb Hb0 Hb1 HB0 HZ0
  gi_wp2_with fail
  refine ⟨trivial, ?_⟩
  refine (callsIn_wide.2 (refSpots_any s (by omega) _)).mono ?_
  rintro e w2 ⟨v, rfl, hown, hb⟩
  obtain ⟨a, cap, rfl, hrow⟩ := own_form4 hown
  have hal := ((((Below.refl w2.heap.size w2).alloc (Nat.le_refl _) (.cells #[.slice a (starts s).length cap] 49)).alloc (by simp) (.cells #[.pointer (some ⟨B, 0, none⟩)] 22)).alloc (by simp; omega) (.cells #[.pointer (some ⟨B, 0, none⟩)] 22)).alloc (by simp; omega) (.cells #[.pointer (some ⟨B, 0, none⟩)] 22)
  have c8 := (((Blk.new w2 #[.slice a (starts s).length cap] 49).alloc (.cells #[.pointer (some ⟨B, 0, none⟩)] 22)).alloc (.cells #[.pointer (some ⟨B, 0, none⟩)] 22)).alloc (.cells #[.pointer (some ⟨B, 0, none⟩)] 22)
  have ca := ((Blk.new (w2.alloc (.cells #[.slice a (starts s).length cap] 49)) #[.pointer (some ⟨B, 0, none⟩)] 22).alloc (.cells #[.pointer (some ⟨B, 0, none⟩)] 22)).alloc (.cells #[.pointer (some ⟨B, 0, none⟩)] 22)
  have cb := (Blk.new ((w2.alloc (.cells #[.slice a (starts s).length cap] 49)).alloc (.cells #[.pointer (some ⟨B, 0, none⟩)] 22)) #[.pointer (some ⟨B, 0, none⟩)] 22).alloc (.cells #[.pointer (some ⟨B, 0, none⟩)] 22)
  have cc := Blk.new (((w2.alloc (.cells #[.slice a (starts s).length cap] 49)).alloc (.cells #[.pointer (some ⟨B, 0, none⟩)] 22)).alloc (.cells #[.pointer (some ⟨B, 0, none⟩)] 22)) #[.pointer (some ⟨B, 0, none⟩)] 22
  simp only [World.size_alloc] at ca cb cc
  have d0 := ((unhide Hc0).below hb (unhide Hc0).lt).below hal (by have := (unhide Hc0).lt; have := hb.size; omega)
  have d1 := ((unhide Hc1).below hb (unhide Hc1).lt).below hal (by have := (unhide Hc1).lt; have := hb.size; omega)
  have dT := ((unhide HT).below hb (Nat.le_refl _)).below hal (Nat.le_refl _)
  have dB := ((unhide HB1).trans (hb.mono (unhide HB1).size)).trans (hal.mono (by have := (unhide HB1).size; have := hb.size; omega))
  have dR := (hrow.below hal (Nat.le_refl _)).up hal.size
  have hge2 : w.heap.size + 1 < w2.heap.size := by have := (unhide Hc1).lt; have := hb.size; omega
  have H := hide (And.intro c8 (And.intro ca (And.intro cb (And.intro cc (And.intro d0 (And.intro d1 (And.intro dT (And.intro dB dR))))))))
  clear c8 ca cb cc d0 d1 dT dB dR hal hb Hc0 Hc1 HB1 HT hown hrow
  gi_wp2_with (refine ⟨trivial, ?_⟩; first | (gi_at_call 18; refine (callsIn_wide.2 (tall_call _ _)).mono ?_; rintro e w' ⟨rfl, rfl⟩) | (gi_at_call 19; refine (callsIn_wide.2 (tback_call _ _)).mono ?_; rintro e w' ⟨rfl, rfl⟩))
  refine ⟨trivial, ?_⟩
  refine (callsIn_wide.2 (tbads_call _ _)).mono ?_
  rintro e w' ⟨rfl, rfl⟩
  simp only [World.size_alloc]
  have hn1 := eq_nilS2 46 (.pointer (some ⟨w2.heap.size + 1, 0, none⟩))
  have hn2 := eq_nilS2 48 (.pointer (some ⟨w2.heap.size + 1 + 1, 0, none⟩))
  have hn3 := eq_nilS1 44 (.pointer (some ⟨w2.heap.size + 1 + 1 + 1, 0, none⟩))
  generalize (((w2.alloc (.cells #[.slice a (starts s).length cap] 49)).alloc (.cells #[.pointer (some ⟨B, 0, none⟩)] 22)).alloc (.cells #[.pointer (some ⟨B, 0, none⟩)] 22)).alloc (.cells #[.pointer (some ⟨B, 0, none⟩)] 22) = w5 at *
  have k0 := (unhide H).2.2.2.2.1.cell 0
  have kf := (unhide H).2.2.2.2.1.frozen 0
  have k8 := (unhide H).1.cell 0
  gi_wp2_with fail
  refine ⟨trivial, ?_⟩
  refine (callsIn_wide.2 (within_any stop 0 (starts s).length (by omega) (by omega) (by omega) _)).mono ?_
  rintro e w6 ⟨rfl, rfl⟩
  generalize (0 : Int) + stop % (((starts s).length : Int) - 0 + 1) = st at *
  obtain ⟨B8, hB8⟩ : ∃ B8, B8 = w2.heap.size := ⟨_, rfl⟩
  obtain ⟨Ba, hBa⟩ : ∃ Ba, Ba = w2.heap.size + 1 := ⟨_, rfl⟩
  obtain ⟨Bb, hBb⟩ : ∃ Bb, Bb = w2.heap.size + 1 + 1 := ⟨_, rfl⟩
  obtain ⟨Bc, hBc⟩ : ∃ Bc, Bc = w2.heap.size + 1 + 1 + 1 := ⟨_, rfl⟩
  rw [← hBc, ← hBb, ← hBa, ← hB8] at H
  rw [← hBc, ← hBb, ← hBa, ← hB8]
  rw [← hB8] at k8
  have HT : Hid (SaT w (w6.setCell ⟨w.heap.size, 0, none⟩ (.int .i64 st)) B B8 Ba Bb Bc a cap s st) := hide (by
    obtain ⟨c8, ca, cb, cc, d0, d1, dT, dB, dR⟩ := unhide H
    exact ⟨(dT.away (by omega) _).at, d0.set 0 _, d1.other (by omega) _, c8.other (by omega) _, by have := dR.setT d0 (by decide) (i := 0) (.int .i64 st); simpa using this, ca.other (by omega) _, cb.other (by omega) _, cc.other (by omega) _, dB.setCell (p := ⟨w.heap.size, 0, none⟩) (Nat.le_refl _) _⟩)
  clear H hn1 hn2 hn3 hB8 hBa hBb hBc
  gi_wp2
  clear k0 kf k8
  have hz6 : (w6.setCell ⟨w.heap.size, 0, none⟩ (.int .i64 st)).heap.size = w6.heap.size := by simp
  generalize w6.setCell ⟨w.heap.size, 0, none⟩ (.int .i64 st) = T at *
  rw [← hz6]
  clear hz6
  refine loop_down (fun k a' W => ∃ (r Br hi : Nat) (ds : List Deferred), r ≤ 2 ∧ k = 2 - r ∧ Hid (Blk W Br #[.int .i64 r] 3) ∧ T.heap.size ≤ Br ∧ Hid (Below T.heap.size T W) ∧ Hid (Marks T.heap.size W hi ds) ∧ hi ≤ W.heap.size ∧ ∃ U : Nat → Value, a' = { tmps := #[.string s, U 1, U 2, .pointer (some ⟨w.heap.size, 0, none⟩), .pointer (some ⟨w.heap.size + 1, 0, none⟩), U 5, U 6, U 7, .pointer (some ⟨B8, 0, none⟩), .func (.func 46) #[] #[.pointer (some ⟨Ba, 0, none⟩)], .func (.func 48) #[] #[.pointer (some ⟨Bb, 0, none⟩)], .func (.func 44) #[] #[.pointer (some ⟨Bc, 0, none⟩)], .pointer (some ⟨Br, 0, none⟩), U 13, U 14, U 15, U 16, U 17, U 18, U 19, U 20, U 21, U 22, U 23, U 24, U 25, U 26, U 27, U 28, U 29, U 30, U 31, U 32, U 33, U 34, U 35, U 36, U 37, U 38, U 39, U 40, U 41, U 42, U 43, U 44, U 45, U 46, U 47, U 48, U 49, U 50, U 51, U 52, U 53, U 54, U 55, U 56, U 57, U 58, U 59, U 60, U 61, U 62, U 63, U 64, U 65, U 66, U 67, U 68, U 69, U 70, U 71, U 72, U 73, U 74, U 75, U 76, U 77, U 78, U 79, U 80, U 81, U 82, U 83, U 84, U 85, U 86, U 87, U 88, U 89, U 90, U 91, U 92, U 93, U 94, U 95, U 96, U 97, U 98, U 99, U 100, U 101, U 102, U 103, U 104, U 105, U 106, U 107, U 108, U 109, U 110, U 111, U 112, U 113, U 114, U 115, U 116, U 117, U 118, U 119, U 120, U 121, U 122, U 123, U 124, U 125, U 126, U 127, U 128, U 129, U 130, U 131, U 132, U 133, U 134, U 135, U 136, U 137, U 138, U 139, U 140, U 141, U 142, U 143, U 144, U 145, U 146, U 147, U 148, U 149, U 150, U 151, U 152, U 153, U 154, U 155, U 156, U 157, U 158, U 159, U 160, U 161, U 162, U 163, U 164, U 165, U 166, U 167, U 168, U 169, U 170, U 171, U 172, U 173, U 174, U 175, U 176, U 177, U 178, U 179, U 180, U 181, U 182, U 183, U 184, U 185, U 186, U 187, U 188, U 189, U 190, U 191, U 192, U 193, U 194, U 195, U 196, U 197, U 198, U 199, U 200, U 201, U 202, U 203, U 204, U 205, U 206, U 207, U 208, U 209, U 210, U 211, U 212, U 213, U 214, U 215, U 216, U 217, U 218, U 219, U 220], defers := ds })
    ?_ (k := 2) ?h0
  case h0 => exact ⟨0, T.heap.size, 0, [], by omega, rfl, hide (Blk.new T _ _), by omega, hide ((Below.refl _ _).alloc (Nat.le_refl _) _), hide trivial, by omega, mk_act rfl⟩
  rintro k a' W ⟨r, Br, hi, ds, hr2, hk, HBR, hBr, HBW, HMW, hhi, U, rfl⟩ K hK
  have hST := unhide HT
  have cr := (unhide HBR).cell 0
  have hTW := (unhide HBW).size
  have hlb : ((starts s).length : Int) ≤ 65536 := by omega
  by_cases hr : r < 2
  · have hr' : (r : Int) < 2 := by omega
    gi_wp2
    rename_i K1 hK1
    obtain ⟨Bn, hBn⟩ : ∃ Bn, Bn = W.heap.size := ⟨_, rfl⟩
    have hal := (Below.refl W.heap.size W).alloc (Nat.le_refl _) (.cells #[.int .i64 0] 3)
    have hI0 : SaI T Br Bn hi r ds 0 (W.alloc (.cells #[.int .i64 0] 3)) := by rw [hBn]; exact ⟨Blk.new W _ _, (unhide HBR).alloc _, (unhide HBW).trans (hal.mono hTW), (unhide HMW).old hal hhi⟩
    have hz1 : (W.alloc (.cells #[.int .i64 0] 3)).heap.size = W.heap.size + 1 := by simp
    have hrn : Br < Bn := by rw [hBn]; exact (unhide HBR).lt
    rw [← hBn]
    have hTB : T.heap.size ≤ Bn := by omega
    have hi1 : hi ≤ Bn := by omega
    generalize W.alloc (.cells #[.int .i64 0] 3) = W1 at *
    have hBW : Bn + 1 = W1.heap.size := by omega
    clear hBn hz1 hal HBR HBW HMW hTW hhi cr
    have key : ∀ (W2 : World) (D m : Nat) (a2 : Act), (∃ U : Nat → Value, a2 = { tmps := #[.string s, U 1, U 2, .pointer (some ⟨w.heap.size, 0, none⟩), .pointer (some ⟨w.heap.size + 1, 0, none⟩), U 5, U 6, U 7, .pointer (some ⟨B8, 0, none⟩), .func (.func 46) #[] #[.pointer (some ⟨Ba, 0, none⟩)], .func (.func 48) #[] #[.pointer (some ⟨Bb, 0, none⟩)], .func (.func 44) #[] #[.pointer (some ⟨Bc, 0, none⟩)], .pointer (some ⟨Br, 0, none⟩), .pointer (some ⟨Bn, 0, none⟩), U 14, U 15, U 16, U 17, U 18, U 19, U 20, U 21, U 22, U 23, U 24, U 25, U 26, U 27, U 28, U 29, U 30, U 31, U 32, U 33, U 34, U 35, U 36, U 37, U 38, U 39, U 40, U 41, U 42, U 43, U 44, U 45, U 46, U 47, U 48, U 49, U 50, U 51, U 52, U 53, U 54, U 55, U 56, U 57, U 58, U 59, U 60, U 61, U 62, U 63, U 64, U 65, U 66, U 67, U 68, U 69, U 70, U 71, U 72, U 73, U 74, U 75, U 76, U 77, U 78, U 79, U 80, U 81, U 82, U 83, U 84, U 85, U 86, U 87, U 88, U 89, U 90, U 91, U 92, U 93, U 94, U 95, U 96, U 97, U 98, U 99, U 100, U 101, U 102, U 103, U 104, U 105, U 106, U 107, U 108, U 109, U 110, U 111, U 112, U 113, U 114, U 115, U 116, U 117, U 118, U 119, U 120, U 121, U 122, U 123, U 124, U 125, U 126, U 127, U 128, U 129, U 130, U 131, U 132, U 133, U 134, U 135, U 136, U 137, U 138, U 139, U 140, U 141, U 142, U 143, U 144, U 145, U 146, U 147, U 148, U 149, U 150, U 151, U 152, U 153, U 154, U 155, U 156, U 157, U 158, U 159, U 160, U 161, U 162, U 163, U 164, U 165, U 166, U 167, U 168, U 169, U 170, U 171, U 172, U 173, U 174, U 175, U 176, U 177, U 178, U 179, U 180, U 181, U 182, U 183, U 184, U 185, U 186, U 187, U 188, U 189, U 190, U 191, U 192, U 193, U 194, U 195, U 196, U 197, U 198, U 199, U 200, U 201, U 202, U 203, U 204, U 205, U 206, U 207, U 208, U 209, U 210, U 211, U 212, U 213, U 214, U 215, U 216, U 217, U 218, U 219, U 220], defers := { target := .collected D, args := #[] } :: ds }) → (r = 1 → m = (starts s).length) → m ≤ (starts s).length → SaI T Br Bn W2.heap.size r ({ target := .collected D, args := #[] } :: ds) m W2 → K1 a2 W2 := by
      rintro W2 D m a2 ⟨U, rfl⟩ hm1 hml hI
      clear hI0
      apply hK1
      clear hK1
      apply wpIn_seq_k
      intro K2 hK2
      have key2 : ∀ (a3 : Act), (∃ U : Nat → Value, a3 = { tmps := #[.string s, U 1, U 2, .pointer (some ⟨w.heap.size, 0, none⟩), .pointer (some ⟨w.heap.size + 1, 0, none⟩), U 5, U 6, U 7, .pointer (some ⟨B8, 0, none⟩), .func (.func 46) #[] #[.pointer (some ⟨Ba, 0, none⟩)], .func (.func 48) #[] #[.pointer (some ⟨Bb, 0, none⟩)], .func (.func 44) #[] #[.pointer (some ⟨Bc, 0, none⟩)], .pointer (some ⟨Br, 0, none⟩), .pointer (some ⟨Bn, 0, none⟩), U 14, U 15, U 16, U 17, U 18, U 19, U 20, U 21, U 22, U 23, U 24, U 25, U 26, U 27, U 28, U 29, U 30, U 31, U 32, U 33, U 34, U 35, U 36, U 37, U 38, U 39, U 40, U 41, U 42, U 43, U 44, U 45, U 46, U 47, U 48, U 49, U 50, U 51, U 52, U 53, U 54, U 55, U 56, U 57, U 58, U 59, U 60, U 61, U 62, U 63, U 64, U 65, U 66, U 67, U 68, U 69, U 70, U 71, U 72, U 73, U 74, U 75, U 76, U 77, U 78, U 79, U 80, U 81, U 82, U 83, U 84, U 85, U 86, U 87, U 88, U 89, U 90, U 91, U 92, U 93, U 94, U 95, U 96, U 97, U 98, U 99, U 100, U 101, U 102, U 103, U 104, U 105, U 106, U 107, U 108, U 109, U 110, U 111, U 112, U 113, U 114, U 115, U 116, U 117, U 118, U 119, U 120, U 121, U 122, U 123, U 124, U 125, U 126, U 127, U 128, U 129, U 130, U 131, U 132, U 133, U 134, U 135, U 136, U 137, U 138, U 139, U 140, U 141, U 142, U 143, U 144, U 145, U 146, U 147, U 148, U 149, U 150, U 151, U 152, U 153, U 154, U 155, U 156, U 157, U 158, U 159, U 160, U 161, U 162, U 163, U 164, U 165, U 166, U 167, U 168, U 169, U 170, U 171, U 172, U 173, U 174, U 175, U 176, U 177, U 178, U 179, U 180, U 181, U 182, U 183, U 184, U 185, U 186, U 187, U 188, U 189, U 190, U 191, U 192, U 193, U 194, U 195, U 196, U 197, U 198, U 199, U 200, U 201, U 202, U 203, U 204, U 205, U 206, U 207, U 208, U 209, U 210, U 211, U 212, U 213, U 214, U 215, U 216, U 217, U 218, U 219, U 220], defers := { target := .collected D, args := #[] } :: ds }) → K2 a3 W2 := by
        rintro a3 ⟨U, rfl⟩
        apply hK2
        clear hK2
        have kf := hI.n.frozen 0
        have kn := hI.n.cell 0
        have k8 := (hST.want.below hI.old hST.want.lt).cell 0
        have hI2 := hI.setn (by omega) hTB ((starts s).length : Int)
        have hz2 : (W2.setCell ⟨Bn, 0, none⟩ (.int .i64 (starts s).length)).heap.size = W2.heap.size := by simp
        have hBn2 := hI.n.lt
        have hTW2 := hI.old.size
        clear hI hm1 hml
        gi_wp2
        rename_i K3 hK3
        clear kf k8 kn
        generalize W2.setCell ⟨Bn, 0, none⟩ (.int .i64 (starts s).length) = W1 at *
        have key3 : ∀ (W4 : World) (D2 m : Nat) (a4 : Act), (∃ U : Nat → Value, a4 = { tmps := #[.string s, U 1, U 2, .pointer (some ⟨w.heap.size, 0, none⟩), .pointer (some ⟨w.heap.size + 1, 0, none⟩), U 5, U 6, U 7, .pointer (some ⟨B8, 0, none⟩), .func (.func 46) #[] #[.pointer (some ⟨Ba, 0, none⟩)], .func (.func 48) #[] #[.pointer (some ⟨Bb, 0, none⟩)], .func (.func 44) #[] #[.pointer (some ⟨Bc, 0, none⟩)], .pointer (some ⟨Br, 0, none⟩), .pointer (some ⟨Bn, 0, none⟩), U 14, U 15, U 16, U 17, U 18, U 19, U 20, U 21, U 22, U 23, U 24, U 25, U 26, U 27, U 28, U 29, U 30, U 31, U 32, U 33, U 34, U 35, U 36, U 37, U 38, U 39, U 40, U 41, U 42, U 43, U 44, U 45, U 46, U 47, U 48, U 49, U 50, U 51, U 52, U 53, U 54, U 55, U 56, U 57, U 58, U 59, U 60, U 61, U 62, U 63, U 64, U 65, U 66, U 67, U 68, U 69, U 70, U 71, U 72, U 73, U 74, U 75, U 76, U 77, U 78, U 79, U 80, U 81, U 82, U 83, U 84, U 85, U 86, U 87, U 88, U 89, U 90, U 91, U 92, U 93, U 94, U 95, U 96, U 97, U 98, U 99, U 100, U 101, U 102, U 103, U 104, U 105, U 106, U 107, U 108, U 109, U 110, U 111, U 112, U 113, U 114, U 115, U 116, U 117, U 118, U 119, U 120, U 121, U 122, U 123, U 124, U 125, U 126, U 127, U 128, U 129, U 130, U 131, U 132, U 133, U 134, U 135, U 136, U 137, U 138, U 139, U 140, U 141, U 142, U 143, U 144, U 145, U 146, U 147, U 148, U 149, U 150, U 151, U 152, U 153, U 154, U 155, U 156, U 157, U 158, U 159, U 160, U 161, U 162, U 163, U 164, U 165, U 166, U 167, U 168, U 169, U 170, U 171, U 172, U 173, U 174, U 175, U 176, U 177, U 178, U 179, U 180, U 181, U 182, U 183, U 184, U 185, U 186, U 187, U 188, U 189, U 190, U 191, U 192, U 193, U 194, U 195, U 196, U 197, U 198, U 199, U 200, U 201, U 202, U 203, U 204, U 205, U 206, U 207, U 208, U 209, U 210, U 211, U 212, U 213, U 214, U 215, U 216, U 217, U 218, U 219, U 220], defers := { target := .collected D2, args := #[] } :: { target := .collected D, args := #[] } :: ds }) → (r = 1 → m = 0) → SaI T Br Bn W4.heap.size r ({ target := .collected D2, args := #[] } :: { target := .collected D, args := #[] } :: ds) m W4 → K3 a4 W4 := by
          rintro W4 D2 m a4 ⟨U, rfl⟩ hm1 hI
          clear hI2
          apply hK3
          clear hK3
          apply wpIn_seq_k
          intro K4 hK4
          have key4 : ∀ (a5 : Act), (∃ U : Nat → Value, a5 = { tmps := #[.string s, U 1, U 2, .pointer (some ⟨w.heap.size, 0, none⟩), .pointer (some ⟨w.heap.size + 1, 0, none⟩), U 5, U 6, U 7, .pointer (some ⟨B8, 0, none⟩), .func (.func 46) #[] #[.pointer (some ⟨Ba, 0, none⟩)], .func (.func 48) #[] #[.pointer (some ⟨Bb, 0, none⟩)], .func (.func 44) #[] #[.pointer (some ⟨Bc, 0, none⟩)], .pointer (some ⟨Br, 0, none⟩), .pointer (some ⟨Bn, 0, none⟩), U 14, U 15, U 16, U 17, U 18, U 19, U 20, U 21, U 22, U 23, U 24, U 25, U 26, U 27, U 28, U 29, U 30, U 31, U 32, U 33, U 34, U 35, U 36, U 37, U 38, U 39, U 40, U 41, U 42, U 43, U 44, U 45, U 46, U 47, U 48, U 49, U 50, U 51, U 52, U 53, U 54, U 55, U 56, U 57, U 58, U 59, U 60, U 61, U 62, U 63, U 64, U 65, U 66, U 67, U 68, U 69, U 70, U 71, U 72, U 73, U 74, U 75, U 76, U 77, U 78, U 79, U 80, U 81, U 82, U 83, U 84, U 85, U 86, U 87, U 88, U 89, U 90, U 91, U 92, U 93, U 94, U 95, U 96, U 97, U 98, U 99, U 100, U 101, U 102, U 103, U 104, U 105, U 106, U 107, U 108, U 109, U 110, U 111, U 112, U 113, U 114, U 115, U 116, U 117, U 118, U 119, U 120, U 121, U 122, U 123, U 124, U 125, U 126, U 127, U 128, U 129, U 130, U 131, U 132, U 133, U 134, U 135, U 136, U 137, U 138, U 139, U 140, U 141, U 142, U 143, U 144, U 145, U 146, U 147, U 148, U 149, U 150, U 151, U 152, U 153, U 154, U 155, U 156, U 157, U 158, U 159, U 160, U 161, U 162, U 163, U 164, U 165, U 166, U 167, U 168, U 169, U 170, U 171, U 172, U 173, U 174, U 175, U 176, U 177, U 178, U 179, U 180, U 181, U 182, U 183, U 184, U 185, U 186, U 187, U 188, U 189, U 190, U 191, U 192, U 193, U 194, U 195, U 196, U 197, U 198, U 199, U 200, U 201, U 202, U 203, U 204, U 205, U 206, U 207, U 208, U 209, U 210, U 211, U 212, U 213, U 214, U 215, U 216, U 217, U 218, U 219, U 220], defers := { target := .collected D2, args := #[] } :: { target := .collected D, args := #[] } :: ds }) → K4 a5 W4 := by
            rintro a5 ⟨U, rfl⟩
            apply hK4
            clear hK4
            have kf := hI.n.frozen 0
            have kn := hI.n.cell 0
            have hI2 := hI.setn (by omega) hTB 0
            have hz4 : (W4.setCell ⟨Bn, 0, none⟩ (.int .i64 0)).heap.size = W4.heap.size := by simp
            have hBn4 := hI.n.lt
            have hTW4 := hI.old.size
            clear hI hm1
            gi_wp2
            rename_i K5 hK5
            clear kf kn
            generalize W4.setCell ⟨Bn, 0, none⟩ (.int .i64 0) = W1 at *
            obtain ⟨ds3, hds3⟩ : ∃ ds3, ds3 = ({ target := .collected D2, args := #[] } :: { target := .collected D, args := #[] } :: ds : List Deferred) := ⟨_, rfl⟩
            rw [← hds3] at hI2
            rw [← hds3]
            clear hds3
            have key5 : ∀ (W6 : World) (D3 m : Nat) (a6 : Act), (∃ U : Nat → Value, a6 = { tmps := #[.string s, U 1, U 2, .pointer (some ⟨w.heap.size, 0, none⟩), .pointer (some ⟨w.heap.size + 1, 0, none⟩), U 5, U 6, U 7, .pointer (some ⟨B8, 0, none⟩), .func (.func 46) #[] #[.pointer (some ⟨Ba, 0, none⟩)], .func (.func 48) #[] #[.pointer (some ⟨Bb, 0, none⟩)], .func (.func 44) #[] #[.pointer (some ⟨Bc, 0, none⟩)], .pointer (some ⟨Br, 0, none⟩), .pointer (some ⟨Bn, 0, none⟩), U 14, U 15, U 16, U 17, U 18, U 19, U 20, U 21, U 22, U 23, U 24, U 25, U 26, U 27, U 28, U 29, U 30, U 31, U 32, U 33, U 34, U 35, U 36, U 37, U 38, U 39, U 40, U 41, U 42, U 43, U 44, U 45, U 46, U 47, U 48, U 49, U 50, U 51, U 52, U 53, U 54, U 55, U 56, U 57, U 58, U 59, U 60, U 61, U 62, U 63, U 64, U 65, U 66, U 67, U 68, U 69, U 70, U 71, U 72, U 73, U 74, U 75, U 76, U 77, U 78, U 79, U 80, U 81, U 82, U 83, U 84, U 85, U 86, U 87, U 88, U 89, U 90, U 91, U 92, U 93, U 94, U 95, U 96, U 97, U 98, U 99, U 100, U 101, U 102, U 103, U 104, U 105, U 106, U 107, U 108, U 109, U 110, U 111, U 112, U 113, U 114, U 115, U 116, U 117, U 118, U 119, U 120, U 121, U 122, U 123, U 124, U 125, U 126, U 127, U 128, U 129, U 130, U 131, U 132, U 133, U 134, U 135, U 136, U 137, U 138, U 139, U 140, U 141, U 142, U 143, U 144, U 145, U 146, U 147, U 148, U 149, U 150, U 151, U 152, U 153, U 154, U 155, U 156, U 157, U 158, U 159, U 160, U 161, U 162, U 163, U 164, U 165, U 166, U 167, U 168, U 169, U 170, U 171, U 172, U 173, U 174, U 175, U 176, U 177, U 178, U 179, U 180, U 181, U 182, U 183, U 184, U 185, U 186, U 187, U 188, U 189, U 190, U 191, U 192, U 193, U 194, U 195, U 196, U 197, U 198, U 199, U 200, U 201, U 202, U 203, U 204, U 205, U 206, U 207, U 208, U 209, U 210, U 211, U 212, U 213, U 214, U 215, U 216, U 217, U 218, U 219, U 220], defers := { target := .collected D3, args := #[] } :: ds3 }) → (r = 1 → ∀ k, m ≤ k → k < (starts s).length → badAt s k = false) → m ≤ (starts s).length → SaI T Br Bn W6.heap.size r ({ target := .collected D3, args := #[] } :: ds3) m W6 → K5 a6 W6 := by
              rintro W6 D3 m a6 ⟨U, rfl⟩ hgap hml hI
              clear hI2
              generalize ({ target := .collected D3, args := #[] } :: ds3 : List Deferred) = ds4 at *
              have hW6 : W6.heap.size ≤ W6.heap.size := Nat.le_refl _
              have HK := hide hK
              clear hK
              apply hK5
              clear hK5
              have HI := hide hI
              clear hI
              gi_wp2
              refine loop_down (fun k a' W => ∃ (m : Nat), m ≤ (starts s).length ∧ k = (starts s).length - m ∧ (r = 1 → ∀ k, m ≤ k → k < (starts s).length → badAt s k = false) ∧ Hid (W.heap.size = W6.heap.size) ∧ Hid (SaI T Br Bn W6.heap.size r ds4 m W) ∧ ∃ U : Nat → Value, a' = { tmps := #[.string s, U 1, U 2, .pointer (some ⟨w.heap.size, 0, none⟩), .pointer (some ⟨w.heap.size + 1, 0, none⟩), U 5, U 6, U 7, .pointer (some ⟨B8, 0, none⟩), .func (.func 46) #[] #[.pointer (some ⟨Ba, 0, none⟩)], .func (.func 48) #[] #[.pointer (some ⟨Bb, 0, none⟩)], .func (.func 44) #[] #[.pointer (some ⟨Bc, 0, none⟩)], .pointer (some ⟨Br, 0, none⟩), .pointer (some ⟨Bn, 0, none⟩), U 14, U 15, U 16, U 17, U 18, U 19, U 20, U 21, U 22, U 23, U 24, U 25, U 26, U 27, U 28, U 29, U 30, U 31, U 32, U 33, U 34, U 35, U 36, U 37, U 38, U 39, U 40, U 41, U 42, U 43, U 44, U 45, U 46, U 47, U 48, U 49, U 50, U 51, U 52, U 53, U 54, U 55, U 56, U 57, U 58, U 59, U 60, U 61, U 62, U 63, U 64, U 65, U 66, U 67, U 68, U 69, U 70, U 71, U 72, U 73, U 74, U 75, U 76, U 77, U 78, U 79, U 80, U 81, U 82, U 83, U 84, U 85, U 86, U 87, U 88, U 89, U 90, U 91, U 92, U 93, U 94, U 95, U 96, U 97, U 98, U 99, U 100, U 101, U 102, U 103, U 104, U 105, U 106, U 107, U 108, U 109, U 110, U 111, U 112, U 113, U 114, U 115, U 116, U 117, U 118, U 119, U 120, U 121, U 122, U 123, U 124, U 125, U 126, U 127, U 128, U 129, U 130, U 131, U 132, U 133, U 134, U 135, U 136, U 137, U 138, U 139, U 140, U 141, U 142, U 143, U 144, U 145, U 146, U 147, U 148, U 149, U 150, U 151, U 152, U 153, U 154, U 155, U 156, U 157, U 158, U 159, U 160, U 161, U 162, U 163, U 164, U 165, U 166, U 167, U 168, U 169, U 170, U 171, U 172, U 173, U 174, U 175, U 176, U 177, U 178, U 179, U 180, U 181, U 182, U 183, U 184, U 185, U 186, U 187, U 188, U 189, U 190, U 191, U 192, U 193, U 194, U 195, U 196, U 197, U 198, U 199, U 200, U 201, U 202, U 203, U 204, U 205, U 206, U 207, U 208, U 209, U 210, U 211, U 212, U 213, U 214, U 215, U 216, U 217, U 218, U 219, U 220], defers := ds4 }) ?_ (k := (starts s).length - m) ⟨m, hml, rfl, hgap, hide rfl, HI, mk_act rfl⟩
              clear HI hgap hml
              rintro k' a' W ⟨m, hml, hk', hgap, HSZ, HI, U, rfl⟩ K6 hK6
              have hST := unhide HT
              have kr := (unhide HI).r.cell 0
              have kn := (unhide HI).n.cell 0
              have k8 := (hST.want.below (unhide HI).old hST.want.lt).cell 0
              by_cases hgo : r = 1 ∧ m < (starts s).length
              · obtain ⟨hr1, hmlt⟩ := hgo
                obtain ⟨g, hag, g0, g1, g2, g3⟩ := hST.cells (unhide HI).old hmlt
                have hb : (spotV s (stAt s m)).2.2 = false := hgap hr1 m (Nat.le_refl _) hmlt
                rw [hb] at g3
                have HAG := hide hag
                subst hag
                subst hr1
                have hi1' : (m : Int) < ((starts s).length : Int) := by omega
                have hi3' : ((m : Nat) : Int).toNat = m := by omega
                have hmb : (m : Int) ≤ 65536 := by omega
                have kf := (unhide HI).n.frozen 0
                have HC := hide ((unhide HI).setn (by omega) hTB ((m : Int) + 1))
                have HK6 := hide hK6
                have HGAP := hide hgap
                clear hK6 hgap hb g0 g1 g2
                gi_wp2
                exact unhide HK6 ((starts s).length - (m + 1)) _ _ (by omega) ⟨m + 1, by omega, rfl, fun h k h2 h3 => unhide HGAP h k (by omega) h3, hide (by simpa using unhide HSZ), HC, mk_act rfl⟩
              · clear hK6
                have hnext : ∀ (W7 : World) (a7 : Act) (v : Int), v = ((r + 1 : Nat) : Int) → W7 = W.alloc (.cells #[.int .i64 v] 3) → (∃ U : Nat → Value, a7 = { tmps := #[.string s, U 1, U 2, .pointer (some ⟨w.heap.size, 0, none⟩), .pointer (some ⟨w.heap.size + 1, 0, none⟩), U 5, U 6, U 7, .pointer (some ⟨B8, 0, none⟩), .func (.func 46) #[] #[.pointer (some ⟨Ba, 0, none⟩)], .func (.func 48) #[] #[.pointer (some ⟨Bb, 0, none⟩)], .func (.func 44) #[] #[.pointer (some ⟨Bc, 0, none⟩)], .pointer (some ⟨W.heap.size, 0, none⟩), U 13, U 14, U 15, U 16, U 17, U 18, U 19, U 20, U 21, U 22, U 23, U 24, U 25, U 26, U 27, U 28, U 29, U 30, U 31, U 32, U 33, U 34, U 35, U 36, U 37, U 38, U 39, U 40, U 41, U 42, U 43, U 44, U 45, U 46, U 47, U 48, U 49, U 50, U 51, U 52, U 53, U 54, U 55, U 56, U 57, U 58, U 59, U 60, U 61, U 62, U 63, U 64, U 65, U 66, U 67, U 68, U 69, U 70, U 71, U 72, U 73, U 74, U 75, U 76, U 77, U 78, U 79, U 80, U 81, U 82, U 83, U 84, U 85, U 86, U 87, U 88, U 89, U 90, U 91, U 92, U 93, U 94, U 95, U 96, U 97, U 98, U 99, U 100, U 101, U 102, U 103, U 104, U 105, U 106, U 107, U 108, U 109, U 110, U 111, U 112, U 113, U 114, U 115, U 116, U 117, U 118, U 119, U 120, U 121, U 122, U 123, U 124, U 125, U 126, U 127, U 128, U 129, U 130, U 131, U 132, U 133, U 134, U 135, U 136, U 137, U 138, U 139, U 140, U 141, U 142, U 143, U 144, U 145, U 146, U 147, U 148, U 149, U 150, U 151, U 152, U 153, U 154, U 155, U 156, U 157, U 158, U 159, U 160, U 161, U 162, U 163, U 164, U 165, U 166, U 167, U 168, U 169, U 170, U 171, U 172, U 173, U 174, U 175, U 176, U 177, U 178, U 179, U 180, U 181, U 182, U 183, U 184, U 185, U 186, U 187, U 188, U 189, U 190, U 191, U 192, U 193, U 194, U 195, U 196, U 197, U 198, U 199, U 200, U 201, U 202, U 203, U 204, U 205, U 206, U 207, U 208, U 209, U 210, U 211, U 212, U 213, U 214, U 215, U 216, U 217, U 218, U 219, U 220], defers := ds4 }) → K a7 W7 := by
                  rintro W7 a7 v rfl rfl ⟨U, rfl⟩
                  have hal := (Below.refl W.heap.size W).alloc (Nat.le_refl _) (.cells #[.int .i64 ((r + 1 : Nat) : Int)] 3)
                  have hI := unhide HI
                  exact unhide HK (2 - (r + 1)) _ _ (by omega) ⟨r + 1, W.heap.size, W6.heap.size, ds4, by omega, rfl, hide (Blk.new W _ _), hI.old.size, hide (hI.old.trans (hal.mono hI.old.size)), hide (hI.marks.old hal (by have := unhide HSZ; omega)), by have := unhide HSZ; simp; omega, mk_act rfl⟩
                have HNX := hide hnext
                clear hnext
                by_cases hr1 : r = 1
                · have hmn : ¬ (m : Int) < ((starts s).length : Int) := by omega
                  subst hr1
                  clear hgo hgap
                  gi_wp2
                  exact unhide HNX _ _ 2 rfl rfl (mk_act rfl)
                · obtain rfl : r = 0 := by omega
                  clear hgo hgap
                  gi_wp2
                  exact unhide HNX _ _ 1 rfl rfl (mk_act rfl)
            have KEY := hide key5
            clear key5 hK5 hK
            refine range_deep rfl h1 (gf := 44) (lb := #[.pointer (some ⟨Bc, 0, none⟩)]) rfl trivial (enters_of Try.func44 (by kernel_rfl) rfl)
              (tbads_deep (fun _ _ => True) (n - 1) Bc B (by omega) s (by omega) T hST.string (hST.bads.cell 0)) (fun _ _ => trivial) (fun _ _ _ _ => trivial) hI2.old (fun _ => rfl)
              (BadsJ T Br Bn W4.heap.size r ds3 s (starts s).length) (LeftJ T Br Bn W4.heap.size r ds3 (starts s).length 6) (BadsJ.old (by omega) (by omega) (by omega) (by omega)) (LeftJ.old (by omega) (by omega) (by omega) (by omega)) ⟨0, rfl, by omega, hI2⟩ ?round ?done ?stop
            case round =>
              rintro pre x W ⟨m, hpre, hm, hI⟩ ⟨hx, hbx, hpre2⟩ hge
              have hbb := hpre.symm.trans hpre2
              have hmx := bads_before hbb hbx
              have hgap : ∀ k, m ≤ k → k < x → badAt s k = false := fun k h1 h2 => bads_gap hbb h1 h2
              subst hpre
              have HBB := hide hbb
              clear hpre2 hbb
              have hP := Blk.new W #[.int .i64 (stAt s x : Int), .int .i64 (x : Int)] 30
              have hal := (Below.refl W.heap.size W).alloc (Nat.le_refl _) (.cells #[.int .i64 (stAt s x : Int), .int .i64 (x : Int)] 30)
              dsimp only [encsD]
              gi_wp2
              refine ⟨Above.below hal, ⟨m, rfl, hm, hI.grow hal (by omega)⟩, ?_⟩
              intro Wr hgr hsr ⟨m2, hpre2, hm2, hI2⟩
              have hbb2 : bads s m2 = bads s x := hpre2.symm.trans (unhide HBB)
              have hmx2 := bads_before hbb2 hbx
              have hgap2 : ∀ k, m2 ≤ k → k < x → badAt s k = false := fun k h1 h2 => bads_gap hbb2 h1 h2
              have hPr := hP.kept hgr (by simp; omega)
              obtain ⟨PP, hPe⟩ : ∃ PP, PP = W.heap.size := ⟨_, rfl⟩
              rw [← hPe] at hPr
              rw [← hPe]
              have hP0 : W1.heap.size + 2 ≤ PP := by omega
              have hxb : (x : Int) ≤ 65536 := by omega
              have HNX : Hid (bads s m ++ [x] = bads s (x + 1)) := hide (by rw [unhide HBB]; exact (bads_yes hbx).symm)
              have HBX := hide hbx
              have hWr0 : PP < Wr.heap.size := hPr.lt
              clear hP hal hI hpre2 hPe hgr hsr hgap hmx hbb2 hbx
              have HI2 := hide hI2
              clear hI2
              gi_wp2
              rename_i K6 hK6
              clear hBW hBn2 hTW2
              refine loop_down (fun k a' W => ∃ (m : Nat), m ≤ x ∧ k = x - m ∧ (∀ k, m ≤ k → k < x → badAt s k = false) ∧ Hid (Above W1.heap.size Wr W) ∧ Hid (SaI T Br Bn W4.heap.size r ds3 m W) ∧ Hid (Blk W PP #[.int .i64 (stAt s x : Int), .int .i64 (x : Int)] 30) ∧ ∃ U : Nat → Value, a' = { tmps := #[.string s, U 1, U 2, .pointer (some ⟨w.heap.size, 0, none⟩), .pointer (some ⟨w.heap.size + 1, 0, none⟩), U 5, U 6, U 7, .pointer (some ⟨B8, 0, none⟩), .func (.func 46) #[] #[.pointer (some ⟨Ba, 0, none⟩)], .func (.func 48) #[] #[.pointer (some ⟨Bb, 0, none⟩)], .func (.func 44) #[] #[.pointer (some ⟨Bc, 0, none⟩)], .pointer (some ⟨Br, 0, none⟩), .pointer (some ⟨Bn, 0, none⟩), U 14, U 15, U 16, U 17, .pointer (some ⟨PP, 0, none⟩), U 19, U 20, U 21, U 22, U 23, U 24, U 25, U 26, U 27, U 28, U 29, U 30, U 31, U 32, U 33, U 34, U 35, U 36, U 37, U 38, U 39, U 40, U 41, U 42, U 43, U 44, U 45, U 46, U 47, U 48, U 49, U 50, U 51, U 52, U 53, U 54, U 55, U 56, U 57, U 58, U 59, U 60, U 61, U 62, U 63, U 64, U 65, U 66, U 67, U 68, U 69, U 70, U 71, U 72, U 73, U 74, U 75, U 76, U 77, U 78, U 79, U 80, U 81, U 82, U 83, U 84, U 85, U 86, U 87, U 88, U 89, U 90, U 91, U 92, U 93, U 94, U 95, U 96, U 97, U 98, U 99, U 100, U 101, U 102, U 103, U 104, U 105, U 106, U 107, U 108, U 109, U 110, U 111, U 112, U 113, U 114, U 115, U 116, U 117, U 118, U 119, U 120, U 121, U 122, U 123, U 124, U 125, U 126, U 127, U 128, U 129, U 130, U 131, U 132, U 133, U 134, U 135, U 136, U 137, U 138, U 139, U 140, U 141, U 142, U 143, U 144, U 145, U 146, U 147, U 148, U 149, U 150, U 151, U 152, U 153, U 154, U 155, U 156, U 157, U 158, U 159, U 160, U 161, U 162, U 163, U 164, U 165, U 166, U 167, U 168, U 169, U 170, U 171, U 172, U 173, U 174, U 175, U 176, U 177, U 178, U 179, U 180, U 181, U 182, U 183, U 184, U 185, U 186, U 187, U 188, U 189, U 190, U 191, U 192, U 193, U 194, U 195, U 196, U 197, U 198, U 199, U 200, U 201, U 202, U 203, U 204, U 205, U 206, U 207, U 208, U 209, U 210, U 211, U 212, U 213, U 214, U 215, U 216, U 217, U 218, U 219, U 220], defers := [] }) ?_ (k := x - m2) ⟨m2, hmx2, rfl, hgap2, hide (Above.refl _ _), HI2, hide hPr, mk_act rfl⟩
              clear HI2 hPr hgap2
              rintro k' a' W5 ⟨m3, hmx3, hk', hgap, HAB, HI, HP, U, rfl⟩ K7 hK7
              have kn := (unhide HI).n.cell 0
              have k8 := (hST.want.below (unhide HI).old hST.want.lt).cell 0
              obtain ⟨g, hag, g0, g1, g2, g3⟩ := hST.cells (unhide HI).old (show m3 < (starts s).length by omega)
              have hi1' : (m3 : Int) < ((starts s).length : Int) := by omega
              have hi2' : ¬ ((starts s).length : Int) ≤ (m3 : Int) := by omega
              have hi3' : ((m3 : Nat) : Int).toNat = m3 := by omega
              have hmb : (m3 : Int) ≤ 65536 := by omega
              by_cases hlt : m3 < x
              · have hb : (spotV s (stAt s m3)).2.2 = false := hgap m3 (Nat.le_refl _) hlt
                rw [hb] at g3
                have HST := hide hST
                subst hag
                have kf := (unhide HI).n.frozen 0
                have HC := hide (And.intro ((unhide HI).setn (by omega) hTB ((m3 : Int) + 1)) (And.intro ((unhide HAB).set (b := Bn) (i := 0) (by omega) (.int .i64 ((m3 : Int) + 1))) ((unhide HP).other (show PP ≠ Bn by omega) (i := 0) (.int .i64 ((m3 : Int) + 1)))))
                have HK7 := hide hK7
                have HGAP := hide hgap
                clear hK7 hgap hb g0 g1 g2 hK6
                gi_wp2
                exact unhide HK7 (x - (m3 + 1)) _ _ (by omega) ⟨m3 + 1, by omega, rfl, fun k h2 h3 => unhide HGAP k (by omega) h3, hide (unhide HC).2.1, hide (unhide HC).1, hide (unhide HC).2.2, mk_act rfl⟩
              · obtain rfl : m3 = x := by omega
                have hb : (spotV s (stAt s m3)).2.2 = true := unhide HBX
                rw [hb] at g3
                have HST := hide hST
                subst hag
                have p0 := (unhide HP).cell 0
                have p1 := (unhide HP).cell 1
                generalize stAt s m3 = va at *
                have e4 : ((va : Int) == (va : Int)) = true := by simp
                have e5 : ((m3 : Int) == (m3 : Int)) = true := by simp
                clear hK7 hgap hb g0 g2
                gi_wp2_with fail
                refine region_round (by kernel_rfl) (by kernel_rfl) (by kernel_rfl) ?_
                repeat (quiet_step_in (fail))
                refine wpQuietIn_nil ?_
                rintro _ ⟨nq, rfl⟩
                clear p0 p1 g1 g3 e4 e5 kn k8
                have hI5 := (unhide HI).drew nq
                have hab : Above W4.heap.size Wr (W5.drewN nq) := by rw [← hz4]; exact (unhide HAB).trans (Above.below (below_drewN (Below.refl _ _) nq))
                generalize W5.drewN nq = W3 at *
                have kn := hI5.n.cell 0
                have kf := hI5.n.frozen 0
                have kr := (hI5.setn (by omega) hTB ((m3 : Int) + 1)).r.cell 0
                have kn2 := (hI5.setn (by omega) hTB ((m3 : Int) + 1)).n.cell 0
                have ks := ((unhide HST).stop.below (hI5.setn (by omega) hTB ((m3 : Int) + 1)).old (unhide HST).stop.lt).cell 0
                have HC := hide (And.intro (hI5.setn (by omega) hTB ((m3 : Int) + 1)) (hab.set (b := Bn) (i := 0) (by omega) (.int .i64 ((m3 : Int) + 1))))
                clear hI5 hab HI HAB HP
                by_cases hr0 : r = 0
                · subst hr0
                  by_cases hst : st < (m3 : Int) + 1
                  · gi_wp2
                    exact ⟨(unhide HC).2, rfl, rfl, m3 + 1, by omega, (unhide HC).1⟩
                  · gi_wp2
                    exact ⟨(unhide HC).2, trivial, m3 + 1, unhide HNX, by omega, (unhide HC).1⟩
                · have hq : ((r : Int) == 0) = false := by rw [beq_eq_false_iff_ne]; omega
                  gi_wp2
                  exact ⟨(unhide HC).2, trivial, m3 + 1, unhide HNX, by omega, (unhide HC).1⟩
            case done =>
              rintro D3 xs W6 hD hS ⟨m, hpre, hm, hI⟩ hdef
              have hbb : bads s m = bads s (starts s).length := hpre.symm.trans hS
              exact unhide KEY W6 D3 m _ (mk_act rfl) (fun _ k h1 h2 => bads_gap hbb h1 h2) hm ⟨hI.n, hI.r, hI.old, hI.marks.push (by omega) (by omega) hdef⟩
            case stop =>
              rintro D3 c pre W6 hD hSp ⟨rfl, hr0, m, hm, hI⟩ hdef
              have HK2 := hide (unhide KEY W6 D3 m)
              have HPP := hide (show SaI T Br Bn W6.heap.size r ({ target := .collected D3, args := #[] } :: ds3) m W6 from ⟨hI.n, hI.r, hI.old, hI.marks.push (by omega) (by omega) hdef⟩)
              clear hI hI2
              gi_wp2
              exact unhide HK2 _ (mk_act rfl) (by omega) hm (unhide HPP)
          have kr := hI.r.cell 0
          have kn := hI.n.cell 0
          clear hK4 hI
          have HK4 := hide key4
          clear key4 hK
          by_cases hr1 : r = 1
          · obtain rfl := hm1 hr1
            subst hr1
            gi_wp2
            exact unhide HK4 _ (mk_act rfl)
          · have hq : ((r : Int) == 1) = false := by rw [beq_eq_false_iff_ne]; omega
            gi_wp2
            exact unhide HK4 _ (mk_act rfl)
        have KEY := hide key3
        clear key3 hK3 hK
        refine range_deep rfl h1 (gf := 48) (lb := #[.pointer (some ⟨Bb, 0, none⟩)]) rfl trivial (enters_of Try.func48 (by kernel_rfl) rfl)
          (tback_deep (n - 1) Bb B (by omega) s (by omega) T hST.text (hST.back.cell 0)) KpB_t (fun W l o hl => KpB_b W l o (by omega)) hI2.old (fun _ => rfl)
          (BackJ T Br Bn W2.heap.size r ({ target := .collected D, args := #[] } :: ds) (starts s).length) (LeftJ T Br Bn W2.heap.size r ({ target := .collected D, args := #[] } :: ds) (starts s).length 4) (BackJ.old (by omega) (by omega) (by omega) (by omega)) (LeftJ.old (by omega) (by omega) (by omega) (by omega)) ⟨(starts s).length, (dnL_top _).symm, by omega, hI2⟩ ?round ?done ?stop
        case round =>
          rintro pre x W ⟨m, hpre, hm, hI⟩ ⟨hx, hpre2⟩ hge
          obtain rfl : m = x + 1 := dnL_inj (by omega) (by omega) (hpre.symm.trans hpre2)
          subst hpre
          clear hpre2
          have hP := (Blk.new W #[.int .i64 (stAt s x : Int), .int .i64 (x : Int)] 30).alloc (.cells (spotCells (spotV s (stAt s x))) 37)
          have hX := Blk.new (W.alloc (.cells #[.int .i64 (stAt s x : Int), .int .i64 (x : Int)] 30)) (spotCells (spotV s (stAt s x))) 37
          have hal := ((Below.refl W.heap.size W).alloc (Nat.le_refl _) (.cells #[.int .i64 (stAt s x : Int), .int .i64 (x : Int)] 30)).alloc (by simp) (.cells (spotCells (spotV s (stAt s x))) 37)
          simp only [World.size_alloc] at hX
          dsimp only [encsT]
          gi_wp2
          refine ⟨Above.below hal, fun k hk => hal.block k (by omega), ⟨x + 1, rfl, hm, hI.grow hal (by omega)⟩, ?_⟩
          intro Wr hgr hsr ⟨m2, hpre2, hm2, hI2⟩
          obtain rfl : x + 1 = m2 := dnL_inj (by omega) (by omega) hpre2
          have hPr := hP.kept hgr (by simp; omega)
          have hXr := hX.kept hgr (by simp; omega)
          obtain ⟨PP, hPe⟩ : ∃ PP, PP = W.heap.size := ⟨_, rfl⟩
          rw [← hPe] at hPr hXr
          rw [← hPe]
          have hP0 : W1.heap.size + 2 ≤ PP := by omega
          have hI3 := hI2.setn (by omega) hTB (x : Int)
          have hPs := hPr.other (show PP ≠ Bn by omega) (i := 0) (.int .i64 (x : Int))
          have hXs := hXr.other (show PP + 1 ≠ Bn by omega) (i := 0) (.int .i64 (x : Int))
          have hab : Above W1.heap.size Wr (Wr.setCell ⟨Bn, 0, none⟩ (.int .i64 (x : Int))) := (Above.refl _ _).set (by omega) _
          have hkp : KpB T.heap.size Wr (Wr.setCell ⟨Bn, 0, none⟩ (.int .i64 (x : Int))) := fun k hk => Below.heap_setCell Wr ⟨Bn, 0, none⟩ _ k (by show k ≠ Bn; omega)
          have hc : (((x + 1 : Nat) : Int)) - 1 = (x : Int) := by omega
          have kn := hI2.n.cell 0
          have kf := hI2.n.frozen 0
          have hxb : (x : Int) ≤ 65536 := by omega
          clear hPr hXr hP hX hal hI hI2 hpre2 hPe hgr hsr
          gi_wp2_with fail
          generalize Wr.setCell ⟨Bn, 0, none⟩ (.int .i64 (x : Int)) = W5 at *
          clear kn kf hc
          have p0 := hPs.cell 0
          have p1 := hPs.cell 1
          have x0 := hXs.cell 0
          have x1 := hXs.cell 1
          have x2 := hXs.cell 2
          have kn := hI3.n.cell 0
          have k8 := (hST.want.below hI3.old hST.want.lt).cell 0
          obtain ⟨g, hag, g0, g1, g2, g3⟩ := hST.cells hI3.old hx
          have HI3 := hide hI3
          have HST := hide hST
          have HAK := hide (And.intro hab hkp)
          have HPRE : Hid (dnL (starts s).length (x + 1) ++ [x] = dnL (starts s).length x) := hide (dnL_step hx).symm
          have hi1' : (x : Int) < ((starts s).length : Int) := by omega
          have hi2' : ¬ (x : Int) < 0 := by omega
          have hi3' : ((x : Nat) : Int).toNat = x := by omega
          subst hag
          simp only [spotCells] at x0 x1 x2
          generalize (spotV s (stAt s x)).1 = vr at *
          generalize (spotV s (stAt s x)).2.1 = vb at *
          generalize (spotV s (stAt s x)).2.2 = vd at *
          generalize stAt s x = va at *
          have e1 : (vr == vr) = true := by simp
          have e2 : (vb == vb) = true := by simp
          have e3 : (vd == vd) = true := by simp
          have e4 : ((va : Int) == (va : Int)) = true := by simp
          have e5 : ((x : Int) == (x : Int)) = true := by simp
          clear hPs hXs hab hkp hI3
          refine region_round (by kernel_rfl) (by kernel_rfl) (by kernel_rfl) ?_
          repeat (quiet_step_in (fail))
          refine wpQuietIn_nil ?_
          rintro _ ⟨nq, rfl⟩
          clear p0 p1 x0 x1 x2 g0 g1 g2 g3 e1 e2 e3 e4 e5 kn k8
          have hI5 := (unhide HI3).drew nq
          have hab : Above W2.heap.size Wr (W5.drewN nq) := by rw [← hz2]; exact (unhide HAK).1.trans (Above.below (below_drewN (Below.refl _ _) nq))
          have hkp : KpB T.heap.size Wr (W5.drewN nq) := fun k hk => (unhide HAK).2 k hk
          generalize W5.drewN nq = W3 at *
          have kn := hI5.n.cell 0
          have kr := hI5.r.cell 0
          have ks := ((unhide HST).stop.below hI5.old (unhide HST).stop.lt).cell 0
          have HC := hide (And.intro hI5 (And.intro hab hkp))
          clear hI5 hab hkp HI3 HAK
          by_cases hr0 : r = 0
          · subst hr0
            by_cases hst : (x : Int) < st
            · gi_wp2
              exact ⟨(unhide HC).2.1, rfl, rfl, x, by omega, (unhide HC).1⟩
            · gi_wp2
              exact ⟨(unhide HC).2.1, (unhide HC).2.2, x, unhide HPRE, by omega, (unhide HC).1⟩
          · have hq : ((r : Int) == 0) = false := by rw [beq_eq_false_iff_ne]; omega
            gi_wp2
            exact ⟨(unhide HC).2.1, (unhide HC).2.2, x, unhide HPRE, by omega, (unhide HC).1⟩
        case done =>
          rintro D2 xs W4 hD hS ⟨m, hpre, hm, hI⟩ hdef
          obtain rfl : m = 0 := dnL_inj (by omega) (by omega) (hpre.symm.trans hS)
          exact unhide KEY W4 D2 _ _ (mk_act rfl) (fun _ => rfl) ⟨hI.n, hI.r, hI.old, hI.marks.push (by omega) (by omega) hdef⟩
        case stop =>
          rintro D2 c pre W4 hD hSp ⟨rfl, hr0, m, hm, hI⟩ hdef
          have HK2 := hide (unhide KEY W4 D2 m)
          have HPP := hide (show SaI T Br Bn W4.heap.size r ({ target := .collected D2, args := #[] } :: { target := .collected D, args := #[] } :: ds) m W4 from ⟨hI.n, hI.r, hI.old, hI.marks.push (by omega) (by omega) hdef⟩)
          clear hI hI2
          gi_wp2
          exact unhide HK2 _ (mk_act rfl) (by omega) (unhide HPP)
      have kr := hI.r.cell 0
      have kn := hI.n.cell 0
      have k8 := (hST.want.below hI.old hST.want.lt).cell 0
      clear hK2 hI
      have HK2 := hide key2
      clear key2 hK
      by_cases hr1 : r = 1
      · obtain rfl := hm1 hr1
        subst hr1
        have hne : (((starts s).length : Int) != ((starts s).length : Int)) = false := by simp
        gi_wp2
        exact unhide HK2 _ (mk_act rfl)
      · have hq : ((r : Int) == 1) = false := by rw [beq_eq_false_iff_ne]; omega
        gi_wp2
        exact unhide HK2 _ (mk_act rfl)
    have KEY := hide key
    clear key hK1 hK
    refine range_deep rfl h1 (gf := 46) (lb := #[.pointer (some ⟨Ba, 0, none⟩)]) rfl trivial (enters_of Try.func46 (by kernel_rfl) rfl)
      (tall_deep (fun _ _ => True) (n - 1) Ba B (by omega) s (by omega) T hST.string (hST.there.cell 0)) (fun _ _ => trivial) (fun _ _ _ _ => trivial) hI0.old (fun _ => rfl)
      (ThereJ T Br Bn hi r ds (starts s).length) (LeftJ T Br Bn hi r ds (starts s).length 2) (ThereJ.old (by omega) (by omega) (by omega) (by omega)) (LeftJ.old (by omega) (by omega) (by omega) (by omega)) ⟨0, rfl, by omega, hI0⟩ ?round ?done ?stop
    case round =>
      rintro pre x W ⟨m, hpre, hm, hI⟩ ⟨hx, hpre2⟩ hge
      obtain rfl : m = x := by simpa using congrArg List.length (hpre.symm.trans hpre2)
      subst hpre
      clear hpre2
      have hP := (Blk.new W #[.int .i64 (stAt s m : Int), .int .i64 (m : Int)] 30).alloc (.cells (spotCells (spotV s (stAt s m))) 37)
      have hX := Blk.new (W.alloc (.cells #[.int .i64 (stAt s m : Int), .int .i64 (m : Int)] 30)) (spotCells (spotV s (stAt s m))) 37
      have hal := ((Below.refl W.heap.size W).alloc (Nat.le_refl _) (.cells #[.int .i64 (stAt s m : Int), .int .i64 (m : Int)] 30)).alloc (by simp) (.cells (spotCells (spotV s (stAt s m))) 37)
      simp only [World.size_alloc] at hX
      dsimp only [encsT]
      gi_wp2
      refine ⟨Above.below hal, ⟨m, rfl, hm, hI.grow hal (by omega)⟩, ?_⟩
      intro Wr hgr hsr ⟨m2, hpre2, hm2, hI2⟩
      obtain rfl : m = m2 := by simpa using congrArg List.length hpre2
      have hPr := hP.kept hgr (by simp; omega)
      have hXr := hX.kept hgr (by simp; omega)
      obtain ⟨PP, hPe⟩ : ∃ PP, PP = W.heap.size := ⟨_, rfl⟩
      rw [← hPe] at hPr hXr
      rw [← hPe]
      have hP0 : W1.heap.size + 2 ≤ PP := by omega
      have p0 := hPr.cell 0
      have p1 := hPr.cell 1
      have x0 := hXr.cell 0
      have x1 := hXr.cell 1
      have x2 := hXr.cell 2
      have kn := hI2.n.cell 0
      have k8 := (hST.want.below hI2.old hST.want.lt).cell 0
      obtain ⟨g, hag, g0, g1, g2, g3⟩ := hST.cells hI2.old hx
      have HI2 := hide hI2
      have HAG := hide hag
      have HST := hide hST
      have HPRE : Hid (List.range m ++ [m] = List.range (m + 1)) := hide (List.range_succ).symm
      have hi1' : (m : Int) < ((starts s).length : Int) := by omega
      have hi2' : ¬ ((starts s).length : Int) ≤ (m : Int) := by omega
      have hi3' : ((m : Nat) : Int).toNat = m := by omega
      have hmb : (m : Int) ≤ 65536 := by omega
      subst hag
      simp only [spotCells] at x0 x1 x2
      generalize (spotV s (stAt s m)).1 = vr at *
      generalize (spotV s (stAt s m)).2.1 = vb at *
      generalize (spotV s (stAt s m)).2.2 = vd at *
      generalize stAt s m = va at *
      have e1 : (vr == vr) = true := by simp
      have e2 : (vb == vb) = true := by simp
      have e3 : (vd == vd) = true := by simp
      have e4 : ((va : Int) == (va : Int)) = true := by simp
      have e5 : ((m : Int) == (m : Int)) = true := by simp
      clear hPr hXr hP hX hal hI2 hI hpre2 hPe hgr hsr
      gi_wp2
      refine region_round (by kernel_rfl) (by kernel_rfl) (by kernel_rfl) ?_
      repeat (quiet_step_in (fail))
      refine wpQuietIn_nil ?_
      rintro _ ⟨nq, rfl⟩
      clear p0 p1 x0 x1 x2 g0 g1 g2 g3 e1 e2 e3 e4 e5 kn k8
      have hI3 := (unhide HI2).drew nq
      have hab : Above W1.heap.size Wr (Wr.drewN nq) := Above.below (below_drewN (Below.refl _ _) nq)
      generalize Wr.drewN nq = W3 at *
      have kn := hI3.n.cell 0
      have kf := hI3.n.frozen 0
      have kr := (hI3.setn (by omega) hTB ((m : Int) + 1)).r.cell 0
      have kn2 := (hI3.setn (by omega) hTB ((m : Int) + 1)).n.cell 0
      have ks := ((unhide HST).stop.below (hI3.setn (by omega) hTB ((m : Int) + 1)).old (unhide HST).stop.lt).cell 0
      have HC := hide (And.intro (hI3.setn (by omega) hTB ((m : Int) + 1)) (hab.set (b := Bn) (i := 0) (by omega) (.int .i64 ((m : Int) + 1))))
      clear hI3 hab HI2
      by_cases hr0 : r = 0
      · subst hr0
        by_cases hst : st < (m : Int) + 1
        · gi_wp2
          exact ⟨(unhide HC).2, rfl, rfl, m + 1, by omega, (unhide HC).1⟩
        · gi_wp2
          exact ⟨(unhide HC).2, trivial, m + 1, unhide HPRE, by omega, (unhide HC).1⟩
      · have hq : ((r : Int) == 0) = false := by rw [beq_eq_false_iff_ne]; omega
        gi_wp2
        exact ⟨(unhide HC).2, trivial, m + 1, unhide HPRE, by omega, (unhide HC).1⟩
    case done =>
      rintro D xs W2 hD hS ⟨m, hpre, hm, hI⟩ hdef
      obtain rfl : m = (starts s).length := by simpa using congrArg List.length (hpre.symm.trans hS)
      exact unhide KEY W2 D _ _ (mk_act rfl) (fun _ => rfl) (Nat.le_refl _) ⟨hI.n, hI.r, hI.old, hI.marks.push (by omega) (by omega) hdef⟩
    case stop =>
      rintro D c pre W2 hD hSp ⟨rfl, hr0, m, hm, hI⟩ hdef
      have HK2 := hide (unhide KEY W2 D m)
      have HPP := hide (show SaI T Br Bn W2.heap.size r ({ target := .collected D, args := #[] } :: ds) m W2 from ⟨hI.n, hI.r, hI.old, hI.marks.push (by omega) (by omega) hdef⟩)
      clear hI hI0
      gi_wp2
      exact unhide HK2 _ (mk_act rfl) (by omega) hm (unhide HPP)
  · have hr' : ¬ (r : Int) < 2 := by omega
    have k4 := (hST.res.below (unhide HBW) hST.res.lt).cell 0
    have kf := (hST.res.below (unhide HBW) hST.res.lt).frozen 0
    have hTb := hST.old.size
    have c1 : Blk (W.setCell ⟨w.heap.size + 1, 0, none⟩ (.bool true)) (w.heap.size + 1) #[.bool true] 4 := (hST.res.below (unhide HBW) hST.res.lt).set 0 _
    have c2 : Below w.heap.size w (W.setCell ⟨w.heap.size + 1, 0, none⟩ (.bool true)) := (hST.old.trans ((unhide HBW).mono hTb)).setCell (p := ⟨w.heap.size + 1, 0, none⟩) (by show w.heap.size ≤ w.heap.size + 1; omega) _
    have c3 : Marks w.heap.size (W.setCell ⟨w.heap.size + 1, 0, none⟩ (.bool true)) hi ds := ((unhide HMW).lower hTb).keep (fun k hk he => (Below.heap_setCell W ⟨w.heap.size + 1, 0, none⟩ _ k (by intro e; have e' : k = w.heap.size + 1 := e; rw [e', show W.heap[w.heap.size + 1]? = _ from hST.res.below (unhide HBW) hST.res.lt] at he; cases he)).trans he)
    have HC := hide (And.intro c1 (And.intro c2 c3))
    clear c1 c2 c3 hK
    gi_wp2
    refine leaves_marks _ _ _ (unhide HC).2.2 (unhide HC).1 (unhide HC).2.1 ?_
    intro W' hb' hB'
    have q := hb'.cell 0
    exact ⟨.bool true, by simp [results, Try.f4, go_sem, q], rfl, hB'⟩
end Go.Proofs.Ytnphbjhikapoeaa
