/- UtfSpots, for every text of at most a million letters: the spots from the beginning and from the end, left early, and again. -/
import Derived.Test.YtinhmhkdofoneaaLSpotsParts
import Derived.Test.YtinhmhkdofoneaaWithin
import Derived.Test.YtinhmhkdofoneaaVals
import Derived.Test.YtinhmhkdofoneaaRoundBelow
import Derived.Test.YtinhmhkdofoneaaMarks
import Derived.RangeFuncBox
import Derived.Lib.QuietBelowIn
namespace Go.Proofs.Ytinhmhkdofoneaa
open Go.RowKit Go.Shelf
attribute [local go_sem] Oper.semAt_some
set_option linter.unusedVariables false

theorem eq_nilF (f : FuncId) (p : Value) (w : World) : (binOp BinOp.eql 25 (.func (.func f) #[] #[p]) .nilFunc).run Try.prog w = .ok (.bool false) w := by
  have e : ∃ d, Op.maxDepth = d + 1 := ⟨_, rfl⟩
  obtain ⟨d, hd⟩ := e
  simp [binOp, Op.equal, hd, Op.equalIn, run_underlying Try.underlying25]

/-- A list in memory, in a block below B: its cells. -/
def Row1 (B : Nat) (W : World) (a : Option Addr) (e : TypeId) (xs : List Value) : Prop := 0 < xs.length → ∃ (g : Nat) (cur : Array Value), a = some ⟨g, 0, none⟩ ∧ g < B ∧ Blk W g cur e ∧ ∀ (k : Nat) (u : Value), xs[k]? = some u → cur[k]? = some u
theorem Row1.alloc {B : Nat} {W : World} {a : Option Addr} {e : TypeId} {xs : List Value} (h : Row1 B W a e xs) (o : Obj) : Row1 B (W.alloc o) a e xs := fun h0 => by
  obtain ⟨g, cur, ha, hl, hb, hc⟩ := h h0
  exact ⟨g, cur, ha, hl, hb.alloc o, hc⟩
theorem Row1.own {N : Nat} {A B : World} {row : Option Nat} {a : Option Addr} {e : TypeId} {xs : List Value} (h : Row1 N A a e xs) (hg : A.grownBy B row) (hr : ∀ k, row = some k → ∃ o, A.heap[k]? = some o ∧ o.isCells = false) : Row1 N B a e xs := fun h0 => by
  obtain ⟨g, cur, ha, hl, hb, hc⟩ := h h0
  exact ⟨g, cur, ha, hl, Blk.own g (fun _ : Unit => cur) e () A B row hb hg hr, hc⟩
theorem Row1.set {B : Nat} {W : World} {a : Option Addr} {e : TypeId} {xs : List Value} (h : Row1 B W a e xs) {B' i : Nat} (hB : B ≤ B') (v : Value) : Row1 B (W.setCell ⟨B', i, none⟩ v) a e xs := fun h0 => by
  obtain ⟨g, cur, ha, hl, hb, hc⟩ := h h0
  exact ⟨g, cur, ha, hl, hb.other (by omega) v, hc⟩
theorem Row1.cell {B : Nat} {W : World} {a : Option Addr} {e : TypeId} {xs : List Value} (h : Row1 B W a e xs) (k : Nat) (u : Value) (hk : xs[k]? = some u) : ∃ g, a = some ⟨g, 0, none⟩ ∧ W.cell? ⟨g, k, none⟩ = some u := by
  obtain ⟨g, cur, ha, hl, hb, hc⟩ := h (by have := (List.getElem?_eq_some_iff.1 hk).1; omega)
  exact ⟨g, ha, (hb.cell k).trans (hc k u hk)⟩
theorem own_form4 {W : World} {base e : Nat} {v : Value} {s : ByteArray} (h : W.ownsRow base e 4 v (starts s).length ((starts s).flatMap (refCells s))) : ∃ a cap, v = .slice a (starts s).length cap ∧ Row1 W.heap.size W a e ((starts s).flatMap (refCells s)) := by
  rcases h.2 with ⟨rfl, h0⟩ | ⟨g, cap, cur, rfl, _, hh, _, _, _, ht⟩
  · exact ⟨none, 0, by rw [h0], fun hx => by have := h.1; omega⟩
  · refine ⟨_, cap, rfl, fun _ => ⟨g, cur, rfl, (Array.getElem?_eq_some_iff.1 hh).1, hh, fun k u hk => ?_⟩⟩
    have hl := (List.getElem?_eq_some_iff.1 hk).1
    rw [← ht, List.getElem?_take] at hk
    rw [h.1] at hl
    rw [if_pos (by omega)] at hk
    simpa using hk
theorem ref_cell (s : ByteArray) (k x j : Nat) (h : (starts s)[k]? = some x) (hj : j < 4) : ((starts s).flatMap (refCells s))[k * 4 + j]? = (refCells s x)[j]? := by
  have := flat4 (refCells s) (fun _ => rfl) (starts s) k j x h hj
  rw [Nat.mul_comm] at this
  exact this


theorem same_val (r i d : Nat) (bb : Bool) (w : World) : Calls Try.prog 15 #[.agg #[.int .i32 r, .int .i64 d, .bool bb], .agg #[.int .i32 r, .int .i64 i, .int .i64 d, .bool bb]] w fun e w' => e = .returned (.bool true) ∧ Below w.heap.size w w' := by
  have x := (Blk.new w #[.int .i32 (r : Nat), .int .i64 (d : Nat), .bool bb] 31).alloc (.cells #[.int .i32 (r : Nat), .int .i64 i, .int .i64 (d : Nat), .bool bb] 33)
  have y := Blk.new (w.alloc (.cells #[.int .i32 (r : Nat), .int .i64 (d : Nat), .bool bb] 31)) #[.int .i32 (r : Nat), .int .i64 i, .int .i64 (d : Nat), .bool bb] 33
  have HB := hide (((Below.refl w.heap.size w).alloc (Nat.le_refl _) (.cells #[.int .i32 (r : Nat), .int .i64 (d : Nat), .bool bb] 31)).alloc (by simp) (.cells #[.int .i32 (r : Nat), .int .i64 i, .int .i64 (d : Nat), .bool bb] 33))
  simp only [World.size_alloc] at y
  have x0 := x.cell 0
  have x1 := x.cell 1
  have x2 := x.cell 2
  have y0 := y.cell 0
  have y2 := y.cell 2
  have y3 := y.cell 3
  clear x y
  go_enter Try.func15, Try.ntmps15
  go_wp2
  go_ret
  exact ⟨rfl, unhide HB⟩

theorem wpIn_loop_down {F : Fence} {n : Nat} {P : Program} {Q : Exit → Act → World → Prop} {c : Code} (I : Nat → Act → World → Prop)
    (round : ∀ k a w, I k a w → ∀ K : Act → World → Prop, (∀ k' a' w', k' < k → I k' a' w' → K a' w') → c.wpIn F n P (Exit.then K Q) a w) {k : Nat} {a : Act} {w : World} (h : I k a w) : (Code.loop c).wpIn F n P Q a w := by
  have key : ∀ m k a w, k < m → I k a w → Code.roundsIn F n P c Q m a w := by
    intro m
    induction m with
    | zero => intro k a w hk; omega
    | succ m ih => exact fun k a w hk hI => round k a w hI _ (fun k' a' w' hk' hI' => ih k' a' w' (by omega) hI')
  exact wpIn_loop_rounds (k + 1) (key (k + 1) k a w (by omega) h)

/-- What a frame holds in a slot. -/
def slotOf : List Value → Nat → Value
  | [], _ => undef
  | v :: _, 0 => v
  | _ :: L, k + 1 => slotOf L k
theorem mk_frame {ds : List Deferred} {L : List Value} {G : (Nat → Value) → List Value} (h : L = G (slotOf L)) : ∃ U, ({ tmps := L.toArray, defers := ds } : Act) = { tmps := (G U).toArray, defers := ds } := ⟨_, by rw [← h]⟩
theorem callsIn_round {n l : Nat} {P : Program} {f : FuncId} {args : Array Value} {w : World} {R : Ending → World → Prop} (h : CallsIn Fence.wide n P f args w R) : CallsIn (Fence.wide.inRound l) n P f args w R := h
theorem Row1.setT {B : Nat} {W : World} {a : Option Addr} {e : TypeId} {xs : List Value} (h : Row1 B W a e xs) {b i : Nat} {cs : Array Value} {t : TypeId} (hb : Blk W b cs t) (hne : t ≠ e) (v : Value) : Row1 B (W.setCell ⟨b, i, none⟩ v) a e xs := fun h0 => by
  obtain ⟨g, cur, ha, hl, hg, hc⟩ := h h0
  refine ⟨g, cur, ha, hl, hg.other (fun e' => ?_) v, hc⟩
  subst e'
  have := (show W.heap[g]? = _ from hb).symm.trans hg
  simp at this
  exact hne this.2

/-- The boxes of the law at the head of its loop. -/
structure SpH (s : ByteArray) (a : Option Addr) (cap N P Br r : Nat) (st : Int) (W : World) : Prop where
  b0 : Blk W N #[.int .i64 st] 3
  b1 : Blk W (N + 1) #[.bool false] 4
  bl : Blk W P #[.slice a (starts s).length cap] 22
  s1 : Blk W (P + 1) #[.string s] 9
  s2 : Blk W (P + 1 + 1) #[.string s] 9
  br : Blk W Br #[.int .i64 r] 3
  row : Row1 P W a 33 ((starts s).flatMap (refCells s))
  l0 : N + 1 < P
  l1 : P + 1 + 1 < Br
/-- .. and inside a round, where the counter's box is there. -/
structure SpSt (s : ByteArray) (a : Option Addr) (cap N P Br Bn r : Nat) (m st : Int) (W : World) : Prop where
  h : SpH s a cap N P Br r st W
  bn : Blk W Bn #[.int .i64 m] 3
  l2 : Br < Bn
section
variable {s : ByteArray} {a : Option Addr} {cap N P Br Bn r : Nat} {m st : Int} {W W' : World}
theorem SpH.own' {β : Type} : Own (fun (_ : β) W => SpH s a cap N P Br r st W) := fun x A B row h hg hr =>
  ⟨Blk.own _ (fun _ => _) _ () A B row h.b0 hg hr, Blk.own _ (fun _ => _) _ () A B row h.b1 hg hr, Blk.own _ (fun _ => _) _ () A B row h.bl hg hr, Blk.own _ (fun _ => _) _ () A B row h.s1 hg hr, Blk.own _ (fun _ => _) _ () A B row h.s2 hg hr,
    Blk.own _ (fun _ => _) _ () A B row h.br hg hr, Row1.own h.row hg hr, h.l0, h.l1⟩
theorem SpH.alloc (h : SpH s a cap N P Br r st W) (o : Obj) : SpH s a cap N P Br r st (W.alloc o) := ⟨h.b0.alloc o, h.b1.alloc o, h.bl.alloc o, h.s1.alloc o, h.s2.alloc o, h.br.alloc o, h.row.alloc o, h.l0, h.l1⟩
theorem SpH.below (h : SpH s a cap N P Br r st W) (k : Below W.heap.size W W') : SpH s a cap N P Br r st W' :=
  ⟨h.b0.below k h.b0.lt, h.b1.below k h.b1.lt, h.bl.below k h.bl.lt, h.s1.below k h.s1.lt, h.s2.below k h.s2.lt, h.br.below k h.br.lt, Row1.own h.row (grown_of_below k) (fun _ e => by cases e), h.l0, h.l1⟩
theorem SpH.other (h : SpH s a cap N P Br r st W) {B : Nat} (hB : Br < B) (v : Value) : SpH s a cap N P Br r st (W.setCell ⟨B, 0, none⟩ v) := by
  have q0 := h.l0
  have q1 := h.l1
  exact ⟨h.b0.other (by omega) _, h.b1.other (by omega) _, h.bl.other (by omega) _, h.s1.other (by omega) _, h.s2.other (by omega) _, h.br.other (by omega) _, h.row.set (by omega) _, h.l0, h.l1⟩
theorem SpH.next (h : SpH s a cap N P Br r st W) (v : Int) (hr : v = ((r + 1 : Nat) : Int)) : SpH s a cap N P W.heap.size (r + 1) st (W.alloc (.cells #[.int .i64 v] 3)) := by
  subst hr
  have k := h.alloc (.cells #[.int .i64 ((r + 1 : Nat) : Int)] 3)
  have := h.l1
  have := h.br.lt
  exact ⟨k.b0, k.b1, k.bl, k.s1, k.s2, Blk.new W _ 3, k.row, k.l0, by omega⟩
theorem SpSt.own' {β : Type} : Own (fun (_ : β) W => SpSt s a cap N P Br Bn r m st W) := fun x A B row h hg hr => ⟨SpH.own' (β := Unit) () A B row h.h hg hr, Blk.own _ (fun _ => _) _ () A B row h.bn hg hr, h.l2⟩
theorem SpSt.alloc (h : SpSt s a cap N P Br Bn r m st W) (o : Obj) : SpSt s a cap N P Br Bn r m st (W.alloc o) := ⟨h.h.alloc o, h.bn.alloc o, h.l2⟩
theorem SpSt.below (h : SpSt s a cap N P Br Bn r m st W) (k : Below W.heap.size W W') : SpSt s a cap N P Br Bn r m st W' := ⟨h.h.below k, h.bn.below k h.bn.lt, h.l2⟩
theorem SpSt.setn (h : SpSt s a cap N P Br Bn r m st W) (m' : Int) : SpSt s a cap N P Br Bn r m' st (W.setCell ⟨Bn, 0, none⟩ (.int .i64 m')) := ⟨h.h.other h.l2 _, h.bn.set 0 _, h.l2⟩
end
theorem keeps_regrown (W : World) (d : Nat) (os : Array Obj) : KeepsOthers W (Go.Sort.grow (redrawn W d) os) := by
  have hb := below_regrown W d os
  exact ⟨hb.size, fun k o hk _ => by rw [hb.block k (Array.getElem?_eq_some_iff.1 hk).1]; exact hk⟩
theorem row_cells4 {s : ByteArray} {B : Nat} {W : World} {a : Option Addr} {e : TypeId} (h : Row1 B W a e ((starts s).flatMap (refCells s))) (k x : Nat) (hx : (starts s)[k]? = some x) :
    ∃ g, a = some ⟨g, 0, none⟩ ∧ W.cell? ⟨g, k * 4, none⟩ = some (.int .i32 (rn s x : Nat)) ∧ W.cell? ⟨g, k * 4 + 1, none⟩ = some (.int .i64 (x : Nat)) ∧ W.cell? ⟨g, k * 4 + 2, none⟩ = some (.int .i64 (wd s x : Nat)) ∧ W.cell? ⟨g, k * 4 + 3, none⟩ = some (.bool (decide (rn s x = 65533 ∧ wd s x = 1))) := by
  obtain ⟨g, ha, h0⟩ := h.cell (k * 4 + 0) _ ((ref_cell s k x 0 hx (by omega)).trans rfl)
  obtain ⟨g1, ha1, h1⟩ := h.cell (k * 4 + 1) _ ((ref_cell s k x 1 hx (by omega)).trans rfl)
  obtain ⟨g2, ha2, h2⟩ := h.cell (k * 4 + 2) _ ((ref_cell s k x 2 hx (by omega)).trans rfl)
  obtain ⟨g3, ha3, h3⟩ := h.cell (k * 4 + 3) _ ((ref_cell s k x 3 hx (by omega)).trans rfl)
  obtain rfl : g = g1 := by rw [ha] at ha1; simpa using ha1
  obtain rfl : g = g2 := by rw [ha] at ha2; simpa using ha2
  obtain rfl : g = g3 := by rw [ha] at ha3; simpa using ha3
  exact ⟨g, ha, h0, h1, h2, h3⟩

set_option maxRecDepth 100000 in
set_option maxHeartbeats 4000000 in
theorem lspots_in (n : Nat) (hn : 5 ≤ n) (s : ByteArray) (hs : s.size ≤ 1048576) (stop : Int) (w : World) :
    CallsIn Fence.wide n Try.prog 3 #[.string s, .int .i64 stop] w fun e W' => e = .returned (.bool true) ∧ Below w.heap.size w W' := by
  have h1 : 1 ≤ n := by omega
  have hms : s.size ≤ maxLen := by unfold maxLen; omega
  have hnl := starts_length s
  have hll : (((starts s).length : Int) != ((starts s).length : Int)) = false := by simp
  refine callsIn_of_wp_marks Try.func3 rfl trivial ?_ rfl
  simp only [Try.ntmps3, List.size_toArray, List.length_cons, List.length_nil, Nat.reduceAdd, Nat.reduceSub, Array.replicate_succ, Array.replicate_zero, List.push_toArray, List.append_toArray, List.nil_append, List.cons_append]
  have b0 := (Blk.new w #[.int .i64 stop] 3).alloc (.cells #[.bool false] 4)
  have b1 := Blk.new (w.alloc (.cells #[.int .i64 stop] 3)) #[.bool false] 4
  simp only [World.size_alloc] at b1
  have hB0 := ((Below.refl w.heap.size w).alloc (Nat.le_refl _) (.cells #[.int .i64 stop] 3)).alloc (by simp) (.cells #[.bool false] 4)
  have Hb0 := hide b0
  have Hb1 := hide b1
  have HB0 := hide hB0
  clear b0 b1 hB0
  gi_wp2_with fail
  refine ⟨trivial, ?_⟩
  refine (callsIn_wide.2 (refSpots_any s (by omega) _)).mono ?_
  rintro e w1 ⟨v, rfl, hown, hb⟩
  have b0 := (unhide Hb0).below hb (by simp; omega)
  have b1 := (unhide Hb1).below hb (by simp)
  have hB1 := (unhide HB0).trans (hb.mono (by simp; omega))
  obtain ⟨a, cap, rfl, hrow⟩ := own_form4 hown
  have HROW := hide hrow
  clear hb Hb0 Hb1 HB0 hown hrow
  have c0 := ((b0.alloc (.cells #[.slice a (starts s).length cap] 22)).alloc (.cells #[.string s] 9)).alloc (.cells #[.string s] 9)
  have c1 := ((b1.alloc (.cells #[.slice a (starts s).length cap] 22)).alloc (.cells #[.string s] 9)).alloc (.cells #[.string s] 9)
  have c2 := ((Blk.new w1 #[.slice a (starts s).length cap] 22).alloc (.cells #[.string s] 9)).alloc (.cells #[.string s] 9)
  have c3 := (Blk.new (w1.alloc (.cells #[.slice a (starts s).length cap] 22)) #[.string s] 9).alloc (.cells #[.string s] 9)
  have c4 := Blk.new ((w1.alloc (.cells #[.slice a (starts s).length cap] 22)).alloc (.cells #[.string s] 9)) #[.string s] 9
  simp only [World.size_alloc] at c3 c4
  have hB2 := ((hB1.alloc hB1.size (.cells #[.slice a (starts s).length cap] 22)).alloc (by have := hB1.size; simp; omega) (.cells #[.string s] 9)).alloc (by have := hB1.size; simp; omega) (.cells #[.string s] 9)
  have hNL : w.heap.size + 1 < w1.heap.size := b1.lt
  have H := hide (And.intro c0 (And.intro c1 (And.intro c2 (And.intro c3 (And.intro c4 hB2)))))
  clear b0 b1 hB1 c0 c1 c2 c3 c4 hB2
  gi_wp2_with (refine ⟨trivial, ?_⟩; gi_at_call 10; refine (callsIn_wide.2 (spots_any _ _)).mono ?_; rintro e w' ⟨rfl, rfl⟩)
  refine ⟨trivial, ?_⟩
  refine (callsIn_wide.2 (back_any _ _)).mono ?_
  rintro e w' ⟨rfl, rfl⟩
  have hn1 := eq_nilF 54 (.pointer (some ⟨w1.heap.size + 1, 0, none⟩))
  have hn2 := eq_nilF 56 (.pointer (some ⟨w1.heap.size + 1 + 1, 0, none⟩))
  gi_wp2
  have H2 := hide (show _ ∧ Below w1.heap.size w1 _ from And.intro (unhide H) ((((Below.refl w1.heap.size w1).alloc (Nat.le_refl _) (.cells #[.slice a (starts s).length cap] 22)).alloc (by simp) (.cells #[.string s] 9)).alloc (by simp; omega) (.cells #[.string s] 9)))
  clear H
  have hsz : (((w1.alloc (.cells #[.slice a (starts s).length cap] 22)).alloc (.cells #[.string s] 9)).alloc (.cells #[.string s] 9)).heap.size = w1.heap.size + 3 := by simp
  generalize ((w1.alloc (.cells #[.slice a (starts s).length cap] 22)).alloc (.cells #[.string s] 9)).alloc (.cells #[.string s] 9) = w2 at *
  have kl := cell_regrown (show w2.cell? ⟨w1.heap.size, 0, none⟩ = some _ from (unhide H2).1.2.2.1.cell 0)
  refine wpIn_region_quiet_below rfl (by kernel_rfl) (by kernel_rfl) ?_
  repeat (refine wpQuietIn_step (by first | quiet_asked_in | (go_simp; intros; trivial)) (fun K hK => ?_); go_simp; first | (refine hK _ ?_; clear hK K) | (apply Exists.intro; refine ⟨fun _ => ?_, hK _ ?_⟩; (first | exact ⟨trivial, CallsIn.regrown_of (callsIn_wide.2 (alive_any _))⟩ | exact CallsIn.regrown_of (callsIn_wide.2 (alive_any _)) | exact ⟨trivial, CallsIn.regrown_of (callsIn_wide.2 (count_any s hms _))⟩ | exact CallsIn.regrown_of (callsIn_wide.2 (count_any s hms _))); clear hK K))
  refine wpQuietIn_nil ?_
  intro _ hw'
  obtain ⟨⟨dq, osq⟩, hw''⟩ := hw'
  subst hw''
  have hg := below_regrown w2 dq osq
  have H3 := hide (show Blk _ w.heap.size #[.int .i64 stop] 3 ∧ Blk _ (w.heap.size + 1) #[.bool false] 4 ∧ Blk _ w1.heap.size #[.slice a (starts s).length cap] 22 ∧ Blk _ (w1.heap.size + 1) #[.string s] 9 ∧ Blk _ (w1.heap.size + 1 + 1) #[.string s] 9 ∧ Below w.heap.size w _ ∧ Below w1.heap.size w1 _ from by
    obtain ⟨⟨c0, c1, c2, c3, c4, hB⟩, hq⟩ := unhide H2
    exact ⟨c0.below hg (by omega), c1.below hg (by omega), c2.below hg (by omega), c3.below hg (by omega), c4.below hg (by omega), hB.trans (hg.mono hB.size), hq.trans (hg.mono hq.size)⟩)
  have hsz3 := hg.size
  rw [hsz] at hsz3
  clear hg kl H2 hsz hn1 hn2
  generalize Go.Sort.grow (redrawn w2 dq) osq = w3 at *
  have k0 := (unhide H3).1.cell 0
  have kf := (unhide H3).1.frozen 0
  have kl := (unhide H3).2.2.1.cell 0
  gi_wp2_with fail
  refine ⟨trivial, ?_⟩
  refine (callsIn_wide.2 (within_any stop 0 (starts s).length (by omega) (by omega) (by omega) _)).mono ?_
  rintro e w4 ⟨rfl, rfl⟩
  generalize (0 : Int) + stop % (((starts s).length : Int) - 0 + 1) = st at *
  have H4 : Hid (Blk (w4.setCell ⟨w.heap.size, 0, none⟩ (.int .i64 st)) w.heap.size #[.int .i64 st] 3 ∧ Blk (w4.setCell ⟨w.heap.size, 0, none⟩ (.int .i64 st)) (w.heap.size + 1) #[.bool false] 4 ∧ Blk (w4.setCell ⟨w.heap.size, 0, none⟩ (.int .i64 st)) w1.heap.size #[.slice a (starts s).length cap] 22 ∧ Blk (w4.setCell ⟨w.heap.size, 0, none⟩ (.int .i64 st)) (w1.heap.size + 1) #[.string s] 9 ∧ Blk (w4.setCell ⟨w.heap.size, 0, none⟩ (.int .i64 st)) (w1.heap.size + 1 + 1) #[.string s] 9 ∧ Below w.heap.size w (w4.setCell ⟨w.heap.size, 0, none⟩ (.int .i64 st))) := hide (by
    obtain ⟨c0, c1, c2, c3, c4, hB, hq⟩ := unhide H3
    exact ⟨c0.set 0 (.int .i64 st), c1.other (by omega) _, c2.other (by omega) _, c3.other (by omega) _, c4.other (by omega) _, hB.setCell (p := ⟨w.heap.size, 0, none⟩) (Nat.le_refl _) _⟩)
  gi_wp2
  have hrw : Row1 w1.heap.size (w4.setCell ⟨w.heap.size, 0, none⟩ (.int .i64 st)) a 33 ((starts s).flatMap (refCells s)) :=
    Row1.setT (Row1.own (unhide HROW) (grown_of_below (unhide H3).2.2.2.2.2.2) (fun _ e => by cases e)) (unhide H3).1 (by decide) _
  have hsp : SpH s a cap w.heap.size w1.heap.size w4.heap.size 0 st ((w4.setCell ⟨w.heap.size, 0, none⟩ (.int .i64 st)).alloc (.cells #[.int .i64 0] 3)) := by
    obtain ⟨c0, c1, c2, c3, c4, hBB⟩ := unhide H4
    have q := Blk.new (w4.setCell ⟨w.heap.size, 0, none⟩ (.int .i64 st)) #[.int .i64 0] 3
    simp only [World.size_setCell] at q
    exact ⟨c0.alloc _, c1.alloc _, c2.alloc _, c3.alloc _, c4.alloc _, q, hrw.alloc _, hNL, by omega⟩
  have hB5 := (unhide H4).2.2.2.2.2.alloc (by have := (unhide H3).2.2.2.2.2.1.size; simpa using this) (.cells #[.int .i64 0] 3)
  have hz5 : (((w4.setCell ⟨w.heap.size, 0, none⟩ (.int .i64 st)).alloc (.cells #[.int .i64 0] 3)).heap.size) = w4.heap.size + 1 := by simp
  have HSP := hide hsp
  have HB5 := hide hB5
  generalize (w4.setCell ⟨w.heap.size, 0, none⟩ (.int .i64 st)).alloc (.cells #[.int .i64 0] 3) = w5 at *
  clear hrw hsp hB5 k0 kf kl H4 H3 HROW
  refine wpIn_loop_down (fun k a' W => ∃ (r Br hi : Nat) (ds : List Deferred), r ≤ 2 ∧ k = 2 - r ∧ Hid (SpH s a cap w.heap.size w1.heap.size Br r st W) ∧ Hid (Marks w.heap.size W hi ds) ∧ hi ≤ W.heap.size ∧ Hid (Below w.heap.size w W) ∧ ∃ U : Nat → Value, a' = { tmps := #[.string s, U 1, U 2, .pointer (some ⟨w.heap.size, 0, none⟩), .pointer (some ⟨w.heap.size + 1, 0, none⟩), .pointer (some ⟨w1.heap.size, 0, none⟩), Value.func (.func 54) #[] #[.pointer (some ⟨w1.heap.size + 1, 0, none⟩)], Value.func (.func 56) #[] #[.pointer (some ⟨w1.heap.size + 1 + 1, 0, none⟩)], .pointer (some ⟨Br, 0, none⟩), U 9, U 10, U 11, U 12, U 13, U 14, U 15, U 16, U 17, U 18, U 19, U 20, U 21, U 22, U 23, U 24, U 25, U 26, U 27, U 28, U 29, U 30, U 31, U 32, U 33, U 34, U 35, U 36, U 37, U 38, U 39, U 40, U 41, U 42, U 43, U 44, U 45, U 46, U 47, U 48, U 49, U 50, U 51, U 52, U 53, U 54, U 55, U 56, U 57, U 58, U 59, U 60, U 61, U 62, U 63, U 64, U 65, U 66, U 67, U 68, U 69, U 70, U 71, U 72, U 73, U 74, U 75, U 76, U 77, U 78, U 79, U 80, U 81, U 82, U 83, U 84, U 85, U 86, U 87, U 88, U 89, U 90, U 91, U 92, U 93, U 94, U 95, U 96, U 97, U 98, U 99, U 100, U 101, U 102, U 103, U 104, U 105, U 106, U 107, U 108, U 109, U 110, U 111, U 112, U 113, U 114, U 115, U 116, U 117, U 118, U 119, U 120, U 121, U 122, U 123, U 124, U 125, U 126, U 127], defers := ds }) ?_
    (k := 2) ⟨0, w4.heap.size, 0, [], by omega, rfl, HSP, hide trivial, by omega, HB5, mk_frame rfl⟩
  rintro k a' W ⟨r, Br, hi, ds, hr2, hk, HSH, HMH, hhi0, HBH, U, rfl⟩ K hK
  have cr := (unhide HSH).br.cell 0
  by_cases hr : r < 2
  · have hr' : (r : Int) < 2 := by omega
    have hr01 : r = 0 ∨ r = 1 := by omega
    gi_wp2
    rename_i K1 hK1
    obtain ⟨Bn, hBnE⟩ : ∃ Bn, Bn = W.heap.size := ⟨_, rfl⟩
    have HS0 : Hid (SpSt s a cap w.heap.size w1.heap.size Br Bn r 0 st (W.alloc (.cells #[.int .i64 0] 3))) := hide (by subst hBnE; exact ⟨(unhide HSH).alloc _, Blk.new W _ 3, (unhide HSH).br.lt⟩)
    have HM0 := hide ((unhide HMH).others (KeepsOthers.alloc W (.cells #[.int .i64 0] 3)))
    have HB0 := hide ((unhide HBH).alloc (unhide HBH).size (.cells #[.int .i64 0] 3))
    have hBn : w.heap.size ≤ Bn := by rw [hBnE]; exact (unhide HBH).size
    have hhi : hi ≤ (W.alloc (.cells #[.int .i64 0] 3)).heap.size := by simp; omega
    have hlo : w.heap.size ≤ (W.alloc (.cells #[.int .i64 0] 3)).heap.size := by have := (unhide HBH).size; simp; omega
    rw [← hBnE]
    generalize W.alloc (.cells #[.int .i64 0] 3) = W0 at *
    clear hBnE cr hhi0 HSH HMH HBH
    have key : ∀ (W2 : World) (D m : Nat) (a2 : Act), (∃ U : Nat → Value, a2 = { tmps := #[.string s, U 1, U 2, .pointer (some ⟨w.heap.size, 0, none⟩), .pointer (some ⟨w.heap.size + 1, 0, none⟩), .pointer (some ⟨w1.heap.size, 0, none⟩), Value.func (.func 54) #[] #[.pointer (some ⟨w1.heap.size + 1, 0, none⟩)], Value.func (.func 56) #[] #[.pointer (some ⟨w1.heap.size + 1 + 1, 0, none⟩)], .pointer (some ⟨Br, 0, none⟩), .pointer (some ⟨Bn, 0, none⟩), U 10, U 11, U 12, U 13, U 14, U 15, U 16, U 17, U 18, U 19, U 20, U 21, U 22, U 23, U 24, U 25, U 26, U 27, U 28, U 29, U 30, U 31, U 32, U 33, U 34, U 35, U 36, U 37, U 38, U 39, U 40, U 41, U 42, U 43, U 44, U 45, U 46, U 47, U 48, U 49, U 50, U 51, U 52, U 53, U 54, U 55, U 56, U 57, U 58, U 59, U 60, U 61, U 62, U 63, U 64, U 65, U 66, U 67, U 68, U 69, U 70, U 71, U 72, U 73, U 74, U 75, U 76, U 77, U 78, U 79, U 80, U 81, U 82, U 83, U 84, U 85, U 86, U 87, U 88, U 89, U 90, U 91, U 92, U 93, U 94, U 95, U 96, U 97, U 98, U 99, U 100, U 101, U 102, U 103, U 104, U 105, U 106, U 107, U 108, U 109, U 110, U 111, U 112, U 113, U 114, U 115, U 116, U 117, U 118, U 119, U 120, U 121, U 122, U 123, U 124, U 125, U 126, U 127], defers := { target := .collected D, args := #[] } :: ds }) → (r = 0 ∨ (r = 1 ∧ m = (starts s).length)) → SpSt s a cap w.heap.size w1.heap.size Br Bn r m st W2 → Marks w.heap.size W2 W2.heap.size ({ target := .collected D, args := #[] } :: ds) → Below w.heap.size w W2 → K1 a2 W2 := by
      rintro W2 D m a2 ⟨U, rfl⟩ hm1 hs2 hM2 hB2
      clear HS0 HM0 HB0 hhi hlo
      apply hK1
      clear hK1
      apply wpIn_seq_k
      intro K2 hK2
      have key2 : ∀ (a3 : Act), (∃ U : Nat → Value, a3 = { tmps := #[.string s, U 1, U 2, .pointer (some ⟨w.heap.size, 0, none⟩), .pointer (some ⟨w.heap.size + 1, 0, none⟩), .pointer (some ⟨w1.heap.size, 0, none⟩), Value.func (.func 54) #[] #[.pointer (some ⟨w1.heap.size + 1, 0, none⟩)], Value.func (.func 56) #[] #[.pointer (some ⟨w1.heap.size + 1 + 1, 0, none⟩)], .pointer (some ⟨Br, 0, none⟩), .pointer (some ⟨Bn, 0, none⟩), U 10, U 11, U 12, U 13, U 14, U 15, U 16, U 17, U 18, U 19, U 20, U 21, U 22, U 23, U 24, U 25, U 26, U 27, U 28, U 29, U 30, U 31, U 32, U 33, U 34, U 35, U 36, U 37, U 38, U 39, U 40, U 41, U 42, U 43, U 44, U 45, U 46, U 47, U 48, U 49, U 50, U 51, U 52, U 53, U 54, U 55, U 56, U 57, U 58, U 59, U 60, U 61, U 62, U 63, U 64, U 65, U 66, U 67, U 68, U 69, U 70, U 71, U 72, U 73, U 74, U 75, U 76, U 77, U 78, U 79, U 80, U 81, U 82, U 83, U 84, U 85, U 86, U 87, U 88, U 89, U 90, U 91, U 92, U 93, U 94, U 95, U 96, U 97, U 98, U 99, U 100, U 101, U 102, U 103, U 104, U 105, U 106, U 107, U 108, U 109, U 110, U 111, U 112, U 113, U 114, U 115, U 116, U 117, U 118, U 119, U 120, U 121, U 122, U 123, U 124, U 125, U 126, U 127], defers := { target := .collected D, args := #[] } :: ds }) → K2 a3 W2 := by
        rintro a3 ⟨U, rfl⟩
        apply hK2
        clear hK2
        have kf := hs2.bn.frozen 0
        have kl := hs2.h.bl.cell 0
        have kn := hs2.bn.cell 0
        have HS0 := hide (hs2.setn ((starts s).length : Int))
        have HM0 := hide (hM2.others (KeepsOthers.setCell W2 ⟨Bn, 0, none⟩ (.int .i64 (starts s).length)))
        have HB0 := hide (hB2.setCell (p := ⟨Bn, 0, none⟩) hBn (.int .i64 (starts s).length))
        have hlo : w.heap.size ≤ (W2.setCell ⟨Bn, 0, none⟩ (.int .i64 (starts s).length)).heap.size := (unhide HB0).size
        have hhi : W2.heap.size ≤ (W2.setCell ⟨Bn, 0, none⟩ (.int .i64 (starts s).length)).heap.size := by simp
        clear hs2 hM2 hB2 hm1
        gi_wp2
        rename_i K3 hK3
        generalize W2.setCell ⟨Bn, 0, none⟩ (.int .i64 (starts s).length) = W0 at *
        clear kf kl kn
        have key3 : ∀ (W4 : World) (D2 : Nat) (m2 : Int) (a4 : Act), (∃ U : Nat → Value, a4 = { tmps := #[.string s, U 1, U 2, .pointer (some ⟨w.heap.size, 0, none⟩), .pointer (some ⟨w.heap.size + 1, 0, none⟩), .pointer (some ⟨w1.heap.size, 0, none⟩), Value.func (.func 54) #[] #[.pointer (some ⟨w1.heap.size + 1, 0, none⟩)], Value.func (.func 56) #[] #[.pointer (some ⟨w1.heap.size + 1 + 1, 0, none⟩)], .pointer (some ⟨Br, 0, none⟩), .pointer (some ⟨Bn, 0, none⟩), U 10, U 11, U 12, U 13, U 14, U 15, U 16, U 17, U 18, U 19, U 20, U 21, U 22, U 23, U 24, U 25, U 26, U 27, U 28, U 29, U 30, U 31, U 32, U 33, U 34, U 35, U 36, U 37, U 38, U 39, U 40, U 41, U 42, U 43, U 44, U 45, U 46, U 47, U 48, U 49, U 50, U 51, U 52, U 53, U 54, U 55, U 56, U 57, U 58, U 59, U 60, U 61, U 62, U 63, U 64, U 65, U 66, U 67, U 68, U 69, U 70, U 71, U 72, U 73, U 74, U 75, U 76, U 77, U 78, U 79, U 80, U 81, U 82, U 83, U 84, U 85, U 86, U 87, U 88, U 89, U 90, U 91, U 92, U 93, U 94, U 95, U 96, U 97, U 98, U 99, U 100, U 101, U 102, U 103, U 104, U 105, U 106, U 107, U 108, U 109, U 110, U 111, U 112, U 113, U 114, U 115, U 116, U 117, U 118, U 119, U 120, U 121, U 122, U 123, U 124, U 125, U 126, U 127], defers := { target := .collected D2, args := #[] } :: { target := .collected D, args := #[] } :: ds }) → (r = 0 ∨ (r = 1 ∧ m2 = 0)) → SpSt s a cap w.heap.size w1.heap.size Br Bn r m2 st W4 → Marks w.heap.size W4 W4.heap.size ({ target := .collected D2, args := #[] } :: { target := .collected D, args := #[] } :: ds) → Below w.heap.size w W4 → K3 a4 W4 := by
          rintro W4 D2 m2 a4 ⟨U, rfl⟩ hm2 hs4 hM4 hB4
          apply hK3
          clear hK3 HS0 HM0 HB0
          have kr := hs4.h.br.cell 0
          have kn := hs4.bn.cell 0
          rcases hm2 with hm2 | ⟨hm2, rfl⟩
          · have hq : ((r : Int) == 1) = false := by rw [beq_eq_false_iff_ne]; omega
            have HN := hide (hs4.h.next 1 (by omega))
            have HMN := hide (hM4.others (KeepsOthers.alloc W4 (.cells #[.int .i64 1] 3)))
            have HBN := hide (hB4.alloc hB4.size (.cells #[.int .i64 1] 3))
            clear hs4 hM4 hB4
            gi_wp2
            exact hK (2 - (r + 1)) _ _ (by omega) ⟨r + 1, W4.heap.size, W4.heap.size, _, by omega, rfl, HN, HMN, by simp, HBN, mk_frame rfl⟩
          · have hq : ((r : Int) == 1) = true := by rw [beq_iff_eq]; omega
            have HN := hide (hs4.h.next 2 (by omega))
            have HMN := hide (hM4.others (KeepsOthers.alloc W4 (.cells #[.int .i64 2] 3)))
            have HBN := hide (hB4.alloc hB4.size (.cells #[.int .i64 2] 3))
            clear hs4 hM4 hB4
            gi_wp2
            exact hK (2 - (r + 1)) _ _ (by omega) ⟨r + 1, W4.heap.size, W4.heap.size, _, by omega, rfl, HN, HMN, by simp, HBN, mk_frame rfl⟩
        refine wpIn_rangeFunc_ownH rfl h1 (gf := 56) (lb := #[.pointer (some ⟨w1.heap.size + 1 + 1, 0, none⟩)]) rfl trivial (enters_of Try.func56 (by kernel_rfl) rfl)
          (back_stops (n - 1) (w1.heap.size + 1 + 1) (by omega) s hms W0 ((unhide HS0).h.s2.cell 0)) KpS_t (KpS_b (unhide HS0).h.s2.lt) (Below.refl _ _) (fun _ => rfl)
          (fun pre W => ((Hid (pre <+: (starts s).reverse) ∧ SpSt s a cap w.heap.size w1.heap.size Br Bn r (((starts s).length : Int) - (pre.length : Int)) st W) ∧ Marks w.heap.size W W2.heap.size ({ target := .collected D, args := #[] } :: ds)) ∧ Below w.heap.size w W)
          (fun c pre W => Hid (¬ pre <+: (starts s).reverse) ∨ (((c = .exit 4 ∧ r = 0 ∧ SpSt s a cap w.heap.size w1.heap.size Br Bn r (((starts s).length : Int) - (pre.length : Int)) st W) ∧ Marks w.heap.size W W2.heap.size ({ target := .collected D, args := #[] } :: ds)) ∧ Below w.heap.size w W))
          (OwnFrom.and (OwnFrom.and (Own.from (fun u A B row hs hg hr => ⟨hs.1, SpSt.own' (β := Unit) () A B row hs.2 hg hr⟩) _) (Marks.own hhi)) (ownFrom_below (Nat.le_refl _) hlo))
          (fun c => fun u A B row hs hg hr => by
            rcases hs with hs | ⟨⟨⟨e1, e2, hs⟩, hm⟩, hb⟩
            · exact .inl hs
            · exact .inr ⟨⟨⟨e1, e2, SpSt.own' (β := Unit) () A B row hs hg (fun k e => (hr k e).2)⟩, Marks.own (β := Unit) hhi () A B row hm hg hr⟩, ownFrom_below (β := Unit) (Nat.le_refl _) hlo () A B row hb hg hr⟩)
          ⟨⟨⟨hide ⟨(starts s).reverse, rfl⟩, by have q := unhide HS0; rw [show ((([] : List Nat).length : Nat) : Int) = 0 from rfl, Int.sub_zero]; exact q⟩, unhide HM0⟩, unhide HB0⟩
          (fun x a' W => ∃ Bx, Bn < Bx ∧ Blk W Bx (spotCells (spotV s x)) 31 ∧ ∃ U : Nat → Value, a' = { tmps := #[.string s, U 1, U 2, .pointer (some ⟨w.heap.size, 0, none⟩), .pointer (some ⟨w.heap.size + 1, 0, none⟩), .pointer (some ⟨w1.heap.size, 0, none⟩), Value.func (.func 54) #[] #[.pointer (some ⟨w1.heap.size + 1, 0, none⟩)], Value.func (.func 56) #[] #[.pointer (some ⟨w1.heap.size + 1 + 1, 0, none⟩)], .pointer (some ⟨Br, 0, none⟩), .pointer (some ⟨Bn, 0, none⟩), U 10, U 11, .int .i64 x, .pointer (some ⟨Bx, 0, none⟩), U 14, U 15, U 16, U 17, U 18, U 19, U 20, U 21, U 22, U 23, U 24, U 25, U 26, U 27, U 28, U 29, U 30, U 31, U 32, U 33, U 34, U 35, U 36, U 37, U 38, U 39, U 40, U 41, U 42, U 43, U 44, U 45, U 46, U 47, U 48, U 49, U 50, U 51, U 52, U 53, U 54, U 55, U 56, U 57, U 58, U 59, U 60, U 61, U 62, U 63, U 64, U 65, U 66, U 67, U 68, U 69, U 70, U 71, U 72, U 73, U 74, U 75, U 76, U 77, U 78, U 79, U 80, U 81, U 82, U 83, U 84, U 85, U 86, U 87, U 88, U 89, U 90, U 91, U 92, U 93, U 94, U 95, U 96, U 97, U 98, U 99, U 100, U 101, U 102, U 103, U 104, U 105, U 106, U 107, U 108, U 109, U 110, U 111, U 112, U 113, U 114, U 115, U 116, U 117, U 118, U 119, U 120, U 121, U 122, U 123, U 124, U 125, U 126, U 127], defers := [] })
          (fun x a' => Own.from (fun u A B row hs hg hr => by
            obtain ⟨Bx, q1, q2, q3⟩ := hs
            exact ⟨Bx, q1, Blk.own _ (fun _ => _) _ () A B row q2 hg hr, q3⟩) _)
          ?assign ?body ?done ?stop
        case assign =>
          rintro l pre x W K ⟨⟨⟨hp, hs⟩, hm⟩, hB⟩ hK
          gi_wp2
          exact hK _ _ ((KeepsOthers.alloc _ _).from _) ⟨(hs.h.s2.alloc _).cell 0 |>.trans (hs.h.s2.cell 0).symm, KeepsWalks.alloc _ _⟩ ⟨⟨⟨hp, hs.alloc _⟩, hm.others (KeepsOthers.alloc _ _)⟩, hB.alloc hB.size _⟩ ⟨W.heap.size, hs.bn.lt, Blk.new W _ 31, mk_frame rfl⟩
        case body =>
          rintro l pre x a' W hl ⟨rr, hrr⟩ ⟨⟨⟨hp, hs⟩, hm⟩, hB⟩ ⟨Bx, hBx, bX, U2, rfl⟩ hlt
          obtain ⟨r', hr⟩ := unhide hp
          have HS := hide hs
          have HM := hide hm
          have HB := hide hB
          have x0 := cell_regrown (show W.cell? ⟨Bx, 0, none⟩ = some (.int .i32 ((rn s x : Nat) : Int)) from bX.cell 0)
          have x1 := cell_regrown (show W.cell? ⟨Bx, 1, none⟩ = some (.int .i64 ((wd s x : Nat) : Int)) from bX.cell 1)
          have x2 := cell_regrown (show W.cell? ⟨Bx, 2, none⟩ = some (.bool (decide (rn s x = 65533 ∧ wd s x = 1))) from bX.cell 2)
          have kn0 := hs.bn.cell 0
          have kf0 := hs.bn.frozen 0
          have HS1 := hide (hs.setn (((starts s).length : Int) - (pre.length : Int) - 1))
          have HM1 := hide (hm.others (KeepsOthers.setCell W ⟨Bn, 0, none⟩ (.int .i64 (((starts s).length : Int) - (pre.length : Int) - 1))))
          have HB1 := hide (hB.setCell (p := ⟨Bn, 0, none⟩) hBn (.int .i64 (((starts s).length : Int) - (pre.length : Int) - 1)))
          have HK1 := hide (KeepsOthers.setCell W ⟨Bn, 0, none⟩ (.int .i64 (((starts s).length : Int) - (pre.length : Int) - 1)))
          have HC1 : Hid ((W.setCell ⟨Bn, 0, none⟩ (.int .i64 (((starts s).length : Int) - (pre.length : Int) - 1))).cell? ⟨w1.heap.size + 1 + 1, 0, none⟩ = W.cell? ⟨w1.heap.size + 1 + 1, 0, none⟩) := hide ((Blk.cell (unhide HS1).h.s2 0).trans (Blk.cell hs.h.s2 0).symm)
          have bX1 := bX.other (show Bx ≠ Bn by omega) (i := 0) (.int .i64 (((starts s).length : Int) - (pre.length : Int) - 1))
          have hpl : pre.length ≤ (starts s).length := by have := congrArg List.length hr; simp at this; omega
          have hb1 : ((starts s).length : Int) - (pre.length : Int) ≤ 1048576 := by omega
          have hb2 : 0 ≤ ((starts s).length : Int) - (pre.length : Int) := by omega
          clear hs hm hB x0 x1 x2
          gi_wp2_with fail
          generalize W.setCell ⟨Bn, 0, none⟩ (.int .i64 (((starts s).length : Int) - (pre.length : Int) - 1)) = W1 at *
          have x0 := cell_regrown (show W1.cell? ⟨Bx, 0, none⟩ = some (.int .i32 ((rn s x : Nat) : Int)) from bX1.cell 0)
          have x1 := cell_regrown (show W1.cell? ⟨Bx, 1, none⟩ = some (.int .i64 ((wd s x : Nat) : Int)) from bX1.cell 1)
          have x2 := cell_regrown (show W1.cell? ⟨Bx, 2, none⟩ = some (.bool (decide (rn s x = 65533 ∧ wd s x = 1))) from bX1.cell 2)
          have kl := cell_regrown (show W1.cell? ⟨w1.heap.size, 0, none⟩ = some _ from (unhide HS1).h.bl.cell 0)
          have kn := cell_regrown (show W1.cell? ⟨Bn, 0, none⟩ = some _ from (unhide HS1).bn.cell 0)
          clear kn0 kf0
          cases r' with
          | nil =>
            rw [List.append_nil] at hr
            have hlt0 : ((starts s).length : Int) - (pre.length : Int) - 1 < 0 := by have := congrArg List.length hr; simp at this; omega
            have HX : Hid (¬ (pre ++ [x]) <+: (starts s).reverse) := hide (fun h => by have := h.length_le; rw [List.length_append, hr] at this; simp at this; omega)
            clear hr hb1 hb2
            generalize ((starts s).length : Int) - (pre.length : Int) - 1 = mm at *
            gi_wp2_with fail
            refine region_round_below (by kernel_rfl) (by kernel_rfl) (by kernel_rfl) ?_
            repeat (refine wpQuietIn_step (by first | quiet_asked_in | (go_simp; intros; trivial)) (fun K hK => ?_); go_simp; first | (refine hK _ ?_; clear hK K) | (apply Exists.intro; refine ⟨fun _ => ?_, hK _ ?_⟩; (first | exact ⟨fun h => by simp [Fence.wide] at h, callsIn_round (CallsIn.regrown_of (callsIn_wide.2 (same_val _ _ _ _ _)))⟩); clear hK K))
            refine wpQuietIn_nil ?_
            rintro _ ⟨⟨dq, osq⟩, rfl⟩
            have f1' := (((unhide HS1).below (below_regrown W1 dq osq)).h.b1).frozen 0
            have k1' := (((unhide HS1).below (below_regrown W1 dq osq)).h.b1).cell 0
            have HK := hide (((unhide HK1).trans (keeps_regrown W1 dq osq)).trans (KeepsOthers.setCell _ ⟨w.heap.size + 1, 0, none⟩ (.bool false)))
            gi_wp2
            exact ⟨(unhide HK).from _, .inl HX⟩
          | cons y r' =>
            have hy0 : (starts s).reverse[pre.length]? = some y := by rw [← hr, List.getElem?_append_right (Nat.le_refl _)]; simp
            have hplt : pre.length < (starts s).length := by have := (List.getElem?_eq_some_iff.1 hy0).1; simpa using this
            obtain ⟨q, hq⟩ : ∃ q, q = (starts s).length - 1 - pre.length := ⟨_, rfl⟩
            have hy : (starts s)[q]? = some y := by rw [List.getElem?_reverse hplt] at hy0; rw [hq]; exact hy0
            have hqi : ((starts s).length : Int) - (pre.length : Int) - 1 = (q : Int) := by omega
            have hql : q < (starts s).length := by omega
            have HML : Hid (((starts s).length : Int) - ((pre ++ [x]).length : Int) = (q : Int)) := hide (by rw [List.length_append]; simp; omega)
            rw [hqi] at kn HS1
            have HS1 := hide (unhide HS1)
            obtain ⟨g, hag, g0, g1, g2, g3⟩ := row_cells4 (unhide HS1).h.row q y hy
            subst hag
            have g0 := cell_regrown g0
            have g1 := cell_regrown g1
            have g2 := cell_regrown g2
            have g3 := cell_regrown g3
            have hge : ¬ (q : Int) < 0 := by omega
            have hi1 : (q : Int) < ((starts s).length : Int) := by omega
            have hi2 : ((q : Nat) : Int).toNat = q := by omega
            have hpb : (q : Int) ≤ 1048576 := by omega
            clear hqi hq hb1 hb2 hql
            by_cases hxy : x = y
            · subst hxy
              have HX := hide (show (pre ++ [x]) <+: (starts s).reverse from ⟨r', by rw [← hr]; simp⟩)
              have hxe : ((x : Int) != (x : Int)) = false := by simp
              generalize decide (rn s x = 65533 ∧ wd s x = 1) = bb at *
              generalize rn s x = rx at *
              generalize wd s x = dx at *
              clear hr hy hy0 bX bX1 hpl hplt
              gi_wp2_with fail
              refine region_round_below (by kernel_rfl) (by kernel_rfl) (by kernel_rfl) ?_
              repeat (refine wpQuietIn_step (by first | quiet_asked_in | (go_simp; intros; trivial)) (fun K hK => ?_); go_simp; first | (refine hK _ ?_; clear hK K) | (apply Exists.intro; refine ⟨fun _ => ?_, hK _ ?_⟩; (first | exact ⟨fun h => by simp [Fence.wide] at h, callsIn_round (CallsIn.regrown_of (callsIn_wide.2 (same_val _ _ _ _ _)))⟩); clear hK K))
              refine wpQuietIn_nil ?_
              rintro _ ⟨⟨dq, osq⟩, rfl⟩
              clear x0 x1 x2 kl kn g0 g1 g2 g3
              have hbw := below_regrown W1 dq osq
              have HS3 := hide ((unhide HS1).below hbw)
              have HM3 := hide ((unhide HM1).below hbw)
              have HB3 := hide ((unhide HB1).trans (hbw.mono (unhide HB1).size))
              have HK3 := hide ((unhide HK1).trans (keeps_regrown W1 dq osq))
              have HC3 : Hid ((Go.Sort.grow (redrawn W1 dq) osq).cell? ⟨w1.heap.size + 1 + 1, 0, none⟩ = W.cell? ⟨w1.heap.size + 1 + 1, 0, none⟩) := hide (((Blk.cell (unhide HS3).h.s2 0).trans (Blk.cell (unhide HS1).h.s2 0).symm).trans (unhide HC1))
              clear hbw
              generalize hW2 : Go.Sort.grow (redrawn W1 dq) osq = W2 at *
              have kr := (unhide HS3).h.br.cell 0
              have kn3 := (unhide HS3).bn.cell 0
              have ks := (unhide HS3).h.b0.cell 0
              rcases hr01 with hr0 | hr1
              · subst hr0
                by_cases hst : (q : Int) < st
                · gi_wp2
                  refine ⟨(unhide HK3).from _, .inr ⟨⟨?_, unhide HM3⟩, unhide HB3⟩⟩
                  have q := unhide HS3
                  have e := unhide HML
                  first | exact q | exact ⟨rfl, rfl, q⟩ | (rw [e]; exact q) | exact ⟨rfl, rfl, by rw [e]; exact q⟩ | (rw [← e] at q; simpa using q) | (rw [← e] at q; exact ⟨trivial, by simpa using q⟩) | trace_state
                · gi_wp2
                  exact ⟨(unhide HK3).from _, ⟨unhide HC3, (unhide HK3).walks⟩, ⟨⟨HX, by first | exact unhide HS3 | (rw [unhide HML]; exact unhide HS3)⟩, unhide HM3⟩, unhide HB3⟩
              · subst hr1
                gi_wp2
                exact ⟨(unhide HK3).from _, ⟨unhide HC3, (unhide HK3).walks⟩, ⟨⟨HX, by first | exact unhide HS3 | (rw [unhide HML]; exact unhide HS3)⟩, unhide HM3⟩, unhide HB3⟩
            · have hxe : ((x : Int) != (y : Int)) = true := by rw [bne_iff_ne]; omega
              have HX : Hid (¬ (pre ++ [x]) <+: (starts s).reverse) := hide (fun h => by
                obtain ⟨q, hq⟩ := h
                have : (starts s).reverse[pre.length]? = some x := by rw [← hq]; simp
                rw [hy0] at this
                cases this
                exact hxy rfl)
              clear hr hy hy0 hxy hpl hplt
              gi_wp2_with fail
              refine region_round_below (by kernel_rfl) (by kernel_rfl) (by kernel_rfl) ?_
              repeat (refine wpQuietIn_step (by first | quiet_asked_in | (go_simp; intros; trivial)) (fun K hK => ?_); go_simp; first | (refine hK _ ?_; clear hK K) | (apply Exists.intro; refine ⟨fun _ => ?_, hK _ ?_⟩; (first | exact ⟨fun h => by simp [Fence.wide] at h, callsIn_round (CallsIn.regrown_of (callsIn_wide.2 (same_val _ _ _ _ _)))⟩); clear hK K))
              refine wpQuietIn_nil ?_
              rintro _ ⟨⟨dq, osq⟩, rfl⟩
              have f1' := (((unhide HS1).below (below_regrown W1 dq osq)).h.b1).frozen 0
              have k1' := (((unhide HS1).below (below_regrown W1 dq osq)).h.b1).cell 0
              have HK := hide (((unhide HK1).trans (keeps_regrown W1 dq osq)).trans (KeepsOthers.setCell _ ⟨w.heap.size + 1, 0, none⟩ (.bool false)))
              gi_wp2
              exact ⟨(unhide HK).from _, .inl HX⟩

        case done =>
          rintro D2 ys W3 hD2 rfl ⟨⟨⟨hp, hs⟩, hm⟩, hB⟩ hDm
          have hn0 : ((starts s).length : Int) - ((starts s).reverse.length : Int) = 0 := by simp
          rw [hn0] at hs
          exact key3 W3 D2 0 _ (mk_frame rfl) (by omega) hs (hm.push (Nat.le_trans hhi hD2) (Nat.le_trans hlo hD2) hDm) hB
        case stop =>
          rintro D2 c pre W3 hD2 hpre hx hDm
          rcases hx with hx | ⟨⟨⟨rfl, hr0, hs⟩, hm⟩, hB⟩
          · exact absurd hpre (unhide hx)
          · apply wpIn_exit
            exact key3 W3 D2 _ _ (mk_frame rfl) (.inl hr0) hs (hm.push (Nat.le_trans hhi hD2) (Nat.le_trans hlo hD2) hDm) hB
      have kr := hs2.h.br.cell 0
      have kn := hs2.bn.cell 0
      have kl := hs2.h.bl.cell 0
      have KEY2 := hide key2
      clear hK2 hs2 hM2 hB2 key2
      rcases hm1 with hm1 | ⟨hm1, rfl⟩
      · have hq : ((r : Int) == 1) = false := by rw [beq_eq_false_iff_ne]; omega
        gi_wp2
        exact unhide KEY2 _ (mk_frame rfl)
      · have hq : ((r : Int) == 1) = true := by rw [beq_iff_eq]; omega
        gi_wp2
        exact unhide KEY2 _ (mk_frame rfl)
    refine wpIn_rangeFunc_ownH rfl h1 (gf := 54) (lb := #[.pointer (some ⟨w1.heap.size + 1, 0, none⟩)]) rfl trivial (enters_of Try.func54 (by kernel_rfl) rfl)
      (spots_stops (n - 1) (w1.heap.size + 1) (by omega) s hms W0 ((unhide HS0).h.s1.cell 0)) KpS_t (KpS_b (unhide HS0).h.s1.lt) (Below.refl _ _) (fun _ => rfl)
      (fun pre W => ((Hid (pre <+: starts s) ∧ SpSt s a cap w.heap.size w1.heap.size Br Bn r (pre.length : Int) st W) ∧ Marks w.heap.size W hi ds) ∧ Below w.heap.size w W)
      (fun c pre W => Hid (¬ pre <+: starts s) ∨ (((c = .exit 2 ∧ r = 0 ∧ SpSt s a cap w.heap.size w1.heap.size Br Bn r (pre.length : Int) st W) ∧ Marks w.heap.size W hi ds) ∧ Below w.heap.size w W))
      (OwnFrom.and (OwnFrom.and (Own.from (fun u A B row hs hg hr => ⟨hs.1, SpSt.own' (β := Unit) () A B row hs.2 hg hr⟩) _) (Marks.own hhi)) (ownFrom_below (Nat.le_refl _) hlo))
      (fun c => fun u A B row hs hg hr => by
        rcases hs with hs | ⟨⟨⟨e1, e2, hs⟩, hm⟩, hb⟩
        · exact .inl hs
        · exact .inr ⟨⟨⟨e1, e2, SpSt.own' (β := Unit) () A B row hs hg (fun k e => (hr k e).2)⟩, Marks.own (β := Unit) hhi () A B row hm hg hr⟩, ownFrom_below (β := Unit) (Nat.le_refl _) hlo () A B row hb hg hr⟩)
      ⟨⟨⟨hide ⟨starts s, rfl⟩, unhide HS0⟩, unhide HM0⟩, unhide HB0⟩
      (fun x a' W => ∃ Bx, Bn < Bx ∧ Blk W Bx (spotCells (spotV s x)) 31 ∧ ∃ U : Nat → Value, a' = { tmps := #[.string s, U 1, U 2, .pointer (some ⟨w.heap.size, 0, none⟩), .pointer (some ⟨w.heap.size + 1, 0, none⟩), .pointer (some ⟨w1.heap.size, 0, none⟩), Value.func (.func 54) #[] #[.pointer (some ⟨w1.heap.size + 1, 0, none⟩)], Value.func (.func 56) #[] #[.pointer (some ⟨w1.heap.size + 1 + 1, 0, none⟩)], .pointer (some ⟨Br, 0, none⟩), .pointer (some ⟨Bn, 0, none⟩), .int .i64 x, .pointer (some ⟨Bx, 0, none⟩), U 12, U 13, U 14, U 15, U 16, U 17, U 18, U 19, U 20, U 21, U 22, U 23, U 24, U 25, U 26, U 27, U 28, U 29, U 30, U 31, U 32, U 33, U 34, U 35, U 36, U 37, U 38, U 39, U 40, U 41, U 42, U 43, U 44, U 45, U 46, U 47, U 48, U 49, U 50, U 51, U 52, U 53, U 54, U 55, U 56, U 57, U 58, U 59, U 60, U 61, U 62, U 63, U 64, U 65, U 66, U 67, U 68, U 69, U 70, U 71, U 72, U 73, U 74, U 75, U 76, U 77, U 78, U 79, U 80, U 81, U 82, U 83, U 84, U 85, U 86, U 87, U 88, U 89, U 90, U 91, U 92, U 93, U 94, U 95, U 96, U 97, U 98, U 99, U 100, U 101, U 102, U 103, U 104, U 105, U 106, U 107, U 108, U 109, U 110, U 111, U 112, U 113, U 114, U 115, U 116, U 117, U 118, U 119, U 120, U 121, U 122, U 123, U 124, U 125, U 126, U 127], defers := [] })
      (fun x a' => Own.from (fun u A B row hs hg hr => by
        obtain ⟨Bx, q1, q2, q3⟩ := hs
        exact ⟨Bx, q1, Blk.own _ (fun _ => _) _ () A B row q2 hg hr, q3⟩) _)
      ?assign ?body ?done ?stop
    case assign =>
      rintro l pre x W K ⟨⟨⟨hp, hs⟩, hm⟩, hB⟩ hK
      gi_wp2
      exact hK _ _ ((KeepsOthers.alloc _ _).from _) ⟨(hs.h.s1.alloc _).cell 0 |>.trans (hs.h.s1.cell 0).symm, KeepsWalks.alloc _ _⟩ ⟨⟨⟨hp, hs.alloc _⟩, hm.others (KeepsOthers.alloc _ _)⟩, hB.alloc hB.size _⟩ ⟨W.heap.size, hs.bn.lt, Blk.new W _ 31, mk_frame rfl⟩
    case body =>
      rintro l pre x a' W hl ⟨rr, hrr⟩ ⟨⟨⟨hp, hs⟩, hm⟩, hB⟩ ⟨Bx, hBx, bX, U2, rfl⟩ hlt
      obtain ⟨r', hr⟩ := unhide hp
      have HS := hide hs
      have HM := hide hm
      have HB := hide hB
      have x0 := cell_regrown (show W.cell? ⟨Bx, 0, none⟩ = some (.int .i32 ((rn s x : Nat) : Int)) from bX.cell 0)
      have x1 := cell_regrown (show W.cell? ⟨Bx, 1, none⟩ = some (.int .i64 ((wd s x : Nat) : Int)) from bX.cell 1)
      have x2 := cell_regrown (show W.cell? ⟨Bx, 2, none⟩ = some (.bool (decide (rn s x = 65533 ∧ wd s x = 1))) from bX.cell 2)
      have kl := cell_regrown (show W.cell? ⟨w1.heap.size, 0, none⟩ = some _ from hs.h.bl.cell 0)
      have kn := cell_regrown (show W.cell? ⟨Bn, 0, none⟩ = some _ from hs.bn.cell 0)
      have f1 := hs.h.b1.frozen 0
      have hpl : pre.length ≤ (starts s).length := by rw [← hr, List.length_append]; omega
      cases r' with
      | nil =>
        rw [List.append_nil] at hr
        have hge : ((starts s).length : Int) ≤ (pre.length : Int) := by rw [hr]; omega
        have HX : Hid (¬ (pre ++ [x]) <+: starts s) := hide (fun h => by have := h.length_le; rw [List.length_append, hr] at this; simp at this; omega)
        clear hr hs hm hB
        gi_wp2
        refine region_round_below (by kernel_rfl) (by kernel_rfl) (by kernel_rfl) ?_
        repeat (refine wpQuietIn_step (by first | quiet_asked_in | (go_simp; intros; trivial)) (fun K hK => ?_); go_simp; first | (refine hK _ ?_; clear hK K) | (apply Exists.intro; refine ⟨fun _ => ?_, hK _ ?_⟩; (first | exact ⟨fun h => by simp [Fence.wide] at h, callsIn_round (CallsIn.regrown_of (callsIn_wide.2 (same_val _ _ _ _ _)))⟩); clear hK K))
        refine wpQuietIn_nil ?_
        rintro _ ⟨⟨dq, osq⟩, rfl⟩
        have f1' := (((unhide HS).below (below_regrown W dq osq)).h.b1).frozen 0
        have k1' := (((unhide HS).below (below_regrown W dq osq)).h.b1).cell 0
        have HK := hide ((keeps_regrown W dq osq).trans (KeepsOthers.setCell _ ⟨w.heap.size + 1, 0, none⟩ (.bool false)))
        gi_wp2
        exact ⟨(unhide HK).from _, .inl HX⟩
      | cons y r' =>
        have hy : (starts s)[pre.length]? = some y := by rw [← hr, List.getElem?_append_right (Nat.le_refl _)]; simp
        obtain ⟨g, hag, g0, g1, g2, g3⟩ := row_cells4 hs.h.row pre.length y hy
        subst hag
        have g0 := cell_regrown g0
        have g1 := cell_regrown g1
        have g2 := cell_regrown g2
        have g3 := cell_regrown g3
        have hplt : pre.length < (starts s).length := (List.getElem?_eq_some_iff.1 hy).1
        have hge : ¬ ((starts s).length : Int) ≤ (pre.length : Int) := by omega
        have hi1 : (pre.length : Int) < ((starts s).length : Int) := by omega
        have hi2 : ((pre.length : Nat) : Int).toNat = pre.length := by omega
        have hpb : (pre.length : Int) ≤ 1048576 := by omega
        by_cases hxy : x = y
        · subst hxy
          have HX := hide (show (pre ++ [x]) <+: starts s from ⟨r', by rw [← hr]; simp⟩)
          have hxe : ((x : Int) != (x : Int)) = false := by simp
          have HML : Hid (((pre ++ [x]).length : Int) = (pre.length : Int) + 1) := hide (by simp)
          generalize decide (rn s x = 65533 ∧ wd s x = 1) = bb at *
          generalize rn s x = rx at *
          generalize wd s x = dx at *
          clear hr hs hm hB hy bX
          gi_wp2
          refine region_round_below (by kernel_rfl) (by kernel_rfl) (by kernel_rfl) ?_
          repeat (refine wpQuietIn_step (by first | quiet_asked_in | (go_simp; intros; trivial)) (fun K hK => ?_); go_simp; first | (refine hK _ ?_; clear hK K) | (apply Exists.intro; refine ⟨fun _ => ?_, hK _ ?_⟩; (first | exact ⟨fun h => by simp [Fence.wide] at h, callsIn_round (CallsIn.regrown_of (callsIn_wide.2 (same_val _ _ _ _ _)))⟩); clear hK K))
          refine wpQuietIn_nil ?_
          rintro _ ⟨⟨dq, osq⟩, rfl⟩
          clear x0 x1 x2 kl kn g0 g1 g2 g3
          have hbw := below_regrown W dq osq
          have HS2 := hide ((unhide HS).below hbw)
          have HM2 := hide ((unhide HM).below hbw)
          have HB2 := hide ((unhide HB).trans (hbw.mono (unhide HB).size))
          have HK := hide (keeps_regrown W dq osq)
          clear hbw
          generalize hW2 : Go.Sort.grow (redrawn W dq) osq = W2 at *
          have HC := hide ((Blk.cell (unhide HS2).h.s1 0).trans (Blk.cell (unhide HS).h.s1 0).symm)
          have kn := (unhide HS2).bn.cell 0
          have kf := (unhide HS2).bn.frozen 0
          have HS3 := hide ((unhide HS2).setn ((pre.length : Int) + 1))
          have HM3 := hide ((unhide HM2).others (KeepsOthers.setCell W2 ⟨Bn, 0, none⟩ (.int .i64 ((pre.length : Int) + 1))))
          have HB3 := hide ((unhide HB2).setCell (p := ⟨Bn, 0, none⟩) hBn (.int .i64 ((pre.length : Int) + 1)))
          have HK3 := hide ((unhide HK).trans (KeepsOthers.setCell W2 ⟨Bn, 0, none⟩ (.int .i64 ((pre.length : Int) + 1))))
          have HC3 : Hid ((W2.setCell ⟨Bn, 0, none⟩ (.int .i64 ((pre.length : Int) + 1))).cell? ⟨w1.heap.size + 1, 0, none⟩ = W.cell? ⟨w1.heap.size + 1, 0, none⟩) := hide ((Blk.cell (unhide HS3).h.s1 0).trans (Blk.cell (unhide HS).h.s1 0).symm)
          have kr := (unhide HS3).h.br.cell 0
          have kn3 := (unhide HS3).bn.cell 0
          have ks := (unhide HS3).h.b0.cell 0
          rcases hr01 with hr0 | hr1
          · subst hr0
            by_cases hst : st < (pre.length : Int) + 1
            · gi_wp2
              refine ⟨(unhide HK3).from _, .inr ⟨⟨?_, unhide HM3⟩, unhide HB3⟩⟩
              have q := unhide HS3
              have e := unhide HML
              first | exact q | exact ⟨rfl, rfl, q⟩ | (rw [e]; exact q) | exact ⟨rfl, rfl, by rw [e]; exact q⟩ | (rw [← e] at q; simpa using q) | (rw [← e] at q; exact ⟨trivial, by simpa using q⟩) | trace_state
            · gi_wp2
              exact ⟨(unhide HK3).from _, ⟨unhide HC3, (unhide HK3).walks⟩, ⟨⟨HX, by first | exact unhide HS3 | (rw [unhide HML]; exact unhide HS3)⟩, unhide HM3⟩, unhide HB3⟩
          · subst hr1
            gi_wp2
            exact ⟨(unhide HK3).from _, ⟨unhide HC3, (unhide HK3).walks⟩, ⟨⟨HX, by first | exact unhide HS3 | (rw [unhide HML]; exact unhide HS3)⟩, unhide HM3⟩, unhide HB3⟩
        · have hxe : ((x : Int) != (y : Int)) = true := by rw [bne_iff_ne]; omega
          have HX : Hid (¬ (pre ++ [x]) <+: starts s) := hide (fun h => by
            obtain ⟨q, hq⟩ := h
            have : (starts s)[pre.length]? = some x := by rw [← hq]; simp
            rw [hy] at this
            cases this
            exact hxy rfl)
          clear hr hs hm hB hy hxy
          gi_wp2
          refine region_round_below (by kernel_rfl) (by kernel_rfl) (by kernel_rfl) ?_
          repeat (refine wpQuietIn_step (by first | quiet_asked_in | (go_simp; intros; trivial)) (fun K hK => ?_); go_simp; first | (refine hK _ ?_; clear hK K) | (apply Exists.intro; refine ⟨fun _ => ?_, hK _ ?_⟩; (first | exact ⟨fun h => by simp [Fence.wide] at h, callsIn_round (CallsIn.regrown_of (callsIn_wide.2 (same_val _ _ _ _ _)))⟩); clear hK K))
          refine wpQuietIn_nil ?_
          rintro _ ⟨⟨dq, osq⟩, rfl⟩
          have f1' := (((unhide HS).below (below_regrown W dq osq)).h.b1).frozen 0
          have k1' := (((unhide HS).below (below_regrown W dq osq)).h.b1).cell 0
          have HK := hide ((keeps_regrown W dq osq).trans (KeepsOthers.setCell _ ⟨w.heap.size + 1, 0, none⟩ (.bool false)))
          gi_wp2
          exact ⟨(unhide HK).from _, .inl HX⟩

    case done =>
      rintro D ys W2 hD rfl ⟨⟨⟨hp, hs⟩, hm⟩, hB⟩ hDm
      exact key W2 D (starts s).length _ (mk_frame rfl) (by omega) hs (hm.push (Nat.le_trans hhi hD) (Nat.le_trans hlo hD) hDm) hB
    case stop =>
      rintro D c pre W2 hD hpre hx hDm
      rcases hx with hx | ⟨⟨⟨rfl, hr0, hs⟩, hm⟩, hB⟩
      · exact absurd hpre (unhide hx)
      · apply wpIn_exit
        exact key W2 D pre.length _ (mk_frame rfl) (.inl hr0) hs (hm.push (Nat.le_trans hhi hD) (Nat.le_trans hlo hD) hDm) hB
  · obtain rfl : r = 2 := by omega
    have c1 := (unhide HSH).b1.cell 0
    have f1 := (unhide HSH).b1.frozen 0
    have HM1 := hide ((unhide HMH).others (KeepsOthers.setCell W ⟨w.heap.size + 1, 0, none⟩ (.bool true)))
    have HB1 := hide ((unhide HBH).setCell (p := ⟨w.heap.size + 1, 0, none⟩) (by simp) (.bool true))
    have Hb1 := hide ((unhide HSH).b1.set 0 (.bool true))
    gi_wp2
    refine leaves_marks _ _ _ (unhide HM1) (unhide Hb1) (unhide HB1) ?_
    intro W' hb hB
    have c := hb.cell 0
    refine ⟨.bool true, ?_, rfl, hB⟩
    simp [results, Try.f3, go_sem, c]

theorem lspots_any (s : ByteArray) (hs : s.size ≤ 1048576) (stop : Int) (w : World) : Calls Try.prog 3 #[.string s, .int .i64 stop] w fun e W' => e = .returned (.bool true) ∧ Below w.heap.size w W' :=
  callsIn_wide.1 (lspots_in 5 (Nat.le_refl _) s hs stop w)
end Go.Proofs.Ytinhmhkdofoneaa
