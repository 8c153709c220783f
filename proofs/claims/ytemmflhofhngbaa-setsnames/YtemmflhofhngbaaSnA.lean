/- SetsNames: the chapter's runs: what stands ahead. -/
import Derived.Test.YtemmflhofhngbaaLTextA
import Derived.Test.YtemmflhofhngbaaSetAlive
import Derived.Test.YtemmflhofhngbaaSetIter
import Derived.Test.YtemmflhofhngbaaSetBackW
import Derived.Test.YtemmflhofhngbaaSetAtN
import Derived.Test.YtemmflhofhngbaaM5
import Derived.Test.YtemmflhofhngbaaSetEqual
import Derived.Test.YtemmflhofhngbaaMarks
namespace Go.Proofs.Ytemmflhofhngbaa
open Go.RowKit Go.Shelf
set_option linter.unusedVariables false
theorem spread_one (x : Int × Int) (h : endsB x = true) (h1 : x.1 ≤ x.2) : Spread [x] := Spread.snoc (ys := []) ⟨fun x h => by simp at h, fun i j x y _ h => by simp at h⟩ h h1 (fun x h => by simp at h)
theorem spread_none : Spread [] := ⟨fun x h => by simp at h, fun i j x y _ h => by simp at h⟩
theorem right_two (x y : Int × Int) (hx : endsB x = true ∧ x.1 ≤ x.2) (hy : endsB y = true ∧ y.1 ≤ y.2) : RightL [x, y] := fun z hz => by
  rcases List.mem_cons.1 hz with rfl | hz
  · exact hx
  · rw [List.mem_singleton.1 hz]; exact hy
theorem mem_gap (r : Int) : memB [(55295, 55295), (57344, 57344)] r = memB [(55295, 57344)] r := by
  by_cases h : runeB r = true
  · obtain ⟨h1, h2, h3⟩ := runeB_iff h
    simp only [memB, List.any_cons, List.any_nil, h, Bool.or_false, Bool.and_true]
    rw [Bool.eq_iff_iff]
    simp only [Bool.or_eq_true, decide_eq_true_eq]
    omega
  · simp [memB, Bool.eq_false_iff.2 h]
theorem mem_all (r : Int) : (runeB r && !memB [] r) = memB [(0, 1114111)] r := by
  by_cases h : runeB r = true
  · obtain ⟨h1, h2, h3⟩ := runeB_iff h
    simp [memB, h, h1, h2]
  · simp [memB, Bool.eq_false_iff.2 h]
theorem mem_nothing (r : Int) : (runeB r && !memB [(0, 1114111)] r) = memB [] r := by
  by_cases h : runeB r = true
  · obtain ⟨h1, h2, h3⟩ := runeB_iff h
    simp [memB, h, h1, h2]
  · simp [memB, Bool.eq_false_iff.2 h]
theorem mem_ab (r : Int) : memB (dup [98, 97, 98]) r = memB [(97, 98)] r := by
  by_cases h : runeB r = true
  · simp only [memB, dup, List.map_cons, List.map_nil, List.any_cons, List.any_nil, h, Bool.or_false, Bool.and_true]
    rw [Bool.eq_iff_iff]
    simp only [Bool.or_eq_true, decide_eq_true_eq]
    omega
  · simp [memB, Bool.eq_false_iff.2 h]
def exS : ByteArray := ⟨#[195, 169, 255]⟩
theorem ex_runes : runesL exS = [233, 65533] := by kernel_rfl
theorem mem_ex (r : Int) : memB (dup (runesL exS)) r = memB [(233, 233), (65533, 65533)] r := by rw [ex_runes]; rfl
theorem spread_ex : Spread [(233, 233), (65533, 65533)] := Spread.snoc (ys := [(233, 233)]) (spread_one _ (by decide) (by decide)) (by decide) (by decide) (fun x h => by rw [List.mem_singleton.1 h]; decide)
theorem right_ex : rightV [(1, 5), (5, 9)] = .tuple #[.int .i64 1, .int .i64 13] := by kernel_rfl
theorem all_ab : ([98, 97, 98] : List Int).all runeB = true := by decide
/-- What the walk stands on. -/
structure SnSt (w W : World) (ss : List (Nat × List (Int × Int))) (bs : List (Nat × Array Value × TypeId)) : Prop where
  old : Below w.heap.size w W
  sets : ∀ p ∈ ss, SetAt W p.1 p.2
  has : ∀ p ∈ bs, Blk W p.1 p.2.1 p.2.2
theorem SnSt.below {w W W' : World} {ss : List (Nat × List (Int × Int))} {bs : List (Nat × Array Value × TypeId)} (h : SnSt w W ss bs) (hb : Below W.heap.size W W') : SnSt w W' ss bs :=
  ⟨h.old.trans (hb.mono h.old.size), fun p hp => (h.sets p hp).below hb, fun p hp => (h.has p hp).below hb (h.has p hp).lt⟩
theorem SnSt.push {w W : World} {ss : List (Nat × List (Int × Int))} {bs : List (Nat × Array Value × TypeId)} (h : SnSt w W ss bs) (cs : Array Value) (t : TypeId) : SnSt w (W.alloc (.cells cs t)) ss ((W.heap.size, cs, t) :: bs) := by
  have k := h.below ((Below.refl W.heap.size W).alloc (Nat.le_refl _) (.cells cs t))
  refine ⟨k.old, k.sets, fun p hp => ?_⟩
  rcases List.mem_cons.1 hp with rfl | hp
  · exact Blk.new W cs t
  · exact k.has p hp
theorem SnSt.set {w W : World} {ss : List (Nat × List (Int × Int))} {bs : List (Nat × Array Value × TypeId)} (h : SnSt w W ss bs) {B : Nat} {zs : List (Int × Int)} (hs : SetAt W B zs) : SnSt w W ((B, zs) :: ss) bs :=
  ⟨h.old, fun p hp => by
    rcases List.mem_cons.1 hp with rfl | hp
    · exact hs
    · exact h.sets p hp, h.has⟩
theorem row_two {W : World} {B : Nat} {a b c d : Int} (h : Blk W B #[.int .i32 a, .int .i32 b, .int .i32 c, .int .i32 d] 28) : RowP W (some ⟨B, 0, none⟩) [(a, b), (c, d)] := fun _ => ⟨B, 0, rfl, h.lt, fun j x hj => by
  match j, hj with
  | 0, hj => simp at hj; subst hj; exact ⟨h.cell 0, h.cell 1⟩
  | 1, hj => simp at hj; subst hj; exact ⟨h.cell 2, h.cell 3⟩
  | j + 2, hj => simp at hj⟩
theorem row_one {W : World} {B : Nat} {a b : Int} (h : Blk W B #[.int .i32 a, .int .i32 b] 28) : RowP W (some ⟨B, 0, none⟩) [(a, b)] := fun _ => ⟨B, 0, rfl, h.lt, fun j x hj => by
  match j, hj with
  | 0, hj => simp at hj; subst hj; exact ⟨h.cell 0, h.cell 1⟩
  | j + 1, hj => simp at hj⟩
theorem eq_nilS (f : FuncId) (p : Value) (w : World) : (binOp BinOp.eql 40 (.func (.func f) #[] #[p]) .nilFunc).run Try.prog w = .ok (.bool false) w := by
  have e : ∃ d, Op.maxDepth = d + 1 := ⟨_, rfl⟩
  obtain ⟨d, hd⟩ := e
  simp [binOp, Op.equal, hd, Op.equalIn, run_underlying Try.underlying40]
theorem range_inj' {i j : Nat} (h : List.range i = List.range j) : i = j := by simpa using congrArg List.length h
theorem tot_ab : tot [(97, 98)] = 2 := by decide
theorem Marks.old' {lo hi B : Nat} {ds : List Deferred} {X Y : World} (h : Marks lo X hi ds) (hb : Below B X Y) (hB : hi ≤ B) : Marks lo Y hi ds := h.keep (fun k hk he => (hb.block k (by omega)).trans he)
def RiN (T : World) (Bn : Nat) (pre : List Nat) (W : World) : Prop := ∃ m : Nat, pre = List.range m ∧ m ≤ 2 ∧ Blk W Bn #[.int .i64 m] 3 ∧ Below T.heap.size T W
theorem RiN.old {T : World} {Bn B : Nat} (h1 : Bn < B) (h3 : T.heap.size ≤ B) : Old B (RiN T Bn) := fun s X Y ⟨m, p1, p2, p3, p4⟩ hb => ⟨m, p1, p2, p3.below hb h1, p4.trans (hb.mono h3)⟩
def FaN (w T : World) (Bn hi : Nat) (ds : List Deferred) (pre : List Nat) (W : World) : Prop := ∃ j : Nat, pre = dnL 2 j ∧ j ≤ 2 ∧ Blk W Bn #[.int .i64 j] 3 ∧ Below T.heap.size T W ∧ Marks w.heap.size W hi ds
theorem FaN.old {w T : World} {Bn hi B : Nat} {ds : List Deferred} (h1 : Bn < B) (h3 : T.heap.size ≤ B) (h4 : hi ≤ B) : Old B (FaN w T Bn hi ds) := fun s X Y ⟨m, p1, p2, p3, p4, p5⟩ hb => ⟨m, p1, p2, p3.below hb h1, p4.trans (hb.mono h3), p5.old' hb h4⟩
theorem nth_ab : nthOf [(97, 98)] ((0 : Nat) : Int) = 97 ∧ nthOf [(97, 98)] ((1 : Nat) : Int) = 98 := by decide
end Go.Proofs.Ytemmflhofhngbaa
