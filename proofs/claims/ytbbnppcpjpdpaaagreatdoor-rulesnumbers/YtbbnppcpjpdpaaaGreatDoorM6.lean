/- Texts of this claim, one behind the other. -/
import Derived.Test.YtbbnppcpjpdpaaaGreatDoorM5
import Derived.Test.YtbbnppcpjpdpaaaGreatDoorVals
import Derived.Test.YtbbnppcpjpdpaaaGreatDoorM2
import Derived.RangeFuncNested
/- whole, begins, begun: how a rune begins. -/
namespace Go.Proofs.YtbbnppcpjpdpaaaGreatDoor
open Go.RowKit Go.Shelf
set_option linter.unusedVariables false
/-- Does a text begin with a whole rune? -/
def wholeB (t : ByteArray) : Bool := decide (0 < t.size) && !badB t 0
set_option maxHeartbeats 1000000 in
theorem whole_any (t : ByteArray) (ht : t.size ≤ maxLen) (w : World) : Calls Tryz.prog 107 #[.string t] w fun e w' => e = .returned (.bool (wholeB t)) ∧ Below w.heap.size w w' := by
  by_cases hp : 0 < t.size
  · have hv : wholeB t = !badB t 0 := by unfold wholeB; simp [hp]
    rw [hv]
    clear hv
    go_enter Tryz.func107, Tryz.ntmps107
    go_wp2_with fail
    refine (first_any t ht _).mono ?_
    rintro e w1 ⟨rfl, hb⟩
    rw [firstV_pos hp]
    have x2 := (Blk.new w1 (spotCells (spotV t 0)) 187).cell 2
    have HB := hide (hb.alloc hb.size (.cells (spotCells (spotV t 0)) 187))
    simp only [spotCells] at x2
    clear hb
    go_wp2
    go_ret
    exact ⟨rfl, unhide HB⟩
  · have hv : wholeB t = false := by unfold wholeB; simp [hp]
    rw [hv]
    clear hv
    go_enter Tryz.func107, Tryz.ntmps107
    go_wp2_with fail
    refine (first_any t ht _).mono ?_
    rintro e w1 ⟨rfl, hb⟩
    rw [firstV_neg hp]
    have HB := hide (hb.alloc hb.size (.cells #[.int .i32 0, .int .i64 0, .bool false] 187))
    clear hb
    go_wp2
    go_ret
    exact ⟨rfl, unhide HB⟩
abbrev tailA : ByteArray := ⟨#[128, 128, 128]⟩
abbrev tailB : ByteArray := ⟨#[160, 128, 128]⟩
/-- May a rune of more bytes begin so? -/
def begB (t : ByteArray) : Bool := decide (t.size < wd (t ++ tailA) 0) || decide (t.size < wd (t ++ tailB) 0)
theorem size_tail (t : ByteArray) : (t ++ tailA).size = t.size + 3 ∧ (t ++ tailB).size = t.size + 3 := by
  rw [ByteArray.size_append, ByteArray.size_append]; exact ⟨rfl, rfl⟩
theorem tails_0 (w : World) : (Instr.index 225 (.agg #[.string tailA, .string tailB]) (.int .i64 0)).run Tryz.prog w = .ok (.string tailA) w := by kernel_rfl
theorem tails_1 (w : World) : (Instr.index 225 (.agg #[.string tailA, .string tailB]) (.int .i64 1)).run Tryz.prog w = .ok (.string tailB) w := by kernel_rfl
set_option maxRecDepth 100000 in
set_option maxHeartbeats 4000000 in
theorem begins_any (t : ByteArray) (ht : t.size ≤ 4611686018427387904) (w : World) : Calls Tryz.prog 132 #[.string t] w fun e w' => e = .returned (.bool (begB t)) ∧ Below w.heap.size w w' := by
  obtain ⟨z1, z2⟩ := size_tail t
  have hA : (t ++ tailA).size ≤ maxLen := by unfold maxLen; omega
  have hB : (t ++ tailB).size ≤ maxLen := by unfold maxLen; omega
  obtain ⟨nA, hnA⟩ : ∃ nA, nA = wd (t ++ tailA) 0 := ⟨_, rfl⟩
  obtain ⟨nB, hnB⟩ : ∃ nB, nB = wd (t ++ tailB) 0 := ⟨_, rfl⟩
  have hbv : begB t = (decide (t.size < nA) || decide (t.size < nB)) := by unfold begB; rw [hnA, hnB]
  have HBV := hide hbv
  have HNA := hide hnA
  have HNB := hide hnB
  clear hnA hnB hbv
  have vA := firstV_pos (s := t ++ tailA) (by omega)
  have vB := firstV_pos (s := t ++ tailB) (by omega)
  have HA := hide hA
  have HB := hide hB
  have hsz : t.size + 3 ≤ maxLen := by unfold maxLen; omega
  have hx0 := tails_0
  have hx1 := tails_1
  clear z1 z2 hA hB
  go_enter Tryz.func132, Tryz.ntmps132
  go_wp2_with fail
  refine wp_loop_rounds 3 ?_
  rw [rounds_succ]
  go_wp2_with fail
  refine (first_any (t ++ tailA) (unhide HA) _).mono ?_
  rintro e w1 ⟨rfl, hb⟩
  rw [vA]
  have x1 : (w1.alloc (.cells (spotCells (spotV (t ++ tailA) 0)) 187)).cell? ⟨w1.heap.size, 1, none⟩ = some (.int .i64 (nA : Int)) := by rw [unhide HNA]; exact (Blk.new w1 (spotCells (spotV (t ++ tailA) 0)) 187).cell 1
  have HWA := hide (hb.alloc hb.size (.cells (spotCells (spotV (t ++ tailA) 0)) 187))
  dsimp only [spotCells] at x1
  clear hb
  by_cases hA : t.size < nA
  · have hv : begB t = true := by rw [unhide HBV]; simp [hA]
    have HV := hide hv
    have hA' : (t.size : Int) < (nA : Int) := by omega
    clear hv hA
    go_wp2_with fail
    go_ret
    exact ⟨by rw [unhide HV]; rfl, unhide HWA⟩
  have hA' : ¬ (t.size : Int) < (nA : Int) := by omega
  go_wp2_with fail
  rw [rounds_succ]
  go_wp2_with fail
  clear x1 hA'
  refine (first_any (t ++ tailB) (unhide HB) _).mono ?_
  rintro e w2 ⟨rfl, hb⟩
  rw [vB]
  have x1 : (w2.alloc (.cells (spotCells (spotV (t ++ tailB) 0)) 187)).cell? ⟨w2.heap.size, 1, none⟩ = some (.int .i64 (nB : Int)) := by rw [unhide HNB]; exact (Blk.new w2 (spotCells (spotV (t ++ tailB) 0)) 187).cell 1
  have hq := (unhide HWA).trans (hb.mono (unhide HWA).size)
  have HWB := hide (hq.alloc hq.size (.cells (spotCells (spotV (t ++ tailB) 0)) 187))
  clear hq
  dsimp only [spotCells] at x1
  clear hb
  by_cases hB : t.size < nB
  · have hv : begB t = true := by rw [unhide HBV]; simp [hB]
    have HV := hide hv
    have hB' : (t.size : Int) < (nB : Int) := by omega
    clear hv hB hA
    go_wp2_with fail
    go_ret
    exact ⟨by rw [unhide HV]; rfl, unhide HWB⟩
  have hv : begB t = false := by rw [unhide HBV]; simp [hA, hB]
  have HV := hide hv
  have hB' : ¬ (t.size : Int) < (nB : Int) := by omega
  clear hv hB hA
  go_wp2_with fail
  rw [rounds_succ]
  go_wp2
  go_ret
  exact ⟨by rw [unhide HV]; rfl, unhide HWB⟩
/-- How many bytes of a text may yet become a rune's. -/
def begLen (t : ByteArray) : Nat := scanTo (fun n => begB (t.extract 0 (n + 1))) t.size 0
set_option maxRecDepth 100000 in
set_option maxHeartbeats 4000000 in
theorem begun_text (t : ByteArray) (ht : t.size ≤ 4611686018427387904) (w : World) : Calls Tryz.prog 108 #[.string t] w fun e w' => e = .returned (.int .i64 (begLen t)) ∧ Below w.heap.size w w' := by
  go_enter Tryz.func108, Tryz.ntmps108
  go_wp2
  go_loopw [3] (fun i wr => ∃ k : Nat, k ≤ t.size ∧ i = .int .i64 k ∧ Hz (begLen t = scanTo (fun n => begB (t.extract 0 (n + 1))) t.size k) ∧ Hz (Below w.heap.size w wr)) (fun i _ => t.size - (intOf i).toNat)
  case atStart => exact ⟨0, by omega, rfl, hide rfl, hide (Below.refl _ _)⟩
  case round =>
    obtain ⟨k, hk, rfl, HK, HW⟩ := hrel
    by_cases hkt : k < t.size
    · have hkt' : (k : Int) < (t.size : Int) := by omega
      have hi1 : (k : Int) + 1 ≤ (t.size : Int) := by omega
      have hi2 : ((k : Int) + 1).toNat = k + 1 := by omega
      cases hbg : begB (t.extract 0 (k + 1)) with
      | true =>
        have HN := hide (scanTo_go (p := fun n => begB (t.extract 0 (n + 1))) (hi := t.size) (n := k) hkt hbg)
        go_wp2_with fail
        refine (begins_any (t.extract 0 (k + 1)) (by rw [ByteArray.size_extract]; omega) _).mono ?_
        rintro e w1 ⟨rfl, hb⟩
        have HW1 := hide ((unhide HW).trans (hb.mono (unhide HW).size))
        clear hb
        rw [hbg]
        go_wp2_with fail
        go_roundw
        case rel => exact ⟨k + 1, by omega, by go_num, hide ((unhide HK).trans (unhide HN)), HW1⟩
        case measure => simp [intOf]; omega
      | false =>
        have HN := hide (scanTo_no (p := fun n => begB (t.extract 0 (n + 1))) (hi := t.size) (n := k) hbg)
        go_wp2_with fail
        refine (begins_any (t.extract 0 (k + 1)) (by rw [ByteArray.size_extract]; omega) _).mono ?_
        rintro e w1 ⟨rfl, hb⟩
        have HW1 := hide ((unhide HW).trans (hb.mono (unhide HW).size))
        clear hb
        rw [hbg]
        go_wp2_with fail
        go_ret
        exact ⟨ret_i (by rw [unhide HK, unhide HN]), unhide HW1⟩
    · have hkt' : ¬ (k : Int) < (t.size : Int) := by omega
      have HN := hide (scanTo_end (p := fun n => begB (t.extract 0 (n + 1))) (hi := t.size) (n := k) hkt)
      go_wp2_with fail
      go_ret
      exact ⟨ret_i (by rw [unhide HK, unhide HN]), unhide HW⟩
end Go.Proofs.YtbbnppcpjpdpaaaGreatDoor
/- A range over a function that may hold ranges of its own: the caller's state speaks of blocks older than the call alone; a round leaves all that is newer as it is. -/
namespace Go.Proofs.YtbbnppcpjpdpaaaGreatDoor
open Go.RowKit Go.Shelf
set_option linter.unusedVariables false
/-- All blocks from B on are as they were. -/
structure Above (B : Nat) (W W' : World) : Prop where
  size : W.heap.size ≤ W'.heap.size
  same : ∀ k, B ≤ k → k < W.heap.size → W'.heap[k]? = W.heap[k]?
theorem Above.refl (B : Nat) (W : World) : Above B W W := ⟨Nat.le_refl _, fun _ _ _ => rfl⟩
theorem Above.trans {B : Nat} {X Y Z : World} (h : Above B X Y) (k : Above B Y Z) : Above B X Z := ⟨Nat.le_trans h.size k.size, fun i hB hi => (k.same i hB (by have := h.size; omega)).trans (h.same i hB hi)⟩
theorem Above.mono {B B' : Nat} {X Y : World} (h : Above B X Y) (hB : B ≤ B') : Above B' X Y := ⟨h.size, fun i hi hk => h.same i (by omega) hk⟩
theorem Above.below {B : Nat} {X Y : World} (h : Below X.heap.size X Y) : Above B X Y := ⟨h.size, fun k _ hk => h.block k hk⟩
theorem Above.alloc {B : Nat} {X Y : World} (h : Above B X Y) (o : Obj) : Above B X (Y.alloc o) := h.trans ⟨by simp, fun k _ hk => Below.heap_alloc Y o k hk⟩
theorem Above.set {B b i : Nat} {X Y : World} (h : Above B X Y) (hb : b < B) (v : Value) : Above B X (Y.setCell ⟨b, i, none⟩ v) := h.trans ⟨(KeepsWalks.setCell Y _ v).size, fun k hk _ => Below.heap_setCell Y ⟨b, i, none⟩ v k (by show k ≠ b; omega)⟩
theorem Above.put {B l : Nat} {X Y : World} (h : Above B X Y) (hl : l < B) (o : Obj) : Above B X (Y.putObj l o) := h.trans ⟨by simp, fun k hk _ => World.putObj_heap_other (by omega)⟩
theorem Above.drew {B : Nat} {X Y : World} (h : Above B X Y) : Above B X Y.drew := ⟨h.size, h.same⟩
theorem below_put {B l : Nat} (W : World) (hl : B ≤ l) (o : Obj) : Below B W (W.putObj l o) := ⟨rfl, rfl, rfl, by simp, fun k hk => World.putObj_heap_other (by omega)⟩
/-- What speaks of blocks below B alone. -/
def Old {β : Type} (B : Nat) (I : β → World → Prop) : Prop := ∀ s X Y, I s X → Below B X Y → I s Y
theorem Old.mono {β : Type} {B B' : Nat} {I : β → World → Prop} (h : Old B I) (hB : B ≤ B') : Old B' I := fun s X Y hs hb => h s X Y hs (hb.mono hB)
/-- The word of an iterator. -/
def SeqDeep {α : Type} (F : Fence) (n : Nat) (P : Program) (g : Nat) (lb : Array Value) (encs : α → Array Value) (Kp : World → World → Prop) (S Sp : List α → Prop) (Nx : List α → α → Prop) (w : World) : Prop :=
  ∀ (l : Nat) (J Jx : List α → World → Prop) (W : World), Below w.heap.size w W → Old W.heap.size J → Old W.heap.size Jx →
    (∀ pre x W1, J pre W1 → Nx pre x → W.heap.size ≤ W1.heap.size → YieldAt F (n - 1) P l (encs x) W1 fun e W' => Above W.heap.size W1 W' ∧
      ((e = .returned (.bool true) ∧ J (pre ++ [x]) W' ∧ Kp W1 W') ∨ (e = .returned (.bool false) ∧ Jx (pre ++ [x]) W'))) →
    J [] W → CallsIn F n P g (#[.func (.yield l) #[] #[]] ++ lb) W fun e W' => (∃ v, e = .returned v) ∧ ((∃ xs, S xs ∧ J xs W') ∨ (∃ pre, Sp pre ∧ Jx pre W'))
/-- How a round may be left. -/
def deepPost {α : Type} (B : Nat) (Kp : World → World → Prop) (I : List α → World → Prop) (Ix : Code → List α → World → Prop) (xs : List α) (W : World) : Exit → Act → World → Prop
  | .normal, _, W' => Above B W W' ∧ Kp W W' ∧ I xs W'
  | .ret, _, W' => Above B W W' ∧ Ix .ret xs W'
  | .exit id, _, W' => Above B W W' ∧ Ix (.exit id) xs W'
  | .goto t, _, W' => Above B W W' ∧ Ix (.goto t) xs W'
  | .panic _, _, _ => False
  | .outgrown, _, _ => False
section
variable {F : Fence} {n : Nat} {P : Program}
/-- The end of a round: the record says how. -/
theorem end_round {l D : Nat} {r : Loop} {Wr W3 : World} {B : Nat} (hl : Wr.heap[l]? = some (.loop r)) (hD : Wr.heap[D]? = some (.deferred (some []))) (hlD : l ≠ D) (hBl : B ≤ l) (hBD : B ≤ D) (h : Above B Wr W3) (jump : Option Code) :
    (Instr.endRound l jump).run P W3 = .ok (.bool jump.isNone) (W3.putObj l (.loop { r with state := if jump.isNone then .ready else .done, pending := jump })) ∧
    (W3.putObj l (.loop { r with state := if jump.isNone then .ready else .done, pending := jump })).heap[l]? = some (.loop { r with state := if jump.isNone then .ready else .done, pending := jump }) ∧
    (W3.putObj l (.loop { r with state := if jump.isNone then .ready else .done, pending := jump })).heap[D]? = some (.deferred (some [])) := by
  have h1 := (h.same l hBl (Array.getElem?_eq_some_iff.1 hl).1).trans hl
  have h2 := (h.same D hBD (Array.getElem?_eq_some_iff.1 hD).1).trans hD
  exact ⟨run_endRound jump h1, World.putObj_heap_same (Array.getElem?_eq_some_iff.1 h1).1, (World.putObj_heap_other (Ne.symm hlD)).trans h2⟩
/-- The record of the loop and the block for its rounds' calls. -/
def Booked (B : Nat) (st : LoopState) (pe : Option Code) (r : Loop) (W : World) : Prop := W.heap[B + 1]? = some (.loop { r with state := st, pending := pe }) ∧ W.heap[B]? = some (.deferred (some []))
theorem Booked.below {B : Nat} {st : LoopState} {pe : Option Code} {r : Loop} {X Y : World} (h : Booked B st pe r X) (hb : Below (B + 2) X Y) : Booked B st pe r Y := ⟨(hb.block _ (by omega)).trans h.1, (hb.block _ (by omega)).trans h.2⟩
theorem range_deep {α : Type} {g : Operand} {ps : Array Tmp} {assign body : Code} {Q : Exit → Act → World → Prop} {a : Act} {w : World}
    (hro : F.round = none) (h1 : 1 ≤ n) {gf : Nat} {lb : Array Value} (hg : a.eval g = .func (.func gf) #[] lb) (hFg : F.fn gf) (eg : ∀ args w, (callFunc gf args).run P w = .ok (.enter gf args) w)
    {encs : α → Array Value} {Kp : World → World → Prop} {S Sp : List α → Prop} {Nx : List α → α → Prop} {w0 : World} (hseq : SeqDeep F (n - 1) P gf lb encs Kp S Sp Nx w0)
    (hKt : ∀ {A B C : World}, Kp A B → Kp B C → Kp A C) (hKb : ∀ (W : World) (l : Nat) (o : Obj), w.heap.size ≤ l → Kp W (W.putObj l o)) (hb0 : Below w0.heap.size w0 w) (hps : ∀ x, (encs x).size = ps.size)
    (I : List α → World → Prop) (Ix : Code → List α → World → Prop) (hI : Old w.heap.size I) (hIx : ∀ c, Old w.heap.size (Ix c)) (h0 : I [] w)
    (hround : ∀ (pre : List α) (x : α) (W : World), I pre W → Nx pre x → w.heap.size + 2 ≤ W.heap.size →
      assign.wpIn (F.inRound (w.heap.size + 1)) (n - 1 - 1) P (Exit.then (fun a' Wa => Above w.heap.size W Wa ∧ Kp W Wa ∧ I pre Wa ∧
        (∀ Wr, Wa.grownBy Wr (some (w.heap.size + 1)) → Wr.heap.size = Wa.heap.size → I pre Wr → body.wpIn (F.inRound (w.heap.size + 1)) (n - 1 - 1) P (deepPost w.heap.size Kp I Ix (pre ++ [x]) Wr) a' Wr)) (fun _ _ _ => False))
        { tmps := (ps.zip (encs x)).foldl (fun t (p, v) => t.setIfInBounds p v) a.tmps, defers := [] } W)
    (hdone : ∀ (D : Nat) (xs : List α) (W : World), w.heap.size ≤ D → S xs → I xs W → W.heap[D]? = some (.deferred (some [])) → Q .normal { a with defers := { target := .collected D, args := #[] } :: a.defers } W)
    (hstop : ∀ (D : Nat) (c : Code) (pre : List α) (W : World), w.heap.size ≤ D → Sp pre → Ix c pre W → W.heap[D]? = some (.deferred (some [])) → c.wpIn F n P Q { a with defers := { target := .collected D, args := #[] } :: a.defers } W) :
    (Code.rangeFunc g ps assign body).wpIn F n P Q a w := by
  refine wpIn_rangeFunc fun fn hfn => ?_
  rw [hro]
  obtain ⟨r, hr⟩ : ∃ r : Loop, r = { state := .ready, pending := none, fn, tmps := a.tmps, params := ps, assign, body, defers := w.heap.size } := ⟨_, rfl⟩
  have r1 : r.state = .ready := by rw [hr]
  have r2 : r.pending = none := by rw [hr]
  obtain ⟨W1, hW1⟩ : ∃ W1, W1 = (w.alloc (.deferred (some []))).alloc (.loop r) := ⟨_, rfl⟩
  have hsz : W1.heap.size = w.heap.size + 2 := by rw [hW1]; simp
  have hbw : Below w.heap.size w W1 := by rw [hW1]; exact ((Below.refl _ w).alloc (Nat.le_refl _) _).alloc (by simp) _
  have hre : { r with state := .ready, pending := none } = r := by rw [hr]
  have hbk : Booked w.heap.size .ready none r W1 := by
    refine ⟨?_, ?_⟩
    · rw [hre, hW1]
      have := World.alloc_heap_new (w.alloc (.deferred (some []))) (.loop r)
      rwa [World.size_alloc] at this
    · rw [hW1]
      exact (Below.heap_alloc _ _ _ (by simp)).trans (World.alloc_heap_new w _)
  refine ⟨w.heap.size + 1, [{ target := .collected w.heap.size, args := #[] }], W1, { target := .fn (.func gf) lb, args := #[.func (.yield (w.heap.size + 1)) #[] #[]] }, W1, gf, #[.func (.yield (w.heap.size + 1)) #[] #[]] ++ lb, W1, ?_, ?_, ?_, ?_, fun _ => h1, ?_⟩
  · rw [hW1, hr]
    exact run_enterLoop_outer _ _ _ _ _
  · simp only [resolve, hg]
    simp [go_sem]
  · intro f' hf'
    simp [Target.leads] at hf'
    subst hf'
    exact hFg
  · simp [invoke, go_sem, eg]
  · refine (hseq (w.heap.size + 1) (fun pre W => I pre W ∧ Booked w.heap.size .ready none r W) (fun pre W => ∃ c, Ix c pre W ∧ Booked w.heap.size .done (some c) r W) W1 (hb0.trans (hbw.mono hb0.size))
      (fun s X Y hs hb => ⟨hI s X Y hs.1 (hb.mono (by omega)), hs.2.below (by rw [← hsz]; exact hb)⟩)
      (fun s X Y hs hb => by obtain ⟨c, h1, h2⟩ := hs; exact ⟨c, hIx c s X Y h1 (hb.mono (by omega)), h2.below (by rw [← hsz]; exact hb)⟩) ?_ ⟨hI [] w W1 h0 hbw, hbk⟩).mono ?_
    · rintro pre x W ⟨hi, hl, hd⟩ hlen hge
      rw [hre] at hl
      have hy := run_yield (P := P) (args := encs x) hl (by rw [hr]; exact hps x)
      refine ⟨r.fn, _, r.assign, r.body, hy, roundIn_of_wpIn (by rw [hr]; exact hfn) ?_⟩
      rw [show r.params = ps by rw [hr], show r.tmps = a.tmps by rw [hr], show r.assign = assign by rw [hr], show r.body = body by rw [hr]]
      refine wpIn_mono (hround pre x W hi hlen (by omega)) ?_
      intro e a' Wa hp
      cases e with
      | normal =>
        obtain ⟨hab, hkp, hia, hgo⟩ := hp
        have hl' := (hab.same _ (by omega) (Array.getElem?_eq_some_iff.1 hl).1).trans hl
        have hd' := (hab.same _ (Nat.le_refl _) (Array.getElem?_eq_some_iff.1 hd).1).trans hd
        refine ⟨_, run_beginRound hl' r1, ?_⟩
        have hgw := grownBy_putObj' Wa (w.heap.size + 1) (.loop { r with state := .busy })
        obtain ⟨Wr, hWr⟩ : ∃ Wr, Wr = Wa.putObj (w.heap.size + 1) (.loop { r with state := .busy }) := ⟨_, rfl⟩
        rw [← hWr] at hgw ⊢
        have hlr : Wr.heap[w.heap.size + 1]? = some (.loop { r with state := .busy }) := by rw [hWr]; exact World.putObj_heap_same (Array.getElem?_eq_some_iff.1 hl').1
        have hdr : Wr.heap[w.heap.size]? = some (.deferred (some [])) := by rw [hWr]; exact (World.putObj_heap_other (by omega)).trans hd'
        have hkr : Kp Wa Wr := by rw [hWr]; exact hKb _ _ _ (by omega)
        have har : Above W1.heap.size W Wr := by rw [hWr]; exact (hab.mono (by omega)).put (by omega) _
        have hir : I pre Wr := hI _ _ _ hia (by rw [hWr]; exact below_put Wa (by omega) _)
        refine wpIn_mono (hgo Wr hgw (by rw [hWr]; simp) hir) ?_
        intro e a3 W3 hp
        have fin : ∀ jump : Option Code, Above w.heap.size Wr W3 → (Instr.endRound (w.heap.size + 1) jump).run P W3 = .ok (.bool jump.isNone) (W3.putObj (w.heap.size + 1) (.loop { r with state := if jump.isNone then .ready else .done, pending := jump })) ∧ Booked w.heap.size (if jump.isNone then .ready else .done) jump r (W3.putObj (w.heap.size + 1) (.loop { r with state := if jump.isNone then .ready else .done, pending := jump })) ∧ Above W1.heap.size W (W3.putObj (w.heap.size + 1) (.loop { r with state := if jump.isNone then .ready else .done, pending := jump })) := fun jump h => by
          have q := end_round (P := P) hlr hdr (by omega) (by omega) (Nat.le_refl _) h jump
          exact ⟨q.1, ⟨q.2.1, q.2.2⟩, (har.trans (h.mono (by omega))).put (by omega) _⟩
        cases e with
        | normal =>
          obtain ⟨p1, p2, p3⟩ := hp
          obtain ⟨q1, q2, q3⟩ := fin none p1
          exact ⟨_, _, q1, q3, .inl ⟨rfl, ⟨hI _ _ _ p3 (below_put W3 (by omega) _), q2⟩, hKt hkp (hKt hkr (hKt p2 (hKb _ _ _ (by omega))))⟩⟩
        | ret =>
          obtain ⟨p1, p3⟩ := hp
          obtain ⟨q1, q2, q3⟩ := fin (some .ret) p1
          exact ⟨_, _, q1, q3, .inr ⟨rfl, .ret, hIx _ _ _ _ p3 (below_put W3 (by omega) _), q2⟩⟩
        | exit id =>
          obtain ⟨p1, p3⟩ := hp
          obtain ⟨q1, q2, q3⟩ := fin (some (.exit id)) p1
          exact ⟨_, _, q1, q3, .inr ⟨rfl, .exit id, hIx _ _ _ _ p3 (below_put W3 (by omega) _), q2⟩⟩
        | goto t =>
          obtain ⟨p1, p3⟩ := hp
          obtain ⟨q1, q2, q3⟩ := fin (some (.goto t)) p1
          exact ⟨_, _, q1, q3, .inr ⟨rfl, .goto t, hIx _ _ _ _ p3 (below_put W3 (by omega) _), q2⟩⟩
        | panic ch => exact hp.elim
        | outgrown => exact hp.elim
      | ret => exact hp.elim
      | exit id => exact hp.elim
      | goto t => exact hp.elim
      | panic ch => exact hp.elim
      | outgrown => exact hp.elim
    · rintro e W2 ⟨⟨v, rfl⟩, (⟨xs, hS, hi, hb⟩ | ⟨pre, hSp, c, hi, hb⟩)⟩
      · exact ⟨none, _, run_endLoop (P := P) hb.1 (by simp), hdone _ xs _ (Nat.le_refl _) hS (hI _ _ _ hi (below_put W2 (by omega) _)) ((World.putObj_heap_other (by omega)).trans hb.2)⟩
      · exact ⟨some c, _, run_endLoop (P := P) hb.1 (by simp), hstop _ c pre _ (Nat.le_refl _) hSp (hIx c _ _ _ hi (below_put W2 (by omega) _)) ((World.putObj_heap_other (by omega)).trans hb.2)⟩
end
end Go.Proofs.YtbbnppcpjpdpaaaGreatDoor
