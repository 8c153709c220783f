/- Texts of this claim, one behind the other. -/
import Derived.Test.YtbefahknbdjnpaaGreatDoorM4
import Derived.Test.YtbefahknbdjnpaaGreatDoorM3
import Derived.Test.YtbefahknbdjnpaaGreatDoorM1
import Derived.RangeFuncNested
import Derived.Test.YtbefahknbdjnpaaGreatDoorM2
/- whole, begins, begun: how a rune begins. -/
namespace Go.Proofs.YtbefahknbdjnpaaGreatDoor
open Go.RowKit Go.Shelf
set_option linter.unusedVariables false
/-- Does a text begin with a whole rune? -/
def wholeB (t : ByteArray) : Bool := decide (0 < t.size) && !badB t 0
set_option maxHeartbeats 1000000 in
theorem whole_any (t : ByteArray) (ht : t.size ≤ maxLen) (w : World) : Calls Tryz.prog 158 #[.string t] w fun e w' => e = .returned (.bool (wholeB t)) ∧ Below w.heap.size w w' := by
  by_cases hp : 0 < t.size
  · have hv : wholeB t = !badB t 0 := by unfold wholeB; simp [hp]
    rw [hv]
    clear hv
    go_enter Tryz.func158, Tryz.ntmps158
    go_wp2_with fail
    refine (first_any t ht _).mono ?_
    rintro e w1 ⟨rfl, hb⟩
    rw [firstV_pos hp]
    have x2 := (Blk.new w1 (spotCells (spotV t 0)) 243).cell 2
    have HB := hide (hb.alloc hb.size (.cells (spotCells (spotV t 0)) 243))
    simp only [spotCells] at x2
    clear hb
    go_wp2
    go_ret
    exact ⟨rfl, unhide HB⟩
  · have hv : wholeB t = false := by unfold wholeB; simp [hp]
    rw [hv]
    clear hv
    go_enter Tryz.func158, Tryz.ntmps158
    go_wp2_with fail
    refine (first_any t ht _).mono ?_
    rintro e w1 ⟨rfl, hb⟩
    rw [firstV_neg hp]
    have HB := hide (hb.alloc hb.size (.cells #[.int .i32 0, .int .i64 0, .bool false] 243))
    clear hb
    go_wp2
    go_ret
    exact ⟨rfl, unhide HB⟩
abbrev tailA : ByteArray := ⟨#[128, 128, 128]⟩
abbrev tailB : ByteArray := ⟨#[160, 128, 128]⟩
/-- May a rune of more bytes begin so? -/
def begB (t : ByteArray) : Bool := decide (t.size < wd (t ++ tailA) 0) || decide (t.size < wd (t ++ tailB) 0)
theorem size_tail (t : ByteArray) : (t ++ tailA).size = t.size + 3 ∧ (t ++ tailB).size = t.size + 3 := by
  rw [ByteArray.size_append, ByteArray.size_append]; exact ⟨rfl, rfl⟩
theorem tails_0 (w : World) : (Instr.index 284 (.agg #[.string tailA, .string tailB]) (.int .i64 0)).run Tryz.prog w = .ok (.string tailA) w := by kernel_rfl
theorem tails_1 (w : World) : (Instr.index 284 (.agg #[.string tailA, .string tailB]) (.int .i64 1)).run Tryz.prog w = .ok (.string tailB) w := by kernel_rfl
set_option maxRecDepth 100000 in
set_option maxHeartbeats 4000000 in
theorem begins_any (t : ByteArray) (ht : t.size ≤ 4611686018427387904) (w : World) : Calls Tryz.prog 181 #[.string t] w fun e w' => e = .returned (.bool (begB t)) ∧ Below w.heap.size w w' := by
  obtain ⟨z1, z2⟩ := size_tail t
  have hA : (t ++ tailA).size ≤ maxLen := by unfold maxLen; omega
  have hB : (t ++ tailB).size ≤ maxLen := by unfold maxLen; omega
  obtain ⟨nA, hnA⟩ : ∃ nA, nA = wd (t ++ tailA) 0 := ⟨_, rfl⟩
  obtain ⟨nB, hnB⟩ : ∃ nB, nB = wd (t ++ tailB) 0 := ⟨_, rfl⟩
  have hbv : begB t = (decide (t.size < nA) || decide (t.size < nB)) := by unfold begB; rw [hnA, hnB]
  have HBV := hide hbv
  have HNA := hide hnA
  have HNB := hide hnB
  clear hnA hnB hbv
  have vA := firstV_pos (s := t ++ tailA) (by omega)
  have vB := firstV_pos (s := t ++ tailB) (by omega)
  have HA := hide hA
  have HB := hide hB
  have hsz : t.size + 3 ≤ maxLen := by unfold maxLen; omega
  have hx0 := tails_0
  have hx1 := tails_1
  clear z1 z2 hA hB
  go_enter Tryz.func181, Tryz.ntmps181
  go_wp2_with fail
  refine wp_loop_rounds 3 ?_
  rw [rounds_succ]
  go_wp2_with fail
  refine (first_any (t ++ tailA) (unhide HA) _).mono ?_
  rintro e w1 ⟨rfl, hb⟩
  rw [vA]
  have x1 : (w1.alloc (.cells (spotCells (spotV (t ++ tailA) 0)) 243)).cell? ⟨w1.heap.size, 1, none⟩ = some (.int .i64 (nA : Int)) := by rw [unhide HNA]; exact (Blk.new w1 (spotCells (spotV (t ++ tailA) 0)) 243).cell 1
  have HWA := hide (hb.alloc hb.size (.cells (spotCells (spotV (t ++ tailA) 0)) 243))
  dsimp only [spotCells] at x1
  clear hb
  by_cases hA : t.size < nA
  · have hv : begB t = true := by rw [unhide HBV]; simp [hA]
    have HV := hide hv
    have hA' : (t.size : Int) < (nA : Int) := by omega
    clear hv hA
    go_wp2_with fail
    go_ret
    exact ⟨by rw [unhide HV]; rfl, unhide HWA⟩
  have hA' : ¬ (t.size : Int) < (nA : Int) := by omega
  go_wp2_with fail
  rw [rounds_succ]
  go_wp2_with fail
  clear x1 hA'
  refine (first_any (t ++ tailB) (unhide HB) _).mono ?_
  rintro e w2 ⟨rfl, hb⟩
  rw [vB]
  have x1 : (w2.alloc (.cells (spotCells (spotV (t ++ tailB) 0)) 243)).cell? ⟨w2.heap.size, 1, none⟩ = some (.int .i64 (nB : Int)) := by rw [unhide HNB]; exact (Blk.new w2 (spotCells (spotV (t ++ tailB) 0)) 243).cell 1
  have hq := (unhide HWA).trans (hb.mono (unhide HWA).size)
  have HWB := hide (hq.alloc hq.size (.cells (spotCells (spotV (t ++ tailB) 0)) 243))
  clear hq
  dsimp only [spotCells] at x1
  clear hb
  by_cases hB : t.size < nB
  · have hv : begB t = true := by rw [unhide HBV]; simp [hB]
    have HV := hide hv
    have hB' : (t.size : Int) < (nB : Int) := by omega
    clear hv hB hA
    go_wp2_with fail
    go_ret
    exact ⟨by rw [unhide HV]; rfl, unhide HWB⟩
  have hv : begB t = false := by rw [unhide HBV]; simp [hA, hB]
  have HV := hide hv
  have hB' : ¬ (t.size : Int) < (nB : Int) := by omega
  clear hv hB hA
  go_wp2_with fail
  rw [rounds_succ]
  go_wp2
  go_ret
  exact ⟨by rw [unhide HV]; rfl, unhide HWB⟩
/-- How many bytes of a text may yet become a rune's. -/
def begLen (t : ByteArray) : Nat := scanTo (fun n => begB (t.extract 0 (n + 1))) t.size 0
set_option maxRecDepth 100000 in
set_option maxHeartbeats 4000000 in
theorem begun_text (t : ByteArray) (ht : t.size ≤ 4611686018427387904) (w : World) : Calls Tryz.prog 159 #[.string t] w fun e w' => e = .returned (.int .i64 (begLen t)) ∧ Below w.heap.size w w' := by
  go_enter Tryz.func159, Tryz.ntmps159
  go_wp2
  go_loopw [3] (fun i wr => ∃ k : Nat, k ≤ t.size ∧ i = .int .i64 k ∧ Hz (begLen t = scanTo (fun n => begB (t.extract 0 (n + 1))) t.size k) ∧ Hz (Below w.heap.size w wr)) (fun i _ => t.size - (intOf i).toNat)
  case atStart => exact ⟨0, by omega, rfl, hide rfl, hide (Below.refl _ _)⟩
  case round =>
    obtain ⟨k, hk, rfl, HK, HW⟩ := hrel
    by_cases hkt : k < t.size
    · have hkt' : (k : Int) < (t.size : Int) := by omega
      have hi1 : (k : Int) + 1 ≤ (t.size : Int) := by omega
      have hi2 : ((k : Int) + 1).toNat = k + 1 := by omega
      cases hbg : begB (t.extract 0 (k + 1)) with
      | true =>
        have HN := hide (scanTo_go (p := fun n => begB (t.extract 0 (n + 1))) (hi := t.size) (n := k) hkt hbg)
        go_wp2_with fail
        refine (begins_any (t.extract 0 (k + 1)) (by rw [ByteArray.size_extract]; omega) _).mono ?_
        rintro e w1 ⟨rfl, hb⟩
        have HW1 := hide ((unhide HW).trans (hb.mono (unhide HW).size))
        clear hb
        rw [hbg]
        go_wp2_with fail
        go_roundw
        case rel => exact ⟨k + 1, by omega, by go_num, hide ((unhide HK).trans (unhide HN)), HW1⟩
        case measure => simp [intOf]; omega
      | false =>
        have HN := hide (scanTo_no (p := fun n => begB (t.extract 0 (n + 1))) (hi := t.size) (n := k) hbg)
        go_wp2_with fail
        refine (begins_any (t.extract 0 (k + 1)) (by rw [ByteArray.size_extract]; omega) _).mono ?_
        rintro e w1 ⟨rfl, hb⟩
        have HW1 := hide ((unhide HW).trans (hb.mono (unhide HW).size))
        clear hb
        rw [hbg]
        go_wp2_with fail
        go_ret
        exact ⟨ret_i (by rw [unhide HK, unhide HN]), unhide HW1⟩
    · have hkt' : ¬ (k : Int) < (t.size : Int) := by omega
      have HN := hide (scanTo_end (p := fun n => begB (t.extract 0 (n + 1))) (hi := t.size) (n := k) hkt)
      go_wp2_with fail
      go_ret
      exact ⟨ret_i (by rw [unhide HK, unhide HN]), unhide HW⟩
end Go.Proofs.YtbefahknbdjnpaaGreatDoor
/- A range over a function that may hold ranges of its own: the caller's state speaks of blocks older than the call alone; a round leaves all that is newer as it is. -/
namespace Go.Proofs.YtbefahknbdjnpaaGreatDoor
open Go.RowKit Go.Shelf
set_option linter.unusedVariables false
/-- All blocks from B on are as they were. -/
structure Above (B : Nat) (W W' : World) : Prop where
  size : W.heap.size ≤ W'.heap.size
  same : ∀ k, B ≤ k → k < W.heap.size → W'.heap[k]? = W.heap[k]?
theorem Above.refl (B : Nat) (W : World) : Above B W W := ⟨Nat.le_refl _, fun _ _ _ => rfl⟩
theorem Above.trans {B : Nat} {X Y Z : World} (h : Above B X Y) (k : Above B Y Z) : Above B X Z := ⟨Nat.le_trans h.size k.size, fun i hB hi => (k.same i hB (by have := h.size; omega)).trans (h.same i hB hi)⟩
theorem Above.mono {B B' : Nat} {X Y : World} (h : Above B X Y) (hB : B ≤ B') : Above B' X Y := ⟨h.size, fun i hi hk => h.same i (by omega) hk⟩
theorem Above.below {B : Nat} {X Y : World} (h : Below X.heap.size X Y) : Above B X Y := ⟨h.size, fun k _ hk => h.block k hk⟩
theorem Above.alloc {B : Nat} {X Y : World} (h : Above B X Y) (o : Obj) : Above B X (Y.alloc o) := h.trans ⟨by simp, fun k _ hk => Below.heap_alloc Y o k hk⟩
theorem Above.set {B b i : Nat} {X Y : World} (h : Above B X Y) (hb : b < B) (v : Value) : Above B X (Y.setCell ⟨b, i, none⟩ v) := h.trans ⟨(KeepsWalks.setCell Y _ v).size, fun k hk _ => Below.heap_setCell Y ⟨b, i, none⟩ v k (by show k ≠ b; omega)⟩
theorem Above.put {B l : Nat} {X Y : World} (h : Above B X Y) (hl : l < B) (o : Obj) : Above B X (Y.putObj l o) := h.trans ⟨by simp, fun k hk _ => World.putObj_heap_other (by omega)⟩
theorem Above.drew {B : Nat} {X Y : World} (h : Above B X Y) : Above B X Y.drew := ⟨h.size, h.same⟩
theorem below_put {B l : Nat} (W : World) (hl : B ≤ l) (o : Obj) : Below B W (W.putObj l o) := ⟨rfl, rfl, rfl, by simp, fun k hk => World.putObj_heap_other (by omega)⟩
/-- What speaks of blocks below B alone. -/
def Old {β : Type} (B : Nat) (I : β → World → Prop) : Prop := ∀ s X Y, I s X → Below B X Y → I s Y
theorem Old.mono {β : Type} {B B' : Nat} {I : β → World → Prop} (h : Old B I) (hB : B ≤ B') : Old B' I := fun s X Y hs hb => h s X Y hs (hb.mono hB)
/-- The word of an iterator. -/
def SeqDeep {α : Type} (F : Fence) (n : Nat) (P : Program) (g : Nat) (lb : Array Value) (encs : α → Array Value) (Kp : World → World → Prop) (S Sp : List α → Prop) (Nx : List α → α → Prop) (w : World) : Prop :=
  ∀ (l : Nat) (J Jx : List α → World → Prop) (W : World), Below w.heap.size w W → Old W.heap.size J → Old W.heap.size Jx →
    (∀ pre x W1, J pre W1 → Nx pre x → W.heap.size ≤ W1.heap.size → YieldAt F (n - 1) P l (encs x) W1 fun e W' => Above W.heap.size W1 W' ∧
      ((e = .returned (.bool true) ∧ J (pre ++ [x]) W' ∧ Kp W1 W') ∨ (e = .returned (.bool false) ∧ Jx (pre ++ [x]) W'))) →
    J [] W → CallsIn F n P g (#[.func (.yield l) #[] #[]] ++ lb) W fun e W' => (∃ v, e = .returned v) ∧ ((∃ xs, S xs ∧ J xs W') ∨ (∃ pre, Sp pre ∧ Jx pre W'))
/-- How a round may be left. -/
def deepPost {α : Type} (B : Nat) (Kp : World → World → Prop) (I : List α → World → Prop) (Ix : Code → List α → World → Prop) (xs : List α) (W : World) : Exit → Act → World → Prop
  | .normal, _, W' => Above B W W' ∧ Kp W W' ∧ I xs W'
  | .ret, _, W' => Above B W W' ∧ Ix .ret xs W'
  | .exit id, _, W' => Above B W W' ∧ Ix (.exit id) xs W'
  | .goto t, _, W' => Above B W W' ∧ Ix (.goto t) xs W'
  | .panic _, _, _ => False
  | .outgrown, _, _ => False
section
variable {F : Fence} {n : Nat} {P : Program}
/-- The end of a round: the record says how. -/
theorem end_round {l D : Nat} {r : Loop} {Wr W3 : World} {B : Nat} (hl : Wr.heap[l]? = some (.loop r)) (hD : Wr.heap[D]? = some (.deferred (some []))) (hlD : l ≠ D) (hBl : B ≤ l) (hBD : B ≤ D) (h : Above B Wr W3) (jump : Option Code) :
    (Instr.endRound l jump).run P W3 = .ok (.bool jump.isNone) (W3.putObj l (.loop { r with state := if jump.isNone then .ready else .done, pending := jump })) ∧
    (W3.putObj l (.loop { r with state := if jump.isNone then .ready else .done, pending := jump })).heap[l]? = some (.loop { r with state := if jump.isNone then .ready else .done, pending := jump }) ∧
    (W3.putObj l (.loop { r with state := if jump.isNone then .ready else .done, pending := jump })).heap[D]? = some (.deferred (some [])) := by
  have h1 := (h.same l hBl (Array.getElem?_eq_some_iff.1 hl).1).trans hl
  have h2 := (h.same D hBD (Array.getElem?_eq_some_iff.1 hD).1).trans hD
  exact ⟨run_endRound jump h1, World.putObj_heap_same (Array.getElem?_eq_some_iff.1 h1).1, (World.putObj_heap_other (Ne.symm hlD)).trans h2⟩
/-- The record of the loop and the block for its rounds' calls. -/
def Booked (B : Nat) (st : LoopState) (pe : Option Code) (r : Loop) (W : World) : Prop := W.heap[B + 1]? = some (.loop { r with state := st, pending := pe }) ∧ W.heap[B]? = some (.deferred (some []))
theorem Booked.below {B : Nat} {st : LoopState} {pe : Option Code} {r : Loop} {X Y : World} (h : Booked B st pe r X) (hb : Below (B + 2) X Y) : Booked B st pe r Y := ⟨(hb.block _ (by omega)).trans h.1, (hb.block _ (by omega)).trans h.2⟩
theorem range_deep {α : Type} {g : Operand} {ps : Array Tmp} {assign body : Code} {Q : Exit → Act → World → Prop} {a : Act} {w : World}
    (hro : F.round = none) (h1 : 1 ≤ n) {gf : Nat} {lb : Array Value} (hg : a.eval g = .func (.func gf) #[] lb) (hFg : F.fn gf) (eg : ∀ args w, (callFunc gf args).run P w = .ok (.enter gf args) w)
    {encs : α → Array Value} {Kp : World → World → Prop} {S Sp : List α → Prop} {Nx : List α → α → Prop} {w0 : World} (hseq : SeqDeep F (n - 1) P gf lb encs Kp S Sp Nx w0)
    (hKt : ∀ {A B C : World}, Kp A B → Kp B C → Kp A C) (hKb : ∀ (W : World) (l : Nat) (o : Obj), w.heap.size ≤ l → Kp W (W.putObj l o)) (hb0 : Below w0.heap.size w0 w) (hps : ∀ x, (encs x).size = ps.size)
    (I : List α → World → Prop) (Ix : Code → List α → World → Prop) (hI : Old w.heap.size I) (hIx : ∀ c, Old w.heap.size (Ix c)) (h0 : I [] w)
    (hround : ∀ (pre : List α) (x : α) (W : World), I pre W → Nx pre x → w.heap.size + 2 ≤ W.heap.size →
      assign.wpIn (F.inRound (w.heap.size + 1)) (n - 1 - 1) P (Exit.then (fun a' Wa => Above w.heap.size W Wa ∧ Kp W Wa ∧ I pre Wa ∧
        (∀ Wr, Wa.grownBy Wr (some (w.heap.size + 1)) → Wr.heap.size = Wa.heap.size → I pre Wr → body.wpIn (F.inRound (w.heap.size + 1)) (n - 1 - 1) P (deepPost w.heap.size Kp I Ix (pre ++ [x]) Wr) a' Wr)) (fun _ _ _ => False))
        { tmps := (ps.zip (encs x)).foldl (fun t (p, v) => t.setIfInBounds p v) a.tmps, defers := [] } W)
    (hdone : ∀ (D : Nat) (xs : List α) (W : World), w.heap.size ≤ D → S xs → I xs W → W.heap[D]? = some (.deferred (some [])) → Q .normal { a with defers := { target := .collected D, args := #[] } :: a.defers } W)
    (hstop : ∀ (D : Nat) (c : Code) (pre : List α) (W : World), w.heap.size ≤ D → Sp pre → Ix c pre W → W.heap[D]? = some (.deferred (some [])) → c.wpIn F n P Q { a with defers := { target := .collected D, args := #[] } :: a.defers } W) :
    (Code.rangeFunc g ps assign body).wpIn F n P Q a w := by
  refine wpIn_rangeFunc fun fn hfn => ?_
  rw [hro]
  obtain ⟨r, hr⟩ : ∃ r : Loop, r = { state := .ready, pending := none, fn, tmps := a.tmps, params := ps, assign, body, defers := w.heap.size } := ⟨_, rfl⟩
  have r1 : r.state = .ready := by rw [hr]
  have r2 : r.pending = none := by rw [hr]
  obtain ⟨W1, hW1⟩ : ∃ W1, W1 = (w.alloc (.deferred (some []))).alloc (.loop r) := ⟨_, rfl⟩
  have hsz : W1.heap.size = w.heap.size + 2 := by rw [hW1]; simp
  have hbw : Below w.heap.size w W1 := by rw [hW1]; exact ((Below.refl _ w).alloc (Nat.le_refl _) _).alloc (by simp) _
  have hre : { r with state := .ready, pending := none } = r := by rw [hr]
  have hbk : Booked w.heap.size .ready none r W1 := by
    refine ⟨?_, ?_⟩
    · rw [hre, hW1]
      have := World.alloc_heap_new (w.alloc (.deferred (some []))) (.loop r)
      rwa [World.size_alloc] at this
    · rw [hW1]
      exact (Below.heap_alloc _ _ _ (by simp)).trans (World.alloc_heap_new w _)
  refine ⟨w.heap.size + 1, [{ target := .collected w.heap.size, args := #[] }], W1, { target := .fn (.func gf) lb, args := #[.func (.yield (w.heap.size + 1)) #[] #[]] }, W1, gf, #[.func (.yield (w.heap.size + 1)) #[] #[]] ++ lb, W1, ?_, ?_, ?_, ?_, fun _ => h1, ?_⟩
  · rw [hW1, hr]
    exact run_enterLoop_outer _ _ _ _ _
  · simp only [resolve, hg]
    simp [go_sem]
  · intro f' hf'
    simp [Target.leads] at hf'
    subst hf'
    exact hFg
  · simp [invoke, go_sem, eg]
  · refine (hseq (w.heap.size + 1) (fun pre W => I pre W ∧ Booked w.heap.size .ready none r W) (fun pre W => ∃ c, Ix c pre W ∧ Booked w.heap.size .done (some c) r W) W1 (hb0.trans (hbw.mono hb0.size))
      (fun s X Y hs hb => ⟨hI s X Y hs.1 (hb.mono (by omega)), hs.2.below (by rw [← hsz]; exact hb)⟩)
      (fun s X Y hs hb => by obtain ⟨c, h1, h2⟩ := hs; exact ⟨c, hIx c s X Y h1 (hb.mono (by omega)), h2.below (by rw [← hsz]; exact hb)⟩) ?_ ⟨hI [] w W1 h0 hbw, hbk⟩).mono ?_
    · rintro pre x W ⟨hi, hl, hd⟩ hlen hge
      rw [hre] at hl
      have hy := run_yield (P := P) (args := encs x) hl (by rw [hr]; exact hps x)
      refine ⟨r.fn, _, r.assign, r.body, hy, roundIn_of_wpIn (by rw [hr]; exact hfn) ?_⟩
      rw [show r.params = ps by rw [hr], show r.tmps = a.tmps by rw [hr], show r.assign = assign by rw [hr], show r.body = body by rw [hr]]
      refine wpIn_mono (hround pre x W hi hlen (by omega)) ?_
      intro e a' Wa hp
      cases e with
      | normal =>
        obtain ⟨hab, hkp, hia, hgo⟩ := hp
        have hl' := (hab.same _ (by omega) (Array.getElem?_eq_some_iff.1 hl).1).trans hl
        have hd' := (hab.same _ (Nat.le_refl _) (Array.getElem?_eq_some_iff.1 hd).1).trans hd
        refine ⟨_, run_beginRound hl' r1, ?_⟩
        have hgw := grownBy_putObj' Wa (w.heap.size + 1) (.loop { r with state := .busy })
        obtain ⟨Wr, hWr⟩ : ∃ Wr, Wr = Wa.putObj (w.heap.size + 1) (.loop { r with state := .busy }) := ⟨_, rfl⟩
        rw [← hWr] at hgw ⊢
        have hlr : Wr.heap[w.heap.size + 1]? = some (.loop { r with state := .busy }) := by rw [hWr]; exact World.putObj_heap_same (Array.getElem?_eq_some_iff.1 hl').1
        have hdr : Wr.heap[w.heap.size]? = some (.deferred (some [])) := by rw [hWr]; exact (World.putObj_heap_other (by omega)).trans hd'
        have hkr : Kp Wa Wr := by rw [hWr]; exact hKb _ _ _ (by omega)
        have har : Above W1.heap.size W Wr := by rw [hWr]; exact (hab.mono (by omega)).put (by omega) _
        have hir : I pre Wr := hI _ _ _ hia (by rw [hWr]; exact below_put Wa (by omega) _)
        refine wpIn_mono (hgo Wr hgw (by rw [hWr]; simp) hir) ?_
        intro e a3 W3 hp
        have fin : ∀ jump : Option Code, Above w.heap.size Wr W3 → (Instr.endRound (w.heap.size + 1) jump).run P W3 = .ok (.bool jump.isNone) (W3.putObj (w.heap.size + 1) (.loop { r with state := if jump.isNone then .ready else .done, pending := jump })) ∧ Booked w.heap.size (if jump.isNone then .ready else .done) jump r (W3.putObj (w.heap.size + 1) (.loop { r with state := if jump.isNone then .ready else .done, pending := jump })) ∧ Above W1.heap.size W (W3.putObj (w.heap.size + 1) (.loop { r with state := if jump.isNone then .ready else .done, pending := jump })) := fun jump h => by
          have q := end_round (P := P) hlr hdr (by omega) (by omega) (Nat.le_refl _) h jump
          exact ⟨q.1, ⟨q.2.1, q.2.2⟩, (har.trans (h.mono (by omega))).put (by omega) _⟩
        cases e with
        | normal =>
          obtain ⟨p1, p2, p3⟩ := hp
          obtain ⟨q1, q2, q3⟩ := fin none p1
          exact ⟨_, _, q1, q3, .inl ⟨rfl, ⟨hI _ _ _ p3 (below_put W3 (by omega) _), q2⟩, hKt hkp (hKt hkr (hKt p2 (hKb _ _ _ (by omega))))⟩⟩
        | ret =>
          obtain ⟨p1, p3⟩ := hp
          obtain ⟨q1, q2, q3⟩ := fin (some .ret) p1
          exact ⟨_, _, q1, q3, .inr ⟨rfl, .ret, hIx _ _ _ _ p3 (below_put W3 (by omega) _), q2⟩⟩
        | exit id =>
          obtain ⟨p1, p3⟩ := hp
          obtain ⟨q1, q2, q3⟩ := fin (some (.exit id)) p1
          exact ⟨_, _, q1, q3, .inr ⟨rfl, .exit id, hIx _ _ _ _ p3 (below_put W3 (by omega) _), q2⟩⟩
        | goto t =>
          obtain ⟨p1, p3⟩ := hp
          obtain ⟨q1, q2, q3⟩ := fin (some (.goto t)) p1
          exact ⟨_, _, q1, q3, .inr ⟨rfl, .goto t, hIx _ _ _ _ p3 (below_put W3 (by omega) _), q2⟩⟩
        | panic ch => exact hp.elim
        | outgrown => exact hp.elim
      | ret => exact hp.elim
      | exit id => exact hp.elim
      | goto t => exact hp.elim
      | panic ch => exact hp.elim
      | outgrown => exact hp.elim
    · rintro e W2 ⟨⟨v, rfl⟩, (⟨xs, hS, hi, hb⟩ | ⟨pre, hSp, c, hi, hb⟩)⟩
      · exact ⟨none, _, run_endLoop (P := P) hb.1 (by simp), hdone _ xs _ (Nat.le_refl _) hS (hI _ _ _ hi (below_put W2 (by omega) _)) ((World.putObj_heap_other (by omega)).trans hb.2)⟩
      · exact ⟨some c, _, run_endLoop (P := P) hb.1 (by simp), hstop _ c pre _ (Nat.le_refl _) hSp (hIx c _ _ _ hi (below_put W2 (by omega) _)) ((World.putObj_heap_other (by omega)).trans hb.2)⟩
end
end Go.Proofs.YtbefahknbdjnpaaGreatDoor
/- quoted: the rune between two quotes. -/
namespace Go.Proofs.YtbefahknbdjnpaaGreatDoor
open Go.RowKit Go.Shelf
set_option linter.unusedVariables false
/-- The text behind its first byte. -/
def tl1 (t : ByteArray) : ByteArray := t.extract 1 t.size
/-- The rune, its bytes with both quotes, whether it is one. -/
def quoV (t : ByteArray) : Nat × Nat × Bool :=
  if (tl1 t).size = 0 then (0, t.size, false) else if rn (tl1 t) 0 < 32 ∨ rn (tl1 t) 0 = 39 ∨ rn (tl1 t) 0 = 127 then (0, 1, false) else if wholeB (tl1 t) = false then (0, 1 + begLen (tl1 t), false)
  else if ¬ wd (tl1 t) 0 < (tl1 t).size then (0, t.size, false) else if rn (tl1 t) (wd (tl1 t) 0) = 39 then (rn (tl1 t) 0, wd (tl1 t) 0 + 2, true) else (0, 1 + wd (tl1 t) 0, false)
theorem tl1_size (t : ByteArray) : (tl1 t).size = t.size - 1 := by unfold tl1; rw [ByteArray.size_extract]; omega
theorem tupR_mk {a n : Nat} {i : Int} {b : Bool} (h : i = n) : Ending.returned (.tuple #[.int .i32 (a : Int), .int .i64 i, .bool b]) = .returned (tupR (a, n, b)) := by subst h; rfl
set_option maxRecDepth 100000 in
set_option maxHeartbeats 4000000 in
theorem quoted_any (t : ByteArray) (ht : t.size ≤ 4611686018427387904) (hp : 0 < t.size) (w : World) : Calls Tryz.prog 120 #[.string t] w fun e w' => e = .returned (tupR (quoV t)) ∧ Below w.heap.size w w' := by
  have hz := tl1_size t
  have h1t : (1 : Int) ≤ (t.size : Int) := by omega
  obtain ⟨u, hu⟩ : ∃ u, u = tl1 t := ⟨_, rfl⟩
  have hue : t.extract 1 t.size = u := by rw [hu]; rfl
  have hq : quoV t = if u.size = 0 then (0, t.size, false) else if rn u 0 < 32 ∨ rn u 0 = 39 ∨ rn u 0 = 127 then (0, 1, false) else if wholeB u = false then (0, 1 + begLen u, false) else if ¬ wd u 0 < u.size then (0, t.size, false) else if rn u (wd u 0) = 39 then (rn u 0, wd u 0 + 2, true) else (0, 1 + wd u 0, false) := by unfold quoV; rw [hu]
  rw [← hu] at hz
  clear hu
  have HQ := hide hq
  have HZ := hide hz
  clear hq hz
  go_enter Tryz.func120, Tryz.ntmps120
  go_wp2_with fail
  refine wp_loop_rounds 3 ?_
  rw [rounds_succ]
  by_cases h0 : 0 < u.size
  · have hnx : ∀ ty, (Instr.next (.pointer (some ⟨w.heap.size, 0, none⟩)) true ty).run Tryz.prog (w.iter u 0) = _ := fun ty => run_next_any w u 0 ty h0
    have hr := (at_told u 0)
    obtain ⟨x, hx⟩ : ∃ x, x = rn u 0 := ⟨_, rfl⟩
    obtain ⟨d, hd⟩ : ∃ d, d = wd u 0 := ⟨_, rfl⟩
    have hdr := wd_room u 0 h0
    have hdp := wd_pos u 0
    rw [← hd] at hdr hdp
    rw [show (Utf8.decode u 0).1 = x from hx.symm, show 0 + (Utf8.decode u 0).2 = d by rw [Nat.zero_add]; exact hd.symm] at hnx
    have hq := unhide HQ
    rw [← hx, ← hd, if_neg (by omega)] at hq
    clear HQ
    by_cases hlow : x < 32 ∨ x = 39 ∨ x = 127
    · rw [if_pos hlow] at hq
      have HQ := hide hq
      clear hq hr hd hx
      have hb : Below w.heap.size w (w.iter u d) := (Below.refl _ w).alloc (Nat.le_refl _) _
      have HB := hide hb
      clear hb
      rcases hlow with h | h | h
      · have h' : (x : Int) < 32 := by omega
        clear h
        go_wp2_with fail
        go_ret3
        exact ⟨by rw [unhide HQ]; rfl, unhide HB⟩
      · have h' : ¬ (x : Int) < 32 := by omega
        have h'' : ((x : Int) == 39) = true := by rw [beq_iff_eq]; omega
        clear h
        go_wp2_with fail
        go_ret3
        exact ⟨by rw [unhide HQ]; rfl, unhide HB⟩
      · have h' : ¬ (x : Int) < 32 := by omega
        have h'' : ((x : Int) == 39) = false := by rw [beq_eq_false_iff_ne]; omega
        have h3 : ((x : Int) == 127) = true := by rw [beq_iff_eq]; omega
        clear h
        go_wp2_with fail
        go_ret3
        exact ⟨by rw [unhide HQ]; rfl, unhide HB⟩
    · rw [if_neg hlow] at hq
      have h1 : ¬ (x : Int) < 32 := by omega
      have h2 : ((x : Int) == 39) = false := by rw [beq_eq_false_iff_ne]; omega
      have h3 : ((x : Int) == 127) = false := by rw [beq_eq_false_iff_ne]; omega
      clear hlow
      have HQ := hide hq
      clear hq hr
      have hu1 : u.size ≤ maxLen := by have := unhide HZ; unfold maxLen; omega
      have hu2 : u.size ≤ 4611686018427387904 := by have := unhide HZ; omega
      have hb : Below w.heap.size w (w.iter u d) := (Below.refl _ w).alloc (Nat.le_refl _) _
      have hit : (w.iter u d).heap[w.heap.size]? = some (.stringIter u d) := World.alloc_heap_new w _
      have hsz : (w.iter u d).heap.size = w.heap.size + 1 := World.size_alloc w _
      have HB := hide hb
      have HIT := hide hit
      have HSZ := hide hsz
      have HX := hide hx
      have HD := hide hd
      clear hb hit hsz hx hd
      go_wp2_with fail
      refine (whole_any u hu1 _).mono ?_
      rintro e w1 ⟨rfl, hb1⟩
      have HB1 := hide ((unhide HB).trans (hb1.mono (unhide HB).size))
      have HIT1 : Hz (w1.heap[w.heap.size]? = some (.stringIter u d)) := hide ((hb1.block _ (by rw [unhide HSZ]; omega)).trans (unhide HIT))
      clear hb1 HB HIT HSZ hnx
      cases hwh : wholeB u with
      | false =>
        have hq := unhide HQ
        rw [if_pos hwh] at hq
        have HQ2 := hide hq
        clear hq HQ hwh
        go_wp2_with fail
        refine (begun_text u hu2 _).mono ?_
        rintro e w2 ⟨rfl, hb2⟩
        have HB2 := hide ((unhide HB1).trans (hb2.mono (unhide HB1).size))
        have hbl : begLen u ≤ u.size := (scanTo_le _ (Nat.zero_le _)).2
        have hbl' : (begLen u : Int) ≤ 4611686018427387904 := by omega
        clear hb2
        go_wp2_with fail
        go_ret3
        exact ⟨by rw [unhide HQ2]; go_num, unhide HB2⟩
      | true =>
        have hq := unhide HQ
        rw [if_neg (by rw [hwh]; decide)] at hq
        clear HQ hwh
        have HQ := hide hq
        clear hq
        go_wp2_with fail
        rw [rounds_succ]
        by_cases hdu : d < u.size
        · have hnx : ∀ ty, (Instr.next (.pointer (some ⟨w.heap.size, 0, none⟩)) true ty).run Tryz.prog w1 = _ := fun ty => Lib.run_next_any_at w1 w.heap.size u d ty (unhide HIT1) hdu
          obtain ⟨y, hy⟩ : ∃ y, y = rn u d := ⟨_, rfl⟩
          rw [show (Utf8.decode u d).1 = y from hy.symm] at hnx
          have hq := unhide HQ
          rw [if_neg (by omega), ← hy] at hq
          have hB2 : Below w.heap.size w (w1.iterAt w.heap.size u (d + (Utf8.decode u d).2)) := (unhide HB1).trans (below_put w1 (Nat.le_refl _) _)
          have HB2 := hide hB2
          have hd0 : (0 : Int) < (d : Int) := by omega
          have hdb : (d : Int) ≤ 4611686018427387904 := by omega
          clear HQ hy hB2
          by_cases h39 : y = 39
          · rw [if_pos h39] at hq
            have HQ2 := hide hq
            have h' : ((y : Int) == 39) = true := by rw [beq_iff_eq]; omega
            clear hq h39
            go_wp2_with fail
            go_ret3
            exact ⟨by rw [unhide HQ2]; exact tupR_mk (by omega), unhide HB2⟩
          · rw [if_neg h39] at hq
            have HQ2 := hide hq
            have h' : ((y : Int) == 39) = false := by rw [beq_eq_false_iff_ne]; omega
            clear hq h39
            go_wp2_with fail
            go_ret3
            exact ⟨by rw [unhide HQ2]; exact tupR_mk (a := 0) (by omega), unhide HB2⟩
        · have hnx : ∀ ty, (Instr.next (.pointer (some ⟨w.heap.size, 0, none⟩)) true ty).run Tryz.prog w1 = _ := fun ty => Lib.run_next_end_at w1 w.heap.size u d ty (unhide HIT1) hdu
          have hq := unhide HQ
          rw [if_pos (by omega)] at hq
          have HQ2 := hide hq
          clear hq HQ
          go_wp2_with fail
          go_ret3
          exact ⟨by rw [unhide HQ2]; rfl, unhide HB1⟩
  · have hu0 : u.size = 0 := by omega
    have hnx : ∀ ty, (Instr.next (.pointer (some ⟨w.heap.size, 0, none⟩)) true ty).run Tryz.prog (w.iter u 0) = _ := fun ty => run_next_end w u 0 ty h0
    have hq := unhide HQ
    rw [if_pos hu0] at hq
    have HQ2 := hide hq
    have hb : Below w.heap.size w (w.iter u 0) := (Below.refl _ w).alloc (Nat.le_refl _) _
    have HB := hide hb
    clear hq hb HQ hu0
    go_wp2_with fail
    go_ret3
    exact ⟨by rw [unhide HQ2]; rfl, unhide HB⟩
end Go.Proofs.YtbefahknbdjnpaaGreatDoor
/- remark: a remark's bytes, or what stands ahead of what is wrong in it. -/
namespace Go.Proofs.YtbefahknbdjnpaaGreatDoor
open Go.RowKit Go.Shelf
set_option linter.unusedVariables false
theorem cut_sh (s sep : ByteArray) (m : Int) (w : World) (hs : s.size < 4294967281) (hm : w.cell? ⟨7, 0, none⟩ = some (.int .i64 m)) :
    Calls Tryz.prog 177 #[.string s, .string sep] w fun e w' => e = .returned (.tuple #[.string ⟨(Lib.cut s.data.toList sep.data.toList).1.toArray⟩, .string ⟨(Lib.cut s.data.toList sep.data.toList).2.1.toArray⟩, .bool (Lib.cut s.data.toList sep.data.toList).2.2]) ∧ ∃ n, w' = w.drewN n := Any.strings_Cut lay145 s sep m w hs hm
/-- Where the first line ends. -/
def nlAt (t : ByteArray) : Nat := scanTo (fun n => !decide (bt t n = 10)) t.size 0
theorem nlAt_le (t : ByteArray) : nlAt t ≤ t.size := (scanTo_le _ (Nat.zero_le _)).2
theorem scanTo_all {p : Nat → Bool} {hi m : Nat} : ∀ k n, m = n + k → m ≤ hi → (∀ j, n ≤ j → j < m → p j = true) → scanTo p hi n = scanTo p hi m
  | 0, n, h, _, _ => by rw [h]; rfl
  | k + 1, n, h, hm, hp => by
    rw [scanTo_go (by omega) (hp n (Nat.le_refl _) (by omega))]
    exact scanTo_all k (n + 1) (by omega) hm (fun j h1 h2 => hp j (by omega) h2)
theorem bt_list (t : ByteArray) (k : Nat) (h : k < t.size) : t.data.toList[k]? = some (t.get! k) := by
  rw [get_lt t k h]; simp
theorem cut_nl (t : ByteArray) : (⟨(Lib.cut t.data.toList [10]).1.toArray⟩ : ByteArray) = t.extract 0 (nlAt t) := by
  have hx := Lib.index_one t.data.toList 10
  have hlen : t.data.toList.length = t.size := Array.length_toList
  unfold Lib.cut
  rw [hx]
  by_cases h : 0 ≤ Lib.indexByte t.data.toList 10
  · obtain ⟨o, ho⟩ : ∃ o : Nat, Lib.indexByte t.data.toList 10 = o := ⟨(Lib.indexByte t.data.toList 10).toNat, by omega⟩
    obtain ⟨h1, h2⟩ := Lib.indexByte_some ho
    have hos : o < t.size := by rw [← hlen]; exact (List.getElem?_eq_some_iff.1 h1).1
    have e : nlAt t = o := by
      unfold nlAt
      rw [scanTo_all (m := o) o 0 (by omega) (by omega) (fun j _ hj => ?_), scanTo_no ?_]
      · rw [bt_list t o hos] at h1
        have : t.get! o = 10 := Option.some.inj h1
        unfold bt
        rw [this]; rfl
      · have := h2 j hj
        rw [bt_list t j (by omega)] at this
        have hn : t.get! j ≠ 10 := fun e => this (by rw [e])
        have : ¬ bt t j = 10 := fun e => hn (UInt8.toNat.inj (by unfold bt at e; rw [e]; rfl))
        simp [this]
    rw [if_pos h, ho, e]
    apply ByteArray.ext
    rw [ByteArray.data_extract]
    apply Array.toList_inj.1
    simp [Array.toList_extract, List.extract]
  · have hn : Lib.indexByte t.data.toList 10 = -1 := by have := Lib.indexByte_ge t.data.toList 10; omega
    have h2 := Lib.indexByte_none hn
    have e : nlAt t = t.size := by
      unfold nlAt
      rw [scanTo_all (m := t.size) t.size 0 (by omega) (by omega) (fun j _ hj => ?_), scanTo_end (by omega)]
      have := h2 j
      rw [bt_list t j hj] at this
      have hn : t.get! j ≠ 10 := fun e => this (by rw [e])
      have : ¬ bt t j = 10 := fun e => hn (UInt8.toNat.inj (by unfold bt at e; rw [e]; rfl))
      simp [this]
    rw [if_neg h, e, ByteArray.extract_zero_size]
/-- The first bad spot. -/
def badOf (s : ByteArray) : Option Nat := (starts s).find? (badB s)
theorem validV_some {s : ByteArray} {x : Nat} (h : badOf s = some x) : ∃ y : Nat, validV s = .tuple #[.agg #[.int .i64 x, .int .i64 y], .bool false] := by
  obtain ⟨hb, q, r, e, hq⟩ := List.find?_eq_some_iff_append.1 h
  refine ⟨q.length, ?_⟩
  unfold validV
  rw [e, validFrom_some s x r hb q 0 (fun i hi => by simpa using hq i hi), Nat.zero_add]
theorem validV_none {s : ByteArray} (h : badOf s = none) : validV s = .tuple #[.agg #[.int .i64 0, .int .i64 0], .bool true] := by
  unfold validV
  exact validFrom_none s _ 0 (fun i hi => by simpa using List.find?_eq_none.1 h i hi)
/-- The remark's bytes, and whether it is right. -/
def remV (t : ByteArray) : Nat × Bool :=
  match badOf (t.extract 0 (nlAt t)) with
  | none => ((t.extract 0 (nlAt t)).size, true)
  | some x => (x + begLen ((t.extract 0 (nlAt t)).extract x (t.extract 0 (nlAt t)).size), false)
abbrev tupB (x : Nat × Bool) : Value := .tuple #[.int .i64 x.1, .bool x.2]
theorem tupB_mk {n : Nat} {i : Int} {b : Bool} (h : i = n) : Ending.returned (.tuple #[.int .i64 i, .bool b]) = .returned (tupB (n, b)) := by subst h; rfl
theorem wrap_i64 {n : Int} (h1 : -9223372036854775808 ≤ n) (h2 : n ≤ 9223372036854775807) : IntKind.i64.wrap n = n := by
  simp [IntKind.wrap, IntKind.bits, IntKind.signed]
  omega
end Go.Proofs.YtbefahknbdjnpaaGreatDoor
/- The reference's own Sequence, told for every text: the width and the rune of the decoding, or nothing where it is bad. -/
namespace Go.Proofs.YtbefahknbdjnpaaGreatDoor
open Go.RowKit Go.Shelf
set_option linter.unusedVariables false

/-- A bound for the rune's bits. -/
def bndOf (k : Nat) : Nat := if k = 1 then 32 else if k = 2 then 2048 else if k = 3 then 131072 else 8388608
theorem bnd_step (k A c : Nat) (h1 : 1 ≤ k) (h4 : k < 4) (hA : A < bndOf k) : A < 33554432 ∧ A * 64 + c % 64 < bndOf (k + 1) := by
  have : k = 1 ∨ k = 2 ∨ k = 3 := by omega
  rcases this with rfl | rfl | rfl <;> simp [bndOf] at hA ⊢ <;> omega
theorem step_bits (A c : Nat) (hA : A < 33554432) : bits BinOp.or IntKind.i32 (wrap32 (↑A * 64)) (↑c % 64) = ((A * 64 + c % 64 : Nat) : Int) := by
  rw [show wrap32 ((A : Int) * 64) = (A : Int) * 64 by unfold wrap32; omega]
  have h := i32_or6 ((A : Int) * 64) ((c : Int) % 64) (by omega) (by omega) (by omega) (by omega) (by omega)
  rw [h]
  omega

theorem and7 (b : Nat) (h : b < 256) : bits BinOp.and IntKind.u8 (b : Int) 7 = (b : Int) % 8 := by
  have e := u8_and_nat b 7 h (by omega)
  rw [show ((7 : Nat) : Int) = 7 from rfl] at e
  rw [e, show (7 : Nat) = 2 ^ 3 - 1 from rfl, Nat.and_two_pow_sub_one_eq_mod]
  omega

end Go.Proofs.YtbefahknbdjnpaaGreatDoor
/- The reference's Sequence once more: leading bytes of four, and all texts together. -/
namespace Go.Proofs.YtbefahknbdjnpaaGreatDoor
open Go.RowKit Go.Shelf
set_option linter.unusedVariables false

end Go.Proofs.YtbefahknbdjnpaaGreatDoor
/- The reference's own list of spots, told for every text that is not too great: a new list, spot by spot, the decoding's. -/
namespace Go.Proofs.YtbefahknbdjnpaaGreatDoor
open Go.RowKit Go.Shelf
set_option linter.unusedVariables false

/-- The cells of the reference's spot at i. -/
def refCells (s : ByteArray) (i : Nat) : List Value := [.int .i32 (rn s i), .int .i64 i, .int .i64 (wd s i), .bool (decide (rn s i = 65533 ∧ wd s i = 1))]
theorem seqV_at (s : ByteArray) (i : Nat) (h : i < s.size) : seqV (s.extract i s.size) = if rn s i = 65533 ∧ wd s i = 1 then (0, 0) else ((wd s i : Int), (rn s i : Int)) := by
  unfold seqV
  have e : (s.extract i s.size).size ≠ 0 := by rw [ByteArray.size_extract]; omega
  simp only [rn, wd, decode_suffix s i 0 (Nat.le_of_lt h), Nat.add_zero, e, false_or]

theorem own_lt {W : World} {base : Nat} {e : TypeId} {size : Nat} {v : Value} {n : Nat} {xs : List Value} (h : W.ownsRow base e size v n xs) : ∀ g, v.ownBlock = some g → base ≤ g ∧ g < W.heap.size := by
  intro g hg
  rcases h.2 with ⟨rfl, _⟩ | ⟨g', cap, cur, rfl, hb, hh, _⟩
  · cases hg
  · cases hg
    exact ⟨hb, (Array.getElem?_eq_some_iff.1 hh).1⟩
theorem new_cells (W : World) (c0 c1 c2 c3 : Value) (t : TypeId) : ∀ j u, [c0, c1, c2, c3][j]? = some u → (W.alloc (.cells #[c0, c1, c2, c3] t)).cell? ((⟨W.heap.size, 0, none⟩ : Addr).add j) = some u := by
  intro j u hj
  have := (Blk.new W #[c0, c1, c2, c3] t).cell j
  rw [show (⟨W.heap.size, 0, none⟩ : Addr).add j = ⟨W.heap.size, j, none⟩ by unfold Addr.add; split <;> simp_all, this, ← hj]
  simp

end Go.Proofs.YtbefahknbdjnpaaGreatDoor
