/- Texts of this claim, one behind the other. -/
import Derived.Test.YtemmflhofhngbaaM1
import Derived.RangeFuncNested
import Derived.Test.YtemmflhofhngbaaM4
import Derived.RangeFuncLeaves
import Derived.Shelf.RegionOpen
import Derived.Test.YtemmflhofhngbaaM6
import Derived.Test.YtemmflhofhngbaaM5
/- A range over a function that may hold ranges of its own: the caller's state speaks of blocks older than the call alone; a round leaves all that is newer as it is. -/
namespace Go.Proofs.Ytemmflhofhngbaa
open Go.RowKit Go.Shelf
set_option linter.unusedVariables false
/-- All blocks from B on are as they were. -/
structure Above (B : Nat) (W W' : World) : Prop where
  size : W.heap.size ≤ W'.heap.size
  same : ∀ k, B ≤ k → k < W.heap.size → W'.heap[k]? = W.heap[k]?
theorem Above.refl (B : Nat) (W : World) : Above B W W := ⟨Nat.le_refl _, fun _ _ _ => rfl⟩
theorem Above.trans {B : Nat} {X Y Z : World} (h : Above B X Y) (k : Above B Y Z) : Above B X Z := ⟨Nat.le_trans h.size k.size, fun i hB hi => (k.same i hB (by have := h.size; omega)).trans (h.same i hB hi)⟩
theorem Above.mono {B B' : Nat} {X Y : World} (h : Above B X Y) (hB : B ≤ B') : Above B' X Y := ⟨h.size, fun i hi hk => h.same i (by omega) hk⟩
theorem Above.below {B : Nat} {X Y : World} (h : Below X.heap.size X Y) : Above B X Y := ⟨h.size, fun k _ hk => h.block k hk⟩
theorem Above.alloc {B : Nat} {X Y : World} (h : Above B X Y) (o : Obj) : Above B X (Y.alloc o) := h.trans ⟨by simp, fun k _ hk => Below.heap_alloc Y o k hk⟩
theorem Above.set {B b i : Nat} {X Y : World} (h : Above B X Y) (hb : b < B) (v : Value) : Above B X (Y.setCell ⟨b, i, none⟩ v) := h.trans ⟨(KeepsWalks.setCell Y _ v).size, fun k hk _ => Below.heap_setCell Y ⟨b, i, none⟩ v k (by show k ≠ b; omega)⟩
theorem Above.put {B l : Nat} {X Y : World} (h : Above B X Y) (hl : l < B) (o : Obj) : Above B X (Y.putObj l o) := h.trans ⟨by simp, fun k hk _ => World.putObj_heap_other (by omega)⟩
theorem Above.drew {B : Nat} {X Y : World} (h : Above B X Y) : Above B X Y.drew := ⟨h.size, h.same⟩
theorem below_put {B l : Nat} (W : World) (hl : B ≤ l) (o : Obj) : Below B W (W.putObj l o) := ⟨rfl, rfl, rfl, by simp, fun k hk => World.putObj_heap_other (by omega)⟩
/-- What speaks of blocks below B alone. -/
def Old {β : Type} (B : Nat) (I : β → World → Prop) : Prop := ∀ s X Y, I s X → Below B X Y → I s Y
theorem Old.mono {β : Type} {B B' : Nat} {I : β → World → Prop} (h : Old B I) (hB : B ≤ B') : Old B' I := fun s X Y hs hb => h s X Y hs (hb.mono hB)
/-- The word of an iterator. -/
def SeqDeep {α : Type} (F : Fence) (n : Nat) (P : Program) (g : Nat) (lb : Array Value) (encs : α → Array Value) (Kp : World → World → Prop) (S Sp : List α → Prop) (Nx : List α → α → Prop) (w : World) : Prop :=
  ∀ (l : Nat) (J Jx : List α → World → Prop) (W : World), Below w.heap.size w W → Old W.heap.size J → Old W.heap.size Jx →
    (∀ pre x W1, J pre W1 → Nx pre x → W.heap.size ≤ W1.heap.size → YieldAt F (n - 1) P l (encs x) W1 fun e W' => Above W.heap.size W1 W' ∧
      ((e = .returned (.bool true) ∧ J (pre ++ [x]) W' ∧ Kp W1 W') ∨ (e = .returned (.bool false) ∧ Jx (pre ++ [x]) W'))) →
    J [] W → CallsIn F n P g (#[.func (.yield l) #[] #[]] ++ lb) W fun e W' => (∃ v, e = .returned v) ∧ ((∃ xs, S xs ∧ J xs W') ∨ (∃ pre, Sp pre ∧ Jx pre W'))
/-- How a round may be left. -/
def deepPost {α : Type} (B : Nat) (Kp : World → World → Prop) (I : List α → World → Prop) (Ix : Code → List α → World → Prop) (xs : List α) (W : World) : Exit → Act → World → Prop
  | .normal, _, W' => Above B W W' ∧ Kp W W' ∧ I xs W'
  | .ret, _, W' => Above B W W' ∧ Ix .ret xs W'
  | .exit id, _, W' => Above B W W' ∧ Ix (.exit id) xs W'
  | .goto t, _, W' => Above B W W' ∧ Ix (.goto t) xs W'
  | .panic _, _, _ => False
  | .outgrown, _, _ => False
section
variable {F : Fence} {n : Nat} {P : Program}
/-- The end of a round: the record says how. -/
theorem end_round {l D : Nat} {r : Loop} {Wr W3 : World} {B : Nat} (hl : Wr.heap[l]? = some (.loop r)) (hD : Wr.heap[D]? = some (.deferred (some []))) (hlD : l ≠ D) (hBl : B ≤ l) (hBD : B ≤ D) (h : Above B Wr W3) (jump : Option Code) :
    (Instr.endRound l jump).run P W3 = .ok (.bool jump.isNone) (W3.putObj l (.loop { r with state := if jump.isNone then .ready else .done, pending := jump })) ∧
    (W3.putObj l (.loop { r with state := if jump.isNone then .ready else .done, pending := jump })).heap[l]? = some (.loop { r with state := if jump.isNone then .ready else .done, pending := jump }) ∧
    (W3.putObj l (.loop { r with state := if jump.isNone then .ready else .done, pending := jump })).heap[D]? = some (.deferred (some [])) := by
  have h1 := (h.same l hBl (Array.getElem?_eq_some_iff.1 hl).1).trans hl
  have h2 := (h.same D hBD (Array.getElem?_eq_some_iff.1 hD).1).trans hD
  exact ⟨run_endRound jump h1, World.putObj_heap_same (Array.getElem?_eq_some_iff.1 h1).1, (World.putObj_heap_other (Ne.symm hlD)).trans h2⟩
/-- The record of the loop and the block for its rounds' calls. -/
def Booked (B : Nat) (st : LoopState) (pe : Option Code) (r : Loop) (W : World) : Prop := W.heap[B + 1]? = some (.loop { r with state := st, pending := pe }) ∧ W.heap[B]? = some (.deferred (some []))
theorem Booked.below {B : Nat} {st : LoopState} {pe : Option Code} {r : Loop} {X Y : World} (h : Booked B st pe r X) (hb : Below (B + 2) X Y) : Booked B st pe r Y := ⟨(hb.block _ (by omega)).trans h.1, (hb.block _ (by omega)).trans h.2⟩
theorem range_deep {α : Type} {g : Operand} {ps : Array Tmp} {assign body : Code} {Q : Exit → Act → World → Prop} {a : Act} {w : World}
    (hro : F.round = none) (h1 : 1 ≤ n) {gf : Nat} {lb : Array Value} (hg : a.eval g = .func (.func gf) #[] lb) (hFg : F.fn gf) (eg : ∀ args w, (callFunc gf args).run P w = .ok (.enter gf args) w)
    {encs : α → Array Value} {Kp : World → World → Prop} {S Sp : List α → Prop} {Nx : List α → α → Prop} {w0 : World} (hseq : SeqDeep F (n - 1) P gf lb encs Kp S Sp Nx w0)
    (hKt : ∀ {A B C : World}, Kp A B → Kp B C → Kp A C) (hKb : ∀ (W : World) (l : Nat) (o : Obj), w.heap.size ≤ l → Kp W (W.putObj l o)) (hb0 : Below w0.heap.size w0 w) (hps : ∀ x, (encs x).size = ps.size)
    (I : List α → World → Prop) (Ix : Code → List α → World → Prop) (hI : Old w.heap.size I) (hIx : ∀ c, Old w.heap.size (Ix c)) (h0 : I [] w)
    (hround : ∀ (pre : List α) (x : α) (W : World), I pre W → Nx pre x → w.heap.size + 2 ≤ W.heap.size →
      assign.wpIn (F.inRound (w.heap.size + 1)) (n - 1 - 1) P (Exit.then (fun a' Wa => Above w.heap.size W Wa ∧ Kp W Wa ∧ I pre Wa ∧
        (∀ Wr, Wa.grownBy Wr (some (w.heap.size + 1)) → Wr.heap.size = Wa.heap.size → I pre Wr → body.wpIn (F.inRound (w.heap.size + 1)) (n - 1 - 1) P (deepPost w.heap.size Kp I Ix (pre ++ [x]) Wr) a' Wr)) (fun _ _ _ => False))
        { tmps := (ps.zip (encs x)).foldl (fun t (p, v) => t.setIfInBounds p v) a.tmps, defers := [] } W)
    (hdone : ∀ (D : Nat) (xs : List α) (W : World), w.heap.size ≤ D → S xs → I xs W → W.heap[D]? = some (.deferred (some [])) → Q .normal { a with defers := { target := .collected D, args := #[] } :: a.defers } W)
    (hstop : ∀ (D : Nat) (c : Code) (pre : List α) (W : World), w.heap.size ≤ D → Sp pre → Ix c pre W → W.heap[D]? = some (.deferred (some [])) → c.wpIn F n P Q { a with defers := { target := .collected D, args := #[] } :: a.defers } W) :
    (Code.rangeFunc g ps assign body).wpIn F n P Q a w := by
  refine wpIn_rangeFunc fun fn hfn => ?_
  rw [hro]
  obtain ⟨r, hr⟩ : ∃ r : Loop, r = { state := .ready, pending := none, fn, tmps := a.tmps, params := ps, assign, body, defers := w.heap.size } := ⟨_, rfl⟩
  have r1 : r.state = .ready := by rw [hr]
  have r2 : r.pending = none := by rw [hr]
  obtain ⟨W1, hW1⟩ : ∃ W1, W1 = (w.alloc (.deferred (some []))).alloc (.loop r) := ⟨_, rfl⟩
  have hsz : W1.heap.size = w.heap.size + 2 := by rw [hW1]; simp
  have hbw : Below w.heap.size w W1 := by rw [hW1]; exact ((Below.refl _ w).alloc (Nat.le_refl _) _).alloc (by simp) _
  have hre : { r with state := .ready, pending := none } = r := by rw [hr]
  have hbk : Booked w.heap.size .ready none r W1 := by
    refine ⟨?_, ?_⟩
    · rw [hre, hW1]
      have := World.alloc_heap_new (w.alloc (.deferred (some []))) (.loop r)
      rwa [World.size_alloc] at this
    · rw [hW1]
      exact (Below.heap_alloc _ _ _ (by simp)).trans (World.alloc_heap_new w _)
  refine ⟨w.heap.size + 1, [{ target := .collected w.heap.size, args := #[] }], W1, { target := .fn (.func gf) lb, args := #[.func (.yield (w.heap.size + 1)) #[] #[]] }, W1, gf, #[.func (.yield (w.heap.size + 1)) #[] #[]] ++ lb, W1, ?_, ?_, ?_, ?_, fun _ => h1, ?_⟩
  · rw [hW1, hr]
    exact run_enterLoop_outer _ _ _ _ _
  · simp only [resolve, hg]
    simp [go_sem]
  · intro f' hf'
    simp [Target.leads] at hf'
    subst hf'
    exact hFg
  · simp [invoke, go_sem, eg]
  · refine (hseq (w.heap.size + 1) (fun pre W => I pre W ∧ Booked w.heap.size .ready none r W) (fun pre W => ∃ c, Ix c pre W ∧ Booked w.heap.size .done (some c) r W) W1 (hb0.trans (hbw.mono hb0.size))
      (fun s X Y hs hb => ⟨hI s X Y hs.1 (hb.mono (by omega)), hs.2.below (by rw [← hsz]; exact hb)⟩)
      (fun s X Y hs hb => by obtain ⟨c, h1, h2⟩ := hs; exact ⟨c, hIx c s X Y h1 (hb.mono (by omega)), h2.below (by rw [← hsz]; exact hb)⟩) ?_ ⟨hI [] w W1 h0 hbw, hbk⟩).mono ?_
    · rintro pre x W ⟨hi, hl, hd⟩ hlen hge
      rw [hre] at hl
      have hy := run_yield (P := P) (args := encs x) hl (by rw [hr]; exact hps x)
      refine ⟨r.fn, _, r.assign, r.body, hy, roundIn_of_wpIn (by rw [hr]; exact hfn) ?_⟩
      rw [show r.params = ps by rw [hr], show r.tmps = a.tmps by rw [hr], show r.assign = assign by rw [hr], show r.body = body by rw [hr]]
      refine wpIn_mono (hround pre x W hi hlen (by omega)) ?_
      intro e a' Wa hp
      cases e with
      | normal =>
        obtain ⟨hab, hkp, hia, hgo⟩ := hp
        have hl' := (hab.same _ (by omega) (Array.getElem?_eq_some_iff.1 hl).1).trans hl
        have hd' := (hab.same _ (Nat.le_refl _) (Array.getElem?_eq_some_iff.1 hd).1).trans hd
        refine ⟨_, run_beginRound hl' r1, ?_⟩
        have hgw := grownBy_putObj' Wa (w.heap.size + 1) (.loop { r with state := .busy })
        obtain ⟨Wr, hWr⟩ : ∃ Wr, Wr = Wa.putObj (w.heap.size + 1) (.loop { r with state := .busy }) := ⟨_, rfl⟩
        rw [← hWr] at hgw ⊢
        have hlr : Wr.heap[w.heap.size + 1]? = some (.loop { r with state := .busy }) := by rw [hWr]; exact World.putObj_heap_same (Array.getElem?_eq_some_iff.1 hl').1
        have hdr : Wr.heap[w.heap.size]? = some (.deferred (some [])) := by rw [hWr]; exact (World.putObj_heap_other (by omega)).trans hd'
        have hkr : Kp Wa Wr := by rw [hWr]; exact hKb _ _ _ (by omega)
        have har : Above W1.heap.size W Wr := by rw [hWr]; exact (hab.mono (by omega)).put (by omega) _
        have hir : I pre Wr := hI _ _ _ hia (by rw [hWr]; exact below_put Wa (by omega) _)
        refine wpIn_mono (hgo Wr hgw (by rw [hWr]; simp) hir) ?_
        intro e a3 W3 hp
        have fin : ∀ jump : Option Code, Above w.heap.size Wr W3 → (Instr.endRound (w.heap.size + 1) jump).run P W3 = .ok (.bool jump.isNone) (W3.putObj (w.heap.size + 1) (.loop { r with state := if jump.isNone then .ready else .done, pending := jump })) ∧ Booked w.heap.size (if jump.isNone then .ready else .done) jump r (W3.putObj (w.heap.size + 1) (.loop { r with state := if jump.isNone then .ready else .done, pending := jump })) ∧ Above W1.heap.size W (W3.putObj (w.heap.size + 1) (.loop { r with state := if jump.isNone then .ready else .done, pending := jump })) := fun jump h => by
          have q := end_round (P := P) hlr hdr (by omega) (by omega) (Nat.le_refl _) h jump
          exact ⟨q.1, ⟨q.2.1, q.2.2⟩, (har.trans (h.mono (by omega))).put (by omega) _⟩
        cases e with
        | normal =>
          obtain ⟨p1, p2, p3⟩ := hp
          obtain ⟨q1, q2, q3⟩ := fin none p1
          exact ⟨_, _, q1, q3, .inl ⟨rfl, ⟨hI _ _ _ p3 (below_put W3 (by omega) _), q2⟩, hKt hkp (hKt hkr (hKt p2 (hKb _ _ _ (by omega))))⟩⟩
        | ret =>
          obtain ⟨p1, p3⟩ := hp
          obtain ⟨q1, q2, q3⟩ := fin (some .ret) p1
          exact ⟨_, _, q1, q3, .inr ⟨rfl, .ret, hIx _ _ _ _ p3 (below_put W3 (by omega) _), q2⟩⟩
        | exit id =>
          obtain ⟨p1, p3⟩ := hp
          obtain ⟨q1, q2, q3⟩ := fin (some (.exit id)) p1
          exact ⟨_, _, q1, q3, .inr ⟨rfl, .exit id, hIx _ _ _ _ p3 (below_put W3 (by omega) _), q2⟩⟩
        | goto t =>
          obtain ⟨p1, p3⟩ := hp
          obtain ⟨q1, q2, q3⟩ := fin (some (.goto t)) p1
          exact ⟨_, _, q1, q3, .inr ⟨rfl, .goto t, hIx _ _ _ _ p3 (below_put W3 (by omega) _), q2⟩⟩
        | panic ch => exact hp.elim
        | outgrown => exact hp.elim
      | ret => exact hp.elim
      | exit id => exact hp.elim
      | goto t => exact hp.elim
      | panic ch => exact hp.elim
      | outgrown => exact hp.elim
    · rintro e W2 ⟨⟨v, rfl⟩, (⟨xs, hS, hi, hb⟩ | ⟨pre, hSp, c, hi, hb⟩)⟩
      · exact ⟨none, _, run_endLoop (P := P) hb.1 (by simp), hdone _ xs _ (Nat.le_refl _) hS (hI _ _ _ hi (below_put W2 (by omega) _)) ((World.putObj_heap_other (by omega)).trans hb.2)⟩
      · exact ⟨some c, _, run_endLoop (P := P) hb.1 (by simp), hstop _ c pre _ (Nat.le_refl _) hSp (hIx c _ _ _ hi (below_put W2 (by omega) _)) ((World.putObj_heap_other (by omega)).trans hb.2)⟩
end
end Go.Proofs.Ytemmflhofhngbaa
/- The function that All hands back, as an iterator: it hands out the runes of the set, rising. -/
namespace Go.Proofs.Ytemmflhofhngbaa
open Go.RowKit Go.Shelf
attribute [local go_sem] Oper.semAt_some
set_option linter.unusedVariables false
/-- All that lay in w lies as it lay. -/
def Kept (w W : World) : Prop := w.heap.size ≤ W.heap.size ∧ ∀ k, k < w.heap.size → W.heap[k]? = w.heap[k]?
theorem Kept.of {w W : World} (h : Below w.heap.size w W) : Kept w W := ⟨h.size, h.block⟩
theorem Kept.cell {w W : World} (h : Kept w W) {p : Addr} {v : Value} (hv : w.cell? p = some v) : W.cell? p = some v := (World.cell?_of_block (h.2 p.block (cell_lt hv))).trans hv
theorem Kept.below {w W W' : World} {B : Nat} (h : Kept w W) (hb : Below B W W') (hB : w.heap.size ≤ B) : Kept w W' := ⟨Nat.le_trans h.1 hb.size, fun k hk => (hb.block k (by omega)).trans (h.2 k hk)⟩
/-- What a round keeps: what is older than b. -/
def KpB (b : Nat) (W W' : World) : Prop := ∀ k, k < b → W'.heap[k]? = W.heap[k]?
theorem KpB_t {b : Nat} {A B C : World} (h : KpB b A B) (k : KpB b B C) : KpB b A C := fun i hi => (k i hi).trans (h i hi)
theorem KpB_b {b : Nat} (W : World) (l : Nat) (o : Obj) (hl : b ≤ l) : KpB b W (W.putObj l o) := fun i hi => World.putObj_heap_other (by omega)
theorem Kept.kp {w W W' : World} (h : Kept w W) (hk : KpB w.heap.size W W') (hs : W.heap.size ≤ W'.heap.size) : Kept w W' := ⟨Nat.le_trans h.1 hs, fun k hk' => (hk k hk').trans (h.2 k hk')⟩
/-- One rune. -/
abbrev encsR (zs : List (Int × Int)) (m : Nat) : Array Value := #[.int .i32 (nthOf zs m)]
def tot (zs : List (Int × Int)) : Nat := (total zs).toNat
theorem tot_eq {zs : List (Int × Int)} (h : RightL zs) : (tot zs : Int) = total zs := by have := (total_bound h).1; unfold tot; omega
theorem tot_take {zs : List (Int × Int)} (h : RightL zs) {k : Nat} {x : Int × Int} (hx : zs[k]? = some x) : (tot (zs.take (k + 1)) : Int) = tot (zs.take k) + spanSize x := by
  have h1 : RightL (zs.take (k + 1)) := fun y hy => h y (List.mem_of_mem_take hy)
  have h2 : RightL (zs.take k) := fun y hy => h y (List.mem_of_mem_take hy)
  rw [tot_eq h1, tot_eq h2, take_more hx, total_snoc]
theorem total_append : ∀ (a b : List (Int × Int)), total (a ++ b) = total a + total b
  | [], b => by simp [total]
  | x :: a, b => by rw [List.cons_append, total_cons, total_cons, total_append a b]; omega
theorem tot_le {zs : List (Int × Int)} (h : RightL zs) (k : Nat) : tot (zs.take k) ≤ tot zs := by
  have h2 : RightL (zs.take k) := fun y hy => h y (List.mem_of_mem_take hy)
  have h3 : RightL (zs.drop k) := fun y hy => h y (List.mem_of_mem_drop hy)
  have e : total zs = total (zs.take k) + total (zs.drop k) := by
    conv => lhs; rw [← List.take_append_drop k zs]
    exact total_append _ _
  have a := (total_bound h2).1
  have b := (total_bound h3).1
  unfold tot
  omega
set_option maxRecDepth 100000 in
set_option maxHeartbeats 4000000 in
theorem all_in (n l Bn B : Nat) (hn : 1 ≤ n) (zs : List (Int × Int)) (hz : zs.length ≤ 1000000) (J Jx : List Nat → World → Prop) (w W0 : World) (hw : Below w.heap.size w W0) (hs : SetAt w B zs) (hbx : w.cell? ⟨Bn, 0, none⟩ = some (.pointer (some ⟨B, 0, none⟩))) (hJ : Old W0.heap.size J)
    (hY : ∀ pre x W1, J pre W1 → (x < tot zs ∧ pre = List.range x) → W0.heap.size ≤ W1.heap.size → YieldAt Fence.wide (n - 1) Try.prog l (encsR zs x) W1 fun e W' => Above W0.heap.size W1 W' ∧
      ((e = .returned (.bool true) ∧ J (pre ++ [x]) W' ∧ KpB w.heap.size W1 W') ∨ (e = .returned (.bool false) ∧ Jx (pre ++ [x]) W')))
    (h0 : J [] W0) :
    CallsIn Fence.wide n Try.prog 44 #[.func (.yield l) #[] #[], .pointer (some ⟨Bn, 0, none⟩)] W0 fun e W' => (∃ v, e = .returned v) ∧
      ((∃ ys, ys = List.range (tot zs) ∧ J ys W') ∨ (∃ pre, (∃ m, m ≤ tot zs ∧ pre = List.range m) ∧ Jx pre W')) := by
  obtain ⟨⟨a, ca, b, cb, hb0, hp, _⟩, hsp, _⟩ := hs
  have d0 := (Kept.of hw).cell hbx
  have d1 := (Kept.of hw).cell (hb0.cell 0)
  have hRt : RightL zs := hsp.ends
  have HRt := hide hRt
  have HP := hide hp
  have HY := hide hY
  have HJ := hide hJ
  have HW := hide (Kept.of hw)
  have H0 := hide h0
  have hzi : (zs.length : Int) ≤ 1000000 := by omega
  clear hp hY hJ hw hsp hb0 hbx h0 hRt
  refine callsIn_of_wp Try.func44 rfl trivial ?_ rfl
  simp only [Try.ntmps44, List.size_toArray, List.length_cons, List.length_nil, Nat.reduceAdd, Nat.reduceSub, Array.replicate_succ, Array.replicate_zero, List.push_toArray, List.append_toArray, List.nil_append, List.cons_append]
  gi_wp2
  gi_loopw [11] (fun v wr => ∃ k : Nat, v = .int .i64 k ∧ k ≤ zs.length ∧ Hz (J (List.range (tot (zs.take k))) wr) ∧ Hz (Kept w wr) ∧ W0.heap.size ≤ wr.heap.size) (fun v _ => zs.length - (intOf v).toNat)
  case atStart => exact ⟨0, rfl, by omega, hide (by simpa [tot, total] using unhide H0), HW, Nat.le_refl _⟩
  case round =>
    obtain ⟨k, rfl, hk, HJ1, HK, hge⟩ := hrel
    by_cases hkn : k < zs.length
    · have hk1 : (k : Int) < (zs.length : Int) := by omega
      have hk2 : ((k : Nat) : Int).toNat = k := by omega
      obtain ⟨x, hx⟩ : ∃ x, zs[k]? = some x := ⟨_, List.getElem?_eq_getElem hkn⟩
      obtain ⟨g, o, rfl, hg, hc⟩ := unhide HP (by omega)
      have c0 := (unhide HK).cell (hc k x hx).1
      have c1 := (unhide HK).cell (hc k x hx).2
      have he := endsB_iff ((unhide HRt) x (List.mem_of_getElem? hx)).1
      have r1 := rank_range he.1.1 he.1.2.1
      have r2 := rank_range he.2.1 he.2.2.1
      have HT := hide (tot_take (unhide HRt) hx)
      have HTL := hide (tot_le (unhide HRt) (k + 1))
      have HNth : Hz (∀ m : Nat, tot (zs.take k) ≤ m → m < tot (zs.take (k + 1)) → nthOf zs m = rankedOf (rankOf x.1 + ((m : Int) - tot (zs.take k)))) := hide (fun m h1 h2 => by
        have e1 := tot_eq (fun y hy => unhide HRt y (List.mem_of_mem_take hy) : RightL (zs.take k))
        have e2 := unhide HT
        rw [nth_at zs k x m (unhide HRt) hx (by omega) (by omega), e1])
      have HLH : Hz (rankOf x.1 ≤ rankOf x.2) := hide ((rank_le he.1.2.2 he.2.2.2).2 ((unhide HRt) x (List.mem_of_getElem? hx)).2)
      have HSz : Hz (spanSize x = rankOf x.2 + 1 - rankOf x.1) := hide rfl
      obtain ⟨lo, hi⟩ := x
      simp only at c0 c1 he r1 r2 HT HNth HSz HLH
      have HRk := hide (fun w => rank_any lo (by omega) (by omega) w)
      have HRh := hide (fun w => rank_any hi (by omega) (by omega) w)
      have hX : Hz (Blk (wr.alloc (.cells #[.int .i32 lo, .int .i32 hi] 28)) wr.heap.size #[.int .i32 lo, .int .i32 hi] 28) := hide (Blk.new wr _ _)
      have q0 := (unhide hX).cell 0
      generalize rankOf lo = rl at *
      generalize rankOf hi = rh at *
      generalize tot (zs.take k) = t0 at *
      generalize ht1 : tot (zs.take (k + 1)) = t1 at *
      have HT1 := hide ht1
      clear ht1
      have HJa := hide (unhide HJ _ _ _ (unhide HJ1) ((Below.refl W0.heap.size wr).alloc hge (.cells #[.int .i32 lo, .int .i32 hi] 28)))
      have HKa := hide ((unhide HK).below ((Below.refl wr.heap.size wr).alloc (Nat.le_refl _) (.cells #[.int .i32 lo, .int .i32 hi] 28)) (unhide HK).1)
      clear hc hx HJ1
      gi_wp2_with fail
      refine ⟨trivial, ?_⟩
      refine (callsIn_wide.2 (unhide HRk _)).mono ?_
      rintro e W2 ⟨rfl, rfl⟩
      clear c0 c1 q0
      obtain ⟨X, hXe⟩ : ∃ X, X = wr.heap.size := ⟨_, rfl⟩
      have hXge : W0.heap.size ≤ X := by omega
      have hga : W0.heap.size ≤ (wr.alloc (.cells #[.int .i32 lo, .int .i32 hi] 28)).heap.size := by simp; omega
      have e1 : (t1 : Int) = t0 + (rh + 1 - rl) := by rw [unhide HT, unhide HSz]
      have HE1 := hide e1
      rw [← hXe] at hX
      generalize wr.alloc (.cells #[.int .i32 lo, .int .i32 hi] 28) = Wa at *
      gi_wp2
      rw [← hXe]
      clear e1 hXe
      gi_loopw [5] (fun v wr2 => ∃ m : Nat, v = .int .i64 (rl + ((m : Int) - t0)) ∧ t0 ≤ m ∧ m ≤ t1 ∧ Hz (J (List.range m) wr2) ∧ Hz (Kept w wr2) ∧ Hz (Blk wr2 X #[.int .i32 lo, .int .i32 hi] 28) ∧ W0.heap.size ≤ wr2.heap.size) (fun v _ => (rh + 1 - intOf v).toNat)
      case atStart => exact ⟨t0, by congr 1; omega, by omega, by have := unhide HE1; have := unhide HLH; omega, HJa, HKa, hX, hga⟩
      case round =>
        obtain ⟨m, rfl, hm0, hm1, HJ2, HK2, HX2, hge2⟩ := hrel
        obtain ⟨w5, hw5⟩ : ∃ w5, w5 = wr := ⟨_, rfl⟩
        have q1 := (unhide HX2).cell 1
        clear HJa HKa hX
        by_cases hmt : m < t1
        · have hle : rl + ((m : Int) - t0) ≤ rh := by have := unhide HE1; omega
          have hn0 : 0 ≤ rl + ((m : Int) - t0) := by omega
          have hn1 : rl + ((m : Int) - t0) ≤ 1112063 := by omega
          have HRd := hide (fun w => ranked_any (rl + ((m : Int) - t0)) hn0 hn1 w)
          rw [← unhide HNth m hm0 hmt] at HRd
          have HYm := hide (unhide HY (List.range m) m _ (unhide HJ2) ⟨by have := unhide HTL; omega, rfl⟩ hge2)
          gi_wp2_with fail
          refine ⟨trivial, ?_⟩
          refine (callsIn_wide.2 (unhide HRh _)).mono ?_
          rintro e W2 ⟨rfl, rfl⟩
          gi_wp2_with fail
          refine ⟨trivial, ?_⟩
          refine (callsIn_wide.2 (unhide HRd _)).mono ?_
          rintro e W3 ⟨rfl, rfl⟩
          obtain ⟨fn, tmps, assign, body, hy, hR⟩ := unhide HYm
          dsimp only [encsR] at hy
          have HRR := hide hR
          clear q1 hR
          gi_wp2
          refine (unhide HRR).mono ?_
          rintro e W4 ⟨hab, (⟨rfl, hJ4, hk4⟩ | ⟨rfl, hJx4⟩)⟩
          · have HJ4 : Hz (J (List.range (m + 1)) W4) := hide (by rw [List.range_succ]; exact hJ4)
            have HK4 := hide ((unhide HK2).kp hk4 hab.size)
            have HX4 : Hz (Blk W4 X #[.int .i32 lo, .int .i32 hi] 28) := hide ((hab.same X hXge (unhide HX2).lt).trans (unhide HX2))
            have hge4 : W0.heap.size ≤ W4.heap.size := by have := hab.size; omega
            clear hab hJ4 hk4 hy
            gi_wp2
            go_roundw
            case rel => exact ⟨m + 1, by congr 1; omega, by omega, by omega, HJ4, HK4, HX4, hge4⟩
            case measure => simp [intOf]; omega
          · have HJx4 := hide hJx4
            clear hab hJx4 hy
            gi_wp2
            refine bodyPost_ret (results_none rfl _ _ _) rfl ?_
            exact ⟨⟨_, rfl⟩, .inr ⟨_, ⟨m + 1, by have := unhide HTL; omega, by rw [List.range_succ]⟩, unhide HJx4⟩⟩
        · have hle : ¬ rl + ((m : Int) - t0) ≤ rh := by have := unhide HE1; omega
          have hmeq : m = t1 := by omega
          subst hmeq
          gi_wp2_with fail
          refine ⟨trivial, ?_⟩
          refine (callsIn_wide.2 (unhide HRh _)).mono ?_
          rintro e W2 ⟨rfl, rfl⟩
          gi_wp2
          go_roundw
          case rel => exact ⟨k + 1, by congr 1, by omega, by rw [unhide HT1]; exact HJ2, HK2, hge2⟩
          case measure => simp [intOf]; omega
    · have hk1 : ¬ (k : Int) < (zs.length : Int) := by omega
      have HE : Hz (J (List.range (tot zs)) wr) := hide (by have := unhide HJ1; rwa [List.take_of_length_le (by omega)] at this)
      gi_wp2
      go_end0
      first
        | exact ⟨⟨_, rfl⟩, .inl ⟨_, rfl, unhide HE⟩⟩
        | exact ⟨⟨_, rfl⟩, .inl (unhide HE)⟩
theorem all_deep (n Bn B : Nat) (hn : 1 ≤ n) (zs : List (Int × Int)) (hz : zs.length ≤ 1000000) (w : World) (hs : SetAt w B zs) (hbx : w.cell? ⟨Bn, 0, none⟩ = some (.pointer (some ⟨B, 0, none⟩))) :
    SeqDeep Fence.wide n Try.prog 44 #[.pointer (some ⟨Bn, 0, none⟩)] (encsR zs) (KpB w.heap.size) (fun ys => ys = List.range (tot zs)) (fun pre => ∃ m, m ≤ tot zs ∧ pre = List.range m) (fun pre x => x < tot zs ∧ pre = List.range x) w := fun l J Jx W hW hJ _ hY h0 =>
  all_in n l Bn B hn zs hz J Jx w W hW hs hbx hJ hY h0
theorem all_call (B : Nat) (w : World) : Calls Try.prog 16 #[.pointer (some ⟨B, 0, none⟩)] w fun e w' => e = .returned (.func (.func 44) #[] #[.pointer (some ⟨w.heap.size, 0, none⟩)]) ∧ w' = w.alloc (.cells #[.pointer (some ⟨B, 0, none⟩)] 23) := by
  go_enter Try.func16, Try.ntmps16
  go_wp2
  go_ret
  exact ⟨rfl, rfl⟩
end Go.Proofs.Ytemmflhofhngbaa
/- The function that Back hands back, as an iterator: it hands out the runes of the set, falling. It ranges over another one. -/
namespace Go.Proofs.Ytemmflhofhngbaa
open Go.RowKit Go.Shelf
attribute [local go_sem] Oper.semAt_some
set_option linter.unusedVariables false
theorem allocC {w : World} {a : Addr} {v : Value} (h : w.cell? a = some v) : ∀ o : Obj, (w.alloc o).cell? a = some v := fun o => alloc_cell o h
/-- The numbers below n from i on, falling. -/
def dnL (n i : Nat) : List Nat := ((List.range n).drop i).reverse
theorem dnL_top (n : Nat) : dnL n n = [] := by simp [dnL]
theorem dnL_step {n i : Nat} (h : i < n) : dnL n i = dnL n (i + 1) ++ [i] := by
  unfold dnL
  rw [List.drop_eq_getElem_cons (by simpa using h), List.reverse_cons]
  simp
/-- What is older than b, and one block more, is kept. -/
def Kp2 (b Bn : Nat) (W W' : World) : Prop := KpB b W W' ∧ W'.heap[Bn]? = W.heap[Bn]?
theorem Kp2_t {b Bn : Nat} {A B C : World} (h : Kp2 b Bn A B) (k : Kp2 b Bn B C) : Kp2 b Bn A C := ⟨KpB_t h.1 k.1, k.2.trans h.2⟩
/-- A span with its place. -/
abbrev encsW (zs : List (Int × Int)) (j : Nat) : Array Value := #[.int .i64 j, spanV (zs.getD j (0, 0))]
set_option maxRecDepth 100000 in
set_option maxHeartbeats 4000000 in
theorem backward_in (n l Bn : Nat) (hn : 1 ≤ n) (a : Option Addr) (c : Nat) (zs : List (Int × Int)) (hz : zs.length ≤ 1000000) (J Jx : List Nat → World → Prop) (w W0 : World) (hw : Kept w W0) (hr : RowP w a zs) (hbx : W0.cell? ⟨Bn, 0, none⟩ = some (.slice a zs.length c))
    (hY : ∀ pre x W1, J pre W1 → (x < zs.length ∧ pre = dnL zs.length (x + 1)) → W0.heap.size ≤ W1.heap.size → YieldAt Fence.wide (n - 1) Try.prog l (encsW zs x) W1 fun e W' => Above W0.heap.size W1 W' ∧
      ((e = .returned (.bool true) ∧ J (pre ++ [x]) W' ∧ Kp2 w.heap.size Bn W1 W') ∨ (e = .returned (.bool false) ∧ Jx (pre ++ [x]) W')))
    (h0 : J [] W0) :
    CallsIn Fence.wide n Try.prog 63 #[.func (.yield l) #[] #[], .pointer (some ⟨Bn, 0, none⟩)] W0 fun e W' => (∃ v, e = .returned v) ∧
      ((∃ ys, ys = dnL zs.length 0 ∧ J ys W') ∨ (∃ pre, (∃ m, m < zs.length ∧ pre = dnL zs.length m) ∧ Jx pre W')) := by
  have d0 := hbx
  have HBx := hide hbx
  have HP := hide hr
  have HY := hide hY
  have HW := hide hw
  have H0 := hide h0
  have hzi : (zs.length : Int) ≤ 1000000 := by omega
  clear hr hY hw hbx h0
  refine callsIn_of_wp Try.func63 rfl trivial ?_ rfl
  simp only [Try.ntmps63, List.size_toArray, List.length_cons, List.length_nil, Nat.reduceAdd, Nat.reduceSub, Array.replicate_succ, Array.replicate_zero, List.push_toArray, List.append_toArray, List.nil_append, List.cons_append]
  gi_wp2
  gi_loopw [3] (fun v wr => ∃ i : Nat, v = .int .i64 ((i : Int) - 1) ∧ i ≤ zs.length ∧ Hz (J (dnL zs.length i) wr) ∧ Hz (Kept w wr) ∧ Hz (wr.cell? ⟨Bn, 0, none⟩ = some (.slice a zs.length c)) ∧ W0.heap.size ≤ wr.heap.size) (fun v _ => (intOf v + 1).toNat)
  case atStart => exact ⟨zs.length, rfl, by omega, hide (by rw [dnL_top]; exact unhide H0), HW, HBx, Nat.le_refl _⟩
  case round =>
    obtain ⟨i, rfl, hi, HJ1, HK, HC, hge⟩ := hrel
    have d1 := unhide HC
    cases i with
    | zero =>
      gi_wp2
      go_end0
      first
        | exact ⟨⟨_, rfl⟩, .inl ⟨_, rfl, unhide HJ1⟩⟩
        | exact ⟨⟨_, rfl⟩, .inl (unhide HJ1)⟩
    | succ j =>
      have hj1 : (j : Int) < (zs.length : Int) := by omega
      have hj2 : ((j : Nat) : Int).toNat = j := by omega
      have e1 : ((j + 1 : Nat) : Int) - 1 = (j : Int) := by omega
      obtain ⟨x, hx⟩ : ∃ x, zs[j]? = some x := ⟨_, List.getElem?_eq_getElem (by omega)⟩
      obtain ⟨g, o, rfl, hg, hc⟩ := unhide HP (by omega)
      have c0 := (unhide HK).cell (hc j x hx).1
      have c1 := (unhide HK).cell (hc j x hx).2
      have HYm := hide (unhide HY (dnL zs.length (j + 1)) j _ (unhide HJ1) ⟨by omega, rfl⟩ hge)
      have hgd : zs.getD j (0, 0) = x := by simp [List.getD, hx]
      obtain ⟨fn, tmps, assign, body, hy, hR⟩ := unhide HYm
      dsimp only [encsW] at hy
      rw [hgd] at hy
      obtain ⟨lo, hi'⟩ := x
      simp only [spanV] at c0 c1 hy
      have HRR := hide hR
      rw [e1]
      clear hR hc hx e1 hgd
      gi_wp2
      refine (unhide HRR).mono ?_
      rintro e W4 ⟨hab, (⟨rfl, hJ4, hk4⟩ | ⟨rfl, hJx4⟩)⟩
      · have HJ4 : Hz (J (dnL zs.length j) W4) := hide (by rw [dnL_step (by omega)]; exact hJ4)
        have HK4 := hide ((unhide HK).kp hk4.1 hab.size)
        have HC4 := hide ((World.cell?_of_block hk4.2).trans (unhide HC))
        have hge4 : W0.heap.size ≤ W4.heap.size := by have := hab.size; omega
        clear hab hJ4 hk4 hy
        gi_wp2
        go_roundw
        case rel => exact ⟨j, rfl, by omega, HJ4, HK4, HC4, hge4⟩
        case measure => first | (simp [intOf]; done) | (simp [intOf]; omega)
      · have HJx4 : Hz (Jx (dnL zs.length j) W4) := hide (by rw [dnL_step (by omega)]; exact hJx4)
        clear hab hJx4 hy
        gi_wp2
        refine bodyPost_ret (results_none rfl _ _ _) rfl ?_
        exact ⟨⟨_, rfl⟩, .inr ⟨_, ⟨j, by omega, rfl⟩, unhide HJx4⟩⟩
theorem backward_deep (n Bn : Nat) (hn : 1 ≤ n) (a : Option Addr) (c : Nat) (zs : List (Int × Int)) (hz : zs.length ≤ 1000000) (w wB : World) (hk : Kept w wB) (hr : RowP w a zs) (hbx : wB.cell? ⟨Bn, 0, none⟩ = some (.slice a zs.length c)) :
    SeqDeep Fence.wide n Try.prog 63 #[.pointer (some ⟨Bn, 0, none⟩)] (encsW zs) (Kp2 w.heap.size Bn) (fun ys => ys = dnL zs.length 0) (fun pre => ∃ m, m < zs.length ∧ pre = dnL zs.length m) (fun pre x => x < zs.length ∧ pre = dnL zs.length (x + 1)) wB := fun l J Jx W hW _ _ hY h0 =>
  backward_in n l Bn hn a c zs hz J Jx w W (hk.below hW hk.1) hr ((hW.cell (p := ⟨Bn, 0, none⟩) (cell_lt hbx)).trans hbx) hY h0
theorem dnL_inj {n i j : Nat} (hi : i ≤ n) (hj : j ≤ n) (h : dnL n i = dnL n j) : i = j := by
  have := congrArg List.length h
  simp [dnL] at this
  omega
theorem backward_call (a : Option Addr) (n c : Nat) (w : World) : Calls Try.prog 46 #[.slice a n c] w fun e w' => e = .returned (.func (.func 63) #[] #[.pointer (some ⟨w.heap.size, 0, none⟩)]) ∧ w' = w.alloc (.cells #[.slice a n c] 30) := by
  go_enter Try.func46, Try.ntmps46
  go_wp2
  go_ret
  exact ⟨rfl, rfl⟩
theorem yield_wide {m m' : Nat} {P : Program} {l : Nat} {args : Array Value} {W : World} {R : Ending → World → Prop} (h : YieldAt Fence.wide m P l args W R) : YieldAt Fence.wide m' P l args W R := by
  obtain ⟨fn, tmps, assign, body, h1, h2⟩ := h
  exact ⟨fn, tmps, assign, body, h1, h2.1, fun c cs _ => h2.2 c cs (room_wide _)⟩
theorem round_in {m : Nat} {P : Program} {l k : Nat} {f : FuncId} {tmps : Array Value} {assign body : Code} {W : World} {R : Ending → World → Prop} (h : RoundIn Fence.wide m P l f tmps assign body W R) : RoundIn (Fence.wide.inRound k) m P l f tmps assign body W R := h
/-- What the rounds of the inner range keep. -/
def BackI (w W0 : World) (l : Nat) (a : Option Addr) (c : Nat) (zs : List (Int × Int)) (J : List Nat → World → Prop) (pre : List Nat) (W : World) : Prop :=
  ∃ i, i ≤ zs.length ∧ pre = dnL zs.length i ∧ J (dnL (tot zs) (tot (zs.take i))) W ∧ Kept w W ∧ Blk W W0.heap.size #[.func (.yield l) #[] #[]] 46 ∧ Blk W (W0.heap.size + 1) #[.slice a zs.length c] 30
theorem BackI.old {w W0 : World} {l : Nat} {a : Option Addr} {c : Nat} {zs : List (Int × Int)} {J : List Nat → World → Prop} (hJ : Old W0.heap.size J) (hw : w.heap.size ≤ W0.heap.size) : Old (W0.heap.size + 2) (BackI w W0 l a c zs J) := fun s X Y ⟨i, h1, h2, h3, h4, h5, h6⟩ hb =>
  ⟨i, h1, h2, hJ _ _ _ h3 (hb.mono (by omega)), h4.below hb (by omega), h5.below hb (by omega), h6.below hb (by omega)⟩
set_option maxRecDepth 100000 in
set_option maxHeartbeats 4000000 in
theorem back_in (n l Bn B : Nat) (hn : 3 ≤ n) (zs : List (Int × Int)) (hz : zs.length ≤ 1000000) (J Jx : List Nat → World → Prop) (w W0 : World) (hw : Below w.heap.size w W0) (hs : SetAt w B zs) (hbx : w.cell? ⟨Bn, 0, none⟩ = some (.pointer (some ⟨B, 0, none⟩))) (hJ : Old W0.heap.size J) (hJx : Old W0.heap.size Jx)
    (hY : ∀ pre x W1, J pre W1 → (x < tot zs ∧ pre = dnL (tot zs) (x + 1)) → W0.heap.size ≤ W1.heap.size → YieldAt Fence.wide (n - 1) Try.prog l (encsR zs x) W1 fun e W' => Above W0.heap.size W1 W' ∧
      ((e = .returned (.bool true) ∧ J (pre ++ [x]) W' ∧ KpB w.heap.size W1 W') ∨ (e = .returned (.bool false) ∧ Jx (pre ++ [x]) W')))
    (h0 : J [] W0) :
    CallsIn Fence.wide n Try.prog 45 #[.func (.yield l) #[] #[], .pointer (some ⟨Bn, 0, none⟩)] W0 fun e W' => (∃ v, e = .returned v) ∧
      ((∃ ys, ys = dnL (tot zs) 0 ∧ J ys W') ∨ (∃ pre, (∃ m, m < tot zs ∧ pre = dnL (tot zs) m) ∧ Jx pre W')) := by
  have h1 : 1 ≤ n := by omega
  obtain ⟨⟨a, ca, b, cb, hb0, hp, _⟩, hsp, _⟩ := hs
  have hK0 := Kept.of hw
  have d0 := allocC (hK0.cell hbx)
  have d1 := allocC (hK0.cell (hb0.cell 0))
  have hRt : RightL zs := hsp.ends
  have hww := hw.size
  refine callsIn_of_wp_marks Try.func45 rfl trivial ?_ rfl
  simp only [Try.ntmps45, List.size_toArray, List.length_cons, List.length_nil, Nat.reduceAdd, Nat.reduceSub, Array.replicate_succ, Array.replicate_zero, List.push_toArray, List.append_toArray, List.nil_append, List.cons_append]
  gi_wp2_with (refine ⟨trivial, ?_⟩; gi_at_call 46; refine (callsIn_wide.2 (backward_call _ _ _ _)).mono ?_; rintro e w' ⟨rfl, rfl⟩)
  have bY := (Blk.new W0 #[.func (.yield l) #[] #[]] 46).alloc (.cells #[.slice a zs.length ca] 30)
  have bS := Blk.new (W0.alloc (.cells #[.func (.yield l) #[] #[]] 46)) #[.slice a zs.length ca] 30
  rw [World.size_alloc] at bS
  have hbb : Below W0.heap.size W0 ((W0.alloc (.cells #[.func (.yield l) #[] #[]] 46)).alloc (.cells #[.slice a zs.length ca] 30)) := ((Below.refl _ W0).alloc (Nat.le_refl _) _).alloc (by simp) _
  have hsz : ((W0.alloc (.cells #[.func (.yield l) #[] #[]] 46)).alloc (.cells #[.slice a zs.length ca] 30)).heap.size = W0.heap.size + 2 := by simp
  generalize (W0.alloc (.cells #[.func (.yield l) #[] #[]] 46)).alloc (.cells #[.slice a zs.length ca] 30) = Wb at *
  have hkb : Kept w Wb := hK0.below hbb hww
  have hJb : J [] Wb := hJ _ _ _ h0 hbb
  refine range_deep rfl h1 (gf := 63) (lb := #[.pointer (some ⟨W0.heap.size + 1, 0, none⟩)]) rfl trivial (enters_of Try.func63 (by kernel_rfl) rfl)
    (backward_deep (n - 1) (W0.heap.size + 1) (by omega) a ca zs hz w Wb hkb hp (bS.cell 0)) Kp2_t (fun W l o hl => ⟨KpB_b W l o (by omega), World.putObj_heap_other (by omega)⟩) (Below.refl _ _) (fun _ => rfl)
    (BackI w W0 l a ca zs J) (fun c pre W => c = .ret ∧ ∃ m, m < tot zs ∧ Jx (dnL (tot zs) m) W) (by rw [hsz]; exact BackI.old hJ hww) (fun c s X Y hs hb => ⟨hs.1, by obtain ⟨m, h1, h2⟩ := hs.2; exact ⟨m, h1, hJx _ _ _ h2 (hb.mono (by omega))⟩⟩)
    ⟨zs.length, Nat.le_refl _, (dnL_top _).symm, by rw [List.take_of_length_le (Nat.le_refl _), dnL_top]; exact hJb, hkb, bY, bS⟩ ?round ?done ?stop
  case round =>
    rintro pre x W ⟨i, hi, hpre, hj, hk, hyb, hsb⟩ ⟨hx, hpre2⟩ hge
    obtain rfl : i = x + 1 := dnL_inj hi (by omega) (hpre.symm.trans hpre2)
    subst hpre
    clear hpre2
    obtain ⟨⟨lo, hi'⟩, hxe⟩ : ∃ y, zs[x]? = some y := ⟨_, List.getElem?_eq_getElem hx⟩
    have hgd : zs.getD x (0, 0) = (lo, hi') := by simp [List.getD, hxe]
    dsimp only [encsW]
    rw [hgd]
    have he := endsB_iff (hRt _ (List.mem_of_getElem? hxe)).1
    have r1 := rank_range he.1.1 he.1.2.1
    have r2 := rank_range he.2.1 he.2.2.1
    have hT := tot_take hRt hxe
    have hTL := tot_le hRt (x + 1)
    have hLH : rankOf lo ≤ rankOf hi' := (rank_le he.1.2.2 he.2.2.2).2 (hRt _ (List.mem_of_getElem? hxe)).2
    have hNth : ∀ m : Nat, tot (zs.take x) ≤ m → m < tot (zs.take (x + 1)) → nthOf zs m = rankedOf (rankOf lo + ((m : Int) - tot (zs.take x))) := fun m h1 h2 => by
      have e1 := tot_eq (fun y hy => hRt y (List.mem_of_mem_take hy) : RightL (zs.take x))
      rw [nth_at zs x (lo, hi') m hRt hxe (by omega) (by omega), e1]
    have hSz : spanSize (lo, hi') = rankOf hi' + 1 - rankOf lo := rfl
    have HRk := hide (fun w => rank_any lo (by omega) (by omega) w)
    have HRh := hide (fun w => rank_any hi' (by omega) (by omega) w)
    rw [hSz] at hT
    generalize rankOf lo = rl at *
    generalize rankOf hi' = rh at *
    generalize ht0 : tot (zs.take x) = t0 at *
    generalize ht1 : tot (zs.take (x + 1)) = t1 at *
    have HT0 := hide ht0
    have HNth := hide hNth
    have HTL := hide hTL
    have HT := hide hT
    have HY := hide hY
    have HJ := hide hJ
    have hX := Blk.new W #[.int .i32 lo, .int .i32 hi'] 28
    have hal := (Below.refl W.heap.size W).alloc (Nat.le_refl _) (.cells #[.int .i32 lo, .int .i32 hi'] 28)
    have hge0 : W0.heap.size + 4 ≤ W.heap.size := by omega
    gi_wp2
    refine ⟨Above.below hal, ⟨fun k hk => hal.block k (by omega), hal.block _ (by omega)⟩, ⟨x + 1, hi, rfl, by rw [ht1]; exact hJ _ _ _ hj (hal.mono (by omega)), hk.below hal hk.1, hyb.below hal hyb.lt, hsb.below hal hsb.lt⟩, ?_⟩
    intro Wr hgr hsr hIr
    obtain ⟨i2, hi2, hpre3, hj2, hk2, hyb2, hsb2⟩ := hIr
    obtain rfl : i2 = x + 1 := dnL_inj hi2 hi hpre3.symm
    rw [ht1] at hj2
    have hXr := hX.kept hgr (by simp; omega)
    obtain ⟨X, hXe⟩ : ∃ X, X = W.heap.size := ⟨_, rfl⟩
    rw [← hXe] at hXr ⊢
    have hXge : Wb.heap.size + 2 ≤ X := by omega
    have hXr0 : X < Wr.heap.size := hXr.lt
    have hRW : W0.heap.size + 4 ≤ Wr.heap.size := by omega
    have HJ2 := hide hj2
    have HK2 := hide hk2
    have HYB2 := hide hyb2
    have HSB2 := hide hsb2
    have HX2 := hide hXr
    have HT1 := hide ht1
    have q1 := hXr.cell 1
    clear hj2 hk2 hyb2 hsb2 hXr hgr hsr hX hal hj hk hyb hsb hNth hTL hT hY hJ ht0 ht1 hpre3 hgd d0 d1 hXe hge0 hge
    have HSZ := hide hsz
    clear hsz
    gi_wp2_with fail
    refine ⟨trivial, fun _ => by omega, ?_⟩
    refine (CallsIn.inRound _ (callsIn_wide.2 (unhide HRh _))).mono ?_
    rintro e W2 ⟨rfl, rfl⟩
    clear q1
    have hmx2 : Try.prog.follows .mixedOrders = true := by kernel_rfl
    have hX0 : W0.heap.size ≤ X := by have := unhide HSZ; omega
    gi_wp2
    gi_loopw [5] (fun v wr2 => ∃ m : Nat, v = .int .i64 (rl + ((m : Int) - t0) - 1) ∧ t0 ≤ m ∧ m ≤ t1 ∧ Hz (J (dnL (tot zs) m) wr2) ∧ Hz (Kept w wr2) ∧ Hz (Above W0.heap.size W2 wr2) ∧ Hz (KpB w.heap.size W2 wr2)) (fun v _ => (intOf v + 1 - rl).toNat)
    case atStart => exact ⟨t1, by congr 1; have := unhide HT; omega, by have := unhide HT; omega, Nat.le_refl _, HJ2, HK2, hide (Above.refl _ _), hide (fun _ _ => rfl)⟩
    case round =>
      obtain ⟨m, rfl, hm0, hm1, HJ3, HK3, HA3, HP3⟩ := hrel
      have hx3 : Blk wr X #[.int .i32 lo, .int .i32 hi'] 28 := ((unhide HA3).same X (by omega) (unhide HX2).lt).trans (unhide HX2)
      have hy3 : Blk wr W0.heap.size #[.func (.yield l) #[] #[]] 46 := ((unhide HA3).same W0.heap.size (Nat.le_refl _) (unhide HYB2).lt).trans (unhide HYB2)
      have q0 := hx3.cell 0
      have y0 := hy3.cell 0
      have hgeW : W0.heap.size ≤ wr.heap.size := by have := (unhide HA3).size; omega
      clear hx3 hy3
      by_cases hmt : t0 < m
      · obtain ⟨j, rfl⟩ : ∃ j, m = j + 1 := ⟨m - 1, by omega⟩
        have e1 : rl + (((j + 1 : Nat) : Int) - t0) - 1 = rl + ((j : Int) - t0) := by omega
        have hle : rl ≤ rl + ((j : Int) - t0) := by omega
        have hn0 : 0 ≤ rl + ((j : Int) - t0) := by omega
        have hn1 : rl + ((j : Int) - t0) ≤ 1112063 := by have := unhide HT; omega
        have HRd := hide (fun w => ranked_any (rl + ((j : Int) - t0)) hn0 hn1 w)
        rw [← unhide HNth j (by omega) (by omega)] at HRd
        have HYm := hide (fun W hW hs => @yield_wide _ (n - 1 - 1 - 1) _ _ _ _ _ (unhide HY (dnL (tot zs) (j + 1)) j W hW ⟨by have := unhide HTL; omega, rfl⟩ hs))
        rw [e1]
        clear e1
        have hdep : Fence.wide.depth.isSome = true → 1 ≤ n - 1 - 1 := fun _ => by omega
        gi_wp2_with fail
        refine ⟨trivial, fun _ => by omega, ?_⟩
        refine (CallsIn.inRound _ (callsIn_wide.2 (unhide HRk _))).mono ?_
        rintro e W3 ⟨rfl, rfl⟩
        gi_wp2_with fail
        obtain ⟨fn, tmps, assign, body, hy, hR⟩ := unhide HYm W3.drew (unhide HJ _ _ _ (unhide HJ3) (Below.refl _ _).drew) hgeW
        dsimp only [encsR] at hy
        have HRR := hide (round_in (k := W0.heap.size + 2 + 1) (hR.mono (R' := fun e W' => ∃ bb : Bool, e = .returned (.bool bb) ∧ Hz (Above W0.heap.size W3.drew W') ∧ Hz (bb = true → J (dnL (tot zs) j) W' ∧ KpB w.heap.size W3.drew W') ∧ Hz (bb = false → Jx (dnL (tot zs) j) W')) (fun e W' h => by
          have hst := dnL_step (n := tot zs) (i := j) (by have := unhide HTL; omega)
          rw [← hst] at h
          rcases h with ⟨h1, ⟨h2, h3, h4⟩ | ⟨h2, h3⟩⟩
          · exact ⟨true, h2, hide h1, hide (fun _ => ⟨h3, h4⟩), hide (fun h => by cases h)⟩
          · exact ⟨false, h2, hide h1, hide (fun h => by cases h), hide (fun _ => h3)⟩)))
        clear hR HYm
        gi_region_with_o (first
          | (refine ⟨trivial, hdep, ?_⟩; refine (CallsIn.inRound _ (callsIn_wide.2 (unhide HRd _))).mono ?_; rintro e W4 ⟨rfl, rfl⟩)
          | (refine ⟨hdep, ?_⟩; refine (unhide HRR).mono ?_; rintro e W5 ⟨bb, rfl, HAb, HTr, HFa⟩))
        all_goals
          have hA5 : Above W0.heap.size W2 W5 := (unhide HA3).trans ⟨(unhide HAb).size, (unhide HAb).same⟩
          cases bb with
          | true =>
            obtain ⟨hJ5, hP5⟩ := unhide HTr rfl
            have HJ5 := hide hJ5
            have HA5 := hide hA5
            have HP5 := hide (KpB_t (unhide HP3) hP5)
            have HK5 := hide ((unhide HK3).kp hP5 (unhide HAb).size)
            clear hJ5 hA5 hP5 HTr HFa HAb hy
            gi_wp2
            go_roundw
            case rel => exact ⟨j, rfl, by omega, by omega, HJ5, HK5, HA5, HP5⟩
            case measure => simp [intOf]; omega
          | false =>
            have HJx5 := hide (unhide HFa rfl)
            have HA5 := hide hA5
            clear hA5 HTr HFa HAb hy
            gi_wp2
            exact ⟨(unhide HA5).mono (by have := unhide HSZ; omega), rfl, j, by have := unhide HTL; omega, unhide HJx5⟩
      · have hmeq : m = t0 := by omega
        subst hmeq
        have hle : ¬ rl ≤ rl + ((m : Int) - m) - 1 := by omega
        gi_wp2_with fail
        refine ⟨trivial, fun _ => by omega, ?_⟩
        refine (CallsIn.inRound _ (callsIn_wide.2 (unhide HRk _))).mono ?_
        rintro e W3 ⟨rfl, rfl⟩
        gi_wp2
        have hA := unhide HA3
        have hsz := unhide HSZ
        have hy3 : Blk W3 W0.heap.size #[.func (.yield l) #[] #[]] 46 := (hA.same W0.heap.size (Nat.le_refl _) (unhide HYB2).lt).trans (unhide HYB2)
        have hs3 : Blk W3 (W0.heap.size + 1) #[.slice a zs.length ca] 30 := (hA.same (W0.heap.size + 1) (by omega) (unhide HSB2).lt).trans (unhide HSB2)
        exact ⟨hA.mono (by omega), ⟨unhide HP3, hA.same (W0.heap.size + 1) (by omega) (unhide HSB2).lt⟩, ⟨x, by omega, (dnL_step hx).symm, by rw [unhide HT0]; exact unhide HJ3, unhide HK3, hy3, hs3⟩⟩
  case done =>
    rintro D xs W hD hS ⟨i, hi, hpre, hj, hk, hyb, hsb⟩ hdef
    obtain rfl : i = 0 := dnL_inj hi (Nat.zero_le _) (hpre.symm.trans hS)
    have HJ0 : Hz (J (dnL (tot zs) 0) W) := hide (by simpa [tot, total] using hj)
    have HJ := hide hJ
    clear hj hpre hS hk hyb hsb hY
    gi_wp2
    refine ⟨by simp, .inl ⟨_, _, rfl, run_takeDeferred hdef, ?_⟩⟩
    exact ⟨.tuple #[], results_none rfl _ _ _, ⟨_, rfl⟩, .inl ⟨_, rfl, unhide HJ _ _ _ (unhide HJ0) (below_put W (by omega) _)⟩⟩
  case stop =>
    rintro D c pre W hD hSp ⟨rfl, m, hm, hjx⟩ hdef
    have HJ0 := hide hjx
    have HJ := hide hJx
    clear hY
    gi_wp2
    refine ⟨by simp, .inl ⟨_, _, rfl, run_takeDeferred hdef, ?_⟩⟩
    exact ⟨.tuple #[], results_none rfl _ _ _, ⟨_, rfl⟩, .inr ⟨_, ⟨m, hm, rfl⟩, unhide HJ _ _ _ (unhide HJ0) (below_put W (by omega) _)⟩⟩
theorem back_deep (n Bn B : Nat) (hn : 3 ≤ n) (zs : List (Int × Int)) (hz : zs.length ≤ 1000000) (w : World) (hs : SetAt w B zs) (hbx : w.cell? ⟨Bn, 0, none⟩ = some (.pointer (some ⟨B, 0, none⟩))) :
    SeqDeep Fence.wide n Try.prog 45 #[.pointer (some ⟨Bn, 0, none⟩)] (encsR zs) (KpB w.heap.size) (fun ys => ys = dnL (tot zs) 0) (fun pre => ∃ m, m < tot zs ∧ pre = dnL (tot zs) m) (fun pre x => x < tot zs ∧ pre = dnL (tot zs) (x + 1)) w := fun l J Jx W hW hJ hJx hY h0 =>
  back_in n l Bn B hn zs hz J Jx w W hW hs hbx hJ hJx hY h0
theorem back_call (B : Nat) (w : World) : Calls Try.prog 17 #[.pointer (some ⟨B, 0, none⟩)] w fun e w' => e = .returned (.func (.func 45) #[] #[.pointer (some ⟨w.heap.size, 0, none⟩)]) ∧ w' = w.alloc (.cells #[.pointer (some ⟨B, 0, none⟩)] 23) := by
  go_enter Try.func17, Try.ntmps17
  go_wp2
  go_ret
  exact ⟨rfl, rfl⟩
end Go.Proofs.Ytemmflhofhngbaa
/- At and Next of a set. -/
namespace Go.Proofs.Ytemmflhofhngbaa
open Go.RowKit Go.Shelf
set_option linter.unusedVariables false
theorem less_any (a b : Int) (w : World) : Calls Try.prog 61 #[.int .i64 a, .int .i64 b] w fun e w' => e = .returned (.bool (decide (a < b))) ∧ w' = w := by
  have ha : (a != a) = false := by simp
  go_enter Try.func61, Try.ntmps61
  go_wp2_with go_in
  go_ret
  exact ⟨rfl, rfl⟩
/-- Was the number found at k? -/
def foundB (m : Nat) (F : Nat → Int) (k : Nat) (n : Int) : Bool := decide (k < m ∧ F k = n)
set_option maxRecDepth 100000 in
set_option maxHeartbeats 4000000 in
theorem searchA_any (p : Option Addr) (cap m : Nat) (F : Nat → Int) (hl : m ≤ 1112064) (hr : ∀ i j : Nat, i < j → j < m → F i < F j) (n : Int) (W : World) (hi : 0 < m → ∃ g o, p = some ⟨g, o, none⟩ ∧ g < W.heap.size ∧ ∀ j, j < m → W.cell? ⟨g, o + j, none⟩ = some (.int .i64 (F j))) :
    Calls Try.prog 42 #[.slice p m cap, .int .i64 n] W fun e w' => ∃ k : Nat, e = .returned (.tuple #[.int .i64 k, .bool (foundB m F k n)]) ∧ k ≤ m ∧ (∀ j, j < k → F j < n) ∧ (∀ j, k ≤ j → j < m → n ≤ F j) ∧ Below W.heap.size W w' := by
  have HI := hide hi
  have HRS := hide hr
  clear hi hr
  go_enter Try.func42, Try.ntmps42
  go_wp2
  go_loop [7, 8] (fun i j => ∃ a b : Nat, a ≤ b ∧ b ≤ m ∧ i = .int .i64 a ∧ j = .int .i64 b ∧ Hz (∀ j, j < a → F j < n) ∧ Hz (∀ j, b ≤ j → j < m → n ≤ F j)) (fun i j => (intOf j).toNat - (intOf i).toNat)
  case atStart => exact ⟨0, m, by omega, Nat.le_refl _, rfl, rfl, hide (fun j hj => by omega), hide (fun j h1 h2 => by omega)⟩
  case round =>
    obtain ⟨a, b, hab, hb, rfl, rfl, H1, H2⟩ := hrel
    by_cases hlt : a < b
    · have h1 : (a : Int) < (b : Int) := by omega
      obtain ⟨g, o, rfl, hg, hc⟩ := unhide HI (by omega)
      have ck := hc ((a + b) / 2) (by omega)
      have HM : Hz (∀ j, j < (a + b) / 2 → F j < F ((a + b) / 2)) := hide (fun j hj => unhide HRS j _ hj (by omega))
      have HM2 : Hz (∀ j, (a + b) / 2 < j → j < m → F ((a + b) / 2) < F j) := hide (fun j hj h2 => unhide HRS _ j hj h2)
      obtain ⟨x, hx⟩ : ∃ x, F ((a + b) / 2) = x := ⟨_, rfl⟩
      rw [hx] at ck HM HM2
      have HX := hide hx
      clear hx hc
      by_cases hxn : x < n
      · have hd : decide (x < n) = true := decide_eq_true hxn
        go_wp2_with (go_at_call 61; refine (less_any _ _ _).mono ?_; rintro e w' ⟨rfl, rfl⟩)
        go_round
        case rel =>
          refine ⟨(a + b) / 2 + 1, b, by omega, hb, ?_, rfl, hide (fun j hj => ?_), H2⟩
          · congr 1
          · by_cases e : j = (a + b) / 2
            · subst e; rw [unhide HX]; exact hxn
            · have := unhide HM j (by omega); omega
        case measure => simp [intOf]; omega
      · have hd : decide (x < n) = false := decide_eq_false hxn
        go_wp2_with (go_at_call 61; refine (less_any _ _ _).mono ?_; rintro e w' ⟨rfl, rfl⟩)
        go_round
        case rel =>
          refine ⟨a, (a + b) / 2, by omega, by omega, rfl, ?_, H1, hide (fun j hj h2 => ?_)⟩
          · congr 1
          · by_cases e : j = (a + b) / 2
            · subst e; rw [unhide HX]; omega
            · have := unhide HM2 j (by omega) h2; omega
        case measure => simp [intOf]; omega
    · have h1 : ¬ (a : Int) < (b : Int) := by omega
      obtain rfl : a = b := by omega
      by_cases hal : a < m
      · obtain ⟨g, o, rfl, hg, hc⟩ := unhide HI (by omega)
        have ck := hc a hal
        have h2 : (a : Int) < (m : Int) := by omega
        have h3 : ((a : Nat) : Int).toNat = a := by omega
        obtain ⟨x, hx⟩ : ∃ x, F a = x := ⟨_, rfl⟩
        rw [hx] at ck
        have HX := hide hx
        clear hx hc
        by_cases hxn : x = n
        · subst hxn
          have hxe : (x == x) = true := by simp
          have HD := hide (show foundB m F a x = true from decide_eq_true ⟨hal, unhide HX⟩)
          go_wp2
          go_ret2
          exact ⟨a, by rw [unhide HD]; rfl, hb, unhide H1, unhide H2, Below.refl _ _⟩
        · have hxe : (x == n) = false := beq_eq_false_iff_ne.2 hxn
          have hxx : (x != x) = false := by simp
          have HD := hide (show foundB m F a n = false from decide_eq_false (fun h => hxn ((unhide HX).symm.trans h.2)))
          go_wp2_with go_in
          go_ret2
          exact ⟨a, by rw [unhide HD]; rfl, hb, unhide H1, unhide H2, Below.refl _ _⟩
      · have h2 : ¬ (a : Int) < (m : Int) := by omega
        have HD := hide (show foundB m F a n = false from decide_eq_false (fun h => hal h.1))
        go_wp2
        go_ret2
        exact ⟨a, by rw [unhide HD]; rfl, hb, unhide H1, unhide H2, Below.refl _ _⟩
theorem total_rises {zs : List (Int × Int)} (h : RightL zs) : ∀ i j : Nat, i < j → j < zs.length → total (zs.take i) < total (zs.take j) := by
  intro i j hij
  induction j with
  | zero => omega
  | succ j ih =>
    intro hj
    obtain ⟨x, hx⟩ : ∃ x, zs[j]? = some x := ⟨_, List.getElem?_eq_getElem (by omega)⟩
    have hp := h x (List.mem_of_getElem? hx)
    have := span_pos hp.1 hp.2
    rw [take_more hx, total_snoc]
    rcases Nat.lt_or_eq_of_le (show i ≤ j by omega) with a | a
    · have := ih a (by omega); omega
    · subst a; omega
/-- Which span the search leads to. -/
theorem found_span {zs : List (Int × Int)} (hR : RightL zs) {n : Int} (h0 : 0 ≤ n) (h1 : n < total zs) {k : Nat} (hk : k ≤ zs.length) (ha : ∀ j, j < k → total (zs.take j) < n) (hb : ∀ j, k ≤ j → j < zs.length → n ≤ total (zs.take j)) :
    ∃ (i : Nat) (x : Int × Int), (if foundB zs.length (fun j => total (zs.take j)) k n then i = k else i + 1 = k) ∧ zs[i]? = some x ∧ total (zs.take i) ≤ n ∧ n < total (zs.take i) + spanSize x := by
  by_cases c : k < zs.length ∧ total (zs.take k) = n
  · obtain ⟨x, hx⟩ : ∃ x, zs[k]? = some x := ⟨_, List.getElem?_eq_getElem c.1⟩
    have hp := hR x (List.mem_of_getElem? hx)
    have := span_pos hp.1 hp.2
    exact ⟨k, x, by rw [show foundB zs.length (fun j => total (zs.take j)) k n = true from decide_eq_true c]; simp, hx, by omega, by omega⟩
  · cases k with
    | zero =>
      exfalso
      by_cases l : 0 < zs.length
      · have := hb 0 (Nat.le_refl _) l
        simp only [List.take_zero, total] at this
        exact c ⟨l, by simp only [List.take_zero, total]; omega⟩
      · have : zs = [] := List.eq_nil_of_length_eq_zero (by omega)
        subst this
        simp [total] at h1
        omega
    | succ i =>
      obtain ⟨x, hx⟩ : ∃ x, zs[i]? = some x := ⟨_, List.getElem?_eq_getElem (by omega)⟩
      have ht : total (zs.take (i + 1)) = total (zs.take i) + spanSize x := by rw [take_more hx, total_snoc]
      refine ⟨i, x, by rw [show foundB zs.length (fun j => total (zs.take j)) (i + 1) n = false from decide_eq_false c]; simp, hx, by have := ha i (by omega); omega, ?_⟩
      by_cases l : i + 1 < zs.length
      · have := hb (i + 1) (Nat.le_refl _) l
        have : total (zs.take (i + 1)) ≠ n := fun e => c ⟨l, e⟩
        omega
      · have : zs.take (i + 1) = zs := List.take_of_length_le (by omega)
        rw [this] at ht
        omega
set_option maxRecDepth 100000 in
set_option maxHeartbeats 4000000 in
theorem at_in (B : Nat) (zs : List (Int × Int)) (n : Int) (h0 : 0 ≤ n) (h1 : n < total zs) (w : World) (hs : SetAt w B zs) :
    Calls Try.prog 14 #[.pointer (some ⟨B, 0, none⟩), .int .i64 n] w fun e w' => e = .returned (.tuple #[.int .i32 (nthOf zs n), .bool true]) ∧ Below w.heap.size w w' := by
  have HS := hide hs
  have HZ := hide (size_any B zs w hs)
  have htb := (total_bound hs.spread.ends).2
  have hlen := hs.len
  have htt : total zs ≤ 1236686340096 := by omega
  have hge : ¬ total zs ≤ n := by omega
  have HT := hide h1
  generalize htg : total zs = tot at *
  have HTG := hide htg
  clear hs htb hlen htg
  go_enter Try.func14, Try.ntmps14
  go_wp2_with fail
  refine (unhide HZ).mono ?_
  rintro e w1 ⟨rfl, hb1⟩
  have HB1 := hide hb1
  have HS1 := hide ((unhide HS).below hb1)
  clear hb1
  obtain ⟨⟨a, ca, b, cb, hb0, hp, ha⟩, hsp, hl⟩ := unhide HS1
  have d0 := hb0.cell 0
  have d1 := hb0.cell 1
  have HQ := hide (searchA_any b cb zs.length (fun j => total (zs.take j)) hl (total_rises hsp.ends) n w1 ha)
  have HBk := hide hb0
  have HP := hide hp
  have HA := hide ha
  have HSp := hide hsp
  clear hb0 hp ha hsp
  go_wp2_with fail
  refine (unhide HQ).mono ?_
  rintro e w2 ⟨k, rfl, hk, hka, hkb, hb2⟩
  obtain ⟨i, x, hif, hx, hx1, hx2⟩ := found_span (unhide HSp).ends h0 (by rw [unhide HTG]; exact h1) hk hka hkb
  have HB2 := hide ((unhide HB1).trans (hb2.mono (unhide HB1).size))
  have hbk := (unhide HBk).below hb2 (unhide HBk).lt
  have e0 := hbk.cell 0
  have e1 := hbk.cell 1
  have hil := (List.getElem?_eq_some_iff.1 hx).1
  obtain ⟨g, o, rfl, hg, hc⟩ := ((unhide HP).below hb2) (by omega)
  obtain ⟨g', o', rfl, hg', hc'⟩ := ((unhide HA).below hb2) (by omega)
  have c0 := (hc i x hx).1
  have c2 := hc' i hil
  have HV := hide (nth_at zs i x n (unhide HSp).ends hx hx1 hx2)
  have hex := endsB_iff ((unhide HSp).ends x (List.mem_of_getElem? hx)).1
  have r1 := rank_range hex.1.1 hex.1.2.1
  have r2 := rank_range hex.2.1 hex.2.2.1
  have hss : spanSize x = rankOf x.2 + 1 - rankOf x.1 := rfl
  have htk : 0 ≤ total (zs.take i) := total_take_nonneg (unhide HSp).ends i
  have hlo : 0 ≤ x.1 ∧ x.1 ≤ 1114111 := ⟨hex.1.1, hex.1.2.1⟩
  rw [hss] at hx2
  generalize hdc : foundB zs.length (fun j => total (zs.take j)) k n = dc at hif ⊢
  clear hdc hka hkb
  generalize total (zs.take i) = tk at *
  obtain ⟨lo, hi⟩ := x
  simp only at c0 hx2 HV r1 r2 hlo
  have hi1 : (i : Int) < (zs.length : Int) := by omega
  have hi2 : ((i : Nat) : Int).toNat = i := by omega
  clear hb2 hbk hc hc' hx hss HQ HS HS1 HA HP HBk HZ hex
  cases dc with
  | true =>
    simp at hif
    subst hif
    go_wp2
    go_quiet (first | (go_at_call 37; exact Calls.quiet_of_same (rank_any _ (by omega) (by omega) _)) | (go_at_call 43; exact Calls.quiet_of_same (ranked_any _ (by omega) (by omega) _)))
    go_wp2
    go_ret2
    exact ⟨by rw [unhide HV, show rankOf lo + (n - tk) = rankOf lo + n - tk by omega]; rfl, below_drewN (unhide HB2) _⟩
  | false =>
    simp at hif
    subst hif
    have hi3 : ((i + 1 : Nat) : Int) - 1 = (i : Int) := by omega
    go_wp2
    go_quiet (first | (go_at_call 37; exact Calls.quiet_of_same (rank_any _ (by omega) (by omega) _)) | (go_at_call 43; exact Calls.quiet_of_same (ranked_any _ (by omega) (by omega) _)))
    go_wp2
    go_ret2
    exact ⟨by rw [unhide HV, show rankOf lo + (n - tk) = rankOf lo + n - tk by omega]; rfl, below_drewN (unhide HB2) _⟩
set_option maxRecDepth 100000 in
set_option maxHeartbeats 4000000 in
theorem at_out (B : Nat) (zs : List (Int × Int)) (n : Int) (h : n < 0 ∨ total zs ≤ n) (w : World) (hs : SetAt w B zs) :
    Calls Try.prog 14 #[.pointer (some ⟨B, 0, none⟩), .int .i64 n] w fun e w' => e = .returned (.tuple #[.int .i32 0, .bool false]) ∧ Below w.heap.size w w' := by
  have HZ := hide (size_any B zs w hs)
  by_cases h0 : n < 0
  · go_enter Try.func14, Try.ntmps14
    go_wp2
    go_ret2
    exact ⟨rfl, Below.refl _ _⟩
  · have h1 : total zs ≤ n := by omega
    generalize total zs = tot at *
    clear hs h
    go_enter Try.func14, Try.ntmps14
    go_wp2_with fail
    refine (unhide HZ).mono ?_
    rintro e w1 ⟨rfl, hb1⟩
    have HB1 := hide hb1
    clear hb1
    go_wp2
    go_ret2
    exact ⟨rfl, unhide HB1⟩
/-- What At says. -/
def atV (zs : List (Int × Int)) (n : Int) : Value := if 0 ≤ n ∧ n < total zs then .tuple #[.int .i32 (nthOf zs n), .bool true] else .tuple #[.int .i32 0, .bool false]
theorem at_any (B : Nat) (zs : List (Int × Int)) (n : Int) (w : World) (hs : SetAt w B zs) :
    Calls Try.prog 14 #[.pointer (some ⟨B, 0, none⟩), .int .i64 n] w fun e w' => e = .returned (atV zs n) ∧ Below w.heap.size w w' := by
  unfold atV
  by_cases h : 0 ≤ n ∧ n < total zs
  · rw [if_pos h]; exact at_in B zs n h.1 h.2 w hs
  · rw [if_neg h]; exact at_out B zs n (by omega) w hs
theorem belowOf_any (B : Nat) (zs : List (Int × Int)) (r : Int) (h0 : -2147483648 ≤ r) (h1 : r ≤ 2147483647) (w : World) (hs : SetAt w B zs) :
    Calls Try.prog 18 #[.pointer (some ⟨B, 0, none⟩), .int .i32 r] w fun e w' => e = .returned (.int .i64 (belowOf zs r)) ∧ Below w.heap.size w w' :=
  (below_any B zs r h0 h1 w hs).mono fun e w' ⟨k, he, hc, hb⟩ => ⟨by rw [he, belowK_of zs r k hs.spread hc], hb⟩
theorem below_bound : ∀ (zs : List (Int × Int)) (r : Int), RightL zs → -2147483648 ≤ r → r ≤ 2147483647 → -(4294967296 * zs.length) ≤ belowOf zs r ∧ belowOf zs r ≤ 4294967296 * zs.length
  | [], r, _, _, _ => by simp [belowOf]
  | x :: zs, r, hR, h0, h1 => by
    have ih := below_bound zs r (fun z hz => hR z (List.mem_cons_of_mem _ hz)) h0 h1
    have he := endsB_iff (hR x List.mem_cons_self).1
    have a := rank_range he.1.1 he.1.2.1
    have b := rank_range he.2.1 he.2.2.1
    have c : -2147483648 ≤ rankOf r ∧ rankOf r ≤ 2147483647 := by unfold rankOf; split <;> (try split) <;> omega
    simp only [List.length_cons]
    show _ ≤ (if x.1 < r then _ else 0) + belowOf zs r ∧ (if x.1 < r then _ else 0) + belowOf zs r ≤ _
    split <;> omega
set_option maxRecDepth 100000 in
set_option maxHeartbeats 4000000 in
theorem next_in (B : Nat) (zs : List (Int × Int)) (r : Int) (hm : memB zs r = true) (h0 : -2147483648 ≤ r) (h1 : r ≤ 2147483647) (w : World) (hs : SetAt w B zs) :
    Calls Try.prog 15 #[.pointer (some ⟨B, 0, none⟩), .int .i32 r] w fun e w' => e = .returned (atV zs (belowOf zs r + 1)) ∧ Below w.heap.size w w' := by
  have HS := hide hs
  have hbd := below_bound zs r hs.spread.ends h0 h1
  have hl := hs.len
  have HQ := hide (belowOf_any B zs r h0 h1 w hs)
  have HI := hide (fun w hs => in_any B zs r w hs)
  rw [hm] at HI
  obtain ⟨bo, hbo⟩ : ∃ bo, belowOf zs r = bo := ⟨_, rfl⟩
  rw [hbo] at hbd HQ ⊢
  have hbb : -9000000000000000 ≤ bo ∧ bo ≤ 9000000000000000 := by omega
  obtain ⟨t, d, ht⟩ : ∃ t d, atV zs (bo + 1) = .tuple #[.int .i32 t, .bool d] := by
    unfold atV
    split <;> exact ⟨_, _, rfl⟩
  have HA := hide (fun w hs => at_any B zs (bo + 1) w hs)
  rw [ht] at HA ⊢
  clear hs hbd hl hm hbo ht
  go_enter Try.func15, Try.ntmps15
  go_wp2_with fail
  refine (unhide HQ).mono ?_
  rintro e w1 ⟨rfl, hb1⟩
  have HB1 := hide hb1
  have HS1 := hide ((unhide HS).below hb1)
  clear hb1
  go_wp2_with fail
  refine (unhide HI w1 (unhide HS1)).mono ?_
  rintro e w2 ⟨rfl, hb2⟩
  have HB2 := hide ((unhide HB1).trans (hb2.mono (unhide HB1).size))
  have HS2 := hide ((unhide HS1).below hb2)
  clear hb2
  go_wp2_with fail
  refine (unhide HA w2 (unhide HS2)).mono ?_
  rintro e w3 ⟨rfl, hb3⟩
  have HB3 := hide ((unhide HB2).trans (hb3.mono (unhide HB2).size))
  clear hb3
  go_wp2
  go_ret2
  exact ⟨rfl, unhide HB3⟩
set_option maxRecDepth 100000 in
set_option maxHeartbeats 4000000 in
theorem next_out (B : Nat) (zs : List (Int × Int)) (r : Int) (hm : memB zs r = false) (h0 : -2147483648 ≤ r) (h1 : r ≤ 2147483647) (w : World) (hs : SetAt w B zs) :
    Calls Try.prog 15 #[.pointer (some ⟨B, 0, none⟩), .int .i32 r] w fun e w' => e = .returned (atV zs (belowOf zs r)) ∧ Below w.heap.size w w' := by
  have HS := hide hs
  have hbd := below_bound zs r hs.spread.ends h0 h1
  have hl := hs.len
  have HQ := hide (belowOf_any B zs r h0 h1 w hs)
  have HI := hide (fun w hs => in_any B zs r w hs)
  rw [hm] at HI
  obtain ⟨bo, hbo⟩ : ∃ bo, belowOf zs r = bo := ⟨_, rfl⟩
  rw [hbo] at hbd HQ ⊢
  have hbb : -9000000000000000 ≤ bo ∧ bo ≤ 9000000000000000 := by omega
  obtain ⟨t, d, ht⟩ : ∃ t d, atV zs (bo) = .tuple #[.int .i32 t, .bool d] := by
    unfold atV
    split <;> exact ⟨_, _, rfl⟩
  have HA := hide (fun w hs => at_any B zs (bo) w hs)
  rw [ht] at HA ⊢
  clear hs hbd hl hm hbo ht
  go_enter Try.func15, Try.ntmps15
  go_wp2_with fail
  refine (unhide HQ).mono ?_
  rintro e w1 ⟨rfl, hb1⟩
  have HB1 := hide hb1
  have HS1 := hide ((unhide HS).below hb1)
  clear hb1
  go_wp2_with fail
  refine (unhide HI w1 (unhide HS1)).mono ?_
  rintro e w2 ⟨rfl, hb2⟩
  have HB2 := hide ((unhide HB1).trans (hb2.mono (unhide HB1).size))
  have HS2 := hide ((unhide HS1).below hb2)
  clear hb2
  go_wp2_with fail
  refine (unhide HA w2 (unhide HS2)).mono ?_
  rintro e w3 ⟨rfl, hb3⟩
  have HB3 := hide ((unhide HB2).trans (hb3.mono (unhide HB2).size))
  clear hb3
  go_wp2
  go_ret2
  exact ⟨rfl, unhide HB3⟩
end Go.Proofs.Ytemmflhofhngbaa
/- The marks that ranges over functions leave among the deferred calls: several of them, and how a function leaves behind them. -/
namespace Go.Proofs.Ytemmflhofhngbaa
open Go.RowKit Go.Shelf
set_option linter.unusedVariables false

/-- Marks, each above the next one, all of them open. -/
def Marks (lo : Nat) (W : World) : Nat → List Deferred → Prop
  | _, [] => True
  | hi, d :: ds => ∃ D, lo ≤ D ∧ D < hi ∧ d = { target := .collected D, args := #[] } ∧ W.heap[D]? = some (.deferred (some [])) ∧ Marks lo W D ds
theorem Marks.keep {lo : Nat} {W W' : World} : ∀ {ds : List Deferred} {hi : Nat}, Marks lo W hi ds → (∀ k, k < hi → W.heap[k]? = some (.deferred (some [])) → W'.heap[k]? = some (.deferred (some []))) → Marks lo W' hi ds
  | [], _, _, _ => trivial
  | d :: ds, hi, h, hk => by
    obtain ⟨D, h1, h2, h3, h4, h5⟩ := h
    exact ⟨D, h1, h2, h3, hk D h2 h4, Marks.keep h5 (fun k hlt he => hk k (by omega) he)⟩
theorem Marks.mono {lo : Nat} {W : World} {hi hi' : Nat} : ∀ {ds : List Deferred}, Marks lo W hi ds → hi ≤ hi' → Marks lo W hi' ds
  | [], _, _ => trivial
  | d :: ds, ⟨D, h1, h2, h⟩, hl => ⟨D, h1, by omega, h⟩
theorem Marks.others {lo : Nat} {W W' : World} {ds : List Deferred} {hi : Nat} (h : Marks lo W hi ds) (k : KeepsOthers W W') : Marks lo W' hi ds := h.keep (fun j _ he => k.same j _ he rfl)
theorem Marks.below {lo : Nat} {W W' : World} {ds : List Deferred} {hi : Nat} (h : Marks lo W hi ds) (k : Below W.heap.size W W') : Marks lo W' hi ds := h.keep (fun j _ he => by
  have hl := (Array.getElem?_eq_some_iff.1 he).1
  rw [k.block j hl]; exact he)
theorem Marks.own {β : Type} {lo hi B : Nat} {ds : List Deferred} (hB : hi ≤ B) : OwnFrom B (fun (_ : β) W => Marks lo W hi ds) := fun s W W' row hs hg hr => hs.keep (fun k hk he => by
  have hl := (Array.getElem?_eq_some_iff.1 he).1
  rw [hg.block k hl (fun e => by have := (hr k e.symm).1; omega)]; exact he)
theorem Marks.push {lo : Nat} {W : World} {ds : List Deferred} {hi D : Nat} (h : Marks lo W hi ds) (hD : hi ≤ D) (hlo : lo ≤ D) (hm : W.heap[D]? = some (.deferred (some []))) : Marks lo W W.heap.size ({ target := .collected D, args := #[] } :: ds) :=
  ⟨D, hlo, (Array.getElem?_eq_some_iff.1 hm).1, rfl, hm, h.mono hD⟩

theorem leaves_marks {F : Fence} {n : Nat} {P : Program} {fn : Func} {tmps : Array Value} {R : Ending → World → Prop} {w : World} {B : Nat} {cs : Array Value} {t : TypeId} :
    ∀ (ds : List Deferred) (hi : Nat) (W : World), Marks w.heap.size W hi ds → Blk W B cs t → Below w.heap.size w W → (∀ W', Blk W' B cs t → Below w.heap.size w W' → LeavesInM F n P fn tmps R [] .returning W') → LeavesInM F n P fn tmps R ds .returning W
  | [], _, W, _, hb, hB, h => h W hb hB
  | d :: ds, hi, W, hm, hb, hB, h => by
    obtain ⟨D, h1, h2, rfl, h4, h5⟩ := hm
    refine ⟨by simp, .inl ⟨D, _, rfl, run_takeDeferred h4, ?_⟩⟩
    refine leaves_marks ds D _ (h5.keep (fun k hk he => (World.putObj_heap_other (by omega)).trans he)) (hb.put (.deferred none) h4 rfl) (hB.trans (belowK_b (w := w) (Nat.le_refl _) W D _ _ h1 h4 rfl rfl)) h
end Go.Proofs.Ytemmflhofhngbaa
/- SetsNames: the chapter's runs: what stands ahead. -/
namespace Go.Proofs.Ytemmflhofhngbaa
open Go.RowKit Go.Shelf
set_option linter.unusedVariables false
theorem spread_one (x : Int × Int) (h : endsB x = true) (h1 : x.1 ≤ x.2) : Spread [x] := Spread.snoc (ys := []) ⟨fun x h => by simp at h, fun i j x y _ h => by simp at h⟩ h h1 (fun x h => by simp at h)
theorem spread_none : Spread [] := ⟨fun x h => by simp at h, fun i j x y _ h => by simp at h⟩
theorem right_two (x y : Int × Int) (hx : endsB x = true ∧ x.1 ≤ x.2) (hy : endsB y = true ∧ y.1 ≤ y.2) : RightL [x, y] := fun z hz => by
  rcases List.mem_cons.1 hz with rfl | hz
  · exact hx
  · rw [List.mem_singleton.1 hz]; exact hy
theorem mem_gap (r : Int) : memB [(55295, 55295), (57344, 57344)] r = memB [(55295, 57344)] r := by
  by_cases h : runeB r = true
  · obtain ⟨h1, h2, h3⟩ := runeB_iff h
    simp only [memB, List.any_cons, List.any_nil, h, Bool.or_false, Bool.and_true]
    rw [Bool.eq_iff_iff]
    simp only [Bool.or_eq_true, decide_eq_true_eq]
    omega
  · simp [memB, Bool.eq_false_iff.2 h]
theorem mem_all (r : Int) : (runeB r && !memB [] r) = memB [(0, 1114111)] r := by
  by_cases h : runeB r = true
  · obtain ⟨h1, h2, h3⟩ := runeB_iff h
    simp [memB, h, h1, h2]
  · simp [memB, Bool.eq_false_iff.2 h]
theorem mem_nothing (r : Int) : (runeB r && !memB [(0, 1114111)] r) = memB [] r := by
  by_cases h : runeB r = true
  · obtain ⟨h1, h2, h3⟩ := runeB_iff h
    simp [memB, h, h1, h2]
  · simp [memB, Bool.eq_false_iff.2 h]
theorem mem_ab (r : Int) : memB (dup [98, 97, 98]) r = memB [(97, 98)] r := by
  by_cases h : runeB r = true
  · simp only [memB, dup, List.map_cons, List.map_nil, List.any_cons, List.any_nil, h, Bool.or_false, Bool.and_true]
    rw [Bool.eq_iff_iff]
    simp only [Bool.or_eq_true, decide_eq_true_eq]
    omega
  · simp [memB, Bool.eq_false_iff.2 h]
def exS : ByteArray := ⟨#[195, 169, 255]⟩
theorem ex_runes : runesL exS = [233, 65533] := by kernel_rfl
theorem mem_ex (r : Int) : memB (dup (runesL exS)) r = memB [(233, 233), (65533, 65533)] r := by rw [ex_runes]; rfl
theorem spread_ex : Spread [(233, 233), (65533, 65533)] := Spread.snoc (ys := [(233, 233)]) (spread_one _ (by decide) (by decide)) (by decide) (by decide) (fun x h => by rw [List.mem_singleton.1 h]; decide)
theorem right_ex : rightV [(1, 5), (5, 9)] = .tuple #[.int .i64 1, .int .i64 13] := by kernel_rfl
theorem all_ab : ([98, 97, 98] : List Int).all runeB = true := by decide
/-- What the walk stands on. -/
structure SnSt (w W : World) (ss : List (Nat × List (Int × Int))) (bs : List (Nat × Array Value × TypeId)) : Prop where
  old : Below w.heap.size w W
  sets : ∀ p ∈ ss, SetAt W p.1 p.2
  has : ∀ p ∈ bs, Blk W p.1 p.2.1 p.2.2
theorem SnSt.below {w W W' : World} {ss : List (Nat × List (Int × Int))} {bs : List (Nat × Array Value × TypeId)} (h : SnSt w W ss bs) (hb : Below W.heap.size W W') : SnSt w W' ss bs :=
  ⟨h.old.trans (hb.mono h.old.size), fun p hp => (h.sets p hp).below hb, fun p hp => (h.has p hp).below hb (h.has p hp).lt⟩
theorem SnSt.push {w W : World} {ss : List (Nat × List (Int × Int))} {bs : List (Nat × Array Value × TypeId)} (h : SnSt w W ss bs) (cs : Array Value) (t : TypeId) : SnSt w (W.alloc (.cells cs t)) ss ((W.heap.size, cs, t) :: bs) := by
  have k := h.below ((Below.refl W.heap.size W).alloc (Nat.le_refl _) (.cells cs t))
  refine ⟨k.old, k.sets, fun p hp => ?_⟩
  rcases List.mem_cons.1 hp with rfl | hp
  · exact Blk.new W cs t
  · exact k.has p hp
theorem SnSt.set {w W : World} {ss : List (Nat × List (Int × Int))} {bs : List (Nat × Array Value × TypeId)} (h : SnSt w W ss bs) {B : Nat} {zs : List (Int × Int)} (hs : SetAt W B zs) : SnSt w W ((B, zs) :: ss) bs :=
  ⟨h.old, fun p hp => by
    rcases List.mem_cons.1 hp with rfl | hp
    · exact hs
    · exact h.sets p hp, h.has⟩
theorem row_two {W : World} {B : Nat} {a b c d : Int} (h : Blk W B #[.int .i32 a, .int .i32 b, .int .i32 c, .int .i32 d] 28) : RowP W (some ⟨B, 0, none⟩) [(a, b), (c, d)] := fun _ => ⟨B, 0, rfl, h.lt, fun j x hj => by
  match j, hj with
  | 0, hj => simp at hj; subst hj; exact ⟨h.cell 0, h.cell 1⟩
  | 1, hj => simp at hj; subst hj; exact ⟨h.cell 2, h.cell 3⟩
  | j + 2, hj => simp at hj⟩
theorem row_one {W : World} {B : Nat} {a b : Int} (h : Blk W B #[.int .i32 a, .int .i32 b] 28) : RowP W (some ⟨B, 0, none⟩) [(a, b)] := fun _ => ⟨B, 0, rfl, h.lt, fun j x hj => by
  match j, hj with
  | 0, hj => simp at hj; subst hj; exact ⟨h.cell 0, h.cell 1⟩
  | j + 1, hj => simp at hj⟩
theorem eq_nilS (f : FuncId) (p : Value) (w : World) : (binOp BinOp.eql 40 (.func (.func f) #[] #[p]) .nilFunc).run Try.prog w = .ok (.bool false) w := by
  have e : ∃ d, Op.maxDepth = d + 1 := ⟨_, rfl⟩
  obtain ⟨d, hd⟩ := e
  simp [binOp, Op.equal, hd, Op.equalIn, run_underlying Try.underlying40]
theorem range_inj' {i j : Nat} (h : List.range i = List.range j) : i = j := by simpa using congrArg List.length h
theorem tot_ab : tot [(97, 98)] = 2 := by decide
theorem Marks.old' {lo hi B : Nat} {ds : List Deferred} {X Y : World} (h : Marks lo X hi ds) (hb : Below B X Y) (hB : hi ≤ B) : Marks lo Y hi ds := h.keep (fun k hk he => (hb.block k (by omega)).trans he)
def RiN (T : World) (Bn : Nat) (pre : List Nat) (W : World) : Prop := ∃ m : Nat, pre = List.range m ∧ m ≤ 2 ∧ Blk W Bn #[.int .i64 m] 3 ∧ Below T.heap.size T W
theorem RiN.old {T : World} {Bn B : Nat} (h1 : Bn < B) (h3 : T.heap.size ≤ B) : Old B (RiN T Bn) := fun s X Y ⟨m, p1, p2, p3, p4⟩ hb => ⟨m, p1, p2, p3.below hb h1, p4.trans (hb.mono h3)⟩
def FaN (w T : World) (Bn hi : Nat) (ds : List Deferred) (pre : List Nat) (W : World) : Prop := ∃ j : Nat, pre = dnL 2 j ∧ j ≤ 2 ∧ Blk W Bn #[.int .i64 j] 3 ∧ Below T.heap.size T W ∧ Marks w.heap.size W hi ds
theorem FaN.old {w T : World} {Bn hi B : Nat} {ds : List Deferred} (h1 : Bn < B) (h3 : T.heap.size ≤ B) (h4 : hi ≤ B) : Old B (FaN w T Bn hi ds) := fun s X Y ⟨m, p1, p2, p3, p4, p5⟩ hb => ⟨m, p1, p2, p3.below hb h1, p4.trans (hb.mono h3), p5.old' hb h4⟩
theorem nth_ab : nthOf [(97, 98)] ((0 : Nat) : Int) = 97 ∧ nthOf [(97, 98)] ((1 : Nat) : Int) = 98 := by decide
end Go.Proofs.Ytemmflhofhngbaa
/- SetsNames: the chapter's runs. -/
namespace Go.Proofs.Ytemmflhofhngbaa
open Go.RowKit Go.Shelf
attribute [local go_sem] Oper.semAt_some
set_option linter.unusedVariables false
set_option maxRecDepth 100000 in
set_option maxHeartbeats 16000000 in
theorem law_setnames_in (n : Nat) (hn : 8 ≤ n) (w : World) :
    CallsIn Fence.wide n Try.prog 3 #[] w fun e w' => e = .returned (.bool true) ∧ Below w.heap.size w w' := by
  have h1 : 1 ≤ n := by omega
  refine callsIn_of_wp_marks Try.func3 rfl trivial ?_ rfl
  simp only [Try.ntmps3, List.size_toArray, List.length_nil, Nat.reduceSub, Array.replicate_succ, Array.replicate_zero, List.push_toArray, List.append_toArray, List.nil_append, List.cons_append]
  have H0 : Hz (SnSt w (w.alloc (.cells #[.bool false] 4)) [] [(w.heap.size, #[.bool false], 4)]) := hide ((SnSt.mk (Below.refl _ _) (fun p h => by simp at h) (fun p h => by simp at h) : SnSt w w [] []).push #[.bool false] 4)
  gi_wp2_with fail
  refine ⟨trivial, ?_⟩
  refine (callsIn_wide.2 (alive_any _)).mono ?_
  rintro e w1 ⟨rfl, hb⟩
  have H1 := hide (((unhide H0).below hb).push #[.int .i32 55295, .int .i32 55295, .int .i32 57344, .int .i32 57344] 28)
  clear hb H0
  gi_wp2_with fail
  refine ⟨trivial, ?_⟩
  refine (callsIn_wide.2 (of_right (some ⟨w1.heap.size, 0, none⟩) 2 [(55295, 55295), (57344, 57344)] (by decide) (right_two _ _ (by decide) (by decide)) _ (row_two ((unhide H1).has _ (.head _))))).mono ?_
  rintro e w2 ⟨A, lo0, zs, rfl, hlo, hmade, hsp, hzl, hmem, hb⟩
  obtain rfl : zs = [(55295, 57344)] := spread_unique _ _ hsp (spread_one _ (by decide) (by decide)) (fun r => (hmem r).trans (mem_gap r))
  have H2 := hide (((unhide H1).below hb).set (hmade.set hsp (by decide)))
  clear hlo hmade hsp hzl hmem hb H1
  gi_wp2_with fail
  refine ⟨trivial, ?_⟩
  refine (callsIn_wide.2 (of_right none 0 [] (by decide) (fun x h => by simp at h) _ (fun h => by simp at h))).mono ?_
  rintro e w3 ⟨B, lo0, zs, rfl, hlo, hmade, hsp, hzl, hmem, hb⟩
  obtain rfl : zs = [] := List.eq_nil_of_length_eq_zero (by simpa using hzl)
  have H3 := hide (((unhide H2).below hb).set (hmade.set hsp (by decide)))
  clear hlo hmade hsp hzl hmem hb H2
  gi_wp2_with fail
  refine ⟨trivial, ?_⟩
  refine (callsIn_wide.2 (spans_any A [(55295, 57344)] w3 ((unhide H3).sets (A, [(55295, 57344)]) (by simp)))).mono ?_
  rintro e w4 ⟨v, rfl, hown, hb⟩
  obtain ⟨p4, c4, rfl, hrow, _, _⟩ := own_row hown
  have hal := (Below.refl _ w4).alloc (Nat.le_refl _) (.cells #[.int .i32 55295, .int .i32 57344] 28)
  have HR := hide (hrow.below hal)
  have H4 := hide (((unhide H3).below hb).push #[.int .i32 55295, .int .i32 57344] 28)
  clear hown hrow hb hal H3
  gi_wp2_with fail
  refine ⟨trivial, ?_⟩
  refine (callsIn_wide.2 (show Calls Try.prog _ #[.slice p4 1 c4, .slice (some ⟨w4.heap.size, 0, none⟩) 1 1] _ _ from sameP_any p4 (some ⟨w4.heap.size, 0, none⟩) c4 1 [(55295, 57344)] [(55295, 57344)] (by decide) (by decide) _ (unhide HR) (row_one ((unhide H4).has _ (.head _))))).mono ?_
  rintro e w5 ⟨rfl, hb⟩
  rw [sameB_refl]
  have H5 := hide ((unhide H4).below hb)
  clear hb HR H4
  gi_wp2_with fail
  refine ⟨trivial, ?_⟩
  refine (callsIn_wide.2 (size_any A [(55295, 57344)] w5 ((unhide H5).sets (A, [(55295, 57344)]) (by simp)))).mono ?_
  rintro e w6 ⟨rfl, hb⟩
  rw [show total [(55295, 57344)] = 2 by decide]
  have H6 := hide ((unhide H5).below hb)
  clear hb H5
  gi_wp2_with fail
  refine ⟨trivial, ?_⟩
  refine (callsIn_wide.2 (not_any B [] (by decide) w6 ((unhide H6).sets (B, []) (by simp)))).mono ?_
  rintro e w7 ⟨C, lo0, zs, rfl, hlo, hmade, hsp, hzl, hmem, hb⟩
  obtain rfl : zs = [(0, 1114111)] := spread_unique _ _ hsp (spread_one _ (by decide) (by decide)) (fun r => (hmem r).trans (mem_all r))
  have H7 := hide (((unhide H6).below hb).set (hmade.set hsp (by decide)))
  clear hlo hmade hsp hzl hmem hb H6
  gi_wp2_with fail
  refine ⟨trivial, ?_⟩
  refine (callsIn_wide.2 (size_any C [(0, 1114111)] w7 ((unhide H7).sets (C, [(0, 1114111)]) (by simp)))).mono ?_
  rintro e w8 ⟨rfl, hb⟩
  rw [show total [(0, 1114111)] = 1112064 by decide]
  have H8 := hide ((unhide H7).below hb)
  clear hb H7
  gi_wp2_with fail
  refine ⟨trivial, ?_⟩
  refine (callsIn_wide.2 (spans_any C [(0, 1114111)] w8 ((unhide H8).sets (C, [(0, 1114111)]) (by simp)))).mono ?_
  rintro e w9 ⟨v, rfl, hown, hb⟩
  obtain ⟨p9, c9, rfl, hrow, _, _⟩ := own_row hown
  have hal := (Below.refl _ w9).alloc (Nat.le_refl _) (.cells #[.int .i32 0, .int .i32 1114111] 28)
  have HR := hide (hrow.below hal)
  have H9 := hide (((unhide H8).below hb).push #[.int .i32 0, .int .i32 1114111] 28)
  clear hown hrow hb hal H8
  gi_wp2_with fail
  refine ⟨trivial, ?_⟩
  refine (callsIn_wide.2 (show Calls Try.prog _ #[.slice p9 1 c9, .slice (some ⟨w9.heap.size, 0, none⟩) 1 1] _ _ from sameP_any p9 (some ⟨w9.heap.size, 0, none⟩) c9 1 [(0, 1114111)] [(0, 1114111)] (by decide) (by decide) _ (unhide HR) (row_one ((unhide H9).has _ (.head _))))).mono ?_
  rintro e w10 ⟨rfl, hb⟩
  rw [sameB_refl]
  have H10 := hide ((unhide H9).below hb)
  clear hb HR H9
  gi_wp2_with fail
  refine ⟨trivial, ?_⟩
  refine (callsIn_wide.2 (not_any C [(0, 1114111)] (by decide) w10 ((unhide H10).sets (C, [(0, 1114111)]) (by simp)))).mono ?_
  rintro e w11 ⟨D, lo0, zs, rfl, hlo, hmade, hsp, hzl, hmem, hb⟩
  obtain rfl : zs = [] := spread_unique _ _ hsp spread_none (fun r => (hmem r).trans (mem_nothing r))
  have H11 := hide (((unhide H10).below hb).set (hmade.set hsp (by decide)))
  clear hlo hmade hsp hzl hmem hb H10
  gi_wp2_with fail
  refine ⟨trivial, ?_⟩
  refine (callsIn_wide.2 (show Calls Try.prog _ #[.pointer (some ⟨D, 0, none⟩), .pointer (some ⟨B, 0, none⟩)] _ _ from same_any D (some ⟨B, 0, none⟩) [] [] w11 ((unhide H11).sets (D, []) (by simp)) (.inr ⟨B, rfl, (unhide H11).sets (B, []) (by simp)⟩))).mono ?_
  rintro e w12 ⟨rfl, hb⟩
  rw [sameB_refl]
  have H12 := hide (((unhide H11).below hb).push #[.int .i32 98, .int .i32 97, .int .i32 98] 21)
  clear hb H11
  gi_wp2_with fail
  refine ⟨trivial, ?_⟩
  refine (callsIn_wide.2 (from_rune (some ⟨w12.heap.size, 0, none⟩) 3 [98, 97, 98] (by decide) (by decide) _ (fun _ => ⟨w12.heap.size, 0, rfl, ((unhide H12).has _ (.head _)).lt, fun j x hj => (((unhide H12).has _ (.head _)).cell (0 + j)).trans (by match j, hj with | 0, hj => cases hj; rfl | 1, hj => cases hj; rfl | 2, hj => cases hj; rfl | j + 3, hj => simp at hj)⟩))).mono ?_
  intro e w13 hFP
  obtain ⟨E, lo0, zs, rfl, hlo, hmade, hsp, hzl, hmem⟩ := hFP.1 all_ab
  obtain rfl : zs = [(97, 98)] := spread_unique _ _ hsp (spread_one _ (by decide) (by decide)) (fun r => (hmem r).trans (mem_ab r))
  have H13 := hide (((unhide H12).below hFP.2.2).set (hmade.set hsp (by decide)))
  clear hFP hlo hmade hsp hzl hmem H12
  gi_wp2_with fail
  refine ⟨trivial, ?_⟩
  refine (callsIn_wide.2 (size_any E [(97, 98)] w13 ((unhide H13).sets (E, [(97, 98)]) (by simp)))).mono ?_
  rintro e w14 ⟨rfl, hb⟩
  rw [show total [(97, 98)] = 2 by decide]
  have H14 := hide ((unhide H13).below hb)
  clear hb H13
  gi_wp2_with fail
  refine ⟨trivial, ?_⟩
  refine (callsIn_wide.2 (at_any E [(97, 98)] 1 w14 ((unhide H14).sets (E, [(97, 98)]) (by simp)))).mono ?_
  rintro e w15 ⟨rfl, hb⟩
  rw [show atV [(97, 98)] 1 = .tuple #[.int .i32 98, .bool true] by kernel_rfl]
  have H15 := hide ((unhide H14).below hb)
  clear hb H14
  gi_wp2_with fail
  refine ⟨trivial, ?_⟩
  refine (callsIn_wide.2 (next_in E [(97, 98)] 97 (by decide) (by decide) (by decide) w15 ((unhide H15).sets (E, [(97, 98)]) (by simp)))).mono ?_
  rintro e w16 ⟨rfl, hb⟩
  rw [show atV [(97, 98)] (belowOf [(97, 98)] 97 + 1) = .tuple #[.int .i32 98, .bool true] by kernel_rfl]
  have H16 := hide ((unhide H15).below hb)
  clear hb H15
  gi_wp2_with fail
  refine ⟨trivial, ?_⟩
  refine (callsIn_wide.2 (all_call E w16)).mono ?_
  rintro e w17 ⟨rfl, rfl⟩
  have H17 := hide ((unhide H16).push #[.pointer (some ⟨E, 0, none⟩)] 23)
  clear H16
  obtain ⟨Ba, hBa⟩ : ∃ Ba, Ba = w16.heap.size := ⟨_, rfl⟩
  rw [← hBa] at H17
  rw [← hBa]
  clear hBa
  generalize w16.alloc (.cells #[.pointer (some ⟨E, 0, none⟩)] 23) = w17 at *
  gi_wp2_with fail
  refine ⟨trivial, ?_⟩
  refine (callsIn_wide.2 (back_call E w17)).mono ?_
  rintro e w18 ⟨rfl, rfl⟩
  have H18 := hide ((unhide H17).push #[.pointer (some ⟨E, 0, none⟩)] 23)
  clear H17
  obtain ⟨Bb, hBb⟩ : ∃ Bb, Bb = w17.heap.size := ⟨_, rfl⟩
  rw [← hBb] at H18
  rw [← hBb]
  clear hBb
  generalize w17.alloc (.cells #[.pointer (some ⟨E, 0, none⟩)] 23) = w18 at *
  gi_wp2_with fail
  refine ⟨trivial, ?_⟩
  refine (callsIn_wide.2 (belowOf_any E [(97, 98)] 98 (by decide) (by decide) w18 ((unhide H18).sets (E, [(97, 98)]) (by simp)))).mono ?_
  rintro e T ⟨rfl, hb⟩
  rw [show belowOf [(97, 98)] 98 = 1 by decide]
  have HT := hide ((unhide H18).below hb)
  clear hb H18
  have hn1 := eq_nilS 44 (.pointer (some ⟨Ba, 0, none⟩))
  have hn2 := eq_nilS 45 (.pointer (some ⟨Bb, 0, none⟩))
  gi_wp2
  rename_i K1 hK1
  obtain ⟨Bn, hBn⟩ : ∃ Bn, Bn = T.heap.size := ⟨_, rfl⟩
  have hn0 : Blk (T.alloc (.cells #[.int .i64 0] 3)) Bn #[.int .i64 0] 3 := by rw [hBn]; exact Blk.new T _ _
  have ho0 := (Below.refl T.heap.size T).alloc (Nat.le_refl _) (.cells #[.int .i64 0] 3)
  have hz1 : (T.alloc (.cells #[.int .i64 0] 3)).heap.size = T.heap.size + 1 := by simp
  rw [← hBn]
  have hTB : T.heap.size ≤ Bn := by omega
  generalize T.alloc (.cells #[.int .i64 0] 3) = W1 at *
  have hBW : Bn < W1.heap.size := by omega
  have hTW : T.heap.size ≤ W1.heap.size := by omega
  clear hBn hz1 hn1 hn2
  have hSE := (unhide HT).sets (E, [(97, 98)]) (by simp)
  have hcA := (unhide HT).has (Ba, #[.pointer (some ⟨E, 0, none⟩)], 23) (by simp)
  have hcB := (unhide HT).has (Bb, #[.pointer (some ⟨E, 0, none⟩)], 23) (by simp)
  have hK1' := hide hK1
  clear hK1
  refine range_deep rfl h1 (gf := 44) (lb := #[.pointer (some ⟨Ba, 0, none⟩)]) rfl trivial (enters_of Try.func44 (by kernel_rfl) rfl)
    (all_deep (n - 1) Ba E (by omega) [(97, 98)] (by decide) T hSE (hcA.cell 0)) KpB_t (fun W l o hl => KpB_b W l o (by omega)) ho0 (fun _ => rfl)
    (RiN T Bn) (fun _ _ _ => False) (RiN.old hBW hTW) (fun _ _ _ _ h _ => h) ⟨0, rfl, by omega, hn0, ho0⟩ ?round ?done ?stop
  case round =>
    rintro pre x W ⟨m, hpre, hm, hbn, hbT⟩ ⟨hx, hpre2⟩ hge
    obtain rfl : m = x := range_inj' (hpre.symm.trans hpre2)
    subst hpre
    clear hpre2
    rw [tot_ab] at hx
    dsimp only [encsR]
    gi_wp2
    refine ⟨Above.refl _ _, fun _ _ => rfl, ⟨m, rfl, hm, hbn, hbT⟩, ?_⟩
    intro Wr hgr hsr ⟨m2, hpre, _, hbn2, hbT2⟩
    obtain rfl : m = m2 := range_inj' hpre
    rcases show m = 0 ∨ m = 1 by omega with rfl | rfl
    · rw [nth_ab.1]
      have hb3 : Blk Wr Bn #[.int .i64 0] 3 := hbn2
      have n0 := hb3.cell 0
      have nf := hb3.frozen 0
      have c1 : Blk (Wr.setCell ⟨Bn, 0, none⟩ (.int .i64 1)) Bn #[.int .i64 1] 3 := hb3.set 0 _
      have c2 := hbT2.setCell (p := ⟨Bn, 0, none⟩) hTB (.int .i64 1)
      have c4 : Above W1.heap.size Wr (Wr.setCell ⟨Bn, 0, none⟩ (.int .i64 1)) := (Above.refl _ _).set (by omega) _
      have c5 : KpB T.heap.size Wr (Wr.setCell ⟨Bn, 0, none⟩ (.int .i64 1)) := fun k hk => Below.heap_setCell Wr ⟨Bn, 0, none⟩ _ k (by show k ≠ Bn; omega)
      have HC := hide (And.intro c1 (And.intro c2 (And.intro c4 c5)))
      clear c1 c2 c4 c5 hbn hbT hbn2 hbT2 hgr hsr hpre hb3
      gi_wp2
      exact ⟨(unhide HC).2.2.1, (unhide HC).2.2.2, 1, rfl, by omega, (unhide HC).1, (unhide HC).2.1⟩
    · rw [nth_ab.2]
      have hb3 : Blk Wr Bn #[.int .i64 1] 3 := hbn2
      have n0 := hb3.cell 0
      have nf := hb3.frozen 0
      have c1 : Blk (Wr.setCell ⟨Bn, 0, none⟩ (.int .i64 2)) Bn #[.int .i64 2] 3 := hb3.set 0 _
      have c2 := hbT2.setCell (p := ⟨Bn, 0, none⟩) hTB (.int .i64 2)
      have c4 : Above W1.heap.size Wr (Wr.setCell ⟨Bn, 0, none⟩ (.int .i64 2)) := (Above.refl _ _).set (by omega) _
      have c5 : KpB T.heap.size Wr (Wr.setCell ⟨Bn, 0, none⟩ (.int .i64 2)) := fun k hk => Below.heap_setCell Wr ⟨Bn, 0, none⟩ _ k (by show k ≠ Bn; omega)
      have HC := hide (And.intro c1 (And.intro c2 (And.intro c4 c5)))
      clear c1 c2 c4 c5 hbn hbT hbn2 hbT2 hgr hsr hpre hb3
      gi_wp2
      exact ⟨(unhide HC).2.2.1, (unhide HC).2.2.2, 2, rfl, by omega, (unhide HC).1, (unhide HC).2.1⟩
  case done =>
    rintro D xs W2 hD hS ⟨m, hpre, hm, hbn, hbT⟩ hdef
    rw [tot_ab] at hS
    obtain rfl : m = 2 := range_inj' (hpre.symm.trans hS)
    have hb2 : Blk W2 Bn #[.int .i64 2] 3 := hbn
    have hw2 : T.heap.size ≤ W2.heap.size := hbT.size
    have hBW2 := hb2.lt
    have hwT := (unhide HT).old.size
    have hM2 : Marks w.heap.size W2 W2.heap.size [{ target := .collected D, args := #[] }] := Marks.push (W := W2) (lo := w.heap.size) (hi := 0) (ds := []) trivial (Nat.zero_le _) (by omega) hdef
    clear hpre hS hm hbn hdef xs hn0 ho0
    apply unhide hK1'
    gi_wp2
    rename_i K2 hK2
    have hK2' := hide hK2
    clear hK2
    refine range_deep rfl h1 (gf := 45) (lb := #[.pointer (some ⟨Bb, 0, none⟩)]) rfl trivial (enters_of Try.func45 (by kernel_rfl) rfl)
      (back_deep (n - 1) Bb E (by omega) [(97, 98)] (by decide) T hSE (hcB.cell 0)) KpB_t (fun W l o hl => KpB_b W l o (by omega)) hbT (fun _ => rfl)
      (FaN w T Bn W2.heap.size [{ target := .collected D, args := #[] }]) (fun _ _ _ => False) (FaN.old hBW2 hw2 (Nat.le_refl _)) (fun _ _ _ _ h _ => h) ⟨2, (dnL_top _).symm, by omega, hb2, hbT, hM2⟩ ?round2 ?done2 ?stop2
    case round2 =>
      rintro pre x W ⟨j, hpre, hj, hbn, hbT3, hmk⟩ ⟨hx, hpre2⟩ hge
      rw [tot_ab] at hx hpre2
      obtain rfl : j = x + 1 := dnL_inj hj (by omega) (hpre.symm.trans hpre2)
      subst hpre
      clear hpre2
      dsimp only [encsR]
      gi_wp2
      refine ⟨Above.refl _ _, fun _ _ => rfl, ⟨x + 1, rfl, hj, hbn, hbT3, hmk⟩, ?_⟩
      intro Wr hgr hsr ⟨j2, hpre, hj2, hbn2, hbT2, hmk2⟩
      obtain rfl : x + 1 = j2 := dnL_inj hj hj2 hpre
      rcases show x = 0 ∨ x = 1 by omega with rfl | rfl
      · rw [nth_ab.1]
        have hb3 : Blk Wr Bn #[.int .i64 1] 3 := hbn2
        have n0 := hb3.cell 0
        have nf := hb3.frozen 0
        have c1 : Blk (Wr.setCell ⟨Bn, 0, none⟩ (.int .i64 0)) Bn #[.int .i64 0] 3 := hb3.set 0 _
        have n1 := c1.cell 0
        have c2 := hbT2.setCell (p := ⟨Bn, 0, none⟩) hTB (.int .i64 0)
        have c3 : Marks w.heap.size (Wr.setCell ⟨Bn, 0, none⟩ (.int .i64 0)) W2.heap.size [{ target := .collected D, args := #[] }] := hmk2.keep (fun k hk he => (Below.heap_setCell Wr ⟨Bn, 0, none⟩ _ k (by intro e; have e' : k = Bn := e; rw [e', show Wr.heap[Bn]? = _ from hb3] at he; cases he)).trans he)
        have c4 : Above W2.heap.size Wr (Wr.setCell ⟨Bn, 0, none⟩ (.int .i64 0)) := (Above.refl _ _).set (by omega) _
        have c5 : KpB T.heap.size Wr (Wr.setCell ⟨Bn, 0, none⟩ (.int .i64 0)) := fun k hk => Below.heap_setCell Wr ⟨Bn, 0, none⟩ _ k (by show k ≠ Bn; omega)
        have HC := hide (And.intro c1 (And.intro c2 (And.intro c3 (And.intro c4 c5))))
        clear c1 c2 c3 c4 c5 hbn2 hbT2 hmk2 hgr hsr hpre hb3
        gi_wp2
        exact ⟨(unhide HC).2.2.2.1, (unhide HC).2.2.2.2, 0, by decide, by omega, (unhide HC).1, (unhide HC).2.1, (unhide HC).2.2.1⟩
      · rw [nth_ab.2]
        have hb3 : Blk Wr Bn #[.int .i64 2] 3 := hbn2
        have n0 := hb3.cell 0
        have nf := hb3.frozen 0
        have c1 : Blk (Wr.setCell ⟨Bn, 0, none⟩ (.int .i64 1)) Bn #[.int .i64 1] 3 := hb3.set 0 _
        have n1 := c1.cell 0
        have c2 := hbT2.setCell (p := ⟨Bn, 0, none⟩) hTB (.int .i64 1)
        have c3 : Marks w.heap.size (Wr.setCell ⟨Bn, 0, none⟩ (.int .i64 1)) W2.heap.size [{ target := .collected D, args := #[] }] := hmk2.keep (fun k hk he => (Below.heap_setCell Wr ⟨Bn, 0, none⟩ _ k (by intro e; have e' : k = Bn := e; rw [e', show Wr.heap[Bn]? = _ from hb3] at he; cases he)).trans he)
        have c4 : Above W2.heap.size Wr (Wr.setCell ⟨Bn, 0, none⟩ (.int .i64 1)) := (Above.refl _ _).set (by omega) _
        have c5 : KpB T.heap.size Wr (Wr.setCell ⟨Bn, 0, none⟩ (.int .i64 1)) := fun k hk => Below.heap_setCell Wr ⟨Bn, 0, none⟩ _ k (by show k ≠ Bn; omega)
        have HC := hide (And.intro c1 (And.intro c2 (And.intro c3 (And.intro c4 c5))))
        clear c1 c2 c3 c4 c5 hbn2 hbT2 hmk2 hgr hsr hpre hb3
        gi_wp2
        exact ⟨(unhide HC).2.2.2.1, (unhide HC).2.2.2.2, 1, by decide, by omega, (unhide HC).1, (unhide HC).2.1, (unhide HC).2.2.1⟩
    case done2 =>
      rintro D2 xs W4 hD2 hS ⟨j, hpre, hj, hbn, hbT4, hmk⟩ hdef
      rw [tot_ab] at hS
      obtain rfl : j = 0 := dnL_inj hj (Nat.zero_le _) (hpre.symm.trans hS)
      have hb4 : Blk W4 Bn #[.int .i64 0] 3 := hbn
      have S4 : SnSt w W4 [] [(Bn, #[.int .i64 0], 3), (w.heap.size, #[.bool false], 4)] := by
        have k := (unhide HT).below (hbT4.mono (Nat.le_refl _))
        exact ⟨k.old, fun p h => by simp at h, fun p hp => by
          rcases List.mem_cons.1 hp with rfl | hp
          · exact hb4
          · rw [List.mem_singleton.1 hp]; exact k.has (w.heap.size, #[.bool false], 4) (by simp)⟩
      have M4 := hmk.push (D := D2) hD2 (by omega) hdef
      have H4 := hide (And.intro S4 M4)
      clear S4 M4 hpre hS hj hbn hdef hbT4 hmk hb4 hb2 hM2 hbT hcA hcB hSE
      apply unhide hK2'
      gi_wp2_with fail
      refine ⟨trivial, ?_⟩
      refine (callsIn_wide.2 (show Calls Try.prog _ #[.string ⟨#[195, 169, 255]⟩] _ _ from settext_any exS (by decide) W4)).mono ?_
      rintro e w20 ⟨X, lo0, zs, rfl, hlo, hmade, hsp, hzl, hmem, hb⟩
      obtain rfl : zs = [(233, 233), (65533, 65533)] := spread_unique _ _ hsp spread_ex (fun r => (hmem r).trans (mem_ex r))
      have H20 := hide (And.intro ((((unhide H4).1.below hb).set (hmade.set hsp (by decide))).push #[.int .i32 1, .int .i32 5, .int .i32 5, .int .i32 9] 28) (((unhide H4).2.below hb).below ((Below.refl w20.heap.size w20).alloc (Nat.le_refl _) (.cells #[.int .i32 1, .int .i32 5, .int .i32 5, .int .i32 9] 28))))
      clear hlo hmade hsp hzl hmem hb H4
      gi_wp2_with fail
      refine ⟨trivial, ?_⟩
      refine (callsIn_wide.2 (show Calls Try.prog _ #[.slice (some ⟨w20.heap.size, 0, none⟩) 2 2] _ _ from right_any (some ⟨w20.heap.size, 0, none⟩) 2 [(1, 5), (5, 9)] (by decide) _ (row_two ((unhide H20).1.has _ (.head _))))).mono ?_
      rintro e w21 ⟨rfl, hb⟩
      rw [right_ex]
      have H21 := hide (And.intro ((unhide H20).1.below hb) ((unhide H20).2.below hb))
      clear hb H20
      have kn := ((unhide H21).1.has (Bn, #[.int .i64 0], 3) (by simp)).cell 0
      gi_wp2_with fail
      refine ⟨trivial, ?_⟩
      refine (callsIn_wide.2 (size_any X [(233, 233), (65533, 65533)] w21 ((unhide H21).1.sets (X, [(233, 233), (65533, 65533)]) (by simp)))).mono ?_
      rintro e w22 ⟨rfl, hb⟩
      rw [show total [(233, 233), (65533, 65533)] = 2 by decide]
      have H22 := hide (And.intro ((unhide H21).1.below hb) ((unhide H21).2.below hb))
      clear hb H21 kn
      gi_wp2_with fail
      refine ⟨trivial, ?_⟩
      refine (callsIn_wide.2 (in_any X [(233, 233), (65533, 65533)] 65533 w22 ((unhide H22).1.sets (X, [(233, 233), (65533, 65533)]) (by simp)))).mono ?_
      rintro e w23 ⟨rfl, hb⟩
      rw [show memB [(233, 233), (65533, 65533)] 65533 = true by decide]
      have H23 := hide (And.intro ((unhide H22).1.below hb) ((unhide H22).2.below hb))
      clear hb H22
      have hres := (unhide H23).1.has (w.heap.size, #[.bool false], 4) (by simp)
      have k0 := hres.cell 0
      have kf := hres.frozen 0
      have HC := hide (And.intro (hres.set 0 (.bool true)) (And.intro ((unhide H23).1.old.setCell (p := ⟨w.heap.size, 0, none⟩) (Nat.le_refl _) (.bool true)) ((unhide H23).2.others (KeepsOthers.setCell w23 ⟨w.heap.size, 0, none⟩ (.bool true)))))
      clear hres H23
      gi_wp2
      refine leaves_marks _ _ _ (unhide HC).2.2 (unhide HC).1 (unhide HC).2.1 ?_
      intro W' hb' hB'
      have q := hb'.cell 0
      exact ⟨.bool true, by simp [results, Try.f3, go_sem, q], rfl, hB'⟩
    case stop2 => exact fun D c pre W2 hD hSp h hdef => h.elim
  case stop => exact fun D c pre W2 hD hSp h hdef => h.elim
theorem law_setnames (w : World) : Calls Try.prog 3 #[] w fun e w' => e = .returned (.bool true) ∧ Below w.heap.size w w' := callsIn_wide.1 (law_setnames_in 8 (Nat.le_refl _) w)
end Go.Proofs.Ytemmflhofhngbaa
