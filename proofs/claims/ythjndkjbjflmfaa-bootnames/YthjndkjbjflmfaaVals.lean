/- Count, Runes, Clean and Valid, told for every text that is not too great. -/
import Derived.Test.YthjndkjbjflmfaaLast
import Derived.Laws.Cover4
import Derived.Laws.IdiomStrings
namespace Go.Proofs.Ythjndkjbjflmfaa
open Go.RowKit Go.Shelf
attribute [local go_sem] Oper.semAt_some
set_option linter.unusedVariables false

set_option maxRecDepth 100000 in
set_option maxHeartbeats 2000000 in
theorem count_any (s : ByteArray) (hs : s.size ≤ maxLen) (w : World) : Calls Try.prog 21 #[.string s] w fun e w' => e = .returned (.int .i64 (starts s).length) ∧ Below w.heap.size w w' := by
  unfold maxLen at hs
  go_enter Try.func21, Try.ntmps21
  go_wp2
  go_loopw [3] (fun n w' => ∃ (pre : List Nat) (pos f : Nat), w' = w.iter s pos ∧ n = .int .i64 pre.length ∧ Hz (starts s = pre ++ startsFrom s f pos) ∧ s.size ≤ pos + f) (fun _ w' => s.size - w'.iterPos w.heap.size)
  case atStart => exact ⟨[], 0, s.size, rfl, rfl, hide rfl, by omega⟩
  case round =>
    obtain ⟨pre, pos, f, rfl, rfl, HS, hf⟩ := hrel
    by_cases hp : pos < s.size
    · have hnx : ∀ ty, (Instr.next (.pointer (some ⟨w.heap.size, 0, none⟩)) true ty).run Try.prog (w.iter s pos) = _ := fun ty => run_next_any w s pos ty hp
      have hpl : (pre.length : Int) < 2 ^ 63 - 1 := by
        have h1 := starts_length s
        obtain ⟨g, rfl⟩ : ∃ g, f = g + 1 := ⟨f - 1, by omega⟩
        rw [unhide HS, List.length_append, startsFrom_cons s g pos hp] at h1
        simp at h1
        omega
      go_wp2
      have hwd := wd_pos s pos
      go_roundw
      case rel =>
        refine ⟨pre ++ [pos], pos + wd s pos, f - 1, rfl, ?_, hide ?_, by omega⟩
        · rw [List.length_append]; go_num
        · obtain ⟨g, rfl⟩ : ∃ g, f = g + 1 := ⟨f - 1, by omega⟩
          rw [unhide HS, startsFrom_cons s g pos hp]; simp
      case measure =>
        simp
        simp only [wd] at hwd
        omega
    · have hnx : ∀ ty, (Instr.next (.pointer (some ⟨w.heap.size, 0, none⟩)) true ty).run Try.prog (w.iter s pos) = _ := fun ty => run_next_end w s pos ty hp
      have hst := unhide HS
      rw [startsFrom_end s f pos hp, List.append_nil] at hst
      have HST := hide hst
      clear hst HS
      go_wp2
      go_ret
      exact ⟨by rw [unhide HST]; rfl, (Below.refl _ _).alloc (Nat.le_refl _) _⟩

/-- The runes of the spots. -/
def runesL (s : ByteArray) : List Int := (starts s).map (fun i => ((rn s i : Nat) : Int))
theorem runesFrom_eq (s : ByteArray) : ∀ f i (acc : Array Value), Conv.runesFrom s f i acc = acc ++ ((startsFrom s f i).map (fun i => Value.int .i32 (rn s i))).toArray
  | 0, i, acc => by simp [Conv.runesFrom, startsFrom]
  | f + 1, i, acc => by
    unfold Conv.runesFrom startsFrom
    split
    · show Conv.runesFrom s f (i + wd s i) (acc.push (.int .i32 (rn s i))) = _
      rw [runesFrom_eq s f]
      simp
    · simp
theorem runesFrom_all (s : ByteArray) : Conv.runesFrom s s.size 0 #[] = ((runesL s).map (Value.int .i32)).toArray := by
  rw [runesFrom_eq]; simp [runesL, starts]
theorem runesL_length (s : ByteArray) : (runesL s).length = (starts s).length := by simp [runesL]

set_option maxHeartbeats 2000000 in
theorem runes_any (s : ByteArray) (hs : s.size ≤ 70368744177664) (w : World) : Calls Try.prog 30 #[.string s] w fun e w' => ∃ cap, e = .returned (.slice (some ⟨w.heap.size, 0, none⟩) (runesL s).length cap) ∧ (runesL s).length ≤ cap ∧
    (∃ cs : Array Value, w' = w.drew.alloc (.cells (((runesL s).map (Value.int .i32)).toArray ++ cs) 21)) := by
  have hl : (Conv.runesFrom s s.size 0 #[]).size = (runesL s).length := by rw [runesFrom_all]; simp
  have h46 : (Conv.runesFrom s s.size 0 #[]).size ≤ 70368744177664 := by
    have := starts_length s; rw [hl, runesL_length]; omega
  have kc := run_runes_of_string (P := Try.prog) w 9 59 21 s Try.underlying9 Try.underlying59 Try.underlying21 h46
  have hge := grownCap_ge w (Conv.runesFrom s s.size 0 #[]).size 0 21
  rw [hl] at hge
  rw [hl, runesFrom_all] at kc
  generalize grownCap w (runesL s).length 0 21 = cap at kc hge
  generalize Array.replicate (cap - (runesL s).length) (Value.int IntKind.i32 0) = cs at kc
  clear h46 hl
  go_enter Try.func30, Try.ntmps30
  go_wp2
  go_ret
  exact ⟨cap, rfl, hge, cs, rfl⟩

theorem runes_cell (W : World) (zs : List Int) (cs : Array Value) (t : TypeId) (j : Nat) (h : j < zs.length) :
    (W.alloc (.cells ((zs.map (Value.int .i32)).toArray ++ cs) t)).cell? ((⟨W.heap.size, 0, none⟩ : Addr).add j) = some (.int .i32 (zs.getD j 0)) := by
  rw [show (⟨W.heap.size, 0, none⟩ : Addr).add j = ⟨W.heap.size, j, none⟩ by unfold Addr.add; split <;> simp_all]
  rw [(Blk.new W _ t).cell j, Array.getElem?_append_left (by simpa using h)]
  simp [List.getD, List.getElem?_eq_getElem h]

/-- The text of the runes of the spots. -/
def cleanV (s : ByteArray) : ByteArray := runesBytes (runesL s)

/-- Is what stands at i bad? -/
def badB (s : ByteArray) (i : Nat) : Bool := decide (rn s i = 65533 ∧ wd s i = 1)
def validFrom (s : ByteArray) : List Nat → Nat → Value
  | [], _ => .tuple #[.agg #[.int .i64 0, .int .i64 0], .bool true]
  | i :: l, n => if badB s i then .tuple #[.agg #[.int .i64 i, .int .i64 n], .bool false] else validFrom s l (n + 1)
def validV (s : ByteArray) : Value := validFrom s (starts s) 0
theorem validFrom_none (s : ByteArray) : ∀ (l : List Nat) (n : Nat), (∀ i ∈ l, badB s i = false) → validFrom s l n = .tuple #[.agg #[.int .i64 0, .int .i64 0], .bool true]
  | [], _, _ => rfl
  | i :: l, n, h => by
    unfold validFrom
    rw [if_neg (by rw [h i (by simp)]; simp)]
    exact validFrom_none s l (n + 1) (fun j hj => h j (by simp [hj]))
theorem validFrom_some (s : ByteArray) (x : Nat) (r : List Nat) (hx : badB s x = true) : ∀ (q : List Nat) (n : Nat), (∀ i ∈ q, badB s i = false) → validFrom s (q ++ x :: r) n = .tuple #[.agg #[.int .i64 x, .int .i64 ((n + q.length : Nat) : Int)], .bool false]
  | [], n, _ => by simp [validFrom, hx]
  | i :: q, n, h => by
    rw [List.cons_append]
    unfold validFrom
    rw [if_neg (by rw [h i (by simp)]; simp), validFrom_some s x r hx q (n + 1) (fun j hj => h j (by simp [hj]))]
    rw [show n + 1 + q.length = n + (i :: q).length by simp; omega]

set_option maxRecDepth 100000 in
set_option maxHeartbeats 4000000 in
theorem valid_in (n : Nat) (hn : 3 ≤ n) (s : ByteArray) (hs : s.size ≤ maxLen) (w : World) :
    CallsIn Fence.wide n Try.prog 39 #[.string s] w fun e W' => e = .returned (validV s) ∧ Below w.heap.size w W' := by
  have h1 : 1 ≤ n := by omega
  refine callsIn_of_wp_marks Try.func39 rfl trivial ?_ rfl
  simp only [Try.ntmps39, List.size_toArray, List.length_cons, List.length_nil, Nat.reduceAdd, Nat.reduceSub, Array.replicate_succ, Array.replicate_zero, List.push_toArray, List.append_toArray, List.nil_append, List.cons_append]
  gi_wp2_with (refine ⟨trivial, ?_⟩; gi_at_call 59; refine (callsIn_wide.2 (spots_any _ _)).mono ?_; rintro e w' ⟨rfl, rfl⟩)
  have hb2 := (((Blk.new w #[.int .i64 0, .int .i64 0] 76).alloc (.cells #[.bool false] 4)).alloc (.cells #[.int .i64 0] 3)).alloc (.cells #[.string s] 9)
  have hb3 := ((Blk.new (w.alloc (.cells #[.int .i64 0, .int .i64 0] 76)) #[.bool false] 4).alloc (.cells #[.int .i64 0] 3)).alloc (.cells #[.string s] 9)
  have hb4 := (Blk.new ((w.alloc (.cells #[.int .i64 0, .int .i64 0] 76)).alloc (.cells #[.bool false] 4)) #[.int .i64 0] 3).alloc (.cells #[.string s] 9)
  have hbS := Blk.new (((w.alloc (.cells #[.int .i64 0, .int .i64 0] 76)).alloc (.cells #[.bool false] 4)).alloc (.cells #[.int .i64 0] 3)) #[.string s] 9
  simp only [World.size_alloc] at hb3 hb4 hbS
  have hB0 : Below w.heap.size w ((((w.alloc (.cells #[.int .i64 0, .int .i64 0] 76)).alloc (.cells #[.bool false] 4)).alloc (.cells #[.int .i64 0] 3)).alloc (.cells #[.string s] 9)) := ((((Below.refl _ w).alloc (Nat.le_refl _) _).alloc (by simp) _).alloc (by simp; omega) _).alloc (by simp; omega) _
  have hsz : ((((w.alloc (.cells #[.int .i64 0, .int .i64 0] 76)).alloc (.cells #[.bool false] 4)).alloc (.cells #[.int .i64 0] 3)).alloc (.cells #[.string s] 9)).heap.size = w.heap.size + 4 := by simp
  obtain ⟨W0, hW0⟩ : ∃ W0, (((w.alloc (.cells #[.int .i64 0, .int .i64 0] 76)).alloc (.cells #[.bool false] 4)).alloc (.cells #[.int .i64 0] 3)).alloc (.cells #[.string s] 9) = W0 := ⟨_, rfl⟩
  rw [hW0] at hb2 hb3 hb4 hbS hB0 hsz ⊢
  clear hW0
  refine wpIn_rangeFunc_ownH rfl h1 (gf := 74) (lb := #[.pointer (some ⟨w.heap.size + 1 + 1 + 1, 0, none⟩)]) rfl trivial (enters_of Try.func74 (by kernel_rfl) rfl)
    (spots_stops (n - 1) (w.heap.size + 1 + 1 + 1) (by omega) s hs W0 (hbS.cell 0)) KpS_t (KpS_b (by omega)) (Below.refl _ _) (fun _ => rfl)
    (fun pre W => (Hz (∀ i ∈ pre, badB s i = false) ∧ Blk W w.heap.size #[.int .i64 0, .int .i64 0] 76 ∧ Blk W (w.heap.size + 1) #[.bool false] 4 ∧ Blk W (w.heap.size + 1 + 1) #[.int .i64 pre.length] 3 ∧ Blk W (w.heap.size + 1 + 1 + 1) #[.string s] 9) ∧ Below w.heap.size w W)
    (fun c pre W => (c = .ret ∧ ∃ q x, pre = q ++ [x] ∧ Hz (∀ i ∈ q, badB s i = false) ∧ badB s x = true ∧ Blk W w.heap.size #[.int .i64 x, .int .i64 (q.length : Nat)] 76 ∧ Blk W (w.heap.size + 1) #[.bool false] 4) ∧ Below w.heap.size w W)
    (OwnFrom.and (Own.from (fun s A B row hs hg hr => ⟨hs.1, Blk.own _ (fun _ => _) _ () A B row hs.2.1 hg hr, Blk.own _ (fun _ => _) _ () A B row hs.2.2.1 hg hr, Blk.own _ (fun _ => _) _ () A B row hs.2.2.2.1 hg hr, Blk.own _ (fun _ => _) _ () A B row hs.2.2.2.2 hg hr⟩) _) (ownFrom_below (Nat.le_refl _) (by omega)))
    (fun c => OwnFrom.and (Own.from (fun s A B row hs hg hr => by
      obtain ⟨hc, q, x, hx, hq, hbx, k2, k3⟩ := hs
      exact ⟨hc, q, x, hx, hq, hbx, Blk.own _ (fun _ => _) _ () A B row k2 hg hr, Blk.own _ (fun _ => _) _ () A B row k3 hg hr⟩) _) (ownFrom_below (Nat.le_refl _) (by omega)))
    ⟨⟨hide (fun i hi => by cases hi), hb2, hb3, hb4, hbS⟩, hB0⟩
    (fun x a' W => ∃ Bx, w.heap.size + 1 + 1 + 1 < Bx ∧ Blk W Bx (spotCells (spotV s x)) 109 ∧ a' = { tmps := #[.string s, undef, .pointer (some ⟨w.heap.size, 0, none⟩), .pointer (some ⟨w.heap.size + 1, 0, none⟩), .pointer (some ⟨w.heap.size + 1 + 1, 0, none⟩), .int .i64 x, .pointer (some ⟨Bx, 0, none⟩), .string s, .func (.func 74) #[] #[.pointer (some ⟨w.heap.size + 1 + 1 + 1, 0, none⟩)], .int .i64 x, encSpot (spotV s x), undef, undef, undef, undef, undef, undef, undef, undef], defers := [] })
    (fun x a' => Own.from (fun u A B row hs hg hr => by
      obtain ⟨Bx, h1, h2, h3⟩ := hs
      exact ⟨Bx, h1, Blk.own _ (fun _ => _) _ () A B row h2 hg hr, h3⟩) _)
    ?assign ?body ?done ?stop
  case assign =>
    rintro l pre x W K ⟨⟨hp, k2, k3, k4, kS⟩, hB⟩ hK
    gi_wp2
    exact hK _ _ ((KeepsOthers.alloc _ _).from _) ⟨(kS.alloc _).cell 0 |>.trans (kS.cell 0).symm, KeepsWalks.alloc _ _⟩ ⟨⟨hp, k2.alloc _, k3.alloc _, k4.alloc _, kS.alloc _⟩, hB.alloc hB.size _⟩ ⟨W.heap.size, kS.lt, Blk.new W _ 109, rfl⟩
  case body =>
    rintro l pre x a' W hl ⟨r, hr⟩ ⟨⟨hp, k2, k3, k4, kS⟩, hB⟩ ⟨Bx, hBx, bX, rfl⟩ hlt
    have x2 : W.cell? ⟨Bx, 2, none⟩ = some (.bool (badB s x)) := bX.cell 2
    have c0 := k2.cell 0
    have c1 := k2.cell 1
    have c3 := k3.cell 0
    have c4 := k4.cell 0
    have f0 := k2.frozen
    have f3 := k3.frozen
    have f4 := k4.frozen
    have hpl : (pre.length : Int) < 2 ^ 63 - 1 := by unfold maxLen at hs; omega
    cases hbx : badB s x with
    | true =>
      rw [hbx] at x2
      have HBX := hide hbx
      clear hbx
      gi_wp2
      refine ⟨(((KeepsOthers.setCell _ _ _).trans (KeepsOthers.setCell _ _ _)).trans (KeepsOthers.setCell _ _ _)).from _, ⟨rfl, pre, x, rfl, hp, unhide HBX, ?_, ?_⟩, ?_⟩
      · exact Blk.other ((k2.set 0 _).set 1 _) (by omega) _
      · exact ((k3.other (by omega) _).other (by omega) _).set 0 _
      · exact ((hB.setCell (p := ⟨w.heap.size, 0, none⟩) (Nat.le_refl _) _).setCell (p := ⟨w.heap.size, 1, none⟩) (Nat.le_refl _) _).setCell (p := ⟨w.heap.size + 1, 0, none⟩) (by simp) _
    | false =>
      rw [hbx] at x2
      have HBX := hide hbx
      clear hbx
      gi_wp2
      refine ⟨(KeepsOthers.setCell _ _ _).from _, ⟨((kS.other (by omega) _).cell 0).trans (kS.cell 0).symm, (KeepsOthers.setCell _ _ _).walks⟩, ⟨hide (fun i hi => ?_), k2.other (by omega) _, k3.other (by omega) _, ?_, kS.other (by omega) _⟩, hB.setCell (p := ⟨w.heap.size + 1 + 1, 0, none⟩) (by simp; omega) _⟩
      · rcases List.mem_append.1 hi with h | h
        · exact unhide hp i h
        · simp at h; rw [h]; exact unhide HBX
      · rw [show (((pre ++ [x]).length : Nat) : Int) = (pre.length : Int) + 1 by simp]
        exact k4.set 0 _
  case done =>
    rintro D ys W hD hys ⟨⟨hne, k2, k3, _⟩, hB⟩ hK
    have hv : validV s = .tuple #[.agg #[.int .i64 0, .int .i64 0], .bool true] := validFrom_none s _ 0 (by rw [← hys]; exact unhide hne)
    have HV := hide hv
    have c0 := k2.cell 0
    have c1 := k2.cell 1
    have c3 := k3.cell 0
    have f0 := k2.frozen
    have f3 := k3.frozen
    clear hys hne hv
    gi_wp2
    have hK' := (((KeepsOthers.setCell W ⟨w.heap.size, 0, none⟩ (.int .i64 0)).trans (KeepsOthers.setCell _ ⟨w.heap.size, 1, none⟩ (.int .i64 0))).trans (KeepsOthers.setCell _ ⟨w.heap.size + 1, 0, none⟩ (.bool true))).same D _ hK rfl
    have k2' := Blk.other (i := 0) ((k2.set 0 (.int .i64 0)).set 1 (.int .i64 0)) (B' := w.heap.size + 1) (by omega) (.bool true)
    have k3' := ((k3.other (B' := w.heap.size) (i := 0) (by omega) (.int .i64 0)).other (B' := w.heap.size) (i := 1) (by omega) (.int .i64 0)).set 0 (.bool true)
    have hB' := ((hB.setCell (p := ⟨w.heap.size, 0, none⟩) (Nat.le_refl _) (.int .i64 0)).setCell (p := ⟨w.heap.size, 1, none⟩) (Nat.le_refl _) (.int .i64 0)).setCell (p := ⟨w.heap.size + 1, 0, none⟩) (by simp) (.bool true)
    clear hK k2 k3 hB c0 c1 c3 f0 f3
    refine ⟨by simp, .inl ⟨_, _, rfl, run_takeDeferred hK', ?_⟩⟩
    have q2 := k2'.put (.deferred Option.none) hK' rfl
    have q3 := k3'.put (.deferred Option.none) hK' rfl
    have c0 := q2.cell 0
    have c1 := q2.cell 1
    have c3 := q3.cell 0
    refine ⟨.tuple #[.agg #[.int .i64 0, .int .i64 0], .bool true], ?_, by rw [unhide HV], hB'.trans (belowK_b (w := w) (Nat.le_refl _) _ D _ _ (by omega) hK' rfl rfl)⟩
    simp [results, Try.f39, go_sem, c0, c1, c3]
  case stop =>
    rintro D c pre W hD hpre ⟨⟨rfl, q, x, rfl, hq, hbx, k2, k3⟩, hB⟩ hK
    obtain ⟨r, hr⟩ := hpre
    have hv : validV s = .tuple #[.agg #[.int .i64 x, .int .i64 (q.length : Nat)], .bool false] := by
      unfold validV
      rw [← hr, List.append_assoc, List.singleton_append, validFrom_some s x r hbx q 0 (unhide hq), Nat.zero_add]
    have HV := hide hv
    clear hv hr hbx
    gi_wp2
    refine ⟨by simp, .inl ⟨_, _, rfl, run_takeDeferred hK, ?_⟩⟩
    have q2 := k2.put (.deferred Option.none) hK rfl
    have q3 := k3.put (.deferred Option.none) hK rfl
    have c0 := q2.cell 0
    have c1 := q2.cell 1
    have c3 := q3.cell 0
    refine ⟨.tuple #[.agg #[.int .i64 x, .int .i64 (q.length : Nat)], .bool false], ?_, by rw [unhide HV], hB.trans (belowK_b (w := w) (Nat.le_refl _) W D _ _ (by omega) hK rfl rfl)⟩
    simp [results, Try.f39, go_sem, c0, c1, c3]

theorem valid_any (s : ByteArray) (hs : s.size ≤ maxLen) (w : World) : Calls Try.prog 39 #[.string s] w fun e W' => e = .returned (validV s) ∧ Below w.heap.size w W' :=
  callsIn_wide.1 (valid_in 3 (Nat.le_refl _) s hs w)
end Go.Proofs.Ythjndkjbjflmfaa
