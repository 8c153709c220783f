/- Texts of this claim, one behind the other. -/
import Derived.Test.YtjgfmobmilgapaaGreatDoorM1
import Derived.Deep.QuietTactic
import Derived.BigQuiet
import Derived.WalkSmall
import Derived.Laws.Cover4
import Derived.Laws.IdiomStrings
/- Bound, Cut and Joins, told for every text and every number. -/
namespace Go.Proofs.YtjgfmobmilgapaaGreatDoor
open Go.RowKit Go.Shelf
set_option linter.unusedVariables false

theorem first_any (s : ByteArray) (hs : s.size ≤ maxLen) (w : World) : Calls Tryz.prog 110 #[.string s] w fun e W' => e = .returned (firstV s) ∧ Below w.heap.size w W' :=
  callsIn_wide.1 (first_in 3 (Nat.le_refl _) s hs w)

theorem firstV_at (s : ByteArray) (i : Nat) (h : i < s.size) : firstV (s.extract i s.size) = .tuple #[.agg #[.int .i32 (rn s i), .int .i64 (wd s i), .bool (decide (rn s i = 65533 ∧ wd s i = 1))], .bool true] := by
  rw [firstV_pos (by rw [ByteArray.size_extract]; omega)]
  simp only [encSpot, spotV, rn, wd, decode_suffix s i 0 (Nat.le_of_lt h), Nat.add_zero]

set_option maxHeartbeats 1000000 in
theorem bound_out (s : ByteArray) (hs : s.size ≤ maxLen) (a : Int) (ha : a < 0 ∨ (s.size : Int) < a) (w : World) :
    Calls Tryz.prog 75 #[.string s, .int .i64 a] w fun e w' => e = .returned (.bool false) ∧ w' = w := by
  unfold maxLen at hs
  rcases ha with ha | ha
  · go_enter Tryz.func75, Tryz.ntmps75
    go_wp2
    go_ret
    exact ⟨rfl, rfl⟩
  · have h0 : ¬ a < 0 := by omega
    go_enter Tryz.func75, Tryz.ntmps75
    go_wp2
    go_ret
    exact ⟨rfl, rfl⟩

set_option maxHeartbeats 1000000 in
theorem bound_in (s : ByteArray) (hs : s.size ≤ maxLen) (p : Nat) (hp : p ≤ s.size) (w : World) :
    Calls Tryz.prog 75 #[.string s, .int .i64 p] w fun e w' => e = .returned (.bool (bdB s p)) ∧ Below w.heap.size w w' := by
  unfold maxLen at hs
  have h0 : ¬ (p : Int) < 0 := by omega
  have h1 : ¬ (s.size : Int) < (p : Int) := by omega
  go_enter Tryz.func75, Tryz.ntmps75
  go_wp2
  go_loopw [5] (fun i wr => ∃ k : Nat, 1 ≤ k ∧ k ≤ 4 ∧ i = .int .i64 k ∧ Hz (∀ m, m < k → 1 ≤ m → m ≤ p → wd s (p - m) ≤ m) ∧ Below w.heap.size w wr) (fun i _ => 4 - (intOf i).toNat)
  case atStart => exact ⟨1, by omega, by omega, rfl, hide (fun m h1 h2 => by omega), Below.refl _ _⟩
  case round =>
    obtain ⟨k, hk1, hk4, rfl, H, hB⟩ := hrel
    by_cases h4 : k < 4
    · by_cases hkp : k ≤ p
      · have hfv := firstV_at s (p - k) (by omega)
        generalize decide (rn s (p - k) = 65533 ∧ wd s (p - k) = 1) = b at hfv
        generalize rn s (p - k) = r at hfv
        obtain ⟨d, hd⟩ : ∃ d, wd s (p - k) = d := ⟨_, rfl⟩
        rw [hd] at hfv
        have HF := hide hfv
        have HD := hide hd
        clear hfv hd
        go_wp2_with fail
        refine (first_any _ (by rw [ByteArray.size_extract]; unfold maxLen; omega) _).mono ?_
        rintro e w1 ⟨rfl, hb1⟩
        rw [HF.out]
        have hB1 : Below w.heap.size w w1 := hB.trans (hb1.mono hB.size)
        clear hb1
        by_cases hdk : (k : Int) < d
        · go_wp2
          go_ret
          refine ⟨?_, hB1.alloc hB1.size _⟩
          have : bdB s p = false := by
            rw [← Bool.not_eq_true, bd_iff]
            intro h
            have := h k h4 hk1 hkp
            rw [HD.out] at this
            omega
          rw [this]
          rfl
        · go_wp2
          go_roundw
          case rel =>
            refine ⟨k + 1, by omega, by omega, by go_num, hide (fun m h1 h2 h3 => ?_), hB1.alloc hB1.size _⟩
            by_cases e : m = k
            · subst e; rw [HD.out]; omega
            · exact H.out m (by omega) h2 h3
          case measure => simp [intOf]; omega
      · go_wp2
        go_ret
        refine ⟨?_, hB⟩
        rw [(bd_iff s p).2 (fun m h1 h2 h3 => H.out m (by omega) h2 h3)]
        rfl
    · go_wp2
      go_ret
      refine ⟨?_, hB⟩
      rw [(bd_iff s p).2 (fun m h1 h2 h3 => H.out m (by omega) h2 h3)]
      rfl

def cutAt (s : ByteArray) : Nat → Nat
  | 0 => 0
  | p + 1 => if bdB s (p + 1) then p + 1 else cutAt s p
theorem cutAt_le (s : ByteArray) : ∀ p, cutAt s p ≤ p
  | 0 => Nat.le_refl _
  | p + 1 => by unfold cutAt; split; exact Nat.le_refl _; exact Nat.le_succ_of_le (cutAt_le s p)
theorem cutAt_max (s : ByteArray) : ∀ p q, q ≤ p → bdB s q = true → q ≤ cutAt s p
  | 0, q, h, _ => h
  | p + 1, q, h, hq => by
    unfold cutAt
    split
    · exact h
    · rename_i hn
      exact cutAt_max s p q (by
        rcases Nat.lt_or_ge q (p + 1) with hl | hl
        · omega
        · have : q = p + 1 := by omega
          subst this; exact absurd hq hn) hq
theorem cutAt_self (s : ByteArray) (p : Nat) (h : bdB s p = true) : cutAt s p = p := Nat.le_antisymm (cutAt_le s p) (cutAt_max s p p (Nat.le_refl _) h)
theorem cutAt_pred (s : ByteArray) (p : Nat) (h : bdB s p = false) : 1 ≤ p ∧ cutAt s p = cutAt s (p - 1) := by
  cases p with
  | zero => rw [bd_zero] at h; cases h
  | succ p => refine ⟨by omega, ?_⟩; rw [cutAt, if_neg (by simp [h])]; rfl
def clampV (s : ByteArray) (a : Int) : Nat := min a.toNat s.size

set_option maxHeartbeats 2000000 in
theorem cut_any (s : ByteArray) (hs : s.size ≤ maxLen) (a : Int) (w : World) :
    Calls Tryz.prog 39 #[.string s, .int .i64 a] w fun e w' => e = .returned (.tuple #[.string (s.extract 0 (cutAt s (clampV s a))), .string (s.extract (cutAt s (clampV s a)) s.size)]) ∧ Below w.heap.size w w' := by
  have hs' := hs
  unfold maxLen at hs
  obtain ⟨c, hc, hcs⟩ : ∃ c, clampV s a = c ∧ c ≤ s.size := ⟨_, rfl, Nat.min_le_right _ _⟩
  have hc3 : (a < 0 ∧ c = 0) ∨ (0 ≤ a ∧ a ≤ s.size ∧ a = c) ∨ ((s.size : Int) < a ∧ c = s.size) := by unfold clampV at hc; omega
  rw [hc]
  have HS := hide hs'
  clear hc hs'
  rcases hc3 with ⟨h0, rfl⟩ | ⟨h0, h1, rfl⟩ | ⟨h0, rfl⟩
  all_goals
    go_enter Tryz.func39, Tryz.ntmps39
    go_wp2
    go_loopw [1] (fun i wr => ∃ k : Nat, k ≤ s.size ∧ i = .int .i64 k ∧ Hz (cutAt s k = cutAt s _) ∧ Below w.heap.size w wr) (fun i _ => (intOf i).toNat)
    case atStart => exact ⟨_, hcs, rfl, hide rfl, Below.refl _ _⟩
    case round =>
      obtain ⟨k, hk, rfl, H, hB⟩ := hrel
      go_wp2_with fail
      refine (bound_in s (unhide HS) k hk _).mono ?_
      rintro e w1 ⟨rfl, hb1⟩
      have hB1 : Below w.heap.size w w1 := hB.trans (hb1.mono hB.size)
      clear hb1 hB
      cases hb : bdB s k with
      | true =>
        have he := (cutAt_self s k hb).symm.trans (unhide H)
        have HE := hide he
        clear hb H he
        have hk0 : (0 : Int) ≤ k := by omega
        have hk1 : (k : Int) ≤ s.size := by omega
        go_wp2
        go_quiet (fail)
        go_wp2
        go_ret2
        exact ⟨by rw [← unhide HE]; rfl, below_drewN hB1 _⟩
      | false =>
        obtain ⟨hk1, he⟩ := cutAt_pred s k hb
        have HE := hide (he.symm.trans (unhide H))
        clear hb H he
        go_wp2
        go_roundw
        case rel => exact ⟨k - 1, by omega, by go_num, HE, hB1⟩
        case measure => simp [intOf]; omega

def joinsV (s t : ByteArray) : Bool := bdB (s.extract (s.size - 3) s.size ++ t.extract 0 (min t.size 3)) (min s.size 3)


end Go.Proofs.YtjgfmobmilgapaaGreatDoor
namespace Go.Proofs.YtjgfmobmilgapaaGreatDoor
open Go.RowKit Go.Shelf
attribute [local go_sem] Oper.semAt_some
set_option linter.unusedVariables false

set_option maxRecDepth 100000 in
set_option maxHeartbeats 2000000 in
theorem count_any (s : ByteArray) (hs : s.size ≤ maxLen) (w : World) : Calls Tryz.prog 42 #[.string s] w fun e w' => e = .returned (.int .i64 (starts s).length) ∧ Below w.heap.size w w' := by
  unfold maxLen at hs
  go_enter Tryz.func42, Tryz.ntmps42
  go_wp2
  go_loopw [3] (fun n w' => ∃ (pre : List Nat) (pos f : Nat), w' = w.iter s pos ∧ n = .int .i64 pre.length ∧ Hz (starts s = pre ++ startsFrom s f pos) ∧ s.size ≤ pos + f) (fun _ w' => s.size - w'.iterPos w.heap.size)
  case atStart => exact ⟨[], 0, s.size, rfl, rfl, hide rfl, by omega⟩
  case round =>
    obtain ⟨pre, pos, f, rfl, rfl, HS, hf⟩ := hrel
    by_cases hp : pos < s.size
    · have hnx : ∀ ty, (Instr.next (.pointer (some ⟨w.heap.size, 0, none⟩)) true ty).run Tryz.prog (w.iter s pos) = _ := fun ty => run_next_any w s pos ty hp
      have hpl : (pre.length : Int) < 2 ^ 63 - 1 := by
        have h1 := starts_length s
        obtain ⟨g, rfl⟩ : ∃ g, f = g + 1 := ⟨f - 1, by omega⟩
        rw [unhide HS, List.length_append, startsFrom_cons s g pos hp] at h1
        simp at h1
        omega
      go_wp2
      have hwd := wd_pos s pos
      go_roundw
      case rel =>
        refine ⟨pre ++ [pos], pos + wd s pos, f - 1, rfl, ?_, hide ?_, by omega⟩
        · rw [List.length_append]; go_num
        · obtain ⟨g, rfl⟩ : ∃ g, f = g + 1 := ⟨f - 1, by omega⟩
          rw [unhide HS, startsFrom_cons s g pos hp]; simp
      case measure =>
        simp
        simp only [wd] at hwd
        omega
    · have hnx : ∀ ty, (Instr.next (.pointer (some ⟨w.heap.size, 0, none⟩)) true ty).run Tryz.prog (w.iter s pos) = _ := fun ty => run_next_end w s pos ty hp
      have hst := unhide HS
      rw [startsFrom_end s f pos hp, List.append_nil] at hst
      have HST := hide hst
      clear hst HS
      go_wp2
      go_ret
      exact ⟨by rw [unhide HST]; rfl, (Below.refl _ _).alloc (Nat.le_refl _) _⟩

def runesL (s : ByteArray) : List Int := (starts s).map (fun i => ((rn s i : Nat) : Int))
theorem runesL_length (s : ByteArray) : (runesL s).length = (starts s).length := by simp [runesL]

def cleanV (s : ByteArray) : ByteArray := runesBytes (runesL s)

def badB (s : ByteArray) (i : Nat) : Bool := decide (rn s i = 65533 ∧ wd s i = 1)
def validFrom (s : ByteArray) : List Nat → Nat → Value
  | [], _ => .tuple #[.agg #[.int .i64 0, .int .i64 0], .bool true]
  | i :: l, n => if badB s i then .tuple #[.agg #[.int .i64 i, .int .i64 n], .bool false] else validFrom s l (n + 1)
def validV (s : ByteArray) : Value := validFrom s (starts s) 0
theorem validFrom_none (s : ByteArray) : ∀ (l : List Nat) (n : Nat), (∀ i ∈ l, badB s i = false) → validFrom s l n = .tuple #[.agg #[.int .i64 0, .int .i64 0], .bool true]
  | [], _, _ => rfl
  | i :: l, n, h => by
    unfold validFrom
    rw [if_neg (by rw [h i (by simp)]; simp)]
    exact validFrom_none s l (n + 1) (fun j hj => h j (by simp [hj]))
theorem validFrom_some (s : ByteArray) (x : Nat) (r : List Nat) (hx : badB s x = true) : ∀ (q : List Nat) (n : Nat), (∀ i ∈ q, badB s i = false) → validFrom s (q ++ x :: r) n = .tuple #[.agg #[.int .i64 x, .int .i64 ((n + q.length : Nat) : Int)], .bool false]
  | [], n, _ => by simp [validFrom, hx]
  | i :: q, n, h => by
    rw [List.cons_append]
    unfold validFrom
    rw [if_neg (by rw [h i (by simp)]; simp), validFrom_some s x r hx q (n + 1) (fun j hj => h j (by simp [hj]))]
    rw [show n + 1 + q.length = n + (i :: q).length by simp; omega]

set_option maxRecDepth 100000 in
set_option maxHeartbeats 4000000 in
theorem valid_in (n : Nat) (hn : 3 ≤ n) (s : ByteArray) (hs : s.size ≤ maxLen) (w : World) :
    CallsIn Fence.wide n Tryz.prog 124 #[.string s] w fun e W' => e = .returned (validV s) ∧ Below w.heap.size w W' := by
  have h1 : 1 ≤ n := by omega
  refine callsIn_of_wp_marks Tryz.func124 rfl trivial ?_ rfl
  simp only [Tryz.ntmps124, List.size_toArray, List.length_cons, List.length_nil, Nat.reduceAdd, Nat.reduceSub, Array.replicate_succ, Array.replicate_zero, List.push_toArray, List.append_toArray, List.nil_append, List.cons_append]
  gi_wp2_with (refine ⟨trivial, ?_⟩; gi_at_call 128; refine (callsIn_wide.2 (spots_any _ _)).mono ?_; rintro e w' ⟨rfl, rfl⟩)
  have hb2 := (((Blk.new w #[.int .i64 0, .int .i64 0] 206).alloc (.cells #[.bool false] 4)).alloc (.cells #[.int .i64 0] 3)).alloc (.cells #[.string s] 9)
  have hb3 := ((Blk.new (w.alloc (.cells #[.int .i64 0, .int .i64 0] 206)) #[.bool false] 4).alloc (.cells #[.int .i64 0] 3)).alloc (.cells #[.string s] 9)
  have hb4 := (Blk.new ((w.alloc (.cells #[.int .i64 0, .int .i64 0] 206)).alloc (.cells #[.bool false] 4)) #[.int .i64 0] 3).alloc (.cells #[.string s] 9)
  have hbS := Blk.new (((w.alloc (.cells #[.int .i64 0, .int .i64 0] 206)).alloc (.cells #[.bool false] 4)).alloc (.cells #[.int .i64 0] 3)) #[.string s] 9
  simp only [World.size_alloc] at hb3 hb4 hbS
  have hB0 : Below w.heap.size w ((((w.alloc (.cells #[.int .i64 0, .int .i64 0] 206)).alloc (.cells #[.bool false] 4)).alloc (.cells #[.int .i64 0] 3)).alloc (.cells #[.string s] 9)) := ((((Below.refl _ w).alloc (Nat.le_refl _) _).alloc (by simp) _).alloc (by simp; omega) _).alloc (by simp; omega) _
  have hsz : ((((w.alloc (.cells #[.int .i64 0, .int .i64 0] 206)).alloc (.cells #[.bool false] 4)).alloc (.cells #[.int .i64 0] 3)).alloc (.cells #[.string s] 9)).heap.size = w.heap.size + 4 := by simp
  obtain ⟨W0, hW0⟩ : ∃ W0, (((w.alloc (.cells #[.int .i64 0, .int .i64 0] 206)).alloc (.cells #[.bool false] 4)).alloc (.cells #[.int .i64 0] 3)).alloc (.cells #[.string s] 9) = W0 := ⟨_, rfl⟩
  rw [hW0] at hb2 hb3 hb4 hbS hB0 hsz ⊢
  clear hW0
  refine wpIn_rangeFunc_ownH rfl h1 (gf := 145) (lb := #[.pointer (some ⟨w.heap.size + 1 + 1 + 1, 0, none⟩)]) rfl trivial (enters_of Tryz.func145 (by kernel_rfl) rfl)
    (spots_stops (n - 1) (w.heap.size + 1 + 1 + 1) (by omega) s hs W0 (hbS.cell 0)) KpS_t (KpS_b (by omega)) (Below.refl _ _) (fun _ => rfl)
    (fun pre W => (Hz (∀ i ∈ pre, badB s i = false) ∧ Blk W w.heap.size #[.int .i64 0, .int .i64 0] 206 ∧ Blk W (w.heap.size + 1) #[.bool false] 4 ∧ Blk W (w.heap.size + 1 + 1) #[.int .i64 pre.length] 3 ∧ Blk W (w.heap.size + 1 + 1 + 1) #[.string s] 9) ∧ Below w.heap.size w W)
    (fun c pre W => (c = .ret ∧ ∃ q x, pre = q ++ [x] ∧ Hz (∀ i ∈ q, badB s i = false) ∧ badB s x = true ∧ Blk W w.heap.size #[.int .i64 x, .int .i64 (q.length : Nat)] 206 ∧ Blk W (w.heap.size + 1) #[.bool false] 4) ∧ Below w.heap.size w W)
    (OwnFrom.and (Own.from (fun s A B row hs hg hr => ⟨hs.1, Blk.own _ (fun _ => _) _ () A B row hs.2.1 hg hr, Blk.own _ (fun _ => _) _ () A B row hs.2.2.1 hg hr, Blk.own _ (fun _ => _) _ () A B row hs.2.2.2.1 hg hr, Blk.own _ (fun _ => _) _ () A B row hs.2.2.2.2 hg hr⟩) _) (ownFrom_below (Nat.le_refl _) (by omega)))
    (fun c => OwnFrom.and (Own.from (fun s A B row hs hg hr => by
      obtain ⟨hc, q, x, hx, hq, hbx, k2, k3⟩ := hs
      exact ⟨hc, q, x, hx, hq, hbx, Blk.own _ (fun _ => _) _ () A B row k2 hg hr, Blk.own _ (fun _ => _) _ () A B row k3 hg hr⟩) _) (ownFrom_below (Nat.le_refl _) (by omega)))
    ⟨⟨hide (fun i hi => by cases hi), hb2, hb3, hb4, hbS⟩, hB0⟩
    (fun x a' W => ∃ Bx, w.heap.size + 1 + 1 + 1 < Bx ∧ Blk W Bx (spotCells (spotV s x)) 177 ∧ a' = { tmps := #[.string s, undef, .pointer (some ⟨w.heap.size, 0, none⟩), .pointer (some ⟨w.heap.size + 1, 0, none⟩), .pointer (some ⟨w.heap.size + 1 + 1, 0, none⟩), .int .i64 x, .pointer (some ⟨Bx, 0, none⟩), .string s, .func (.func 145) #[] #[.pointer (some ⟨w.heap.size + 1 + 1 + 1, 0, none⟩)], .int .i64 x, encSpot (spotV s x), undef, undef, undef, undef, undef, undef, undef, undef], defers := [] })
    (fun x a' => Own.from (fun u A B row hs hg hr => by
      obtain ⟨Bx, h1, h2, h3⟩ := hs
      exact ⟨Bx, h1, Blk.own _ (fun _ => _) _ () A B row h2 hg hr, h3⟩) _)
    ?assign ?body ?done ?stop
  case assign =>
    rintro l pre x W K ⟨⟨hp, k2, k3, k4, kS⟩, hB⟩ hK
    gi_wp2
    exact hK _ _ ((KeepsOthers.alloc _ _).from _) ⟨(kS.alloc _).cell 0 |>.trans (kS.cell 0).symm, KeepsWalks.alloc _ _⟩ ⟨⟨hp, k2.alloc _, k3.alloc _, k4.alloc _, kS.alloc _⟩, hB.alloc hB.size _⟩ ⟨W.heap.size, kS.lt, Blk.new W _ 177, rfl⟩
  case body =>
    rintro l pre x a' W hl ⟨r, hr⟩ ⟨⟨hp, k2, k3, k4, kS⟩, hB⟩ ⟨Bx, hBx, bX, rfl⟩ hlt
    have x2 : W.cell? ⟨Bx, 2, none⟩ = some (.bool (badB s x)) := bX.cell 2
    have c0 := k2.cell 0
    have c1 := k2.cell 1
    have c3 := k3.cell 0
    have c4 := k4.cell 0
    have f0 := k2.frozen
    have f3 := k3.frozen
    have f4 := k4.frozen
    have hpl : (pre.length : Int) < 2 ^ 63 - 1 := by unfold maxLen at hs; omega
    cases hbx : badB s x with
    | true =>
      rw [hbx] at x2
      have HBX := hide hbx
      clear hbx
      gi_wp2
      refine ⟨(((KeepsOthers.setCell _ _ _).trans (KeepsOthers.setCell _ _ _)).trans (KeepsOthers.setCell _ _ _)).from _, ⟨rfl, pre, x, rfl, hp, unhide HBX, ?_, ?_⟩, ?_⟩
      · exact Blk.other ((k2.set 0 _).set 1 _) (by omega) _
      · exact ((k3.other (by omega) _).other (by omega) _).set 0 _
      · exact ((hB.setCell (p := ⟨w.heap.size, 0, none⟩) (Nat.le_refl _) _).setCell (p := ⟨w.heap.size, 1, none⟩) (Nat.le_refl _) _).setCell (p := ⟨w.heap.size + 1, 0, none⟩) (by simp) _
    | false =>
      rw [hbx] at x2
      have HBX := hide hbx
      clear hbx
      gi_wp2
      refine ⟨(KeepsOthers.setCell _ _ _).from _, ⟨((kS.other (by omega) _).cell 0).trans (kS.cell 0).symm, (KeepsOthers.setCell _ _ _).walks⟩, ⟨hide (fun i hi => ?_), k2.other (by omega) _, k3.other (by omega) _, ?_, kS.other (by omega) _⟩, hB.setCell (p := ⟨w.heap.size + 1 + 1, 0, none⟩) (by simp; omega) _⟩
      · rcases List.mem_append.1 hi with h | h
        · exact unhide hp i h
        · simp at h; rw [h]; exact unhide HBX
      · rw [show (((pre ++ [x]).length : Nat) : Int) = (pre.length : Int) + 1 by simp]
        exact k4.set 0 _
  case done =>
    rintro D ys W hD hys ⟨⟨hne, k2, k3, _⟩, hB⟩ hK
    have hv : validV s = .tuple #[.agg #[.int .i64 0, .int .i64 0], .bool true] := validFrom_none s _ 0 (by rw [← hys]; exact unhide hne)
    have HV := hide hv
    have c0 := k2.cell 0
    have c1 := k2.cell 1
    have c3 := k3.cell 0
    have f0 := k2.frozen
    have f3 := k3.frozen
    clear hys hne hv
    gi_wp2
    have hK' := (((KeepsOthers.setCell W ⟨w.heap.size, 0, none⟩ (.int .i64 0)).trans (KeepsOthers.setCell _ ⟨w.heap.size, 1, none⟩ (.int .i64 0))).trans (KeepsOthers.setCell _ ⟨w.heap.size + 1, 0, none⟩ (.bool true))).same D _ hK rfl
    have k2' := Blk.other (i := 0) ((k2.set 0 (.int .i64 0)).set 1 (.int .i64 0)) (B' := w.heap.size + 1) (by omega) (.bool true)
    have k3' := ((k3.other (B' := w.heap.size) (i := 0) (by omega) (.int .i64 0)).other (B' := w.heap.size) (i := 1) (by omega) (.int .i64 0)).set 0 (.bool true)
    have hB' := ((hB.setCell (p := ⟨w.heap.size, 0, none⟩) (Nat.le_refl _) (.int .i64 0)).setCell (p := ⟨w.heap.size, 1, none⟩) (Nat.le_refl _) (.int .i64 0)).setCell (p := ⟨w.heap.size + 1, 0, none⟩) (by simp) (.bool true)
    clear hK k2 k3 hB c0 c1 c3 f0 f3
    refine ⟨by simp, .inl ⟨_, _, rfl, run_takeDeferred hK', ?_⟩⟩
    have q2 := k2'.put (.deferred Option.none) hK' rfl
    have q3 := k3'.put (.deferred Option.none) hK' rfl
    have c0 := q2.cell 0
    have c1 := q2.cell 1
    have c3 := q3.cell 0
    refine ⟨.tuple #[.agg #[.int .i64 0, .int .i64 0], .bool true], ?_, by rw [unhide HV], hB'.trans (belowK_b (w := w) (Nat.le_refl _) _ D _ _ (by omega) hK' rfl rfl)⟩
    simp [results, Tryz.f124, go_sem, c0, c1, c3]
  case stop =>
    rintro D c pre W hD hpre ⟨⟨rfl, q, x, rfl, hq, hbx, k2, k3⟩, hB⟩ hK
    obtain ⟨r, hr⟩ := hpre
    have hv : validV s = .tuple #[.agg #[.int .i64 x, .int .i64 (q.length : Nat)], .bool false] := by
      unfold validV
      rw [← hr, List.append_assoc, List.singleton_append, validFrom_some s x r hbx q 0 (unhide hq), Nat.zero_add]
    have HV := hide hv
    clear hv hr hbx
    gi_wp2
    refine ⟨by simp, .inl ⟨_, _, rfl, run_takeDeferred hK, ?_⟩⟩
    have q2 := k2.put (.deferred Option.none) hK rfl
    have q3 := k3.put (.deferred Option.none) hK rfl
    have c0 := q2.cell 0
    have c1 := q2.cell 1
    have c3 := q3.cell 0
    refine ⟨.tuple #[.agg #[.int .i64 x, .int .i64 (q.length : Nat)], .bool false], ?_, by rw [unhide HV], hB.trans (belowK_b (w := w) (Nat.le_refl _) W D _ _ (by omega) hK rfl rfl)⟩
    simp [results, Tryz.f124, go_sem, c0, c1, c3]

theorem valid_any (s : ByteArray) (hs : s.size ≤ maxLen) (w : World) : Calls Tryz.prog 124 #[.string s] w fun e W' => e = .returned (validV s) ∧ Below w.heap.size w W' :=
  callsIn_wide.1 (valid_in 3 (Nat.le_refl _) s hs w)
end Go.Proofs.YtjgfmobmilgapaaGreatDoor
namespace Go.Proofs.YtjgfmobmilgapaaGreatDoor
open Go.RowKit Go.Shelf
open Go.Lib (decodeN decode_at)
set_option linter.unusedVariables false

theorem decodeN_less (n m b0 b1 b2 b3 : Nat) (hnm : n ≤ m) (hg : ¬ ((decodeN m b0 b1 b2 b3).1 = 65533 ∧ (decodeN m b0 b1 b2 b3).2 = 1)) (hw : (decodeN m b0 b1 b2 b3).2 ≤ n) : decodeN n b0 b1 b2 b3 = decodeN m b0 b1 b2 b3 := by
  by_cases h0 : b0 < 128
  · unfold decodeN; rw [if_pos h0, if_pos h0]
  by_cases h2 : b0 / 32 = 6 ∧ (1 < m ∧ b1 / 64 = 2)
  · by_cases hc : b0 % 32 * 64 + b1 % 64 ≥ 128
    · have e : decodeN m b0 b1 b2 b3 = (b0 % 32 * 64 + b1 % 64, 2) := by unfold decodeN; rw [if_neg h0, if_pos h2, if_pos hc]
      rw [e] at hw
      rw [e]
      simp only at hw
      unfold decodeN
      rw [if_neg h0, if_pos ⟨h2.1, by omega, h2.2.2⟩, if_pos hc]
    · have e : decodeN m b0 b1 b2 b3 = (65533, 1) := by unfold decodeN; rw [if_neg h0, if_pos h2, if_neg hc]
      rw [e] at hg
      exact absurd ⟨rfl, rfl⟩ hg
  by_cases h3 : b0 / 16 = 14 ∧ (1 < m ∧ b1 / 64 = 2) ∧ (2 < m ∧ b2 / 64 = 2)
  · by_cases hc : b0 % 16 * 4096 + b1 % 64 * 64 + b2 % 64 ≥ 2048 ∧ (b0 % 16 * 4096 + b1 % 64 * 64 + b2 % 64 < 55296 ∨ (57344 ≤ b0 % 16 * 4096 + b1 % 64 * 64 + b2 % 64 ∧ b0 % 16 * 4096 + b1 % 64 * 64 + b2 % 64 ≤ 1114111))
    · have e : decodeN m b0 b1 b2 b3 = (b0 % 16 * 4096 + b1 % 64 * 64 + b2 % 64, 3) := by unfold decodeN; rw [if_neg h0, if_neg h2, if_pos h3, if_pos hc]
      rw [e] at hw
      rw [e]
      simp only at hw
      unfold decodeN
      rw [if_neg h0, if_neg (by omega), if_pos ⟨h3.1, ⟨by omega, h3.2.1.2⟩, ⟨by omega, h3.2.2.2⟩⟩, if_pos hc]
    · have e : decodeN m b0 b1 b2 b3 = (65533, 1) := by unfold decodeN; rw [if_neg h0, if_neg h2, if_pos h3, if_neg hc]
      rw [e] at hg
      exact absurd ⟨rfl, rfl⟩ hg
  by_cases h4 : b0 / 8 = 30 ∧ (1 < m ∧ b1 / 64 = 2) ∧ (2 < m ∧ b2 / 64 = 2) ∧ (3 < m ∧ b3 / 64 = 2)
  · by_cases hc : b0 % 8 * 262144 + b1 % 64 * 4096 + b2 % 64 * 64 + b3 % 64 ≥ 65536 ∧ (b0 % 8 * 262144 + b1 % 64 * 4096 + b2 % 64 * 64 + b3 % 64 < 55296 ∨ (57344 ≤ b0 % 8 * 262144 + b1 % 64 * 4096 + b2 % 64 * 64 + b3 % 64 ∧ b0 % 8 * 262144 + b1 % 64 * 4096 + b2 % 64 * 64 + b3 % 64 ≤ 1114111))
    · have e : decodeN m b0 b1 b2 b3 = (b0 % 8 * 262144 + b1 % 64 * 4096 + b2 % 64 * 64 + b3 % 64, 4) := by unfold decodeN; rw [if_neg h0, if_neg h2, if_neg h3, if_pos h4, if_pos hc]
      rw [e] at hw
      rw [e]
      simp only at hw
      unfold decodeN
      rw [if_neg h0, if_neg (by omega), if_neg (by omega), if_pos ⟨h4.1, ⟨by omega, h4.2.1.2⟩, ⟨by omega, h4.2.2.1.2⟩, ⟨by omega, h4.2.2.2.2⟩⟩, if_pos hc]
    · have e : decodeN m b0 b1 b2 b3 = (65533, 1) := by unfold decodeN; rw [if_neg h0, if_neg h2, if_neg h3, if_pos h4, if_neg hc]
      rw [e] at hg
      exact absurd ⟨rfl, rfl⟩ hg
  · have e : decodeN m b0 b1 b2 b3 = (65533, 1) := by unfold decodeN; rw [if_neg h0, if_neg h2, if_neg h3, if_neg h4]
    rw [e] at hg
    exact absurd ⟨rfl, rfl⟩ hg
theorem decodeN_more (n m b0 b1 b2 b3 : Nat) (hnm : n ≤ m) (hn : 1 ≤ n) (h1 : b1 < 256) (h2 : b2 < 256) (h3 : b3 < 256) (h0 : b0 < 256) (hg : ¬ ((decodeN n b0 b1 b2 b3).1 = 65533 ∧ (decodeN n b0 b1 b2 b3).2 = 1)) : decodeN m b0 b1 b2 b3 = decodeN n b0 b1 b2 b3 := by
  have t := told n b0 b1 b2 b3 h0 h1 h2 h3
  by_cases hm : 4 ≤ n
  · exact decodeN_room m n _ _ _ _ (.inr ⟨by omega, hm⟩)
  by_cases c0 : b0 < 128
  · unfold decodeN; rw [if_pos c0, if_pos c0]
  by_cases c2 : b0 / 32 = 6 ∧ (1 < n ∧ b1 / 64 = 2)
  · unfold decodeN
    rw [if_neg c0, if_neg c0, if_pos c2, if_pos ⟨c2.1, by omega, c2.2.2⟩]
  by_cases c3 : b0 / 16 = 14 ∧ (1 < n ∧ b1 / 64 = 2) ∧ (2 < n ∧ b2 / 64 = 2)
  · unfold decodeN
    rw [if_neg c0, if_neg c0, if_neg c2, if_neg (by omega), if_pos c3, if_pos ⟨c3.1, ⟨by omega, c3.2.1.2⟩, ⟨by omega, c3.2.2.2⟩⟩]
  · have e : decodeN n b0 b1 b2 b3 = (65533, 1) := by unfold decodeN; rw [if_neg c0, if_neg c2, if_neg c3, if_neg (by omega)]
    rw [e] at hg
    exact absurd ⟨rfl, rfl⟩ hg

theorem get_append (u v : ByteArray) (i : Nat) : (u ++ v).get! i = if i < u.size then u.get! i else v.get! (i - u.size) := by
  by_cases h : i < u.size
  · rw [if_pos h, get_lt _ _ (by rw [ByteArray.size_append]; omega), get_lt _ _ h]
    simp [Array.getElem_append_left, h]
  · rw [if_neg h]
    by_cases k : i < (u ++ v).size
    · rw [get_lt _ _ k, get_lt _ _ (by rw [ByteArray.size_append] at k; omega)]
      simp [Array.getElem_append_right, Nat.le_of_not_lt h]
    · rw [get_ge _ _ (by omega), get_ge _ _ (by rw [ByteArray.size_append] at k; omega)]
theorem bt_left (s t : ByteArray) (i : Nat) (h : i < s.size) : bt (s ++ t) i = bt s i := by unfold bt; rw [get_append, if_pos h]
theorem bt_right (s t : ByteArray) (j : Nat) : bt (s ++ t) (s.size + j) = bt t j := by unfold bt; rw [get_append, if_neg (by omega)]; congr 2; omega

theorem decode_left (s t : ByteArray) (i : Nat) (hi : i < s.size) : Utf8.decode s i = decodeN (s.size - i) (bt (s ++ t) i) (bt (s ++ t) (i + 1)) (bt (s ++ t) (i + 2)) (bt (s ++ t) (i + 3)) := by
  rw [decode_at, bt_left s t i hi]
  refine decodeN_cong _ _ _ _ _ _ _ _ (fun h => ?_) (fun h => ?_) (fun h => ?_)
  · exact (bt_left s t _ (by omega)).symm
  · exact (bt_left s t _ (by omega)).symm
  · exact (bt_left s t _ (by omega)).symm
theorem decode_grow (s t : ByteArray) (i : Nat) (hi : i < s.size) (hg : ¬ (rn s i = 65533 ∧ wd s i = 1)) : Utf8.decode (s ++ t) i = Utf8.decode s i := by
  have e := decode_left s t i hi
  simp only [rn, wd] at hg
  rw [e] at hg ⊢
  rw [decode_at]
  exact decodeN_more _ _ _ _ _ _ (by rw [ByteArray.size_append]; omega) (by omega) (bt_lt _ _) (bt_lt _ _) (bt_lt _ _) (bt_lt _ _) hg
theorem decode_part (s t : ByteArray) (i : Nat) (hi : i < s.size) (hw : i + wd (s ++ t) i ≤ s.size) : Utf8.decode s i = Utf8.decode (s ++ t) i := by
  by_cases hg : rn s i = 65533 ∧ wd s i = 1
  · by_cases hk : rn (s ++ t) i = 65533 ∧ wd (s ++ t) i = 1
    · exact Prod.ext (hg.1.trans hk.1.symm) (hg.2.trans hk.2.symm)
    · have e := decode_left s t i hi
      have e2 : Utf8.decode (s ++ t) i = decodeN ((s ++ t).size - i) (bt (s ++ t) i) (bt (s ++ t) (i + 1)) (bt (s ++ t) (i + 2)) (bt (s ++ t) (i + 3)) := decode_at _ _
      rw [e, e2]
      simp only [rn, wd] at hk hw
      rw [e2] at hk hw
      exact decodeN_less _ _ _ _ _ _ (by rw [ByteArray.size_append]; omega) hk (by omega)
  · exact (decode_grow s t i hi hg).symm
theorem decode_behind (s t : ByteArray) (j : Nat) : Utf8.decode (s ++ t) (s.size + j) = Utf8.decode t j := by
  rw [decode_at, decode_at, ByteArray.size_append, show s.size + t.size - (s.size + j) = t.size - j by omega]
  have h := bt_right s t
  unfold bt at h
  rw [h j, show s.size + j + 1 = s.size + (j + 1) by omega, h, show s.size + j + 2 = s.size + (j + 2) by omega, h, show s.size + j + 3 = s.size + (j + 3) by omega, h]

theorem startsFrom_behind (s t : ByteArray) : ∀ f j, startsFrom (s ++ t) f (s.size + j) = (startsFrom t f j).map (s.size + ·)
  | 0, j => rfl
  | f + 1, j => by
    unfold startsFrom
    rw [ByteArray.size_append]
    by_cases h : j < t.size
    · rw [if_pos (by omega), if_pos h, List.map_cons]
      have e : wd (s ++ t) (s.size + j) = wd t j := by simp only [wd]; rw [decode_behind]
      rw [e, Nat.add_assoc, startsFrom_behind s t f]
    · rw [if_neg (by omega), if_neg h]; rfl
theorem startsFrom_fuel (s : ByteArray) : ∀ f g i, s.size ≤ i + f → s.size ≤ i + g → startsFrom s f i = startsFrom s g i
  | 0, g, i, hf, hg => by rw [startsFrom_end s g i (by omega)]; rfl
  | f + 1, 0, i, hf, hg => by rw [startsFrom_end s (f + 1) i (by omega)]; rfl
  | f + 1, g + 1, i, hf, hg => by
    unfold startsFrom
    by_cases h : i < s.size
    · have := wd_pos s i
      rw [if_pos h, if_pos h, startsFrom_fuel s f g _ (by omega) (by omega)]
    · rw [if_neg h, if_neg h]
theorem startsFrom_both (s t : ByteArray) (hb : bdB (s ++ t) s.size = true) : ∀ f i, s.size + t.size ≤ i + f → i ≤ s.size → bdB (s ++ t) i = true →
    startsFrom (s ++ t) f i = startsFrom s f i ++ (starts t).map (s.size + ·) ∧ ∀ p ∈ startsFrom s f i, Utf8.decode s p = Utf8.decode (s ++ t) p
  | 0, i, hf, hi, hbi => by
    have : s.size = 0 ∨ t.size = 0 := by omega
    have ht : t.size = 0 := by omega
    refine ⟨?_, fun p hp => by cases hp⟩
    rw [show starts t = [] from startsFrom_end t _ _ (by omega)]
    rfl
  | f + 1, i, hf, hi, hbi => by
    by_cases h : i < s.size
    · have hw := wd_pos (s ++ t) i
      have hr : i + wd (s ++ t) i ≤ s.size := by
        rcases Nat.lt_or_ge s.size (i + wd (s ++ t) i) with hx | hx
        · have h4 := wd_four (s ++ t) i
          have := (bd_iff (s ++ t) s.size).1 hb (s.size - i) (by omega) (by omega) (by omega)
          rw [show s.size - (s.size - i) = i by omega] at this
          omega
        · exact hx
      have e := decode_part s t i h hr
      have ew : wd s i = wd (s ++ t) i := by simp only [wd]; rw [e]
      obtain ⟨h1, h2⟩ := startsFrom_both s t hb f (i + wd (s ++ t) i) (by omega) hr (bd_step (s ++ t) i hbi (by rw [ByteArray.size_append]; omega))
      rw [startsFrom_cons (s ++ t) f i (by rw [ByteArray.size_append]; omega), startsFrom_cons s f i h, h1, ew]
      refine ⟨rfl, fun p hp => ?_⟩
      rcases List.mem_cons.1 hp with rfl | hp
      · exact e
      · exact h2 p hp
    · obtain rfl : i = s.size := by omega
      rw [startsFrom_end s _ _ h]
      refine ⟨?_, fun p hp => by cases hp⟩
      have := startsFrom_behind s t (f + 1) 0
      rw [List.nil_append, show starts t = startsFrom t (f + 1) 0 from startsFrom_fuel t _ _ _ (by omega) (by omega)]
      exact this
theorem starts_both (s t : ByteArray) (hb : bdB (s ++ t) s.size = true) : starts (s ++ t) = starts s ++ (starts t).map (s.size + ·) ∧ (∀ p ∈ starts s, Utf8.decode s p = Utf8.decode (s ++ t) p) := by
  obtain ⟨h1, h2⟩ := startsFrom_both s t hb (s.size + t.size) 0 (by omega) (by omega) (bd_zero _)
  have e : startsFrom s (s.size + t.size) 0 = starts s := startsFrom_fuel s _ _ _ (by omega) (by omega)
  rw [e] at h1 h2
  refine ⟨?_, h2⟩
  unfold starts
  rw [ByteArray.size_append]
  exact h1
theorem runesL_both (s t : ByteArray) (hb : bdB (s ++ t) s.size = true) : runesL (s ++ t) = runesL s ++ runesL t := by
  obtain ⟨h1, h2⟩ := starts_both s t hb
  unfold runesL
  rw [h1, List.map_append, List.map_map]
  congr 1
  · refine List.map_congr_left (fun p hp => ?_)
    simp only [rn]
    rw [h2 p hp]
  · refine List.map_congr_left (fun p hp => ?_)
    simp only [Function.comp, rn]
    rw [decode_behind]
theorem foldl_enc (l : List Int) : ∀ r : ByteArray, l.foldl (fun r n => r ++ Utf8.encode n) r = r ++ l.foldl (fun r n => r ++ Utf8.encode n) ByteArray.empty := by
  induction l with
  | nil => intro r; simp
  | cons a l ih =>
    intro r
    rw [List.foldl_cons, ih, List.foldl_cons, ih (ByteArray.empty ++ Utf8.encode a), ByteArray.append_assoc]
    simp
theorem runesBytes_both (a b : List Int) : runesBytes (a ++ b) = runesBytes a ++ runesBytes b := by
  unfold runesBytes
  rw [List.foldl_append, foldl_enc b]
theorem joins_cut (s : ByteArray) (p : Nat) (h : p ≤ s.size) : joinsV (s.extract 0 p) (s.extract p s.size) = bdB s p := by
  unfold joinsV
  have e0 : (s.extract 0 p).size = p := by rw [ByteArray.size_extract]; omega
  have e1 : (s.extract p s.size).size = s.size - p := by rw [ByteArray.size_extract]; omega
  rw [e0, e1, ByteArray.extract_extract, ByteArray.extract_extract]
  symm
  refine bd_near s _ p _ h ?_ ?_ ?_ ?_
  · rw [ByteArray.size_append, ByteArray.size_extract, ByteArray.size_extract]; omega
  · omega
  · rw [ByteArray.size_append, ByteArray.size_extract, ByteArray.size_extract]; omega
  · intro i j hij hi hj h3 h4
    rw [ByteArray.size_append, ByteArray.size_extract, ByteArray.size_extract] at hj
    unfold bt
    rw [get_append, ByteArray.size_extract]
    split
    · rw [get_extract _ _ _ _ (by omega) (by omega)]
      congr 2; omega
    · rw [get_extract _ _ _ _ (by omega) (by omega)]
      congr 2; omega
theorem joins_bd (s t : ByteArray) : joinsV s t = bdB (s ++ t) s.size := by
  have := joins_cut (s ++ t) s.size (by rw [ByteArray.size_append]; omega)
  rw [ByteArray.extract_append_eq_left rfl, ByteArray.extract_append_eq_right rfl (by rw [ByteArray.size_append])] at this
  exact this
theorem bd_lead (s : ByteArray) (i : Nat) (h : bt s i / 64 ≠ 2) : bdB s i = true := by
  rw [bd_iff]
  intro n h4 h1 hn
  rcases Nat.lt_or_ge n (wd s (i - n)) with hx | hx
  · have := wd_cont s (i - n) n (by omega) hx
    rw [show i - n + n = i by omega] at this
    exact absurd this h
  · exact hx
theorem startsFrom_mem (s : ByteArray) : ∀ f i, s.size ≤ i + f → bdB s i = true → ∀ p, i ≤ p → p < s.size → bdB s p = true → p ∈ startsFrom s f i
  | 0, i, hf, hb, p, h1, h2, hp => by omega
  | f + 1, i, hf, hb, p, h1, h2, hp => by
    have hi : i < s.size := by omega
    have hw := wd_pos s i
    have h4 := wd_four s i
    rw [startsFrom_cons s f i hi, List.mem_cons]
    by_cases e : p = i
    · exact .inl e
    · refine .inr ?_
      rcases Nat.lt_or_ge p (i + wd s i) with hlt | hge
      · have := (bd_iff s p).1 hp (p - i) (by omega) (by omega) (by omega)
        rw [show p - (p - i) = i by omega] at this
        omega
      · exact startsFrom_mem s f (i + wd s i) (by omega) (bd_step s i hb hi) p hge h2 hp
theorem starts_mem (s : ByteArray) (p : Nat) (h : p < s.size) (hb : bdB s p = true) : p ∈ starts s := startsFrom_mem s s.size 0 (by omega) (bd_zero s) p (Nat.zero_le _) h hb

theorem joins_valid_left (s t : ByteArray) (hv : ∀ i ∈ starts s, badB s i = false) : joinsV s t = true := by
  rw [joins_bd, bd_iff]
  intro n h4 h1 hn
  rcases Nat.lt_or_ge n (wd (s ++ t) (s.size - n)) with hx | hx
  · exfalso
    have hi : s.size - n < s.size := by omega
    have hl := wd_lead (s ++ t) (s.size - n) (by omega)
    rw [bt_left s t _ hi] at hl
    have hb := hv _ (starts_mem s _ hi (bd_lead s _ (by have := bt_lt s (s.size - n); omega)))
    unfold badB at hb
    have hg := of_decide_eq_false hb
    have e := decode_grow s t (s.size - n) hi hg
    have hr := wd_room s (s.size - n) hi
    simp only [wd] at hx hr
    rw [e] at hx
    omega
  · exact hx
end Go.Proofs.YtjgfmobmilgapaaGreatDoor
namespace Go.Proofs.YtjgfmobmilgapaaGreatDoor
open Go.RowKit Go.Shelf
set_option linter.unusedVariables false
def blankB (c : Nat) : Bool := decide (c = 9 ∨ c = 10 ∨ c = 13 ∨ c = 32)
def smallB (c : Nat) : Bool := decide (97 ≤ c ∧ c ≤ 122)
def digB (c : Nat) : Bool := decide (48 ≤ c ∧ c ≤ 57)
def inNB (c : Nat) : Bool := smallB c || digB c || decide (c = 45)
def stkB (c : Nat) : Bool := inNB c || decide (65 ≤ c ∧ c ≤ 90) || decide (c = 95)
def scanF (p : Nat → Bool) : Nat → Nat → Nat
  | 0, n => n
  | f + 1, n => if p n = true then scanF p f (n + 1) else n
def scanTo (p : Nat → Bool) (hi n : Nat) : Nat := scanF p (hi - n) n
theorem scanTo_go {p : Nat → Bool} {hi n : Nat} (h : n < hi) (hp : p n = true) : scanTo p hi n = scanTo p hi (n + 1) := by
  unfold scanTo
  obtain ⟨f, hf⟩ : ∃ f, hi - n = f + 1 := ⟨hi - n - 1, by omega⟩
  rw [hf, show hi - (n + 1) = f by omega, scanF, if_pos hp]
theorem scanTo_end {p : Nat → Bool} {hi n : Nat} (h : ¬ n < hi) : scanTo p hi n = n := by
  unfold scanTo
  rw [show hi - n = 0 by omega]
  rfl
theorem scanTo_no {p : Nat → Bool} {hi n : Nat} (h : p n = false) : scanTo p hi n = n := by
  unfold scanTo
  cases hi - n with
  | zero => rfl
  | succ f => rw [scanF, if_neg (by rw [h]; decide)]
theorem scanTo_ge (p : Nat → Bool) (hi : Nat) : ∀ k n, hi ≤ n + k → n ≤ scanTo p hi n ∧ (n ≤ hi → scanTo p hi n ≤ hi)
  | 0, n, h => by rw [scanTo_end (by omega)]; exact ⟨Nat.le_refl _, fun h => h⟩
  | k + 1, n, h => by
    by_cases hn : n < hi
    · cases hp : p n with
      | true => have := scanTo_ge p hi k (n + 1) (by omega); rw [scanTo_go hn hp]; omega
      | false => rw [scanTo_no hp]; exact ⟨Nat.le_refl _, fun h => h⟩
    · rw [scanTo_end hn]; exact ⟨Nat.le_refl _, fun h => h⟩
theorem scanTo_le (p : Nat → Bool) {hi n : Nat} (h : n ≤ hi) : n ≤ scanTo p hi n ∧ scanTo p hi n ≤ hi := by have := scanTo_ge p hi (hi - n) n (by omega); exact ⟨this.1, this.2 h⟩
def nameLen (t : ByteArray) : Nat := if t.size = 0 ∨ smallB (bt t 0) = false then 0 else scanTo (fun n => inNB (bt t n)) (min t.size 32) 1
theorem nameLen_le (t : ByteArray) : nameLen t ≤ t.size ∧ nameLen t ≤ 32 := by
  unfold nameLen
  by_cases h : t.size = 0 ∨ smallB (bt t 0) = false
  · rw [if_pos h]; omega
  · rw [if_neg h]
    have := scanTo_le (fun n => inNB (bt t n)) (show 1 ≤ min t.size 32 by omega)
    omega
def numF (t : ByteArray) : Nat → Nat → Nat → Nat × Nat
  | 0, v, n => (v, n)
  | f + 1, v, n => if n < t.size ∧ digB (bt t n) = true ∧ 0 < v ∧ v * 10 + (bt t n - 48) ≤ 65535 then numF t f (v * 10 + (bt t n - 48)) (n + 1) else (v, n)
def numGo (t : ByteArray) (v n : Nat) : Nat × Nat := numF t (t.size - n) v n
theorem numGo_go {t : ByteArray} {v n : Nat} (h : n < t.size) (hd : digB (bt t n) = true) (h0 : 0 < v) (hv : v * 10 + (bt t n - 48) ≤ 65535) : numGo t v n = numGo t (v * 10 + (bt t n - 48)) (n + 1) := by
  unfold numGo
  obtain ⟨f, hf⟩ : ∃ f, t.size - n = f + 1 := ⟨t.size - n - 1, by omega⟩
  rw [hf, show t.size - (n + 1) = f by omega, numF, if_pos ⟨h, hd, h0, hv⟩]
theorem numGo_stop {t : ByteArray} {v n : Nat} (h : ¬ (n < t.size ∧ digB (bt t n) = true ∧ 0 < v ∧ v * 10 + (bt t n - 48) ≤ 65535)) : numGo t v n = (v, n) := by
  unfold numGo
  cases t.size - n with
  | zero => rfl
  | succ f => rw [numF, if_neg h]
def numV (t : ByteArray) : Nat × Nat := numGo t (bt t 0 - 48) 1
theorem numGo_le (t : ByteArray) : ∀ k v n, t.size ≤ n + k → n ≤ t.size → n ≤ (numGo t v n).2 ∧ (numGo t v n).2 ≤ t.size ∧ (v ≤ 65535 → (numGo t v n).1 ≤ 65535)
  | 0, v, n, h, hn => by rw [numGo_stop (by omega)]; exact ⟨Nat.le_refl _, hn, fun h => h⟩
  | k + 1, v, n, h, hn => by
    by_cases hc : n < t.size ∧ digB (bt t n) = true ∧ 0 < v ∧ v * 10 + (bt t n - 48) ≤ 65535
    · rw [numGo_go hc.1 hc.2.1 hc.2.2.1 hc.2.2.2]
      have := numGo_le t k (v * 10 + (bt t n - 48)) (n + 1) (by omega) (by omega)
      exact ⟨by omega, this.2.1, fun _ => this.2.2 hc.2.2.2⟩
    · rw [numGo_stop hc]; exact ⟨Nat.le_refl _, hn, fun h => h⟩
theorem digB_iff {c : Nat} : digB c = true ↔ 48 ≤ c ∧ c ≤ 57 := by simp [digB]
theorem smallB_iff {c : Nat} : smallB c = true ↔ 97 ≤ c ∧ c ≤ 122 := by simp [smallB]
end Go.Proofs.YtjgfmobmilgapaaGreatDoor
