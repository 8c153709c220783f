/- Count, Runes, Clean and Valid, told for every text that is not too great. -/
import Derived.Test.YtemmflhofhngbaaLast
import Derived.Laws.Cover4
import Derived.Laws.IdiomStrings
namespace Go.Proofs.Ytemmflhofhngbaa
open Go.RowKit Go.Shelf
attribute [local go_sem] Oper.semAt_some
set_option linter.unusedVariables false

set_option maxRecDepth 100000 in
set_option maxHeartbeats 2000000 in
theorem count_any (s : ByteArray) (hs : s.size ≤ maxLen) (w : World) : Calls Try.prog 26 #[.string s] w fun e w' => e = .returned (.int .i64 (starts s).length) ∧ Below w.heap.size w w' := by
  unfold maxLen at hs
  go_enter Try.func26, Try.ntmps26
  go_wp2
  go_loopw [3] (fun n w' => ∃ (pre : List Nat) (pos f : Nat), w' = w.iter s pos ∧ n = .int .i64 pre.length ∧ Hz (starts s = pre ++ startsFrom s f pos) ∧ s.size ≤ pos + f) (fun _ w' => s.size - w'.iterPos w.heap.size)
  case atStart => exact ⟨[], 0, s.size, rfl, rfl, hide rfl, by omega⟩
  case round =>
    obtain ⟨pre, pos, f, rfl, rfl, HS, hf⟩ := hrel
    by_cases hp : pos < s.size
    · have hnx : ∀ ty, (Instr.next (.pointer (some ⟨w.heap.size, 0, none⟩)) true ty).run Try.prog (w.iter s pos) = _ := fun ty => run_next_any w s pos ty hp
      have hpl : (pre.length : Int) < 2 ^ 63 - 1 := by
        have h1 := starts_length s
        obtain ⟨g, rfl⟩ : ∃ g, f = g + 1 := ⟨f - 1, by omega⟩
        rw [unhide HS, List.length_append, startsFrom_cons s g pos hp] at h1
        simp at h1
        omega
      go_wp2
      have hwd := wd_pos s pos
      go_roundw
      case rel =>
        refine ⟨pre ++ [pos], pos + wd s pos, f - 1, rfl, ?_, hide ?_, by omega⟩
        · rw [List.length_append]; go_num
        · obtain ⟨g, rfl⟩ : ∃ g, f = g + 1 := ⟨f - 1, by omega⟩
          rw [unhide HS, startsFrom_cons s g pos hp]; simp
      case measure =>
        simp
        simp only [wd] at hwd
        omega
    · have hnx : ∀ ty, (Instr.next (.pointer (some ⟨w.heap.size, 0, none⟩)) true ty).run Try.prog (w.iter s pos) = _ := fun ty => run_next_end w s pos ty hp
      have hst := unhide HS
      rw [startsFrom_end s f pos hp, List.append_nil] at hst
      have HST := hide hst
      clear hst HS
      go_wp2
      go_ret
      exact ⟨by rw [unhide HST]; rfl, (Below.refl _ _).alloc (Nat.le_refl _) _⟩

/-- The runes of the spots. -/
def runesL (s : ByteArray) : List Int := (starts s).map (fun i => ((rn s i : Nat) : Int))
theorem runesFrom_eq (s : ByteArray) : ∀ f i (acc : Array Value), Conv.runesFrom s f i acc = acc ++ ((startsFrom s f i).map (fun i => Value.int .i32 (rn s i))).toArray
  | 0, i, acc => by simp [Conv.runesFrom, startsFrom]
  | f + 1, i, acc => by
    unfold Conv.runesFrom startsFrom
    split
    · show Conv.runesFrom s f (i + wd s i) (acc.push (.int .i32 (rn s i))) = _
      rw [runesFrom_eq s f]
      simp
    · simp
theorem runesFrom_all (s : ByteArray) : Conv.runesFrom s s.size 0 #[] = ((runesL s).map (Value.int .i32)).toArray := by
  rw [runesFrom_eq]; simp [runesL, starts]
theorem runesL_length (s : ByteArray) : (runesL s).length = (starts s).length := by simp [runesL]

set_option maxHeartbeats 2000000 in
theorem runes_any (s : ByteArray) (hs : s.size ≤ 70368744177664) (w : World) : Calls Try.prog 49 #[.string s] w fun e w' => ∃ cap, e = .returned (.slice (some ⟨w.heap.size, 0, none⟩) (runesL s).length cap) ∧ (runesL s).length ≤ cap ∧
    (∃ cs : Array Value, w' = w.drew.alloc (.cells (((runesL s).map (Value.int .i32)).toArray ++ cs) 21)) := by
  have hl : (Conv.runesFrom s s.size 0 #[]).size = (runesL s).length := by rw [runesFrom_all]; simp
  have h46 : (Conv.runesFrom s s.size 0 #[]).size ≤ 70368744177664 := by
    have := starts_length s; rw [hl, runesL_length]; omega
  have kc := run_runes_of_string (P := Try.prog) w 9 48 21 s Try.underlying9 Try.underlying48 Try.underlying21 h46
  have hge := grownCap_ge w (Conv.runesFrom s s.size 0 #[]).size 0 21
  rw [hl] at hge
  rw [hl, runesFrom_all] at kc
  generalize grownCap w (runesL s).length 0 21 = cap at kc hge
  generalize Array.replicate (cap - (runesL s).length) (Value.int IntKind.i32 0) = cs at kc
  clear h46 hl
  go_enter Try.func49, Try.ntmps49
  go_wp2
  go_ret
  exact ⟨cap, rfl, hge, cs, rfl⟩

theorem runes_cell (W : World) (zs : List Int) (cs : Array Value) (t : TypeId) (j : Nat) (h : j < zs.length) :
    (W.alloc (.cells ((zs.map (Value.int .i32)).toArray ++ cs) t)).cell? ((⟨W.heap.size, 0, none⟩ : Addr).add j) = some (.int .i32 (zs.getD j 0)) := by
  rw [show (⟨W.heap.size, 0, none⟩ : Addr).add j = ⟨W.heap.size, j, none⟩ by unfold Addr.add; split <;> simp_all]
  rw [(Blk.new W _ t).cell j, Array.getElem?_append_left (by simpa using h)]
  simp [List.getD, List.getElem?_eq_getElem h]

/-- The text of the runes of the spots. -/
def cleanV (s : ByteArray) : ByteArray := runesBytes (runesL s)

/-- Is what stands at i bad? -/
def badB (s : ByteArray) (i : Nat) : Bool := decide (rn s i = 65533 ∧ wd s i = 1)
def validFrom (s : ByteArray) : List Nat → Nat → Value
  | [], _ => .tuple #[.agg #[.int .i64 0, .int .i64 0], .bool true]
  | i :: l, n => if badB s i then .tuple #[.agg #[.int .i64 i, .int .i64 n], .bool false] else validFrom s l (n + 1)
def validV (s : ByteArray) : Value := validFrom s (starts s) 0
theorem validFrom_none (s : ByteArray) : ∀ (l : List Nat) (n : Nat), (∀ i ∈ l, badB s i = false) → validFrom s l n = .tuple #[.agg #[.int .i64 0, .int .i64 0], .bool true]
  | [], _, _ => rfl
  | i :: l, n, h => by
    unfold validFrom
    rw [if_neg (by rw [h i (by simp)]; simp)]
    exact validFrom_none s l (n + 1) (fun j hj => h j (by simp [hj]))
theorem validFrom_some (s : ByteArray) (x : Nat) (r : List Nat) (hx : badB s x = true) : ∀ (q : List Nat) (n : Nat), (∀ i ∈ q, badB s i = false) → validFrom s (q ++ x :: r) n = .tuple #[.agg #[.int .i64 x, .int .i64 ((n + q.length : Nat) : Int)], .bool false]
  | [], n, _ => by simp [validFrom, hx]
  | i :: q, n, h => by
    rw [List.cons_append]
    unfold validFrom
    rw [if_neg (by rw [h i (by simp)]; simp), validFrom_some s x r hx q (n + 1) (fun j hj => h j (by simp [hj]))]
    rw [show n + 1 + q.length = n + (i :: q).length by simp; omega]

end Go.Proofs.Ytemmflhofhngbaa
