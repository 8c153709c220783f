/- What two lists of spans have in common, pair by pair. -/
import Derived.Test.YtodikfaddfojgaaSetNotW
namespace Go.Proofs.Ytodikfaddfojgaa
open Go.RowKit Go.Shelf
set_option linter.unusedVariables false
structure MeetI (zs ys : List (Int × Int)) (i j : Nat) (out : List (Int × Int)) : Prop where
  spread : Spread out
  mem : ∀ r, memB out r = true ↔ (memB (zs.take i) r = true ∧ memB ys r = true) ∨ (memB zs r = true ∧ memB (ys.take j) r = true)
  len : out.length ≤ i + j
theorem meetI_start (zs ys : List (Int × Int)) : MeetI zs ys 0 0 [] where
  spread := ⟨fun x h => by simp at h, fun i j x y _ h => by simp at h⟩
  mem r := by simp [memB]
  len := by simp
/-- A rune of a spread list lies ahead of span i, in it, or behind it. -/
theorem mem_parts {zs : List (Int × Int)} (hS : Spread zs) {i : Nat} {a : Int × Int} (ha : zs[i]? = some a) {r : Int} (h : memB zs r = true) : memB (zs.take i) r = true ∨ memB [a] r = true ∨ a.2 < r := by
  obtain ⟨⟨x, hx, p, q⟩, hr⟩ := (memB_iff _ _).1 h
  obtain ⟨k, hk, rfl⟩ := List.mem_iff_getElem.1 hx
  rcases Nat.lt_trichotomy k i with c | c | c
  · exact .inl ((memB_iff _ _).2 ⟨⟨zs[k], List.mem_iff_getElem.2 ⟨k, by rw [List.length_take]; have := (List.getElem?_eq_some_iff.1 ha).1; omega, by simp⟩, p, q⟩, hr⟩)
  · subst c
    rw [List.getElem?_eq_getElem hk] at ha
    cases ha
    exact .inr (.inl ((memB_iff _ _).2 ⟨⟨_, by simp, p, q⟩, hr⟩))
  · have := hS.lt i k a zs[k] c ha (List.getElem?_eq_getElem hk)
    exact .inr (.inr (by omega))
theorem take_lt {zs : List (Int × Int)} (hS : Spread zs) {i : Nat} {a : Int × Int} (ha : zs[i]? = some a) {r : Int} (h : memB (zs.take i) r = true) : r < a.1 := by
  obtain ⟨⟨x, hx, p, q⟩, hr⟩ := (memB_iff _ _).1 h
  obtain ⟨k, hk, e⟩ := List.mem_iff_getElem.1 hx
  rw [List.length_take] at hk
  have hx' : zs[k]? = some x := by rw [← e, List.getElem_take, List.getElem?_eq_getElem (by omega)]
  have := hS.lt k i x a (by omega) hx' ha
  omega
theorem mem_one (a : Int × Int) (r : Int) : memB [a] r = true ↔ (a.1 ≤ r ∧ r ≤ a.2) ∧ runeB r = true := by
  rw [memB_iff]
  simp only [List.mem_singleton, exists_eq_left]
theorem mem_take_more {zs : List (Int × Int)} {i : Nat} {a : Int × Int} (ha : zs[i]? = some a) (r : Int) : memB (zs.take (i + 1)) r = (memB (zs.take i) r || memB [a] r) := by rw [take_more ha, memB_append]
theorem mem_of_take {zs : List (Int × Int)} {i : Nat} {r : Int} (h : memB (zs.take i) r = true) : memB zs r = true := by
  obtain ⟨⟨x, hx, p⟩, hr⟩ := (memB_iff _ _).1 h
  exact (memB_iff _ _).2 ⟨⟨x, List.mem_of_mem_take hx, p⟩, hr⟩
theorem mem_of_one {zs : List (Int × Int)} {i : Nat} {a : Int × Int} (ha : zs[i]? = some a) {r : Int} (h : memB [a] r = true) : memB zs r = true := by
  obtain ⟨p, hr⟩ := (mem_one a r).1 h
  exact (memB_iff _ _).2 ⟨⟨a, List.mem_of_getElem? ha, p⟩, hr⟩
/-- What two spans have in common. -/
def bothOf (a b : Int × Int) : Int × Int := (max a.1 b.1, min a.2 b.2)
theorem mem_both (a b : Int × Int) (r : Int) : memB [bothOf a b] r = true ↔ memB [a] r = true ∧ memB [b] r = true := by
  rw [mem_one, mem_one, mem_one]
  unfold bothOf
  simp only
  constructor
  · rintro ⟨⟨p, q⟩, h⟩; exact ⟨⟨⟨by omega, by omega⟩, h⟩, ⟨⟨by omega, by omega⟩, h⟩⟩
  · rintro ⟨⟨⟨p, q⟩, h⟩, ⟨⟨p', q'⟩, _⟩⟩; exact ⟨⟨by omega, by omega⟩, h⟩
theorem both_ends {a b : Int × Int} (ha : endsB a = true) (hb : endsB b = true) : endsB (bothOf a b) = true := by
  have p := endsB_parts ha
  have q := endsB_parts hb
  refine endsB_mk ?_ ?_
  · show runeB (max a.1 b.1) = true
    rcases Int.le_total a.1 b.1 with c | c
    · rw [Int.max_eq_right c]; exact q.1
    · rw [Int.max_eq_left c]; exact p.1
  · show runeB (min a.2 b.2) = true
    rcases Int.le_total a.2 b.2 with c | c
    · rw [Int.min_eq_left c]; exact p.2
    · rw [Int.min_eq_right c]; exact q.2
/-- What lies in the list behind a pair of spans. -/
def meetL (out : List (Int × Int)) (a b : Int × Int) : List (Int × Int) := if (bothOf a b).1 ≤ (bothOf a b).2 then layL out (bothOf a b) else out
theorem meetI_lay {zs ys : List (Int × Int)} (hS : Spread zs) (hY : Spread ys) {i j : Nat} {out : List (Int × Int)} {a b : Int × Int} (h : MeetI zs ys i j out) (ha : zs[i]? = some a) (hb : ys[j]? = some b) :
    Spread (meetL out a b) ∧ (∀ r, memB (meetL out a b) r = true ↔ memB out r = true ∨ (memB [a] r = true ∧ memB [b] r = true)) ∧ (meetL out a b).length ≤ out.length + 1 ∧ endsB (bothOf a b) = true := by
  have hae := (hS.ends a (List.mem_of_getElem? ha)).1
  have hbe := (hY.ends b (List.mem_of_getElem? hb)).1
  have he := both_ends hae hbe
  unfold meetL
  by_cases c : (bothOf a b).1 ≤ (bothOf a b).2
  · rw [if_pos c]
    have hle : ∀ y ∈ out, y.1 ≤ (bothOf a b).1 := fun y hy => by
      have p := h.spread.ends y hy
      have hm : memB out y.1 = true := (memB_iff _ _).2 ⟨⟨y, hy, by omega, p.2⟩, (endsB_parts p.1).1⟩
      show y.1 ≤ max a.1 b.1
      rcases (h.mem y.1).1 hm with ⟨q, _⟩ | ⟨_, q⟩
      · have := take_lt hS ha q; omega
      · have := take_lt hY hb q; omega
    refine ⟨layL_spread h.spread he c hle, fun r => ?_, layL_length _ _, he⟩
    rw [layL_mem h.spread he c hle, Bool.or_eq_true, mem_both]
  · rw [if_neg c]
    refine ⟨h.spread, fun r => ?_, by omega, he⟩
    rw [← mem_both, mem_one]
    constructor
    · exact .inl
    · rintro (q | ⟨q, _⟩)
      · exact q
      · omega
theorem meetI_left {zs ys : List (Int × Int)} (hS : Spread zs) (hY : Spread ys) {i j : Nat} {out : List (Int × Int)} {a b : Int × Int} (h : MeetI zs ys i j out) (ha : zs[i]? = some a) (hb : ys[j]? = some b) (hlt : a.2 < b.2) : MeetI zs ys (i + 1) j (meetL out a b) := by
  obtain ⟨p, q, l, _⟩ := meetI_lay hS hY h ha hb
  refine ⟨p, fun r => ?_, by have := h.len; omega⟩
  rw [q r, h.mem r, mem_take_more ha, Bool.or_eq_true]
  constructor
  · rintro ((⟨x, y⟩ | ⟨x, y⟩) | ⟨x, y⟩)
    · exact .inl ⟨.inl x, y⟩
    · exact .inr ⟨x, y⟩
    · exact .inl ⟨.inr x, mem_of_one hb y⟩
  · rintro (⟨x | x, y⟩ | ⟨x, y⟩)
    · exact .inl (.inl ⟨x, y⟩)
    · rcases mem_parts hY hb y with z | z | z
      · exact .inl (.inr ⟨mem_of_one ha x, z⟩)
      · exact .inr ⟨x, z⟩
      · have := ((mem_one a r).1 x).1; omega
    · exact .inl (.inr ⟨x, y⟩)
theorem meetI_right {zs ys : List (Int × Int)} (hS : Spread zs) (hY : Spread ys) {i j : Nat} {out : List (Int × Int)} {a b : Int × Int} (h : MeetI zs ys i j out) (ha : zs[i]? = some a) (hb : ys[j]? = some b) (hle : b.2 ≤ a.2) : MeetI zs ys i (j + 1) (meetL out a b) := by
  obtain ⟨p, q, l, _⟩ := meetI_lay hS hY h ha hb
  refine ⟨p, fun r => ?_, by have := h.len; omega⟩
  rw [q r, h.mem r, mem_take_more hb, Bool.or_eq_true]
  constructor
  · rintro ((⟨x, y⟩ | ⟨x, y⟩) | ⟨x, y⟩)
    · exact .inl ⟨x, y⟩
    · exact .inr ⟨x, .inl y⟩
    · exact .inr ⟨mem_of_one ha x, .inr y⟩
  · rintro (⟨x, y⟩ | ⟨x, y | y⟩)
    · exact .inl (.inl ⟨x, y⟩)
    · exact .inl (.inr ⟨x, y⟩)
    · rcases mem_parts hS ha x with z | z | z
      · exact .inl (.inl ⟨z, mem_of_one hb y⟩)
      · exact .inr ⟨z, y⟩
      · have := ((mem_one b r).1 y).1; omega
theorem meetI_end {zs ys : List (Int × Int)} {i j : Nat} {out : List (Int × Int)} (h : MeetI zs ys i j out) (he : zs.length ≤ i ∨ ys.length ≤ j) : ∀ r, memB out r = (memB zs r && memB ys r) := fun r => by
  rw [Bool.eq_iff_iff, h.mem r, Bool.and_eq_true]
  constructor
  · rintro (⟨x, y⟩ | ⟨x, y⟩)
    · exact ⟨mem_of_take x, y⟩
    · exact ⟨x, mem_of_take y⟩
  · rintro ⟨x, y⟩
    rcases he with e | e
    · exact .inl ⟨by rw [List.take_of_length_le e]; exact x, y⟩
    · exact .inr ⟨x, by rw [List.take_of_length_le e]; exact y⟩
/-- A block that is newer than all that a set owns stays through what is laid. -/
theorem frame_kept {wr w5 w6 : World} {B lo0 X : Nat} {zs : List (Int × Int)} {cs : Array Value} {t : TypeId} (hm : Made wr B lo0 zs) (hb : Below wr.heap.size wr w5) (hX : Blk w5 X cs t) (hge : wr.heap.size ≤ X) (hf : Frame w5 w6 B) : Blk w6 X cs t := by
  obtain ⟨va, vb, h1, h2, h3⟩ := hm.form
  have hlt := h1.lt
  refine (hf X hX.lt (by omega) fun va' vb' hB => ?_).trans hX
  have e := (show w5.heap[B]? = _ from h1.below hb h1.lt).symm.trans hB
  simp at e
  obtain ⟨rfl, rfl⟩ := e
  exact ⟨fun e => by have := (h2.lt _ e).2; omega, fun e => by have := (h3.lt _ e).2; omega⟩
theorem some_any (C : Nat) (w : World) : Calls Try.prog 30 #[.pointer (some ⟨C, 0, none⟩)] w fun e w' => e = .returned (.pointer (some ⟨C, 0, none⟩)) ∧ w' = w := by
  go_enter Try.func30, Try.ntmps30
  go_wp2
  go_ret
  exact ⟨rfl, rfl⟩
end Go.Proofs.Ytodikfaddfojgaa
