/- Texts of this claim, one behind the other. -/
import Derived.Test.YtemmflhofhngbaaM4
import Derived.Test.YtemmflhofhngbaaM3
import Derived.BigRegion
import Derived.Lib.AppendZeros
import Derived.Laws.StructEq
/- What two lists of spans have in common, pair by pair. -/
namespace Go.Proofs.Ytemmflhofhngbaa
open Go.RowKit Go.Shelf
set_option linter.unusedVariables false
structure MeetI (zs ys : List (Int × Int)) (i j : Nat) (out : List (Int × Int)) : Prop where
  spread : Spread out
  mem : ∀ r, memB out r = true ↔ (memB (zs.take i) r = true ∧ memB ys r = true) ∨ (memB zs r = true ∧ memB (ys.take j) r = true)
  len : out.length ≤ i + j
theorem meetI_start (zs ys : List (Int × Int)) : MeetI zs ys 0 0 [] where
  spread := ⟨fun x h => by simp at h, fun i j x y _ h => by simp at h⟩
  mem r := by simp [memB]
  len := by simp
/-- A rune of a spread list lies ahead of span i, in it, or behind it. -/
theorem mem_parts {zs : List (Int × Int)} (hS : Spread zs) {i : Nat} {a : Int × Int} (ha : zs[i]? = some a) {r : Int} (h : memB zs r = true) : memB (zs.take i) r = true ∨ memB [a] r = true ∨ a.2 < r := by
  obtain ⟨⟨x, hx, p, q⟩, hr⟩ := (memB_iff _ _).1 h
  obtain ⟨k, hk, rfl⟩ := List.mem_iff_getElem.1 hx
  rcases Nat.lt_trichotomy k i with c | c | c
  · exact .inl ((memB_iff _ _).2 ⟨⟨zs[k], List.mem_iff_getElem.2 ⟨k, by rw [List.length_take]; have := (List.getElem?_eq_some_iff.1 ha).1; omega, by simp⟩, p, q⟩, hr⟩)
  · subst c
    rw [List.getElem?_eq_getElem hk] at ha
    cases ha
    exact .inr (.inl ((memB_iff _ _).2 ⟨⟨_, by simp, p, q⟩, hr⟩))
  · have := hS.lt i k a zs[k] c ha (List.getElem?_eq_getElem hk)
    exact .inr (.inr (by omega))
theorem take_lt {zs : List (Int × Int)} (hS : Spread zs) {i : Nat} {a : Int × Int} (ha : zs[i]? = some a) {r : Int} (h : memB (zs.take i) r = true) : r < a.1 := by
  obtain ⟨⟨x, hx, p, q⟩, hr⟩ := (memB_iff _ _).1 h
  obtain ⟨k, hk, e⟩ := List.mem_iff_getElem.1 hx
  rw [List.length_take] at hk
  have hx' : zs[k]? = some x := by rw [← e, List.getElem_take, List.getElem?_eq_getElem (by omega)]
  have := hS.lt k i x a (by omega) hx' ha
  omega
theorem mem_one (a : Int × Int) (r : Int) : memB [a] r = true ↔ (a.1 ≤ r ∧ r ≤ a.2) ∧ runeB r = true := by
  rw [memB_iff]
  simp only [List.mem_singleton, exists_eq_left]
theorem mem_take_more {zs : List (Int × Int)} {i : Nat} {a : Int × Int} (ha : zs[i]? = some a) (r : Int) : memB (zs.take (i + 1)) r = (memB (zs.take i) r || memB [a] r) := by rw [take_more ha, memB_append]
theorem mem_of_take {zs : List (Int × Int)} {i : Nat} {r : Int} (h : memB (zs.take i) r = true) : memB zs r = true := by
  obtain ⟨⟨x, hx, p⟩, hr⟩ := (memB_iff _ _).1 h
  exact (memB_iff _ _).2 ⟨⟨x, List.mem_of_mem_take hx, p⟩, hr⟩
theorem mem_of_one {zs : List (Int × Int)} {i : Nat} {a : Int × Int} (ha : zs[i]? = some a) {r : Int} (h : memB [a] r = true) : memB zs r = true := by
  obtain ⟨p, hr⟩ := (mem_one a r).1 h
  exact (memB_iff _ _).2 ⟨⟨a, List.mem_of_getElem? ha, p⟩, hr⟩
/-- What two spans have in common. -/
def bothOf (a b : Int × Int) : Int × Int := (max a.1 b.1, min a.2 b.2)
theorem mem_both (a b : Int × Int) (r : Int) : memB [bothOf a b] r = true ↔ memB [a] r = true ∧ memB [b] r = true := by
  rw [mem_one, mem_one, mem_one]
  unfold bothOf
  simp only
  constructor
  · rintro ⟨⟨p, q⟩, h⟩; exact ⟨⟨⟨by omega, by omega⟩, h⟩, ⟨⟨by omega, by omega⟩, h⟩⟩
  · rintro ⟨⟨⟨p, q⟩, h⟩, ⟨⟨p', q'⟩, _⟩⟩; exact ⟨⟨by omega, by omega⟩, h⟩
theorem both_ends {a b : Int × Int} (ha : endsB a = true) (hb : endsB b = true) : endsB (bothOf a b) = true := by
  have p := endsB_parts ha
  have q := endsB_parts hb
  refine endsB_mk ?_ ?_
  · show runeB (max a.1 b.1) = true
    rcases Int.le_total a.1 b.1 with c | c
    · rw [Int.max_eq_right c]; exact q.1
    · rw [Int.max_eq_left c]; exact p.1
  · show runeB (min a.2 b.2) = true
    rcases Int.le_total a.2 b.2 with c | c
    · rw [Int.min_eq_left c]; exact p.2
    · rw [Int.min_eq_right c]; exact q.2
/-- What lies in the list behind a pair of spans. -/
def meetL (out : List (Int × Int)) (a b : Int × Int) : List (Int × Int) := if (bothOf a b).1 ≤ (bothOf a b).2 then layL out (bothOf a b) else out
theorem meetI_lay {zs ys : List (Int × Int)} (hS : Spread zs) (hY : Spread ys) {i j : Nat} {out : List (Int × Int)} {a b : Int × Int} (h : MeetI zs ys i j out) (ha : zs[i]? = some a) (hb : ys[j]? = some b) :
    Spread (meetL out a b) ∧ (∀ r, memB (meetL out a b) r = true ↔ memB out r = true ∨ (memB [a] r = true ∧ memB [b] r = true)) ∧ (meetL out a b).length ≤ out.length + 1 ∧ endsB (bothOf a b) = true := by
  have hae := (hS.ends a (List.mem_of_getElem? ha)).1
  have hbe := (hY.ends b (List.mem_of_getElem? hb)).1
  have he := both_ends hae hbe
  unfold meetL
  by_cases c : (bothOf a b).1 ≤ (bothOf a b).2
  · rw [if_pos c]
    have hle : ∀ y ∈ out, y.1 ≤ (bothOf a b).1 := fun y hy => by
      have p := h.spread.ends y hy
      have hm : memB out y.1 = true := (memB_iff _ _).2 ⟨⟨y, hy, by omega, p.2⟩, (endsB_parts p.1).1⟩
      show y.1 ≤ max a.1 b.1
      rcases (h.mem y.1).1 hm with ⟨q, _⟩ | ⟨_, q⟩
      · have := take_lt hS ha q; omega
      · have := take_lt hY hb q; omega
    refine ⟨layL_spread h.spread he c hle, fun r => ?_, layL_length _ _, he⟩
    rw [layL_mem h.spread he c hle, Bool.or_eq_true, mem_both]
  · rw [if_neg c]
    refine ⟨h.spread, fun r => ?_, by omega, he⟩
    rw [← mem_both, mem_one]
    constructor
    · exact .inl
    · rintro (q | ⟨q, _⟩)
      · exact q
      · omega
theorem meetI_left {zs ys : List (Int × Int)} (hS : Spread zs) (hY : Spread ys) {i j : Nat} {out : List (Int × Int)} {a b : Int × Int} (h : MeetI zs ys i j out) (ha : zs[i]? = some a) (hb : ys[j]? = some b) (hlt : a.2 < b.2) : MeetI zs ys (i + 1) j (meetL out a b) := by
  obtain ⟨p, q, l, _⟩ := meetI_lay hS hY h ha hb
  refine ⟨p, fun r => ?_, by have := h.len; omega⟩
  rw [q r, h.mem r, mem_take_more ha, Bool.or_eq_true]
  constructor
  · rintro ((⟨x, y⟩ | ⟨x, y⟩) | ⟨x, y⟩)
    · exact .inl ⟨.inl x, y⟩
    · exact .inr ⟨x, y⟩
    · exact .inl ⟨.inr x, mem_of_one hb y⟩
  · rintro (⟨x | x, y⟩ | ⟨x, y⟩)
    · exact .inl (.inl ⟨x, y⟩)
    · rcases mem_parts hY hb y with z | z | z
      · exact .inl (.inr ⟨mem_of_one ha x, z⟩)
      · exact .inr ⟨x, z⟩
      · have := ((mem_one a r).1 x).1; omega
    · exact .inl (.inr ⟨x, y⟩)
theorem meetI_right {zs ys : List (Int × Int)} (hS : Spread zs) (hY : Spread ys) {i j : Nat} {out : List (Int × Int)} {a b : Int × Int} (h : MeetI zs ys i j out) (ha : zs[i]? = some a) (hb : ys[j]? = some b) (hle : b.2 ≤ a.2) : MeetI zs ys i (j + 1) (meetL out a b) := by
  obtain ⟨p, q, l, _⟩ := meetI_lay hS hY h ha hb
  refine ⟨p, fun r => ?_, by have := h.len; omega⟩
  rw [q r, h.mem r, mem_take_more hb, Bool.or_eq_true]
  constructor
  · rintro ((⟨x, y⟩ | ⟨x, y⟩) | ⟨x, y⟩)
    · exact .inl ⟨x, y⟩
    · exact .inr ⟨x, .inl y⟩
    · exact .inr ⟨mem_of_one ha x, .inr y⟩
  · rintro (⟨x, y⟩ | ⟨x, y | y⟩)
    · exact .inl (.inl ⟨x, y⟩)
    · exact .inl (.inr ⟨x, y⟩)
    · rcases mem_parts hS ha x with z | z | z
      · exact .inl (.inl ⟨z, mem_of_one hb y⟩)
      · exact .inr ⟨z, y⟩
      · have := ((mem_one b r).1 y).1; omega
theorem meetI_end {zs ys : List (Int × Int)} {i j : Nat} {out : List (Int × Int)} (h : MeetI zs ys i j out) (he : zs.length ≤ i ∨ ys.length ≤ j) : ∀ r, memB out r = (memB zs r && memB ys r) := fun r => by
  rw [Bool.eq_iff_iff, h.mem r, Bool.and_eq_true]
  constructor
  · rintro (⟨x, y⟩ | ⟨x, y⟩)
    · exact ⟨mem_of_take x, y⟩
    · exact ⟨x, mem_of_take y⟩
  · rintro ⟨x, y⟩
    rcases he with e | e
    · exact .inl ⟨by rw [List.take_of_length_le e]; exact x, y⟩
    · exact .inr ⟨x, by rw [List.take_of_length_le e]; exact y⟩
/-- A block that is newer than all that a set owns stays through what is laid. -/
theorem frame_kept {wr w5 w6 : World} {B lo0 X : Nat} {zs : List (Int × Int)} {cs : Array Value} {t : TypeId} (hm : Made wr B lo0 zs) (hb : Below wr.heap.size wr w5) (hX : Blk w5 X cs t) (hge : wr.heap.size ≤ X) (hf : Frame w5 w6 B) : Blk w6 X cs t := by
  obtain ⟨va, vb, h1, h2, h3⟩ := hm.form
  have hlt := h1.lt
  refine (hf X hX.lt (by omega) fun va' vb' hB => ?_).trans hX
  have e := (show w5.heap[B]? = _ from h1.below hb h1.lt).symm.trans hB
  simp at e
  obtain ⟨rfl, rfl⟩ := e
  exact ⟨fun e => by have := (h2.lt _ e).2; omega, fun e => by have := (h3.lt _ e).2; omega⟩
theorem some_any (C : Nat) (w : World) : Calls Try.prog 39 #[.pointer (some ⟨C, 0, none⟩)] w fun e w' => e = .returned (.pointer (some ⟨C, 0, none⟩)) ∧ w' = w := by
  go_enter Try.func39, Try.ntmps39
  go_wp2
  go_ret
  exact ⟨rfl, rfl⟩
end Go.Proofs.Ytemmflhofhngbaa
/- The reference's Not: what its loop keeps. -/
namespace Go.Proofs.Ytemmflhofhngbaa
open Go.RowKit Go.Shelf
set_option linter.unusedVariables false
/-- The rune ahead of one. -/
def dnOf (r : Int) : Int := if r - 1 = 57343 then 55295 else r - 1
theorem dn_facts {r : Int} (h : runeB r = true) (h0 : 0 < r) : runeB (dnOf r) = true ∧ rankOf (dnOf r) + 1 = rankOf r ∧ 0 ≤ dnOf r ∧ dnOf r < r ∧ (∀ s, runeB s = true → (s ≤ dnOf r ↔ s < r)) := by
  have p := runeB_iff h
  unfold dnOf
  refine ⟨?_, ?_, ?_, ?_, fun s hs => ?_⟩
  · unfold runeB; split <;> simp <;> omega
  · unfold rankOf
    repeat' split
    all_goals omega
  · split <;> omega
  · split <;> omega
  · have q := runeB_iff hs
    split <;> omega
theorem up_facts {r : Int} (h : runeB r = true) : 0 ≤ upOf r ∧ upOf r ≤ 1114112 ∧ (runeB (upOf r) = true ∨ upOf r = 1114112) ∧ (∀ s, runeB s = true → (s < upOf r ↔ s ≤ r)) := by
  have p := runeB_iff h
  unfold upOf
  refine ⟨?_, ?_, ?_, fun s hs => ?_⟩
  · split <;> omega
  · split <;> omega
  · by_cases e : r = 1114111
    · exact .inr (by rw [if_neg (by omega)]; omega)
    · exact .inl (by unfold runeB; split <;> simp <;> omega)
  · have q := runeB_iff hs
    split <;> omega
theorem rank_le'' {a b : Int} (h : b ≤ a) : rankOf b ≤ rankOf a := by
  unfold rankOf
  repeat' split
  all_goals omega
theorem rank_lt_of {a b : Int} (ha : runeB a = true) (h : rankOf a < rankOf b) : a < b := by
  rcases Int.lt_or_le a b with c | c
  · exact c
  · have := rank_le'' c; omega
structure RNot (ys : List (Int × Int)) (k : Nat) (out : List (Int × Int)) (at_ : Int) : Prop where
  spread : Spread out
  low : ∀ y ∈ out, rankOf y.2 + 1 < rankOf at_
  mem : ∀ r, memB out r = true ↔ runeB r = true ∧ r < at_ ∧ ¬ memB (ys.take k) r = true
  past : ∀ r, memB (ys.take k) r = true → r < at_
  next : ∀ j y, k ≤ j → ys[j]? = some y → at_ ≤ y.1
  rng : 0 ≤ at_ ∧ at_ ≤ 1114112 ∧ (runeB at_ = true ∨ at_ = 1114112)
  len : out.length ≤ k
theorem rnot_start {ys : List (Int × Int)} (h : Spread ys) : RNot ys 0 [] 0 where
  spread := ⟨fun x h => by simp at h, fun i j x y _ h => by simp at h⟩
  low := fun y h => by simp at h
  mem := fun r => ⟨fun h => by simp [memB] at h, fun ⟨h1, h2, _⟩ => by have := (runeB_iff h1).1; omega⟩
  past := fun r h => by simp [memB] at h
  next := fun j y _ hy => (endsB_iff (h.ends y (List.mem_of_getElem? hy)).1).1.1
  rng := ⟨by omega, by omega, .inl (by decide)⟩
  len := by simp
theorem rnot_step {ys : List (Int × Int)} (hS : Spread ys) {k : Nat} {out : List (Int × Int)} {at_ : Int} {y : Int × Int} (h : RNot ys k out at_) (hy : ys[k]? = some y) : RNot ys (k + 1) (if at_ < y.1 then out ++ [(at_, dnOf y.1)] else out) (upOf y.2) := by
  have he := hS.ends y (List.mem_of_getElem? hy)
  have e := endsB_parts he.1
  have f := endsB_iff he.1
  have u := up_facts e.2
  have hle := h.next k y (Nat.le_refl _) hy
  have hur := up_rank e.2
  have hrk := (rank_le f.1.2.2 f.2.2.2).2 he.2
  have hpast : ∀ r, memB (ys.take (k + 1)) r = true → r < upOf y.2 := fun r hr => by
    rw [mem_take_more hy, Bool.or_eq_true] at hr
    have hrr : runeB r = true := by
      rcases hr with q | q
      · exact ((memB_iff _ _).1 q).2
      · exact ((mem_one _ _).1 q).2
    rw [u.2.2.2 r hrr]
    rcases hr with q | q
    · have := h.past r q; omega
    · exact ((mem_one _ _).1 q).1.2
  have hnext : ∀ j z, k + 1 ≤ j → ys[j]? = some z → upOf y.2 ≤ z.1 := fun j z hj hz => by
    have a := hS.apart k j y z (by omega) hy hz
    have b := (up_facts e.2).2.2.1
    have hzr := endsB_parts (hS.ends z (List.mem_of_getElem? hz)).1
    rcases b with b | b
    · have := rank_lt_of b (b := z.1) (by omega); omega
    · have : rankOf (upOf y.2) = 1112064 := by rw [b]; rfl
      have q := runeB_iff hzr.1
      have := rank_range q.1 q.2.1
      omega
  by_cases c : at_ < y.1
  · rw [if_pos c]
    have hat : runeB at_ = true := by
      rcases h.rng.2.2 with q | q
      · exact q
      · omega
    have d := dn_facts e.1 (by have := h.rng.1; omega)
    have hdl : at_ ≤ dnOf y.1 := (d.2.2.2.2 at_ hat).2 c
    refine ⟨Spread.snoc h.spread (endsB_mk hat d.1) hdl (fun x hx => h.low x hx), fun z hz => ?_, fun r => ?_, hpast, hnext, ⟨u.1, u.2.1, u.2.2.1⟩, by have := h.len; simp; omega⟩
    · rw [hur]
      rcases List.mem_append.1 hz with q | q
      · have a := h.low z q
        have b := (rank_le (runeB_iff hat).2.2 f.1.2.2).2 hle
        omega
      · simp at q; subst q; simp only; omega
    · rw [memB_append, Bool.or_eq_true, h.mem r, mem_one, mem_take_more hy, Bool.or_eq_true, mem_one]
      constructor
      · rintro (⟨a, b, n⟩ | ⟨⟨a, b⟩, n⟩)
        · exact ⟨a, (u.2.2.2 r a).2 (by omega), fun q => by rcases q with q | q; exact n q; omega⟩
        · have b' := (d.2.2.2.2 r n).1 b
          refine ⟨n, (u.2.2.2 r n).2 (by omega), fun q => ?_⟩
          rcases q with q | q
          · have := h.past r q; simp only at a; omega
          · omega
      · rintro ⟨a, b, n⟩
        have b' := (u.2.2.2 r a).1 b
        by_cases q : r < at_
        · exact .inl ⟨a, q, fun m => n (.inl m)⟩
        · refine .inr ⟨⟨by simp only; omega, (d.2.2.2.2 r a).2 ?_⟩, a⟩
          rcases Int.lt_or_le r y.1 with q2 | q2
          · exact q2
          · exact absurd (.inr ⟨⟨q2, b'⟩, a⟩) n
  · rw [if_neg c]
    have hateq : at_ = y.1 := by omega
    refine ⟨h.spread, fun z hz => ?_, fun r => ?_, hpast, hnext, ⟨u.1, u.2.1, u.2.2.1⟩, by have := h.len; omega⟩
    · have a := h.low z hz
      rw [hateq] at a
      omega
    · rw [h.mem r, mem_take_more hy, Bool.or_eq_true, mem_one]
      constructor
      · rintro ⟨a, b, n⟩
        exact ⟨a, (u.2.2.2 r a).2 (by omega), fun q => by rcases q with q | q; exact n q; omega⟩
      · rintro ⟨a, b, n⟩
        have b' := (u.2.2.2 r a).1 b
        refine ⟨a, ?_, fun m => n (.inl m)⟩
        rcases Int.lt_or_le r at_ with q2 | q2
        · exact q2
        · exact absurd (.inr ⟨⟨by omega, b'⟩, a⟩) n
theorem rnot_end {ys : List (Int × Int)} {k : Nat} {out : List (Int × Int)} {at_ : Int} (h : RNot ys k out at_) (hk : ys.length ≤ k) : Spread (if at_ ≤ 1114111 then out ++ [(at_, 1114111)] else out) ∧ (∀ r, memB (if at_ ≤ 1114111 then out ++ [(at_, 1114111)] else out) r = (runeB r && !memB ys r)) := by
  have hm : ∀ r, memB out r = true ↔ runeB r = true ∧ r < at_ ∧ ¬ memB ys r = true := fun r => by
    have := h.mem r
    rwa [List.take_of_length_le hk] at this
  have hp : ∀ r, memB ys r = true → r < at_ := fun r => by
    have := h.past r
    rwa [List.take_of_length_le hk] at this
  by_cases c : at_ ≤ 1114111
  · rw [if_pos c]
    have hat : runeB at_ = true := by
      rcases h.rng.2.2 with q | q
      · exact q
      · omega
    refine ⟨Spread.snoc h.spread (endsB_mk hat (show runeB 1114111 = true by decide)) c (fun x hx => h.low x hx), fun r => ?_⟩
    rw [Bool.eq_iff_iff, memB_append, Bool.or_eq_true, hm r, mem_one, Bool.and_eq_true, Bool.not_eq_true']
    constructor
    · rintro (⟨a, b, n⟩ | ⟨⟨a, b⟩, n⟩)
      · exact ⟨a, by simpa using n⟩
      · refine ⟨n, ?_⟩
        rw [← Bool.not_eq_true]
        intro q
        have := hp r q
        simp only at a
        omega
    · rintro ⟨a, n⟩
      by_cases q : r < at_
      · exact .inl ⟨a, q, by rw [n]; decide⟩
      · exact .inr ⟨⟨by simp only; omega, (runeB_iff a).2.1⟩, a⟩
  · rw [if_neg c]
    refine ⟨h.spread, fun r => ?_⟩
    rw [Bool.eq_iff_iff, hm r, Bool.and_eq_true, Bool.not_eq_true']
    constructor
    · rintro ⟨a, b, n⟩; exact ⟨a, by simpa using n⟩
    · rintro ⟨a, n⟩; exact ⟨a, by have := (runeB_iff a).2.1; omega, by rw [n]; decide⟩
/-- The reference's Meet: what its loops keep. -/
structure RMeet (zs ys : List (Int × Int)) (i j : Nat) (out : List (Int × Int)) : Prop where
  right : RightL out
  mem : ∀ r, memB out r = true ↔ (memB (zs.take i) r = true ∧ memB ys r = true) ∨ (∃ a, zs[i]? = some a ∧ memB [a] r = true ∧ memB (ys.take j) r = true)
  len : out.length ≤ i * ys.length + j
theorem rmeet_start (zs ys : List (Int × Int)) : RMeet zs ys 0 0 [] where
  right := fun x h => by simp at h
  mem r := by simp [memB]
  len := by simp
theorem rmeet_step {zs ys : List (Int × Int)} (hS : Spread zs) (hY : Spread ys) {i j : Nat} {out : List (Int × Int)} {a b : Int × Int} (h : RMeet zs ys i j out) (ha : zs[i]? = some a) (hb : ys[j]? = some b) : RMeet zs ys i (j + 1) (if (bothOf a b).1 ≤ (bothOf a b).2 then out ++ [bothOf a b] else out) := by
  have he := both_ends (hS.ends a (List.mem_of_getElem? ha)).1 (hY.ends b (List.mem_of_getElem? hb)).1
  have hmem : ∀ r, (memB (zs.take i) r = true ∧ memB ys r = true) ∨ (∃ a, zs[i]? = some a ∧ memB [a] r = true ∧ memB (ys.take (j + 1)) r = true) ↔ memB out r = true ∨ memB [bothOf a b] r = true := fun r => by
    rw [h.mem r, mem_both, ha, mem_take_more hb]
    simp only [Option.some.injEq, exists_eq_left', Bool.or_eq_true]
    constructor
    · rintro (p | ⟨p, q | q⟩)
      · exact .inl (.inl p)
      · exact .inl (.inr ⟨p, q⟩)
      · exact .inr ⟨p, q⟩
    · rintro ((p | ⟨p, q⟩) | ⟨p, q⟩)
      · exact .inl p
      · exact .inr ⟨p, .inl q⟩
      · exact .inr ⟨p, .inr q⟩
  by_cases c : (bothOf a b).1 ≤ (bothOf a b).2
  · rw [if_pos c]
    refine ⟨fun x hx => ?_, fun r => ?_, by have := h.len; simp; omega⟩
    · rcases List.mem_append.1 hx with q | q
      · exact h.right x q
      · simp at q; subst q; exact ⟨he, c⟩
    · rw [hmem r, memB_append, Bool.or_eq_true]
  · rw [if_neg c]
    refine ⟨h.right, fun r => ?_, by have := h.len; omega⟩
    rw [hmem r, mem_one (bothOf a b)]
    constructor
    · exact .inl
    · rintro (q | ⟨q, _⟩)
      · exact q
      · omega
theorem rmeet_next {zs ys : List (Int × Int)} {i j : Nat} {out : List (Int × Int)} {a : Int × Int} (h : RMeet zs ys i j out) (ha : zs[i]? = some a) (hj : j = ys.length) : RMeet zs ys (i + 1) 0 out := by
  subst hj
  refine ⟨h.right, fun r => ?_, by have := h.len; rw [Nat.add_mul]; omega⟩
  rw [h.mem r, ha, mem_take_more ha, List.take_of_length_le (Nat.le_refl _)]
  simp only [Option.some.injEq, exists_eq_left', Bool.or_eq_true, List.take_zero]
  have hn : ∀ q : Int × Int, ¬ (memB [q] r = true ∧ memB [] r = true) := fun q => by simp [memB]
  constructor
  · rintro (⟨p, q⟩ | ⟨p, q⟩)
    · exact .inl ⟨.inl p, q⟩
    · exact .inl ⟨.inr p, q⟩
  · rintro (⟨p | p, q⟩ | ⟨z, _, p⟩)
    · exact .inl ⟨p, q⟩
    · exact .inr ⟨p, q⟩
    · exact absurd p (hn z)
theorem rmeet_end {zs ys : List (Int × Int)} {i : Nat} {out : List (Int × Int)} (h : RMeet zs ys i 0 out) (hi : zs.length ≤ i) : ∀ r, memB out r = (memB zs r && memB ys r) := fun r => by
  rw [Bool.eq_iff_iff, h.mem r, Bool.and_eq_true, List.take_of_length_le hi]
  constructor
  · rintro (p | ⟨z, hz, _⟩)
    · exact p
    · rw [List.getElem?_eq_none hi] at hz; cases hz
  · exact .inl
end Go.Proofs.Ytemmflhofhngbaa
/- The reference's Of, up, size, Size; Of of wrong spans. -/
namespace Go.Proofs.Ytemmflhofhngbaa
open Go.RowKit Go.Shelf
set_option linter.unusedVariables false
/-- Why spans make no set. -/
def errOf (l : List (Int × Int)) : Int := if l.any (fun x => !endsB x) then 12 else if l.any (fun x => decide (x.2 < x.1)) then 11 else 0
theorem errOf_12 {l : List (Int × Int)} (h : ∃ x ∈ l, endsB x = false) : errOf l = 12 := by
  unfold errOf
  rw [if_pos (by obtain ⟨x, hx, e⟩ := h; exact List.any_eq_true.2 ⟨x, hx, by simp [e]⟩)]
theorem errOf_11 {l : List (Int × Int)} (h0 : ∀ x ∈ l, endsB x = true) (h : ∃ x ∈ l, x.2 < x.1) : errOf l = 11 := by
  unfold errOf
  rw [if_neg (by rw [List.any_eq_true]; rintro ⟨x, hx, e⟩; simp [h0 x hx] at e), if_pos (by obtain ⟨x, hx, e⟩ := h; exact List.any_eq_true.2 ⟨x, hx, by simp [e]⟩)]
theorem errOf_0 {l : List (Int × Int)} (h0 : ∀ x ∈ l, endsB x = true) (h : ∀ x ∈ l, ¬ x.2 < x.1) : errOf l = 0 := by
  unfold errOf
  rw [if_neg (by rw [List.any_eq_true]; rintro ⟨x, hx, e⟩; simp [h0 x hx] at e), if_neg (by rw [List.any_eq_true]; rintro ⟨x, hx, e⟩; have := h x hx; simp at e; omega)]
theorem errOf_cases (l : List (Int × Int)) : (errOf l = 0 ∧ RightL l) ∨ (errOf l = 11 ∧ (l.any (fun x => !endsB x)) = false ∧ (l.any fun x => decide (x.2 < x.1)) = true) ∨ (errOf l = 12 ∧ (l.any (fun x => !endsB x)) = true) := by
  unfold errOf
  cases h1 : l.any (fun x => !endsB x) with
  | true => exact .inr (.inr ⟨by simp, rfl⟩)
  | false =>
    cases h2 : l.any (fun x => decide (x.2 < x.1)) with
    | true => exact .inr (.inl ⟨by simp, rfl, rfl⟩)
    | false =>
      refine .inl ⟨by simp, fun x hx => ?_⟩
      rw [List.any_eq_false] at h1 h2
      have a := h1 x hx
      have b := h2 x hx
      simp at a b
      exact ⟨a, b⟩
set_option maxRecDepth 100000 in
set_option maxHeartbeats 4000000 in
theorem of_wrong (a : Option Addr) (cap : Nat) (l : List (Int × Int)) (hl : l.length ≤ 1000000) (hR : errOf l ≠ 0) (w : World) (hr : RowP w a l) :
    Calls Try.prog 7 #[.slice a l.length cap] w fun e w' => e = .returned (.tuple #[.pointer none, .int .i64 (errOf l)]) ∧ Below w.heap.size w w' := by
  have HN := hide (contains_noRunes a cap l (by omega) w hr)
  have HF := hide (fun w hr => contains_falling a cap l (by omega) w hr)
  have HR := hide hr
  rcases errOf_cases l with ⟨h, _⟩ | ⟨h, h1, h2⟩ | ⟨h, h1⟩
  · exact absurd h hR
  · rw [h]
    rw [h1] at HN
    rw [h2] at HF
    clear hr hR h h1 h2
    go_enter Try.func7, Try.ntmps7
    go_wp2_with fail
    refine (unhide HN).mono ?_
    rintro e w1 ⟨rfl, hb1⟩
    have HB1 := hide hb1
    clear hb1
    go_wp2_with fail
    refine (unhide HF w1 ((unhide HR).below (unhide HB1))).mono ?_
    rintro e w2 ⟨rfl, hb2⟩
    have HB2 := hide ((unhide HB1).trans (hb2.mono (unhide HB1).size))
    clear hb2
    go_wp2
    go_ret2
    exact ⟨rfl, unhide HB2⟩
  · rw [h]
    rw [h1] at HN
    clear hr hR h h1
    go_enter Try.func7, Try.ntmps7
    go_wp2_with fail
    refine (unhide HN).mono ?_
    rintro e w1 ⟨rfl, hb1⟩
    have HB1 := hide hb1
    clear hb1
    go_wp2
    go_ret2
    exact ⟨rfl, unhide HB1⟩
theorem refUp_any (n : Int) (h0 : -2147483648 ≤ n) (h1 : n < 2147483647) (w : World) : Calls Try.prog 55 #[.int .i32 n] w fun e w' => e = .returned (.int .i32 (upOf n)) ∧ w' = w := by
  by_cases a : n = 55295
  · subst a
    rw [show upOf 55295 = 57344 by decide]
    go_enter Try.func55, Try.ntmps55
    go_wp2
    go_ret
    exact ⟨rfl, rfl⟩
  · rw [show upOf n = n + 1 by unfold upOf; rw [if_neg a]]
    have h : (n == 55295) = false := beq_eq_false_iff_ne.2 a
    go_enter Try.func55, Try.ntmps55
    go_wp2
    go_ret
    exact ⟨rfl, rfl⟩
theorem wrong_12 {x : Int × Int} : (wrongOf x == 12) = !endsB x := by
  unfold wrongOf
  cases endsB x with
  | true => simp only [if_true]; split <;> rfl
  | false => rfl
theorem wrong_11 {x : Int × Int} (h : endsB x = true) : (wrongOf x == 11) = decide (x.2 < x.1) := by
  unfold wrongOf
  rw [h]
  simp only [if_true]
  by_cases e : x.2 < x.1
  · rw [if_pos e]; simp [e]
  · rw [if_neg e]; simp [e]
end Go.Proofs.Ytemmflhofhngbaa
/- What Spans of the reference finds, round by round. -/
namespace Go.Proofs.Ytemmflhofhngbaa
open Go.RowKit Go.Shelf
set_option linter.unusedVariables false
/-- What Spans has found so far: the spans up to at. -/
structure OutS (l os : List (Int × Int)) (t : Int) : Prop where
  spread : Spread os
  rune : t = 1114112 ∨ runeB t = true
  mem : ∀ r, runeB r = true → (memB os r = true ↔ memB l r = true ∧ r < t)
  last : ∀ z ∈ os, rankOf z.2 + 1 ≤ rankOf t
  free : os ≠ [] → memB l t = false
  len : (os.length : Int) ≤ rankOf t
/-- The least rune from t on, as far as k spans tell. -/
structure LeastS (l : List (Int × Int)) (k : Nat) (t m : Int) : Prop where
  form : m = 1114112 ∨ (runeB m = true ∧ t ≤ m ∧ memB l m = true)
  least : ∀ x ∈ l.take k, ∀ r, runeB r = true → t ≤ r → x.1 ≤ r → r ≤ x.2 → m ≤ r
/-- From m on one comes to e. -/
structure EndS (l : List (Int × Int)) (m e : Int) : Prop where
  le : m ≤ e
  rune : runeB e = true
  mem : ∀ r, runeB r = true → m ≤ r → r ≤ e → memB l r = true
/-- None of k spans leads further. -/
def ShutS (l : List (Int × Int)) (k : Nat) (e : Int) : Prop := ∀ x ∈ l.take k, x.1 ≤ upOf e → x.2 ≤ e
theorem mem_take_succ {l : List (Int × Int)} {k : Nat} {x y : Int × Int} (hx : l[k]? = some x) (hy : y ∈ l.take (k + 1)) : y ∈ l.take k ∨ y = x := by
  rw [List.take_add_one, hx] at hy
  simpa using hy
theorem outS_start (l : List (Int × Int)) (hR : RightL l) : OutS l [] 0 where
  spread := ⟨fun x h => by simp at h, fun i j x y _ h => by simp at h⟩
  rune := .inr (by decide)
  mem r hr := by
    have := (runeB_iff hr).1
    simp [memB]
    omega
  last z h := by simp at h
  free h := absurd rfl h
  len := by simp [rankOf]
theorem leastS_start (l : List (Int × Int)) (t : Int) : LeastS l 0 t 1114112 := ⟨.inl rfl, fun x h => by simp at h⟩
theorem leastS_hit {l : List (Int × Int)} {k : Nat} {t m lo : Int} {x : Int × Int} (h : LeastS l k t m) (hR : RightL l) (ht : t = 1114112 ∨ runeB t = true) (hx : l[k]? = some x) (hlo : lo = if x.1 < t then t else x.1) (h1 : lo ≤ x.2) (h2 : lo < m) : LeastS l (k + 1) t lo := by
  have hm := List.mem_of_getElem? hx
  have hr := hR x hm
  have he := endsB_iff hr.1
  have hrl : runeB lo = true := by
    split at hlo
    · subst hlo
      rcases ht with e | e
      · omega
      · exact e
    · subst hlo; exact (endsB_parts hr.1).1
  have hl1 : t ≤ lo ∧ x.1 ≤ lo := by split at hlo <;> omega
  refine ⟨.inr ⟨hrl, hl1.1, (memB_iff _ _).2 ⟨⟨x, hm, hl1.2, h1⟩, hrl⟩⟩, fun y hy r a b c d => ?_⟩
  rcases mem_take_succ hx hy with e | e
  · have := h.least y e r a b c d
    omega
  · subst e
    split at hlo <;> omega
theorem leastS_miss {l : List (Int × Int)} {k : Nat} {t m lo : Int} {x : Int × Int} (h : LeastS l k t m) (hx : l[k]? = some x) (hlo : lo = if x.1 < t then t else x.1) (h1 : lo ≤ x.2 → m ≤ lo) : LeastS l (k + 1) t m := by
  refine ⟨h.form, fun y hy r a b c d => ?_⟩
  rcases mem_take_succ hx hy with e | e
  · exact h.least y e r a b c d
  · subst e
    have : lo ≤ r := by split at hlo <;> omega
    have := h1 (by omega)
    omega
theorem endS_start {l : List (Int × Int)} {k : Nat} {t m : Int} (h : LeastS l k t m) (hm : m < 1114112) : EndS l m m := by
  rcases h.form with e | ⟨a, b, c⟩
  · omega
  · exact ⟨by omega, a, fun r _ h1 h2 => by obtain rfl : r = m := by omega
                                            exact c⟩
theorem endS_hit {l : List (Int × Int)} {k : Nat} {m e : Int} {x : Int × Int} (h : EndS l m e) (hR : RightL l) (hx : l[k]? = some x) (h1 : x.1 ≤ upOf e) (h2 : e < x.2) : EndS l m x.2 := by
  have hm := List.mem_of_getElem? hx
  have hr := endsB_parts (hR x hm).1
  have hu := up_rune h.rune hr.2 h2
  refine ⟨by have := h.le; omega, hr.2, fun r a b c => ?_⟩
  by_cases d : r ≤ e
  · exact h.mem r a b d
  · have := up_rune h.rune a (by omega)
    exact (memB_iff _ _).2 ⟨⟨x, hm, by omega, c⟩, a⟩
theorem shutS_start (l : List (Int × Int)) (e : Int) : ShutS l 0 e := fun x h => by simp at h
theorem shutS_miss {l : List (Int × Int)} {k : Nat} {e : Int} {x : Int × Int} (h : ShutS l k e) (hx : l[k]? = some x) (h1 : x.1 ≤ upOf e → x.2 ≤ e) : ShutS l (k + 1) e := fun y hy => by
  rcases mem_take_succ hx hy with a | a
  · exact h y a
  · subst a; exact h1
theorem up_lt (e : Int) : e < upOf e := by unfold upOf; split <;> omega
theorem up_form {e : Int} (h : runeB e = true) : upOf e = 1114112 ∨ runeB (upOf e) = true := by
  have := runeB_iff h
  by_cases a : e = 1114111
  · subst a; exact .inl (by decide)
  · right
    unfold upOf
    split
    · decide
    · unfold runeB
      apply decide_eq_true
      omega
theorem rune_of_lt {t r : Int} (h : t = 1114112 ∨ runeB t = true) (hr : runeB r = true) (hlt : t ≤ r) : runeB t = true := by
  rcases h with e | e
  · have := runeB_iff hr; omega
  · exact e
theorem outS_next {l os : List (Int × Int)} {t m e : Int} (h : OutS l os t) (hL : LeastS l l.length t m) (hm : m < 1114112) (hE : EndS l m e) (hS : ShutS l l.length e) : OutS l (os ++ [(m, e)]) (upOf e) := by
  obtain ⟨mr, mt, mm⟩ : runeB m = true ∧ t ≤ m ∧ memB l m = true := by
    rcases hL.form with a | a
    · omega
    · exact a
  have tr := rune_of_lt h.rune mr mt
  have rt := runeB_iff tr
  have rm := runeB_iff mr
  have re := runeB_iff hE.rune
  have rk : rankOf t ≤ rankOf m := (rank_le rt.2.2 rm.2.2).2 mt
  have rk2 : rankOf m ≤ rankOf e := (rank_le rm.2.2 re.2.2).2 hE.le
  have ru := up_rank hE.rune
  have hlt := up_lt e
  rw [ShutS, List.take_of_length_le (Nat.le_refl _)] at hS
  have hmin : ∀ r, runeB r = true → t ≤ r → memB l r = true → m ≤ r := fun r a b c => by
    obtain ⟨⟨x, hx, p, q⟩, _⟩ := (memB_iff _ _).1 c
    exact hL.least x (by rw [List.take_of_length_le (Nat.le_refl _)]; exact hx) r a b p q
  refine ⟨h.spread.snoc (endsB_mk mr hE.rune) hE.le (fun z hz => ?_), up_form hE.rune, fun r hr => ?_, fun z hz => ?_, fun _ => ?_, ?_⟩
  · have h1 := h.last z hz
    have h2 := h.free (by intro e; rw [e] at hz; simp at hz)
    have h3 : t < m := by
      rcases Int.lt_or_eq_of_le mt with a | a
      · exact a
      · rw [a, mm] at h2; cases h2
    have h4 := (rank_lt rt.2.2 rm.2.2).2 h3
    show rankOf z.2 + 1 < rankOf m
    omega
  · have hrr := runeB_iff hr
    rw [memB_append, Bool.or_eq_true, h.mem r hr, memB_iff [(m, e)]]
    simp only [List.mem_singleton, exists_eq_left]
    have hre : r < upOf e ↔ r ≤ e := by
      constructor
      · intro a
        by_cases b : r ≤ e
        · exact b
        · have := up_rune hE.rune hr (by omega); omega
      · intro a; omega
    rw [hre]
    have hml := hE.le
    constructor
    · rintro (⟨a, b⟩ | ⟨⟨a, b⟩, _⟩)
      · exact ⟨a, by omega⟩
      · exact ⟨hE.mem r hr a b, b⟩
    · rintro ⟨a, b⟩
      by_cases c : r < t
      · exact .inl ⟨a, c⟩
      · exact .inr ⟨⟨hmin r hr (by omega) a, b⟩, hr⟩
  · rcases List.mem_append.1 hz with a | a
    · have := h.last z a
      omega
    · simp at a; subst a; show rankOf e + 1 ≤ _; omega
  · cases hc : memB l (upOf e) with
    | false => rfl
    | true =>
      obtain ⟨⟨x, hx, p, q⟩, _⟩ := (memB_iff _ _).1 hc
      have := hS x hx p
      omega
  · have := h.len
    simp
    omega
theorem outS_end {l os : List (Int × Int)} {t : Int} (h : OutS l os t) (hL : LeastS l l.length t 1114112) : ∀ r, memB os r = memB l r := fun r => by
  cases hr : runeB r with
  | false => simp [memB, hr]
  | true =>
    rw [Bool.eq_iff_iff, h.mem r hr]
    constructor
    · exact fun a => a.1
    · intro a
      refine ⟨a, ?_⟩
      by_cases b : r < t
      · exact b
      · obtain ⟨⟨x, hx, p, q⟩, _⟩ := (memB_iff _ _).1 a
        have := hL.least x (by rw [List.take_of_length_le (Nat.le_refl _)]; exact hx) r hr (by omega) p q
        have := runeB_iff hr
        omega
end Go.Proofs.Ytemmflhofhngbaa
/- The reference's Spans. -/
namespace Go.Proofs.Ytemmflhofhngbaa
open Go.RowKit Go.Shelf
set_option linter.unusedVariables false
theorem drewN_two (w : World) (q n : Nat) : (w.drewN q).drewN n = w.drewN (q + n) := by simp [World.drewN, Nat.add_assoc]
def flagOf : Value → Nat
  | .bool true => 1
  | _ => 0
set_option maxRecDepth 100000 in
set_option maxHeartbeats 8000000 in
theorem refSpans_any (a : Option Addr) (cap : Nat) (l : List (Int × Int)) (hz : l.length ≤ 1073741824) (hR : RightL l) (w : World) (hr : RowP w a l) :
    Calls Try.prog 27 #[.slice a l.length cap] w fun e w' => ∃ (v : Value) (os : List (Int × Int)), e = .returned v ∧ w'.ownsRow w.heap.size 28 2 v os.length (encP os) ∧ Spread os ∧ (∀ r, memB os r = memB l r) ∧ Below w.heap.size w w' := by
  have HR := hide hr
  have HRR := hide hR
  have hzi : (l.length : Int) ≤ 1073741824 := by omega
  obtain ⟨iP, hi0, hi1, hi2, hi3⟩ := info_parts infoP
  have HP := hide (And.intro hi0 (And.intro hi1 (And.intro hi2 hi3)))
  clear hr hR hi0 hi1 hi2 hi3
  go_enter Try.func27, Try.ntmps27
  go_wp2
  go_loopw [3, 4] (fun v t wr => ∃ (os : List (Int × Int)) (tt : Int), t = .int .i32 tt ∧ (0 ≤ tt ∧ tt ≤ 1114112) ∧ Hz (OutS l os tt) ∧ Hz (wr.ownsRow w.heap.size 28 2 v os.length (encP os)) ∧ Hz (Below w.heap.size w wr)) (fun _ t _ => (1114113 - intOf t).toNat)
  case atStart => exact ⟨[], 0, rfl, by omega, hide (outS_start l (unhide HRR)), hide (World.ownsRow_nil _ _ _ _), hide (Below.refl _ _)⟩
  case round =>
    obtain ⟨os, tt, rfl, htt, HO, HV, HB⟩ := hrel
    go_wp2
    go_loopw [5, 6] (fun m i wr' => ∃ (k : Nat) (mm : Int), m = .int .i32 mm ∧ i = .int .i64 k ∧ k ≤ l.length ∧ (0 ≤ mm ∧ mm ≤ 1114112) ∧ Hz (LeastS l k tt mm) ∧ wr' = wr) (fun _ i _ => l.length - (intOf i).toNat)
    case atStart => exact ⟨0, 1114112, rfl, rfl, by omega, by omega, hide (leastS_start l tt), rfl⟩
    case round =>
      obtain ⟨k, mm, rfl, rfl, hk, hmm, HL, rfl⟩ := hrel
      by_cases hkn : k < l.length
      · have hk1 : (k : Int) < (l.length : Int) := by omega
        have hk2 : ((k : Nat) : Int).toNat = k := by omega
        obtain ⟨x, hx⟩ : ∃ x, l[k]? = some x := ⟨_, List.getElem?_eq_getElem hkn⟩
        have HX := hide hx
        obtain ⟨g, o, rfl, hg, hc⟩ := unhide HR (by omega)
        have c0 := ((unhide HB).cell (p := ⟨g, o + k * 2, none⟩) hg).trans (hc k x hx).1
        have c1 := ((unhide HB).cell (p := ⟨g, o + k * 2 + 1, none⟩) hg).trans (hc k x hx).2
        have hex := endsB_iff (unhide HRR x (List.mem_of_getElem? hx)).1
        obtain ⟨lo, hi⟩ := x
        simp only at c0 c1 hex
        have HIT := hide (fun (z : Int) (hz : z = if lo < tt then tt else lo) (h1 : z ≤ hi) (h2 : z < mm) => leastS_hit (unhide HL) (unhide HRR) (unhide HO).rune (unhide HX) hz h1 h2)
        have MISS := hide (fun (z : Int) (hz : z = if lo < tt then tt else lo) (h1 : z ≤ hi → mm ≤ z) => leastS_miss (unhide HL) (unhide HX) hz h1)
        have HTR := hide (fun (h : tt ≤ hi) => (runeB_iff (((unhide HO).rune).resolve_left (by omega))).2.2)
        clear hc hx
        by_cases h1 : lo < tt
        · by_cases h2 : tt ≤ hi
          · have h4 := unhide HTR h2
            by_cases h3 : tt < mm
            · have HN := hide (unhide HIT tt (by rw [if_pos h1]) h2 h3)
              rcases h4 with h4 | h4
              · go_wp2
                go_roundw
                case rel => exact ⟨k + 1, tt, rfl, by congr 1, by omega, by omega, HN, by first | rfl | trivial⟩
                case measure => simp [intOf]; omega
              · have h5 : ¬ tt < 55296 := by omega
                go_wp2
                go_roundw
                case rel => exact ⟨k + 1, tt, rfl, by congr 1, by omega, by omega, HN, by first | rfl | trivial⟩
                case measure => simp [intOf]; omega
            · have HN := hide (unhide MISS tt (by rw [if_pos h1]) (fun _ => by omega))
              go_wp2
              go_roundw
              case rel => exact ⟨k + 1, mm, rfl, by congr 1, by omega, by omega, HN, by first | rfl | trivial⟩
              case measure => simp [intOf]; omega
          · have HN := hide (unhide MISS tt (by rw [if_pos h1]) (fun h => by omega))
            go_wp2
            go_roundw
            case rel => exact ⟨k + 1, mm, rfl, by congr 1, by omega, by omega, HN, by first | rfl | trivial⟩
            case measure => simp [intOf]; omega
        · by_cases h2 : lo ≤ hi
          · have h4 := hex.1.2.2
            by_cases h3 : lo < mm
            · have HN := hide (unhide HIT lo (by rw [if_neg h1]) h2 h3)
              rcases h4 with h4 | h4
              · go_wp2
                go_roundw
                case rel => exact ⟨k + 1, lo, rfl, by congr 1, by omega, by omega, HN, by first | rfl | trivial⟩
                case measure => simp [intOf]; omega
              · have h5 : ¬ lo < 55296 := by omega
                go_wp2
                go_roundw
                case rel => exact ⟨k + 1, lo, rfl, by congr 1, by omega, by omega, HN, by first | rfl | trivial⟩
                case measure => simp [intOf]; omega
            · have HN := hide (unhide MISS lo (by rw [if_neg h1]) (fun _ => by omega))
              go_wp2
              go_roundw
              case rel => exact ⟨k + 1, mm, rfl, by congr 1, by omega, by omega, HN, by first | rfl | trivial⟩
              case measure => simp [intOf]; omega
          · have HN := hide (unhide MISS lo (by rw [if_neg h1]) (fun h => by omega))
            go_wp2
            go_roundw
            case rel => exact ⟨k + 1, mm, rfl, by congr 1, by omega, by omega, HN, by first | rfl | trivial⟩
            case measure => simp [intOf]; omega
      · have hk1 : ¬ (k : Int) < (l.length : Int) := by omega
        obtain rfl : k = l.length := by omega
        by_cases hend : 1114111 < mm
        · obtain rfl : mm = 1114112 := by omega
          have HE := hide (outS_end (unhide HO) (unhide HL))
          go_wp2
          go_ret
          exact ⟨_, rfl, os, unhide HV, (unhide HO).spread, unhide HE, unhide HB⟩
        · go_wp2
          go_loopw [8, 9] (fun ev bv wr' => ∃ (e : Int) (b : Bool), ev = .int .i32 e ∧ bv = .bool b ∧ (0 ≤ e ∧ e ≤ 1114111) ∧ Hz (EndS l mm e) ∧ Hz (b = false → ShutS l l.length e) ∧ ∃ q, wr' = wr.drewN q) (fun ev bv _ => (1114112 - intOf ev).toNat * 2 + flagOf bv)
          case atStart => exact ⟨mm, true, rfl, rfl, by omega, hide (endS_start (unhide HL) (by omega)), hide (fun h => by cases h), 0, rfl⟩
          case round =>
            obtain ⟨e, b, rfl, rfl, he, HE, HSh, q, rfl⟩ := hrel
            cases b with
            | true =>
              go_wp2
              go_loopw [8, 9, 10] (fun ev bv iv wr' => ∃ (k : Nat) (e' : Int) (b : Bool), ev = .int .i32 e' ∧ bv = .bool b ∧ iv = .int .i64 k ∧ k ≤ l.length ∧ (0 ≤ e' ∧ e' ≤ 1114111) ∧ Hz (EndS l mm e') ∧ Hz (b = false → e' = e ∧ ShutS l k e') ∧ Hz (b = true → e < e') ∧ ∃ q, wr' = wr.drewN q) (fun _ _ i _ => l.length - (intOf i).toNat)
              case atStart => exact ⟨0, e, false, rfl, rfl, rfl, by omega, by omega, HE, hide (fun _ => ⟨rfl, shutS_start l e⟩), hide (fun h => by cases h), q, rfl⟩
              case round =>
                clear HE HSh
                obtain ⟨k, e', b, rfl, rfl, rfl, hk, he', HE, HSh, HLt, q', rfl⟩ := hrel
                by_cases hkn : k < l.length
                · have hk1 : (k : Int) < (l.length : Int) := by omega
                  have hk2 : ((k : Nat) : Int).toNat = k := by omega
                  obtain ⟨x, hx⟩ : ∃ x, l[k]? = some x := ⟨_, List.getElem?_eq_getElem hkn⟩
                  have HX := hide hx
                  obtain ⟨g, o, rfl, hg, hc⟩ := unhide HR (by omega)
                  have c0 := ((unhide HB).cell (p := ⟨g, o + k * 2, none⟩) hg).trans (hc k x hx).1
                  have c1 := ((unhide HB).cell (p := ⟨g, o + k * 2 + 1, none⟩) hg).trans (hc k x hx).2
                  obtain ⟨lo, hi⟩ := x
                  simp only at c0 c1
                  have HIT := hide (fun (h1 : lo ≤ upOf e') (h2 : e' < hi) => endS_hit (unhide HE) (unhide HRR) (unhide HX) h1 h2)
                  have MISS := hide (fun (hb : b = false) (h1 : lo ≤ upOf e' → hi ≤ e') => shutS_miss (unhide HSh hb).2 (unhide HX) h1)
                  have hhi := (endsB_iff (unhide HRR (lo, hi) (List.mem_of_getElem? hx)).1).2
                  simp only at hhi
                  obtain ⟨wq, hwq⟩ : ∃ wq, wq = wr.drewN q' := ⟨_, rfl⟩
                  have d0 : wq.cell? ⟨g, o + k * 2, none⟩ = some (.int .i32 lo) := by rw [hwq]; exact c0
                  have d1 : wq.cell? ⟨g, o + k * 2 + 1, none⟩ = some (.int .i32 hi) := by rw [hwq]; exact c1
                  rw [← hwq]
                  have HQ : Hz (∀ n, ∃ q, wq.drewN n = wr.drewN q) := hide (fun n => ⟨q' + n, by rw [hwq, drewN_two]⟩)
                  clear hc hx c0 c1 hwq
                  by_cases h1 : lo ≤ upOf e'
                  · by_cases h2 : e' < hi
                    · have HE2 := hide (unhide HIT h1 h2)
                      have HLt2 : Hz (e < hi) := hide (by
                        cases b with
                        | true => have := unhide HLt rfl; omega
                        | false => have := (unhide HSh rfl).1; omega)
                      go_wp2
                      go_quiet ((go_at_call 55; exact Calls.quiet_of_same (refUp_any _ (by omega) (by omega) _)))
                      go_wp2
                      go_roundw
                      case rel => exact ⟨k + 1, hi, true, rfl, rfl, by congr 1, by omega, by omega, HE2, hide (fun h => by cases h), hide (fun _ => unhide HLt2), unhide HQ _⟩
                      case measure => simp [intOf]; omega
                    · have HS2 : Hz (b = false → e' = e ∧ ShutS l (k + 1) e') := hide (fun hb => ⟨(unhide HSh hb).1, unhide MISS hb (fun _ => by omega)⟩)
                      go_wp2
                      go_quiet ((go_at_call 55; exact Calls.quiet_of_same (refUp_any _ (by omega) (by omega) _)))
                      go_wp2
                      go_roundw
                      case rel => exact ⟨k + 1, e', b, rfl, rfl, by congr 1, by omega, by omega, HE, HS2, HLt, unhide HQ _⟩
                      case measure => simp [intOf]; omega
                  · have HS2 : Hz (b = false → e' = e ∧ ShutS l (k + 1) e') := hide (fun hb => ⟨(unhide HSh hb).1, unhide MISS hb (fun h => absurd h h1)⟩)
                    go_wp2
                    have h1n : ¬ lo ≤ upOf e' := by omega
                    have h1d : decide (lo ≤ upOf e') = false := decide_eq_false h1n
                    go_quiet ((go_at_call 55; exact Calls.quiet_of_same (refUp_any _ (by omega) (by omega) _)))
                    go_wp2
                    go_roundw
                    case rel => exact ⟨k + 1, e', b, rfl, rfl, by congr 1, by omega, by omega, HE, HS2, HLt, unhide HQ _⟩
                    case measure => simp [intOf]; omega
                · have hk1 : ¬ (k : Int) < (l.length : Int) := by omega
                  obtain rfl : k = l.length := by omega
                  have HS2 : Hz (b = false → ShutS l l.length e') := hide (fun hb => (unhide HSh hb).2)
                  have HM : Hz ((1114112 - e').toNat * 2 + flagOf (.bool b) < (1114112 - e).toNat * 2 + 1) := hide (by
                    cases b with
                    | true => have := unhide HLt rfl; simp [flagOf]; omega
                    | false => have := (unhide HSh rfl).1; simp [flagOf]; omega)
                  go_wp2
                  go_roundw
                  case rel => exact ⟨e', b, rfl, rfl, by omega, HE, HS2, _, rfl⟩
                  case measure => exact unhide HM
            | false =>
              have HS2 := hide (unhide HSh rfl)
              have HN := hide (outS_next (unhide HO) (unhide HL) (by omega) (unhide HE) (unhide HS2))
              have HLE : Hz (tt ≤ mm ∧ mm ≤ e ∧ e < upOf e ∧ upOf e ≤ 1114112 ∧ os.length ≤ 1112064) := hide (by
                have h1 := up_lt e
                have h2 : upOf e ≤ 1114112 := by unfold upOf; split <;> omega
                have h3 := (unhide HO).len
                have h4 : rankOf tt ≤ 1112064 := by unfold rankOf; split <;> (try split) <;> omega
                have h5 := (unhide HE).le
                rcases (unhide HL).form with a | a
                · omega
                · exact ⟨a.2.1, h5, h1, h2, by omega⟩)
              have HVa : Hz (((wr.drewN q).alloc (.cells #[.int .i32 mm, .int .i32 e] 28)).ownsRow w.heap.size 28 2 _ os.length (encP os)) := hide ((unhide HV).alloc _)
              have HBa : Hz (Below w.heap.size w ((wr.drewN q).alloc (.cells #[.int .i32 mm, .int .i32 e] 28))) := hide ((below_drewN (unhide HB) q).alloc (unhide HB).size _)
              have HU := hide (fun w => refUp_any e (by omega) (by omega) w)
              go_wp2_with (at_builtin; refine wpList_append_own _ rfl _ _ 30 rfl w.heap.size 28 iP (.agg #[.int .i32 0, .int .i32 0]) 2 8 Try.underlying30 (unhide HP).1 (unhide HP).2.1 (unhide HP).2.2.1 (unhide HP).2.2.2 rfl (by decide) _ _ _ rfl (unhide HVa) ⟨wr.heap.size, 0, none⟩ 1 1 (encP [(mm, e)]) rfl ?qc1 ?qc2 ?qc3 ?qc4 ?qc5 ?qc6 ?_)
              case qc1 => rfl
              case qc2 => exact fun j u hj => by have := two_cell (wr.drewN q) (mm, e) j u hj; rw [add_none', Nat.zero_add] at this; exact this
              case qc3 => exact encP_one _
              case qc4 => have := (unhide HLE).2.2.2.2; unfold maxLen; omega
              case qc5 => have := (unhide HLE).2.2.2.2; omega
              case qc6 => have := (unhide HB).size; omega
              intro v' w1 hown hgrow hnil
              rw [← encP_append] at hown
              have HO1 : Hz (w1.ownsRow w.heap.size 28 2 v' (os ++ [(mm, e)]).length (encP (os ++ [(mm, e)]))) := hide (by rw [List.length_append, List.length_singleton]; exact hown)
              have HB1 := hide ((unhide HBa).grown hgrow (unhide HBa).size (fun k e => ((unhide HVa).lt k e).1))
              clear hown hgrow hnil
              go_wp2_with fail
              refine (unhide HU _).mono ?_
              rintro e2 w2 ⟨rfl, rfl⟩
              go_wp2
              go_roundw
              case rel => exact ⟨os ++ [(mm, e)], upOf e, rfl, by have := unhide HLE; omega, HN, HO1, HB1⟩
              case measure => have := unhide HLE; simp [intOf]; omega
end Go.Proofs.Ytemmflhofhngbaa
/- Meet of two sets. -/
namespace Go.Proofs.Ytemmflhofhngbaa
open Go.RowKit Go.Shelf
set_option linter.unusedVariables false
theorem alloc1 {w : World} {a : Addr} {v : Value} (h : w.cell? a = some v) : ∀ o : Obj, (w.alloc o).cell? a = some v := fun o => alloc_cell o h
theorem alloc2 {w : World} {a : Addr} {v : Value} (h : w.cell? a = some v) : ∀ o o' : Obj, ((w.alloc o).alloc o').cell? a = some v := fun o o' => alloc_cell o' (alloc_cell o h)
theorem some_nil (w : World) : Calls Try.prog 39 #[.pointer none] w fun e w' => e = .returned (.pointer (some ⟨w.heap.size, 0, none⟩)) ∧ w' = w.alloc (.cells #[.slice none 0 0, .slice none 0 0] 66) := by
  go_enter Try.func39, Try.ntmps39
  go_wp2
  go_ret
  exact ⟨rfl, rfl⟩
theorem two_boxes (w : World) (xs ys : Array Value) : Blk ((w.alloc (.cells xs 28)).alloc (.cells ys 28)).drew w.heap.size xs 28 ∧ Blk ((w.alloc (.cells xs 28)).alloc (.cells ys 28)).drew (w.heap.size + 1) ys 28 ∧ Below w.heap.size w ((w.alloc (.cells xs 28)).alloc (.cells ys 28)).drew := by
  refine ⟨(Blk.new w xs 28).alloc _, ?_, (((Below.refl w.heap.size w).alloc (Nat.le_refl _) _).alloc (by simp) _).drew⟩
  have := Blk.new (w.alloc (.cells xs 28)) ys 28
  rw [World.size_alloc] at this
  exact this
theorem grows_two (w : World) : Grows ((w.alloc (.cells #[.slice none 0 0, .slice none 0 0] 66)).alloc (.cells #[.slice none 0 0, .slice none 0 0] 66)).drew w.heap.size w.heap.size [] ∧ Grows ((w.alloc (.cells #[.slice none 0 0, .slice none 0 0] 66)).alloc (.cells #[.slice none 0 0, .slice none 0 0] 66)).drew (w.heap.size + 1) w.heap.size [] ∧ Below w.heap.size w ((w.alloc (.cells #[.slice none 0 0, .slice none 0 0] 66)).alloc (.cells #[.slice none 0 0, .slice none 0 0] 66)).drew := by
  have b : Blk ((w.alloc (.cells #[.slice none 0 0, .slice none 0 0] 66)).alloc (.cells #[.slice none 0 0, .slice none 0 0] 66)).drew (w.heap.size + 1) #[.slice none 0 0, .slice none 0 0] 66 := by
    have := Blk.new (w.alloc (.cells #[.slice none 0 0, .slice none 0 0] 66)) #[.slice none 0 0, .slice none 0 0] 66
    rw [World.size_alloc] at this
    exact this
  exact ⟨(grows_new w _ rfl).below ((Below.refl _ _).alloc (Nat.le_refl _) _).drew, ⟨⟨⟨_, _, b, World.ownsRow_nil _ _ _ _, World.ownsRow_nil _ _ _ _⟩, Nat.le_succ _⟩, fun _ => b⟩, (((Below.refl w.heap.size w).alloc (Nat.le_refl _) _).alloc (by simp) _).drew⟩
/-- A set, or none: an empty one. -/
def SomeAt (w : World) (p : Option Addr) (ys : List (Int × Int)) : Prop := (p = none ∧ ys = []) ∨ ∃ C, p = some ⟨C, 0, none⟩ ∧ SetAt w C ys
theorem SomeAt.spread {w : World} {p : Option Addr} {ys : List (Int × Int)} (h : SomeAt w p ys) : Spread ys := by
  rcases h with ⟨_, rfl⟩ | ⟨C, _, h⟩
  · exact ⟨fun x h => by simp at h, fun i j x y _ h => by simp at h⟩
  · exact h.spread
theorem meet_len {zs ys out : List (Int × Int)} {i j : Nat} (h : MeetI zs ys i j out) (hi : i ≤ zs.length) (hj : j ≤ ys.length) : out.length ≤ zs.length + ys.length := by have := h.len; omega
end Go.Proofs.Ytemmflhofhngbaa
/- slices.Concat at two lists of spans. -/
namespace Go.Proofs.Ytemmflhofhngbaa
open Go.RowKit Go.Shelf
set_option linter.unusedVariables false
set_option linter.unusedSimpArgs false
/-- A list of spans behind another one that the call owns. -/
theorem appendP_run (W : World) (lo : Nat) (v : Value) (xs ys : List (Int × Int)) (b : Option Addr) (cb : Nat) (hx : xs.length ≤ 1000000) (hy : ys.length ≤ 1000000) (hv : W.ownsRow lo 28 2 v xs.length (encP xs)) (hr : RowP W b ys) (hlo : lo ≤ W.heap.size) :
    ∃ v1 W1, (Builtin.append_ #[30, 30] 30 #[v, .slice b ys.length cb]).run Try.prog W = .ok v1 W1 ∧ W1.ownsRow lo 28 2 v1 (xs ++ ys).length (encP (xs ++ ys)) ∧ W.grownBy W1 v.ownBlock := by
  obtain ⟨iP, hi0, hi1, hi2, hi3⟩ := info_parts infoP
  have hcells : ∀ p, b = some p → ∀ j u, (encP ys)[j]? = some u → W.cell? (p.add j) = some u := fun p hp j u hu => by
    have hl := (List.getElem?_eq_some_iff.1 hu).1
    rw [encP_length] at hl
    obtain ⟨g, o, h, hg, hc⟩ := hr (by omega)
    rw [hp] at h
    cases h
    rw [add_none']
    exact encP_cells hc j u hu
  cases b with
  | none =>
    have h0 : ys = [] := by
      by_cases e : 0 < ys.length
      · obtain ⟨g, o, h, _⟩ := hr e; cases h
      · exact List.eq_nil_of_length_eq_zero (by omega)
    subst h0
    refine ⟨v, W, ?_, by simpa using hv, ⟨rfl, rfl, rfl, Nat.le_refl _, fun _ _ _ => rfl⟩⟩
    rcases hv.2 with ⟨rfl, _⟩ | ⟨g, cap, cur, rfl, _, hg, h1, _⟩
    · simp [Builtin.append_, run_underlying Try.underlying30, sizeOf, typeInfo, hi0, Builtin.lenOf, Builtin.firstCells, loadCells, loadCellsFrom]
    · simp [Builtin.append_, run_underlying Try.underlying30, sizeOf, typeInfo, hi0, Builtin.lenOf, Builtin.firstCells, loadCells, loadCellsFrom, h1, storeCells]
  | some p =>
    obtain ⟨v2, w2, hr2, ho2, hg2, _⟩ := run_append_own (P := Try.prog) W lo 30 30 28 iP (.agg #[.int .i32 0, .int .i32 0]) 2 8 Try.underlying30 hi0 hi1 hi2 hi3 rfl (by decide) v xs.length (encP xs) hv p ys.length cb (encP ys) (encP_length ys) (hcells p rfl) (encP_one ys) (by unfold maxLen; omega) (by omega) hlo
    exact ⟨v2, w2, hr2, by rw [encP_append, List.length_append]; exact ho2, hg2⟩
end Go.Proofs.Ytemmflhofhngbaa
/- The reference's Not and Meet of the fewest spans. -/
namespace Go.Proofs.Ytemmflhofhngbaa
open Go.RowKit Go.Shelf
set_option linter.unusedVariables false
/-- One span more, behind a list that the call owns. -/
theorem append_oneP {w : World} {ops : Array Oper} {rest : List Oper} {o : Oper} {a : Act} {Q : Exit → Act → World → Prop} (hgd : o.guard = none) (s x : Operand)
    (ho : o.op = .call { callee := .builtin .append, args := #[s, x], argTypes := #[30, 30] }) (ht : o.type = 30) (lo : Nat) (v : Value) (zs : List (Int × Int)) (hs : a.eval s = v) (hz : zs.length ≤ 900000) (W : World) (y : Int × Int) (hW : w = W.alloc (.cells #[.int .i32 y.1, .int .i32 y.2] 28)) (hv : W.ownsRow lo 28 2 v zs.length (encP zs)) (hlo : lo ≤ W.heap.size) (n : Nat) (hn : n = W.heap.size) (hx : a.eval x = .slice (some ⟨n, 0, none⟩) 1 1)
    (h : ∀ v' w', w'.ownsRow lo 28 2 v' (zs ++ [y]).length (encP (zs ++ [y])) → Below lo W w' → wpList Try.prog ops Q rest (a.put o.dst v') w') : wpList Try.prog ops Q (o :: rest) a w := by
  subst hW
  subst hn
  have b := Blk.new W #[.int .i32 y.1, .int .i32 y.2] 28
  obtain ⟨v1, W1, hr, hw, hg⟩ := appendP_run (W.alloc (.cells #[.int .i32 y.1, .int .i32 y.2] 28)) lo v zs [y] (some ⟨W.heap.size, 0, none⟩) 1 (by omega) (by simp) (hv.alloc _) (fun _ => ⟨W.heap.size, 0, rfl, b.lt, fun j x hj => by
    match j, hj with
    | 0, hj => simp at hj; subst hj; exact ⟨b.cell 0, b.cell 1⟩
    | j + 1, hj => simp at hj⟩) (by simp; omega)
  refine Lib.wpList_append_run _ hgd s x 30 30 ho v (.slice (some ⟨W.heap.size, 0, none⟩) 1 1) hs hx v1 W1 (by rw [ht]; exact hr) (h v1 W1 hw ?_)
  exact ((Below.refl lo W).alloc hlo _).grown hg (by simp; omega) (fun k e => ((hv.alloc (.cells #[.int .i32 y.1, .int .i32 y.2] 28)).lt k e).1)
end Go.Proofs.Ytemmflhofhngbaa
/- Same of the books at lists of spans. -/
namespace Go.Proofs.Ytemmflhofhngbaa
open Go.RowKit Go.Shelf
set_option linter.unusedVariables false

set_option maxRecDepth 100000 in
set_option maxHeartbeats 2000000 in
theorem sameP_row (a b : Option Addr) (ca cb : Nat) (zs : List (Int × Int)) (hz : zs.length ≤ 9223372036854775807) (w : World) (ha : RowP w a zs) (hb : RowP w b zs) :
    Calls Try.prog 8 #[.slice a zs.length ca, .slice b zs.length cb] w fun e w' => e = .returned (.bool true) ∧ Below w.heap.size w w' := by
  have HA := hide ha
  have HB := hide hb
  clear ha hb
  have hne : (((zs.length : Nat) : Int) != ((zs.length : Nat) : Int)) = false := by simp
  go_enter Try.func8, Try.ntmps8
  go_wp2
  go_loopw [5] (fun i wr => ∃ k : Nat, k ≤ zs.length ∧ i = .int .i64 k ∧ ∃ q, wr = w.drewN q) (fun i _ => zs.length - (intOf i).toNat)
  case atStart => exact ⟨0, by omega, rfl, 0, rfl⟩
  case round =>
    obtain ⟨k, hk, rfl, q, rfl⟩ := hrel
    by_cases hkn : k < zs.length
    · obtain ⟨x, hx⟩ : ∃ x, zs[k]? = some x := ⟨_, List.getElem?_eq_getElem hkn⟩
      obtain ⟨g, o, rfl, _, hc⟩ := unhide HA (by omega)
      obtain ⟨h, p, rfl, _, hd⟩ := unhide HB (by omega)
      have c0 := (hc k x hx).1
      have c1 := (hc k x hx).2
      have d0 := (hd k x hx).1
      have d1 := (hd k x hx).2
      have hk1 : (k : Int) < (zs.length : Int) := by omega
      have hk2 : ((k : Nat) : Int).toNat = k := by omega
      obtain ⟨lo, hi⟩ := x
      simp only at c0 c1 d0 d1
      have h1 : (lo == lo) = true := by simp
      have h2 : (hi == hi) = true := by simp
      clear hc hd hx
      go_wp2
      go_quiet (fail)
      go_wp2
      go_roundw
      case rel => exact ⟨k + 1, by omega, by go_num, _, rfl⟩
      case measure => simp [intOf]; omega
    · have hk1 : ¬ (k : Int) < (zs.length : Int) := by omega
      go_wp2
      go_ret
      exact ⟨rfl, below_drewN (Below.refl _ _) _⟩
end Go.Proofs.Ytemmflhofhngbaa
/- slices.Equal at two lists of spans; Same of two sets. -/
namespace Go.Proofs.Ytemmflhofhngbaa
open Go.RowKit Go.Shelf
set_option linter.unusedVariables false
/-- Are two lists of spans the same? -/
def sameB (zs ys : List (Int × Int)) : Bool := decide (zs = ys)
theorem sameB_len {zs ys : List (Int × Int)} (h : zs.length ≠ ys.length) : sameB zs ys = false := decide_eq_false (fun e => h (by rw [e]))
theorem sameB_at {zs ys : List (Int × Int)} {k : Nat} {x y : Int × Int} (hx : zs[k]? = some x) (hy : ys[k]? = some y) (h : x ≠ y) : sameB zs ys = false := decide_eq_false (fun e => h (by subst e; exact Option.some.inj (hx.symm.trans hy)))
theorem sameB_all {zs ys : List (Int × Int)} (hl : zs.length = ys.length) (h : zs.take zs.length = ys.take zs.length) : sameB zs ys = true := decide_eq_true (by
  rw [List.take_of_length_le (Nat.le_refl _), hl, List.take_of_length_le (Nat.le_refl _)] at h
  exact h)
theorem sameB_refl (zs : List (Int × Int)) : sameB zs zs = true := decide_eq_true rfl
theorem take_more' {zs ys : List (Int × Int)} {k : Nat} {x : Int × Int} (h : zs.take k = ys.take k) (hx : zs[k]? = some x) (hy : ys[k]? = some x) : zs.take (k + 1) = ys.take (k + 1) := by rw [take_more hx, take_more hy, h]
set_option maxRecDepth 100000 in
set_option maxHeartbeats 2000000 in
theorem equal_any (a b : Option Addr) (ca cb : Nat) (zs ys : List (Int × Int)) (hz : zs.length ≤ 1073741824) (hy : ys.length ≤ 1073741824) (w : World) (ha : RowP w a zs) (hb : RowP w b ys) :
    Calls Try.prog 38 #[.slice a zs.length ca, .slice b ys.length cb] w fun e w' => e = .returned (.bool (sameB zs ys)) ∧ Below w.heap.size w w' := by
  have HA := hide ha
  have HB := hide hb
  clear ha hb
  by_cases hl : zs.length = ys.length
  · have hne : (((zs.length : Nat) : Int) != ((ys.length : Nat) : Int)) = false := by simp [hl]
    have HL := hide hl
    clear hl
    go_enter Try.func38, Try.ntmps38
    go_wp2
    go_loopw [13] (fun i wr => ∃ k : Nat, k ≤ zs.length ∧ i = .int .i64 k ∧ Hz (zs.take k = ys.take k) ∧ ∃ q, wr = w.drewN q) (fun i _ => zs.length - (intOf i).toNat)
    case atStart => exact ⟨0, by omega, rfl, hide (by simp), 0, rfl⟩
    case round =>
      obtain ⟨k, hk, rfl, HT, q, rfl⟩ := hrel
      by_cases hkn : k < zs.length
      · have hky : k < ys.length := by have := unhide HL; omega
        obtain ⟨x, hx⟩ : ∃ x, zs[k]? = some x := ⟨_, List.getElem?_eq_getElem hkn⟩
        obtain ⟨y, hy'⟩ : ∃ y, ys[k]? = some y := ⟨_, List.getElem?_eq_getElem hky⟩
        obtain ⟨g, o, rfl, _, hc⟩ := unhide HA (by omega)
        obtain ⟨h, p, rfl, _, hd⟩ := unhide HB (by omega)
        have c0 := (hc k x hx).1
        have c1 := (hc k x hx).2
        have d0 := (hd k y hy').1
        have d1 := (hd k y hy').2
        have hk1 : (k : Int) < (zs.length : Int) := by omega
        have hk1' : (k : Int) < (ys.length : Int) := by omega
        have hk2 : ((k : Nat) : Int).toNat = k := by omega
        by_cases hxy : x = y
        · have HN := hide (take_more' (unhide HT) hx (by rw [hxy]; exact hy'))
          subst hxy
          obtain ⟨lo, hi⟩ := x
          simp only at c0 c1 d0 d1
          have h1 : (lo == lo) = true := by simp
          have h2 : (hi == hi) = true := by simp
          clear hc hd hx hy'
          go_wp2
          go_quiet (fail)
          go_wp2
          go_roundw
          case rel => exact ⟨k + 1, by omega, by go_num, HN, _, rfl⟩
          case measure => simp [intOf]; omega
        · have HN := hide (sameB_at hx hy' hxy)
          obtain ⟨lo, hi⟩ := x
          obtain ⟨lo', hi'⟩ := y
          simp only at c0 c1 d0 d1
          by_cases e1 : lo = lo'
          · have h1 : (lo == lo') = true := by simpa using e1
            have h2 : (hi == hi') = false := by simpa using (fun e2 => hxy (by rw [e1, e2]))
            clear hc hd hx hy' hxy e1
            go_wp2
            go_quiet (fail)
            go_wp2
            go_ret
            exact ⟨by rw [unhide HN]; rfl, below_drewN (below_drewN (Below.refl _ _) _) _⟩
          · have h1 : (lo == lo') = false := by simpa using e1
            clear hc hd hx hy' hxy e1
            go_wp2
            go_quiet (fail)
            go_wp2
            go_ret
            exact ⟨by rw [unhide HN]; rfl, below_drewN (below_drewN (Below.refl _ _) _) _⟩
      · have hk1 : ¬ (k : Int) < (zs.length : Int) := by omega
        have HN := hide (sameB_all (unhide HL) (by rw [show zs.length = k by omega]; exact unhide HT))
        go_wp2
        go_ret
        exact ⟨by rw [unhide HN]; rfl, below_drewN (Below.refl _ _) _⟩
  · have hne : (((zs.length : Nat) : Int) != ((ys.length : Nat) : Int)) = true := by simp; omega
    have HN := hide (sameB_len hl)
    clear hl
    go_enter Try.func38, Try.ntmps38
    go_wp2
    go_ret
    exact ⟨by rw [unhide HN]; rfl, Below.refl _ _⟩
/-- Same of two sets. -/
theorem same_any (B : Nat) (p : Option Addr) (zs ys : List (Int × Int)) (w : World) (hs : SetAt w B zs) (ht : SomeAt w p ys) :
    Calls Try.prog 12 #[.pointer (some ⟨B, 0, none⟩), .pointer p] w fun e w' => e = .returned (.bool (sameB zs ys)) ∧ Below w.heap.size w w' := by
  obtain ⟨⟨a, ca, b, cb, hb0, hp, ha⟩, hsp, hl⟩ := hs
  have d0 := hb0.cell 0
  have d1 := alloc1 d0
  have hmx2 : Try.prog.follows .mixedOrders = true := by kernel_rfl
  rcases ht with ⟨rfl, rfl⟩ | ⟨C, rfl, hC⟩
  · have HSo := hide (fun w => some_nil w)
    have HE := hide (fun w hp => equal_any a none ca 0 zs [] (by omega) (by simp) w hp (fun h => by simp at h))
    have HP := hide (hp.below ((Below.refl _ w).alloc (Nat.le_refl _) (.cells #[.slice none 0 0, .slice none 0 0] 66)).drew)
    have x0 := (Blk.new w #[.slice none 0 0, .slice none 0 0] 66).cell 0
    have HB := hide ((Below.refl w.heap.size w).alloc (Nat.le_refl _) (.cells #[.slice none 0 0, .slice none 0 0] 66)).drew
    clear hp ha hsp hb0 hl
    go_enter Try.func12, Try.ntmps12
    go_wp2_with fail
    go_region_law (first
      | (go_simp; refine (unhide HSo _).mono ?_; rintro e w2 ⟨rfl, rfl⟩)
      | (go_simp; refine (unhide HE _ (unhide HP)).mono ?_; rintro e w2 ⟨rfl, hb⟩))
    all_goals
      have HB2 := hide ((unhide HB).trans (hb.mono (unhide HB).size))
      clear hb
      go_wp2
      go_ret
      exact ⟨rfl, unhide HB2⟩
  · obtain ⟨⟨c, cc, d, cd, hc0, hq, _⟩, _, hl'⟩ := hC
    have e0 := hc0.cell 0
    have HSo := hide (fun w => some_any C w)
    have HE := hide (equal_any a c ca cc zs ys (by omega) (by omega) w.drew (hp.below (Below.refl _ _).drew) (hq.below (Below.refl _ _).drew))
    clear hp ha hsp hb0 hl hc0 hq hl'
    go_enter Try.func12, Try.ntmps12
    go_wp2_with fail
    go_region_law (first
      | (go_simp; refine (unhide HSo _).mono ?_; rintro e w2 ⟨rfl, rfl⟩)
      | (go_simp; refine (unhide HE).mono ?_; rintro e w2 ⟨rfl, hb⟩))
    all_goals
      have HB2 := hide (((Below.refl w.heap.size w).drew).trans hb)
      clear hb
      go_wp2
      go_ret
      exact ⟨rfl, unhide HB2⟩
end Go.Proofs.Ytemmflhofhngbaa
/- Same of the books at any two lists of spans. -/
namespace Go.Proofs.Ytemmflhofhngbaa
open Go.RowKit Go.Shelf
set_option linter.unusedVariables false
set_option maxRecDepth 100000 in
set_option maxHeartbeats 2000000 in
theorem sameP_any (a b : Option Addr) (ca cb : Nat) (zs ys : List (Int × Int)) (hz : zs.length ≤ 1073741824) (hy : ys.length ≤ 1073741824) (w : World) (ha : RowP w a zs) (hb : RowP w b ys) :
    Calls Try.prog 8 #[.slice a zs.length ca, .slice b ys.length cb] w fun e w' => e = .returned (.bool (sameB zs ys)) ∧ Below w.heap.size w w' := by
  have HA := hide ha
  have HB := hide hb
  clear ha hb
  by_cases hl : zs.length = ys.length
  · have hne : (((zs.length : Nat) : Int) != ((ys.length : Nat) : Int)) = false := by simp [hl]
    have HL := hide hl
    clear hl
    go_enter Try.func8, Try.ntmps8
    go_wp2
    go_loopw [5] (fun i wr => ∃ k : Nat, k ≤ zs.length ∧ i = .int .i64 k ∧ Hz (zs.take k = ys.take k) ∧ ∃ q, wr = w.drewN q) (fun i _ => zs.length - (intOf i).toNat)
    case atStart => exact ⟨0, by omega, rfl, hide (by simp), 0, rfl⟩
    case round =>
      obtain ⟨k, hk, rfl, HT, q, rfl⟩ := hrel
      by_cases hkn : k < zs.length
      · have hky : k < ys.length := by have := unhide HL; omega
        obtain ⟨x, hx⟩ : ∃ x, zs[k]? = some x := ⟨_, List.getElem?_eq_getElem hkn⟩
        obtain ⟨y, hy'⟩ : ∃ y, ys[k]? = some y := ⟨_, List.getElem?_eq_getElem hky⟩
        obtain ⟨g, o, rfl, _, hc⟩ := unhide HA (by omega)
        obtain ⟨h, p, rfl, _, hd⟩ := unhide HB (by omega)
        have c0 := (hc k x hx).1
        have c1 := (hc k x hx).2
        have d0 := (hd k y hy').1
        have d1 := (hd k y hy').2
        have hk1 : (k : Int) < (zs.length : Int) := by omega
        have hk1' : (k : Int) < (ys.length : Int) := by omega
        have hk2 : ((k : Nat) : Int).toNat = k := by omega
        by_cases hxy : x = y
        · have HN := hide (take_more' (unhide HT) hx (by rw [hxy]; exact hy'))
          subst hxy
          obtain ⟨lo, hi⟩ := x
          simp only at c0 c1 d0 d1
          have h1 : (lo == lo) = true := by simp
          have h2 : (hi == hi) = true := by simp
          clear hc hd hx hy'
          go_wp2
          go_quiet (fail)
          go_wp2
          go_roundw
          case rel => exact ⟨k + 1, by omega, by go_num, HN, _, rfl⟩
          case measure => simp [intOf]; omega
        · have HN := hide (sameB_at hx hy' hxy)
          obtain ⟨lo, hi⟩ := x
          obtain ⟨lo', hi'⟩ := y
          simp only at c0 c1 d0 d1
          by_cases e1 : lo = lo'
          · have h1 : (lo == lo') = true := by simpa using e1
            have h2 : (hi == hi') = false := by simpa using (fun e2 => hxy (by rw [e1, e2]))
            clear hc hd hx hy' hxy e1
            go_wp2
            go_quiet (fail)
            go_wp2
            go_ret
            exact ⟨by rw [unhide HN]; rfl, below_drewN (below_drewN (Below.refl _ _) _) _⟩
          · have h1 : (lo == lo') = false := by simpa using e1
            clear hc hd hx hy' hxy e1
            go_wp2
            go_quiet (fail)
            go_wp2
            go_ret
            exact ⟨by rw [unhide HN]; rfl, below_drewN (below_drewN (Below.refl _ _) _) _⟩
      · have hk1 : ¬ (k : Int) < (zs.length : Int) := by omega
        have HN := hide (sameB_all (unhide HL) (by rw [show zs.length = k by omega]; exact unhide HT))
        go_wp2
        go_ret
        exact ⟨by rw [unhide HN]; rfl, below_drewN (Below.refl _ _) _⟩
  · have hne : (((zs.length : Nat) : Int) != ((ys.length : Nat) : Int)) = true := by simp; omega
    have HN := hide (sameB_len hl)
    clear hl
    go_enter Try.func8, Try.ntmps8
    go_wp2
    go_ret
    exact ⟨by rw [unhide HN]; rfl, Below.refl _ _⟩
end Go.Proofs.Ytemmflhofhngbaa
