/- Texts of this claim, one behind the other. -/
import Derived.Test.YtjgfmobmilgapaaGreatDoorJnC
import Derived.Test.YtjgfmobmilgapaaGreatDoorM29
import Derived.Test.YtjgfmobmilgapaaGreatDoorM22
import Derived.Deep.MidRow
/- RulesJoins: tables put together, and the lists of a table in another order. Plain mathematics. -/
namespace Go.Proofs.YtjgfmobmilgapaaGreatDoor
open Go.RowKit Go.Shelf
set_option linter.unusedVariables false
theorem tabx_of {w : World} {T T1 T2 : TV} {X : Array Value} (h : TabX w (addT T1 T2) X) (e : T.t8 = T1.t8.add T2.t8) : TabX w T X := by
  have e0 : T.sc = T1.sc ++ T2.sc := congrArg T8.sc e
  have e1 : T.co = T1.co ++ T2.co := congrArg T8.co e
  have e2 : T.ma = T1.ma ++ T2.ma := congrArg T8.ma e
  have e3 : T.pr = T1.pr ++ T2.pr := congrArg T8.pr e
  have e4 : T.fo = T1.fo ++ T2.fo := congrArg T8.fo e
  have e5 : T.lk = T1.lk ++ T2.lk := congrArg T8.lk e
  have e6 : T.dr = T1.dr ++ T2.dr := congrArg T8.dr e
  have e7 : T.al = T1.al ++ T2.al := congrArg T8.al e
  obtain ⟨a0, a1, a2, a3, a4, a5, a6, a7, c0, c1, c2, c3, c4, c5, c6, c7, us, rfl, ht⟩ := h
  refine ⟨a0, a1, a2, a3, a4, a5, a6, a7, c0, c1, c2, c3, c4, c5, c6, c7, us, ?_, ⟨?_, ?_, ?_, ?_, ?_, ?_, ?_, ?_, ?_, ?_⟩⟩
  · simp only [tabV, addT, e0, e1, e2, e3, e4, e5, e6, e7]
  · rw [e0]; exact ht.lu
  · rw [e0]; exact ht.r0
  · rw [e1]; exact ht.r1
  · rw [e2]; exact ht.r2
  · rw [e3]; exact ht.r3
  · rw [e4]; exact ht.r4
  · rw [e5]; exact ht.r5
  · rw [e6]; exact ht.r6
  · rw [e7]; exact ht.r7
  · rw [e0]; exact ht.rs
def swapN (l : List Nat) (i k : Nat) : List Nat := (l.set i (l.getD k 0)).set k (l.getD i 0)
theorem swapN_length (l : List Nat) (i k : Nat) : (swapN l i k).length = l.length := by unfold swapN; rw [List.length_set, List.length_set]
theorem swapN_get (l : List Nat) (i k j : Nat) (hi : i < l.length) (hk : k < l.length) : (swapN l i k)[j]? = if j = k then l[i]? else if j = i then l[k]? else l[j]? := by
  unfold swapN
  have h1 : l.getD i 0 = l[i] := by rw [List.getD_eq_getElem?_getD, List.getElem?_eq_getElem hi]; rfl
  have h2 : l.getD k 0 = l[k] := by rw [List.getD_eq_getElem?_getD, List.getElem?_eq_getElem hk]; rfl
  rw [h1, h2]
  by_cases hj : j = k
  · subst hj
    rw [if_pos rfl, List.getElem?_set_self (by rw [List.length_set]; exact hk), List.getElem?_eq_getElem hi]
  · rw [if_neg hj, List.getElem?_set_ne (Ne.symm hj)]
    by_cases hji : j = i
    · subst hji
      rw [if_pos rfl, List.getElem?_set_self hi, List.getElem?_eq_getElem hk]
    · rw [if_neg hji, List.getElem?_set_ne (Ne.symm hji)]
theorem swapN_count (l : List Nat) (i k x : Nat) (hi : i < l.length) (hk : k < l.length) : (swapN l i k).count x = l.count x := by
  unfold swapN
  have h1 : l.getD i 0 = l[i] := by rw [List.getD_eq_getElem?_getD, List.getElem?_eq_getElem hi]; rfl
  have h2 : l.getD k 0 = l[k] := by rw [List.getD_eq_getElem?_getD, List.getElem?_eq_getElem hk]; rfl
  rw [h1, h2, List.count_set (by rw [List.length_set]; exact hk), List.count_set hi, List.getElem_set]
  have c1 : l[i] = x → 1 ≤ l.count x := fun e => List.one_le_count_iff.2 (by rw [← e]; exact List.getElem_mem hi)
  have c2 : l[k] = x → 1 ≤ l.count x := fun e => List.one_le_count_iff.2 (by rw [← e]; exact List.getElem_mem hk)
  by_cases hik : i = k
  · subst hik
    simp only [if_pos]
    by_cases h : l[i] = x
    · have := c1 h; simp [h]; omega
    · simp [h]
  · simp only [if_neg hik]
    by_cases h : l[i] = x <;> by_cases g : l[k] = x <;> simp [h, g]
    · have := c1 h; omega
    · have := c1 h; omega
theorem swapN_perm {l m : List Nat} (h : l.Perm m) (i k : Nat) (hi : i < l.length) (hk : k < l.length) : (swapN l i k).Perm m :=
  (List.perm_iff_count.2 (fun x => swapN_count l i k x hi hk)).trans h
def cellJ (T : TV) (a0 a1 a2 a3 a4 a5 a6 a7 : Option Addr) (c0 c1 c2 c3 c4 c5 c6 c7 : Nat) : Nat → List Value
  | 0 => [.slice a0 T.sc.length c0, .slice none 0 0, .slice none 0 0, .slice none 0 0, .slice none 0 0, .slice none 0 0, .slice none 0 0, .slice none 0 0]
  | 1 => [.slice none 0 0, .slice a1 T.co.length c1, .slice none 0 0, .slice none 0 0, .slice none 0 0, .slice none 0 0, .slice none 0 0, .slice none 0 0]
  | 2 => [.slice none 0 0, .slice none 0 0, .slice a2 T.ma.length c2, .slice none 0 0, .slice none 0 0, .slice none 0 0, .slice none 0 0, .slice none 0 0]
  | 3 => [.slice none 0 0, .slice none 0 0, .slice none 0 0, .slice a3 T.pr.length c3, .slice none 0 0, .slice none 0 0, .slice none 0 0, .slice none 0 0]
  | 4 => [.slice none 0 0, .slice none 0 0, .slice none 0 0, .slice none 0 0, .slice a4 T.fo.length c4, .slice none 0 0, .slice none 0 0, .slice none 0 0]
  | 5 => [.slice none 0 0, .slice none 0 0, .slice none 0 0, .slice none 0 0, .slice none 0 0, .slice a5 T.lk.length c5, .slice none 0 0, .slice none 0 0]
  | 6 => [.slice none 0 0, .slice none 0 0, .slice none 0 0, .slice none 0 0, .slice none 0 0, .slice none 0 0, .slice a6 T.dr.length c6, .slice none 0 0]
  | 7 => [.slice none 0 0, .slice none 0 0, .slice none 0 0, .slice none 0 0, .slice none 0 0, .slice none 0 0, .slice none 0 0, .slice a7 T.al.length c7]
  | _ => [.slice none 0 0, .slice none 0 0, .slice none 0 0, .slice none 0 0, .slice none 0 0, .slice none 0 0, .slice none 0 0, .slice none 0 0]
theorem cellJ_len (T : TV) (a0 a1 a2 a3 a4 a5 a6 a7 : Option Addr) (c0 c1 c2 c3 c4 c5 c6 c7 : Nat) (p : Nat) : (cellJ T a0 a1 a2 a3 a4 a5 a6 a7 c0 c1 c2 c3 c4 c5 c6 c7 p).length = 8 := by
  rcases p with _ | _ | _ | _ | _ | _ | _ | _ | p <;> rfl
theorem cellJ_one (T : TV) (a0 a1 a2 a3 a4 a5 a6 a7 : Option Addr) (c0 c1 c2 c3 c4 c5 c6 c7 : Nat) (p : Nat) : ∀ v ∈ cellJ T a0 a1 a2 a3 a4 a5 a6 a7 c0 c1 c2 c3 c4 c5 c6 c7 p, v.oneCell' = true := by
  intro v hv
  rcases p with _ | _ | _ | _ | _ | _ | _ | _ | p
  all_goals
    simp only [cellJ, List.mem_cons, List.not_mem_nil, or_false] at hv
    rcases hv with rfl | rfl | rfl | rfl | rfl | rfl | rfl | rfl <;> rfl
theorem rowC_nil (w : World) (hi : Nat) : RowC w hi none [] := fun h => absurd h (by decide)
theorem cellJ_tab {w : World} {T : TV} {a0 a1 a2 a3 a4 a5 a6 a7 : Option Addr} {us : List Value} (h : TabIn w T a0 a1 a2 a3 a4 a5 a6 a7 us) (c0 c1 c2 c3 c4 c5 c6 c7 : Nat) (p : Nat) (hp : p < 8) : TabX w (single T p) (cellJ T a0 a1 a2 a3 a4 a5 a6 a7 c0 c1 c2 c3 c4 c5 c6 c7 p).toArray := by
  rcases (by omega : p = 0 ∨ p = 1 ∨ p = 2 ∨ p = 3 ∨ p = 4 ∨ p = 5 ∨ p = 6 ∨ p = 7) with rfl | rfl | rfl | rfl | rfl | rfl | rfl | rfl
  · exact ⟨a0, none, none, none, none, none, none, none, c0, 0, 0, 0, 0, 0, 0, 0, us, rfl, ⟨h.lu, h.r0, rowC_nil _ _, rowC_nil _ _, rowC_nil _ _, rowC_nil _ _, rowC_nil _ _, rowC_nil _ _, rowC_nil _ _, h.rs⟩⟩
  · exact ⟨none, a1, none, none, none, none, none, none, 0, c1, 0, 0, 0, 0, 0, 0, [], rfl, ⟨rfl, rowC_nil _ _, h.r1, rowC_nil _ _, rowC_nil _ _, rowC_nil _ _, rowC_nil _ _, rowC_nil _ _, rowC_nil _ _, fun j x u hx => by cases hx⟩⟩
  · exact ⟨none, none, a2, none, none, none, none, none, 0, 0, c2, 0, 0, 0, 0, 0, [], rfl, ⟨rfl, rowC_nil _ _, rowC_nil _ _, h.r2, rowC_nil _ _, rowC_nil _ _, rowC_nil _ _, rowC_nil _ _, rowC_nil _ _, fun j x u hx => by cases hx⟩⟩
  · exact ⟨none, none, none, a3, none, none, none, none, 0, 0, 0, c3, 0, 0, 0, 0, [], rfl, ⟨rfl, rowC_nil _ _, rowC_nil _ _, rowC_nil _ _, h.r3, rowC_nil _ _, rowC_nil _ _, rowC_nil _ _, rowC_nil _ _, fun j x u hx => by cases hx⟩⟩
  · exact ⟨none, none, none, none, a4, none, none, none, 0, 0, 0, 0, c4, 0, 0, 0, [], rfl, ⟨rfl, rowC_nil _ _, rowC_nil _ _, rowC_nil _ _, rowC_nil _ _, h.r4, rowC_nil _ _, rowC_nil _ _, rowC_nil _ _, fun j x u hx => by cases hx⟩⟩
  · exact ⟨none, none, none, none, none, a5, none, none, 0, 0, 0, 0, 0, c5, 0, 0, [], rfl, ⟨rfl, rowC_nil _ _, rowC_nil _ _, rowC_nil _ _, rowC_nil _ _, rowC_nil _ _, h.r5, rowC_nil _ _, rowC_nil _ _, fun j x u hx => by cases hx⟩⟩
  · exact ⟨none, none, none, none, none, none, a6, none, 0, 0, 0, 0, 0, 0, c6, 0, [], rfl, ⟨rfl, rowC_nil _ _, rowC_nil _ _, rowC_nil _ _, rowC_nil _ _, rowC_nil _ _, rowC_nil _ _, h.r6, rowC_nil _ _, fun j x u hx => by cases hx⟩⟩
  · exact ⟨none, none, none, none, none, none, none, a7, 0, 0, 0, 0, 0, 0, 0, c7, [], rfl, ⟨rfl, rowC_nil _ _, rowC_nil _ _, rowC_nil _ _, rowC_nil _ _, rowC_nil _ _, rowC_nil _ _, rowC_nil _ _, h.r7, fun j x u hx => by cases hx⟩⟩
def rowJ (T : TV) (a0 a1 a2 a3 a4 a5 a6 a7 : Option Addr) (c0 c1 c2 c3 c4 c5 c6 c7 : Nat) (l : List Nat) : List Value := l.flatMap (cellJ T a0 a1 a2 a3 a4 a5 a6 a7 c0 c1 c2 c3 c4 c5 c6 c7)
theorem rowJ_len (T : TV) (a0 a1 a2 a3 a4 a5 a6 a7 : Option Addr) (c0 c1 c2 c3 c4 c5 c6 c7 : Nat) : ∀ l : List Nat, (rowJ T a0 a1 a2 a3 a4 a5 a6 a7 c0 c1 c2 c3 c4 c5 c6 c7 l).length = l.length * 8
  | [] => rfl
  | p :: l => by
    show (cellJ T a0 a1 a2 a3 a4 a5 a6 a7 c0 c1 c2 c3 c4 c5 c6 c7 p ++ rowJ T a0 a1 a2 a3 a4 a5 a6 a7 c0 c1 c2 c3 c4 c5 c6 c7 l).length = _
    rw [List.length_append, cellJ_len, rowJ_len T a0 a1 a2 a3 a4 a5 a6 a7 c0 c1 c2 c3 c4 c5 c6 c7 l, List.length_cons]
    omega
theorem rowJ_at (T : TV) (a0 a1 a2 a3 a4 a5 a6 a7 : Option Addr) (c0 c1 c2 c3 c4 c5 c6 c7 : Nat) : ∀ (l : List Nat) (i p j : Nat), l[i]? = some p → j < 8 → (rowJ T a0 a1 a2 a3 a4 a5 a6 a7 c0 c1 c2 c3 c4 c5 c6 c7 l)[i * 8 + j]? = (cellJ T a0 a1 a2 a3 a4 a5 a6 a7 c0 c1 c2 c3 c4 c5 c6 c7 p)[j]?
  | [], i, p, j, h, _ => by simp at h
  | q :: l, 0, p, j, h, hj => by
    obtain rfl : q = p := by simpa using h
    show (cellJ T a0 a1 a2 a3 a4 a5 a6 a7 c0 c1 c2 c3 c4 c5 c6 c7 q ++ rowJ T a0 a1 a2 a3 a4 a5 a6 a7 c0 c1 c2 c3 c4 c5 c6 c7 l)[0 * 8 + j]? = _
    rw [Nat.zero_mul, Nat.zero_add, List.getElem?_append_left (by rw [cellJ_len]; exact hj)]
  | q :: l, i + 1, p, j, h, hj => by
    show (cellJ T a0 a1 a2 a3 a4 a5 a6 a7 c0 c1 c2 c3 c4 c5 c6 c7 q ++ rowJ T a0 a1 a2 a3 a4 a5 a6 a7 c0 c1 c2 c3 c4 c5 c6 c7 l)[(i + 1) * 8 + j]? = _
    rw [List.getElem?_append_right (by rw [cellJ_len]; omega), cellJ_len, show (i + 1) * 8 + j - 8 = i * 8 + j by omega]
    exact rowJ_at T a0 a1 a2 a3 a4 a5 a6 a7 c0 c1 c2 c3 c4 c5 c6 c7 l i p j (by simpa using h) hj
theorem setCells_get {N : Nat} {ty : TypeId} : ∀ (vs : List Value) (o : Nat) (w : World) (cs : Array Value), Blk w N cs ty → o + vs.length ≤ cs.size → ∃ cs', Blk (w.setCells N o vs) N cs' ty ∧ cs'.size = cs.size ∧ ∀ j, cs'[j]? = if o ≤ j ∧ j < o + vs.length then vs[j - o]? else cs[j]?
  | [], o, w, cs, h, hl => ⟨cs, h, rfl, fun j => by rw [if_neg (by simp only [List.length_nil]; omega)]⟩
  | v :: r, o, w, cs, h, hl => by
    rw [List.length_cons] at hl
    obtain ⟨cs', h1, h2, h3⟩ := setCells_get r (o + 1) _ _ (h.set o v) (by rw [Array.size_setIfInBounds]; omega)
    refine ⟨cs', h1, by rw [h2, Array.size_setIfInBounds], fun j => ?_⟩
    rw [h3 j, List.length_cons]
    by_cases hj : j = o
    · subst hj
      rw [if_neg (by omega), if_pos (by omega), Nat.sub_self, Array.getElem?_setIfInBounds_self_of_lt (by omega)]
      rfl
    · by_cases hr : o + 1 ≤ j ∧ j < o + 1 + r.length
      · rw [if_pos hr, if_pos (by omega), show j - o = (j - (o + 1)) + 1 by omega]
        rfl
      · rw [if_neg hr, if_neg (by omega), Array.getElem?_setIfInBounds_ne (Ne.symm hj)]
theorem swap_blk {w : World} {g : Nat} {ty : TypeId} {T : TV} {a0 a1 a2 a3 a4 a5 a6 a7 : Option Addr} {c0 c1 c2 c3 c4 c5 c6 c7 : Nat} {l : List Nat} {i k p q : Nat} (h : Blk w g (rowJ T a0 a1 a2 a3 a4 a5 a6 a7 c0 c1 c2 c3 c4 c5 c6 c7 l).toArray ty) (hi : l[i]? = some p) (hk : l[k]? = some q) : Blk ((w.setCells g (i * 8) (cellJ T a0 a1 a2 a3 a4 a5 a6 a7 c0 c1 c2 c3 c4 c5 c6 c7 q)).setCells g (k * 8) (cellJ T a0 a1 a2 a3 a4 a5 a6 a7 c0 c1 c2 c3 c4 c5 c6 c7 p)) g (rowJ T a0 a1 a2 a3 a4 a5 a6 a7 c0 c1 c2 c3 c4 c5 c6 c7 (swapN l i k)).toArray ty := by
  have hil := (List.getElem?_eq_some_iff.1 hi).1
  have hkl := (List.getElem?_eq_some_iff.1 hk).1
  have hz : (rowJ T a0 a1 a2 a3 a4 a5 a6 a7 c0 c1 c2 c3 c4 c5 c6 c7 l).toArray.size = l.length * 8 := by rw [List.size_toArray, rowJ_len]
  obtain ⟨d1, b1, s1, g1⟩ := setCells_get (cellJ T a0 a1 a2 a3 a4 a5 a6 a7 c0 c1 c2 c3 c4 c5 c6 c7 q) (i * 8) w _ h (by rw [cellJ_len, hz]; omega)
  obtain ⟨d2, b2, s2, g2⟩ := setCells_get (cellJ T a0 a1 a2 a3 a4 a5 a6 a7 c0 c1 c2 c3 c4 c5 c6 c7 p) (k * 8) _ _ b1 (by rw [cellJ_len, s1, hz]; omega)
  have e : d2 = (rowJ T a0 a1 a2 a3 a4 a5 a6 a7 c0 c1 c2 c3 c4 c5 c6 c7 (swapN l i k)).toArray := by
    apply Array.ext_getElem?
    intro n
    rw [g2 n, g1 n, cellJ_len, cellJ_len, List.getElem?_toArray, List.getElem?_toArray]
    by_cases hn : n < l.length * 8
    · obtain ⟨a, b, hb, rfl⟩ : ∃ a b, b < 8 ∧ n = a * 8 + b := ⟨n / 8, n % 8, Nat.mod_lt _ (by decide), by omega⟩
      have ha : a < l.length := by omega
      have hs := swapN_get l i k a hil hkl
      by_cases hak : a = k
      · subst hak
        rw [if_pos rfl, hi] at hs
        rw [if_pos (by omega), rowJ_at T a0 a1 a2 a3 a4 a5 a6 a7 c0 c1 c2 c3 c4 c5 c6 c7 _ a p b hs hb, show a * 8 + b - a * 8 = b by omega]
      · rw [if_neg hak] at hs
        rw [if_neg (by omega)]
        by_cases hai : a = i
        · subst hai
          rw [if_pos rfl, hk] at hs
          rw [if_pos (by omega), rowJ_at T a0 a1 a2 a3 a4 a5 a6 a7 c0 c1 c2 c3 c4 c5 c6 c7 _ a q b hs hb, show a * 8 + b - a * 8 = b by omega]
        · rw [if_neg hai] at hs
          obtain ⟨r, hr⟩ : ∃ r, l[a]? = some r := ⟨_, List.getElem?_eq_getElem ha⟩
          rw [if_neg (by omega), rowJ_at T a0 a1 a2 a3 a4 a5 a6 a7 c0 c1 c2 c3 c4 c5 c6 c7 l a r b hr hb, rowJ_at T a0 a1 a2 a3 a4 a5 a6 a7 c0 c1 c2 c3 c4 c5 c6 c7 (swapN l i k) a r b (by rw [hs]; exact hr) hb]
    · rw [if_neg (by omega), if_neg (by omega), List.getElem?_eq_none (by rw [rowJ_len]; omega), List.getElem?_eq_none (by rw [rowJ_len, swapN_length]; omega)]
  rw [← e]
  exact b2
end Go.Proofs.YtjgfmobmilgapaaGreatDoor
namespace Go.Proofs.YtjgfmobmilgapaaGreatDoor
open Go.RowKit
set_option linter.unusedVariables false
structure RgS (D : Nat → Value → Prop) (s : Nat) (d : List Nat) (w0 w1 : World) (l : Array Bool) (U : Nat → Value) (w : World) : Prop where
  val : ∀ i, l.getD i false = true → D i (U i)
  off : l.getD s false = false → w = w0
  on : l.getD s false = true → w = w1 ∧ ∀ j ∈ d, l.getD j false = true
theorem RgS.start (D : Nat → Value → Prop) (s : Nat) (d : List Nat) (w0 w1 : World) (n : Nat) (U : Nat → Value) : RgS D s d w0 w1 (Array.replicate n false) U w0 := by
  have h0 : ∀ i, (Array.replicate n false).getD i false = false := fun i => by
    rcases Nat.lt_or_ge i n with h' | h' <;> simp [h']
  exact ⟨fun i hi => by (rw [h0] at hi; cases hi), fun _ => rfl, fun hi => by (rw [h0] at hi; cases hi)⟩
theorem getD_put {l : Array Bool} {i j : Nat} (h : (l.setIfInBounds i true).getD j false = true) : j = i ∨ l.getD j false = true := by
  by_cases hji : j = i
  · exact .inl hji
  · rw [getD_set_ne false (Ne.symm hji)] at h
    exact .inr h
theorem getD_ft {l : Array Bool} {i : Nat} (h : l.getD i true = false) : l.getD i false = false := by
  rcases Nat.lt_or_ge i l.size with h' | h'
  · rw [← getD_flip h']; exact h
  · simp [Array.getElem?_eq_none h'] at h
theorem RgS.put {D : Nat → Value → Prop} {s : Nat} {d : List Nat} {w0 w1 : World} {l : Array Bool} {U : Nat → Value} {w : World} (h : RgS D s d w0 w1 l U w) (i : Nat) (v : Value) (hi : i ≠ s) (hD : D i v) : RgS D s d w0 w1 (l.setIfInBounds i true) (slotPut U i v) w := by
  refine ⟨fun j hj => ?_, fun hs => h.off ?_, fun hs => ?_⟩
  · by_cases hji : j = i
    · subst hji; rw [slotPut_self]; exact hD
    · rw [slotPut_ne _ _ hji]
      rcases getD_put hj with e | e
      · exact absurd e hji
      · exact h.val j e
  · rwa [getD_set_ne false hi] at hs
  · rw [getD_set_ne false hi] at hs
    exact ⟨(h.on hs).1, fun j hj => getD_set_true ((h.on hs).2 j hj)⟩
theorem RgS.store {D : Nat → Value → Prop} {s : Nat} {d : List Nat} {w0 w1 : World} {l : Array Bool} {U : Nat → Value} {w : World} (h : RgS D s d w0 w1 l U w) (hs : s < l.size) (hD : D s (U s)) (hd : ∀ j ∈ d, l.getD j false = true) : RgS D s d w0 w1 (l.setIfInBounds s true) U w1 := by
  refine ⟨fun j hj => ?_, fun hx => ?_, fun _ => ⟨rfl, fun j hj => getD_set_true (hd j hj)⟩⟩
  · rcases getD_put hj with rfl | e
    · exact hD
    · exact h.val j e
  · simp [hs] at hx
theorem RgS.early {D : Nat → Value → Prop} {s : Nat} {d : List Nat} {w0 w1 : World} {l : Array Bool} {U : Nat → Value} {w : World} (h : RgS D s d w0 w1 l U w) (i : Nat) (hi : i ∈ d) (h0 : l.getD i true = false) : w = w0 := by
  refine h.off ?_
  cases hs : l.getD s false with
  | false => rfl
  | true =>
    have := (h.on hs).2 i hi
    rw [getD_ft h0] at this
    cases this
end Go.Proofs.YtjgfmobmilgapaaGreatDoor
namespace Go.Proofs.YtjgfmobmilgapaaGreatDoor
open Go.RowKit Go.Shelf
set_option linter.unusedVariables false
def scN (l : List (ByteArray × List (Int × Int))) : Nat := (l.map (fun x => x.2.length + 1)).foldr (· + ·) 0
def lenN (T : TV) : Nat := T.co.length + T.ma.length + T.pr.length + T.fo.length + T.lk.length + T.dr.length + T.al.length
def largeB (T : TV) : Bool := decide (6000 < lenN T + scN (T.sc.take 200)) || decide (100 < T.sc.length)
theorem scN_app (a b : List (ByteArray × List (Int × Int))) : scN (a ++ b) = scN a + scN b := by
  induction a with
  | nil => show scN b = 0 + scN b; omega
  | cons x a ih => show x.2.length + 1 + scN (a ++ b) = x.2.length + 1 + scN a + scN b; rw [ih]; omega
theorem scN_le {n : Nat} : ∀ (l : List (ByteArray × List (Int × Int))), (∀ x ∈ l, x.2.length ≤ n) → scN l ≤ l.length * (n + 1)
  | [], _ => Nat.zero_le _
  | x :: l, h => by
    have h1 := h x (List.mem_cons_self ..)
    have h2 := scN_le l (fun y hy => h y (List.mem_cons_of_mem _ hy))
    show x.2.length + 1 + scN l ≤ (l.length + 1) * (n + 1)
    rw [Nat.succ_mul]
    omega
theorem scN_mem : ∀ (l : List (ByteArray × List (Int × Int))) (x : ByteArray × List (Int × Int)), x ∈ l → x.2.length ≤ scN l
  | [], x, h => by cases h
  | y :: l, x, h => by
    show x.2.length ≤ y.2.length + 1 + scN l
    rcases List.mem_cons.1 h with rfl | h
    · omega
    · have := scN_mem l x h; omega
structure TabB (T : TV) : Prop where
  n0 : T.sc.length ≤ 1048576
  n1 : T.co.length ≤ 1048576
  n2 : T.ma.length ≤ 1048576
  n3 : T.pr.length ≤ 1048576
  n4 : T.fo.length ≤ 1048576
  n5 : T.lk.length ≤ 1048576
  n6 : T.dr.length ≤ 1048576
  n7 : T.al.length ≤ 1048576
  z0 : ∀ x ∈ T.sc, x.1.size ≤ 1048576 ∧ x.2.length ≤ 1048576
  z2 : ∀ x ∈ T.ma, -9223372036854775808 ≤ x.2 ∧ x.2 ≤ 9223372036854775807
  z4 : ∀ x ∈ T.fo, x.2.size ≤ 1048576
  z5 : ∀ x ∈ T.lk, x.2.size ≤ 1048576
theorem TabB.ok {T : TV} (h : TabB T) (hl : largeB T = false) : TabOk T := by
  unfold largeB at hl
  rw [Bool.or_eq_false_iff] at hl
  have h1 := of_decide_eq_false hl.1
  have h2 := of_decide_eq_false hl.2
  unfold lenN at h1
  rw [List.take_of_length_le (by omega)] at h1
  refine ⟨by omega, by omega, by omega, by omega, by omega, by omega, by omega, by omega, fun x hx => ⟨?_, ?_⟩, h.z2, fun x hx => ?_, fun x hx => ?_⟩
  · have := (h.z0 x hx).1; unfold maxLen; omega
  · have := scN_mem T.sc x hx; omega
  · have := h.z4 x hx; unfold maxLen; omega
  · have := h.z5 x hx; unfold maxLen; omega
set_option maxRecDepth 100000 in
set_option maxHeartbeats 4000000 in
theorem large_any (T : TV) (hT : TabB T) (a0 a1 a2 a3 a4 a5 a6 a7 : Option Addr) (c0 c1 c2 c3 c4 c5 c6 c7 : Nat) (us : List Value) (W : World) (hA : TabIn W T a0 a1 a2 a3 a4 a5 a6 a7 us) :
    Calls Tryz.prog 9 #[.agg (tabV T a0 a1 a2 a3 a4 a5 a6 a7 c0 c1 c2 c3 c4 c5 c6 c7)] W fun e w' => e = .returned (.bool (largeB T)) ∧ Below W.heap.size W w' := by
  have hB0 : Below W.heap.size W (W.alloc (.cells (tabV T a0 a1 a2 a3 a4 a5 a6 a7 c0 c1 c2 c3 c4 c5 c6 c7) 28)) := (Below.refl _ W).alloc (Nat.le_refl _) _
  have bA := Blk.new W (tabV T a0 a1 a2 a3 a4 a5 a6 a7 c0 c1 c2 c3 c4 c5 c6 c7) 28
  have HH := hide (And.intro (hA.lower hB0) (And.intro hB0 bA))
  have HT := hide hT
  have HV : Hz (largeB T = (decide (6000 < lenN T + scN (T.sc.take 200)) || decide (100 < T.sc.length))) := hide rfl
  have hn0 := hT.n0
  have hn1 := hT.n1
  have hn2 := hT.n2
  have hn3 := hT.n3
  have hn4 := hT.n4
  have hn5 := hT.n5
  have hn6 := hT.n6
  have hn7 := hT.n7
  generalize largeB T = LB at *
  have z0 := bA.cell 0
  have z1 := bA.cell 1
  have z2 := bA.cell 2
  have z3 := bA.cell 3
  have z4 := bA.cell 4
  have z5 := bA.cell 5
  have z6 := bA.cell 6
  have z7 := bA.cell 7
  clear hA hB0 bA hT
  unfold tabV at *
  go_enter Tryz.func9, Tryz.ntmps9
  go_wp2_with fail
  generalize W.alloc (.cells #[.slice a0 T.sc.length c0, .slice a1 T.co.length c1, .slice a2 T.ma.length c2, .slice a3 T.pr.length c3, .slice a4 T.fo.length c4, .slice a5 T.lk.length c5, .slice a6 T.dr.length c6, .slice a7 T.al.length c7] 28) = w0 at *
  have HN0 : Hz ((T.co.length : Int) + T.ma.length + T.pr.length + T.fo.length + T.lk.length + T.dr.length + T.al.length = ((lenN T + scN (T.sc.take 0) : Nat) : Int)) := hide (by unfold lenN; show _ = ((_ + 0 : Nat) : Int); omega)
  have hLN : lenN T ≤ 7340032 := by unfold lenN; omega
  generalize (T.co.length : Int) + T.ma.length + T.pr.length + T.fo.length + T.lk.length + T.dr.length + T.al.length = S0 at *
  clear hn1 hn2 hn3 hn4 hn5 hn6 hn7 z1 z2 z3 z4 z5 z6 z7
  go_loopw [3, 4] (fun n i wr => ∃ (k m q : Nat), k ≤ T.sc.length ∧ k ≤ 200 ∧ n = .int .i64 m ∧ i = .int .i64 k ∧ Hz (m = lenN T + scN (T.sc.take k)) ∧ wr = w0.drewN q) (fun _ i _ => 200 - (intOf i).toNat)
  case atStart => exact ⟨0, lenN T + scN (T.sc.take 0), 0, by omega, by omega, by rw [unhide HN0], rfl, hide rfl, rfl⟩
  case round =>
    obtain ⟨k, m, q, hk, hk200, rfl, rfl, HM, rfl⟩ := hrel
    have hmle : m ≤ 400000000 := by
      have h1 := scN_le (n := 1048576) (T.sc.take k) (fun x hx => ((unhide HT).z0 x (List.mem_of_mem_take hx)).2)
      rw [List.length_take] at h1
      have h2 := unhide HM
      have h3 : min k T.sc.length * (1048576 + 1) ≤ 200 * 1048577 := Nat.mul_le_mul (by omega) (by omega)
      omega
    by_cases hkn : k < T.sc.length
    · by_cases hk2 : k < 200
      · obtain ⟨x, hx⟩ : ∃ x, T.sc[k]? = some x := ⟨_, List.getElem?_eq_getElem hkn⟩
        obtain ⟨u, hu⟩ : ∃ u, us[k]? = some u := ⟨_, List.getElem?_eq_getElem (by rw [(unhide HH).1.lu]; exact hkn)⟩
        obtain ⟨g, o, rfl, hg, hc⟩ := (unhide HH).1.r0 (by rw [encSc_length _ _ (unhide HH).1.lu]; omega)
        obtain ⟨q1, d1, rfl, r1⟩ := (unhide HH).1.rs k x u hx hu
        have e1 : w0.cell? ⟨g, o + k * 2 + 1, none⟩ = some (.slice q1 x.2.length d1) := by
          have h1 := hc (2 * k + 1) _ ((encSc_at T.sc us (unhide HH).1.lu k).trans hu)
          rw [show o + (2 * k + 1) = o + k * 2 + 1 by omega] at h1
          exact h1
        have hx2 : x.2.length ≤ 1048576 := ((unhide HT).z0 x (List.mem_of_getElem? hx)).2
        have HM2 : Hz (m + 1 + x.2.length = lenN T + scN (T.sc.take (k + 1))) := hide (by
          rw [List.take_add_one, hx, scN_app, unhide HM]
          show _ = _ + (_ + (x.2.length + 1 + 0))
          omega)
        generalize x.2.length = xl at *
        have k1 : (k : Int) < (T.sc.length : Int) := by omega
        have k2 : (k : Int) < 200 := by omega
        have k3 : ((k : Nat) : Int).toNat = k := by omega
        clear hc hx hu r1
        go_wp2_with fail
        exact ⟨⟨k + 1, m + 1 + xl, q, by omega, by omega, by first | rfl | (congr 1; omega), by first | rfl | (congr 1; omega), HM2, rfl⟩, by simp [intOf]; omega⟩
      · have k1 : (k : Int) < (T.sc.length : Int) := by omega
        have k2 : ¬ (k : Int) < 200 := by omega
        have HMV : Hz (LB = (decide (6000 < m) || decide (100 < T.sc.length))) := hide (by rw [unhide HV, unhide HM, show k = 200 by omega])
        clear HV HM
        have HW : Hz (Below W.heap.size W (w0.drewN q)) := hide (below_drewNW (unhide HH).2.1 q)
        by_cases q1 : 6000 < m
        · have k4 : (6000 : Int) < (m : Int) := by omega
          go_wp2_with fail
          go_ret
          exact ⟨by rw [unhide HMV, decide_eq_true q1]; rfl, unhide HW⟩
        · have k4 : ¬ (6000 : Int) < (m : Int) := by omega
          by_cases q2 : 100 < T.sc.length
          · have k5 : (100 : Int) < (T.sc.length : Int) := by omega
            go_wp2_with fail
            go_ret
            exact ⟨by rw [unhide HMV, decide_eq_false q1, decide_eq_true q2]; first | rfl | simp [k5], unhide HW⟩
          · exact absurd (show 100 < T.sc.length by omega) q2
    · have k1 : ¬ (k : Int) < (T.sc.length : Int) := by omega
      have HMV : Hz (LB = (decide (6000 < m) || decide (100 < T.sc.length))) := hide (by rw [unhide HV, unhide HM, List.take_of_length_le (show T.sc.length ≤ k by omega), List.take_of_length_le (show T.sc.length ≤ 200 by omega)])
      clear HV HM
      have HW : Hz (Below W.heap.size W (w0.drewN q)) := hide (below_drewNW (unhide HH).2.1 q)
      by_cases q1 : 6000 < m
      · have k4 : (6000 : Int) < (m : Int) := by omega
        go_wp2_with fail
        go_ret
        exact ⟨by rw [unhide HMV, decide_eq_true q1]; rfl, unhide HW⟩
      · have k4 : ¬ (6000 : Int) < (m : Int) := by omega
        by_cases q2 : 100 < T.sc.length
        · have k5 : (100 : Int) < (T.sc.length : Int) := by omega
          go_wp2_with fail
          go_ret
          exact ⟨by rw [unhide HMV, decide_eq_false q1, decide_eq_true q2]; first | rfl | simp [k5], unhide HW⟩
        · have k5 : ¬ (100 : Int) < (T.sc.length : Int) := by omega
          go_wp2_with fail
          go_ret
          exact ⟨by rw [unhide HMV, decide_eq_false q1, decide_eq_false q2]; first | rfl | simp [k5], unhide HW⟩
end Go.Proofs.YtjgfmobmilgapaaGreatDoor
