/- The reference's list of spots in memory, its cells; a loop that counts down; marks of ranges. -/
import Derived.Test.YtnphbjhikapoeaaRefSpots
import Derived.Test.YtnphbjhikapoeaaBds
import Derived.Test.YtnphbjhikapoeaaMarks
import Derived.Test.YtnphbjhikapoeaaDeep
namespace Go.Proofs.Ytnphbjhikapoeaa
open Go.RowKit Go.Shelf
set_option linter.unusedVariables false
/-- A list in memory, in a block below B: its cells. -/
def Row1 (B : Nat) (W : World) (a : Option Addr) (e : TypeId) (xs : List Value) : Prop := 0 < xs.length → ∃ (g : Nat) (cur : Array Value), a = some ⟨g, 0, none⟩ ∧ g < B ∧ Blk W g cur e ∧ ∀ (k : Nat) (u : Value), xs[k]? = some u → cur[k]? = some u
theorem Row1.alloc {B : Nat} {W : World} {a : Option Addr} {e : TypeId} {xs : List Value} (h : Row1 B W a e xs) (o : Obj) : Row1 B (W.alloc o) a e xs := fun h0 => by
  obtain ⟨g, cur, ha, hl, hb, hc⟩ := h h0
  exact ⟨g, cur, ha, hl, hb.alloc o, hc⟩
theorem Row1.own {N : Nat} {A B : World} {row : Option Nat} {a : Option Addr} {e : TypeId} {xs : List Value} (h : Row1 N A a e xs) (hg : A.grownBy B row) (hr : ∀ k, row = some k → ∃ o, A.heap[k]? = some o ∧ o.isCells = false) : Row1 N B a e xs := fun h0 => by
  obtain ⟨g, cur, ha, hl, hb, hc⟩ := h h0
  exact ⟨g, cur, ha, hl, Blk.own g (fun _ : Unit => cur) e () A B row hb hg hr, hc⟩
theorem Row1.set {B : Nat} {W : World} {a : Option Addr} {e : TypeId} {xs : List Value} (h : Row1 B W a e xs) {B' i : Nat} (hB : B ≤ B') (v : Value) : Row1 B (W.setCell ⟨B', i, none⟩ v) a e xs := fun h0 => by
  obtain ⟨g, cur, ha, hl, hb, hc⟩ := h h0
  exact ⟨g, cur, ha, hl, hb.other (by omega) v, hc⟩
theorem Row1.cell {B : Nat} {W : World} {a : Option Addr} {e : TypeId} {xs : List Value} (h : Row1 B W a e xs) (k : Nat) (u : Value) (hk : xs[k]? = some u) : ∃ g, a = some ⟨g, 0, none⟩ ∧ W.cell? ⟨g, k, none⟩ = some u := by
  obtain ⟨g, cur, ha, hl, hb, hc⟩ := h (by have := (List.getElem?_eq_some_iff.1 hk).1; omega)
  exact ⟨g, ha, (hb.cell k).trans (hc k u hk)⟩
theorem own_form4 {W : World} {base e : Nat} {v : Value} {s : ByteArray} (h : W.ownsRow base e 4 v (starts s).length ((starts s).flatMap (refCells s))) : ∃ a cap, v = .slice a (starts s).length cap ∧ Row1 W.heap.size W a e ((starts s).flatMap (refCells s)) := by
  rcases h.2 with ⟨rfl, h0⟩ | ⟨g, cap, cur, rfl, _, hh, _, _, _, ht⟩
  · exact ⟨none, 0, by rw [h0], fun hx => by have := h.1; omega⟩
  · refine ⟨_, cap, rfl, fun _ => ⟨g, cur, rfl, (Array.getElem?_eq_some_iff.1 hh).1, hh, fun k u hk => ?_⟩⟩
    have hl := (List.getElem?_eq_some_iff.1 hk).1
    rw [← ht, List.getElem?_take] at hk
    rw [h.1] at hl
    rw [if_pos (by omega)] at hk
    simpa using hk
theorem ref_cell (s : ByteArray) (k x j : Nat) (h : (starts s)[k]? = some x) (hj : j < 4) : ((starts s).flatMap (refCells s))[k * 4 + j]? = (refCells s x)[j]? := by
  have := flat4 (refCells s) (fun _ => rfl) (starts s) k j x h hj
  rw [Nat.mul_comm] at this
  exact this


theorem row_cells4 {s : ByteArray} {B : Nat} {W : World} {a : Option Addr} {e : TypeId} (h : Row1 B W a e ((starts s).flatMap (refCells s))) (k x : Nat) (hx : (starts s)[k]? = some x) :
    ∃ g, a = some ⟨g, 0, none⟩ ∧ W.cell? ⟨g, k * 4, none⟩ = some (.int .i32 (rn s x : Nat)) ∧ W.cell? ⟨g, k * 4 + 1, none⟩ = some (.int .i64 (x : Nat)) ∧ W.cell? ⟨g, k * 4 + 2, none⟩ = some (.int .i64 (wd s x : Nat)) ∧ W.cell? ⟨g, k * 4 + 3, none⟩ = some (.bool (decide (rn s x = 65533 ∧ wd s x = 1))) := by
  obtain ⟨g, ha, h0⟩ := h.cell (k * 4 + 0) _ ((ref_cell s k x 0 hx (by omega)).trans rfl)
  obtain ⟨g1, ha1, h1⟩ := h.cell (k * 4 + 1) _ ((ref_cell s k x 1 hx (by omega)).trans rfl)
  obtain ⟨g2, ha2, h2⟩ := h.cell (k * 4 + 2) _ ((ref_cell s k x 2 hx (by omega)).trans rfl)
  obtain ⟨g3, ha3, h3⟩ := h.cell (k * 4 + 3) _ ((ref_cell s k x 3 hx (by omega)).trans rfl)
  obtain rfl : g = g1 := by rw [ha] at ha1; simpa using ha1
  obtain rfl : g = g2 := by rw [ha] at ha2; simpa using ha2
  obtain rfl : g = g3 := by rw [ha] at ha3; simpa using ha3
  exact ⟨g, ha, h0, h1, h2, h3⟩

theorem Row1.setT {B : Nat} {W : World} {a : Option Addr} {e : TypeId} {xs : List Value} (h : Row1 B W a e xs) {b i : Nat} {cs : Array Value} {t : TypeId} (hb : Blk W b cs t) (hne : t ≠ e) (v : Value) : Row1 B (W.setCell ⟨b, i, none⟩ v) a e xs := fun h0 => by
  obtain ⟨g, cur, ha, hl, hg, hc⟩ := h h0
  refine ⟨g, cur, ha, hl, hg.other (fun e' => ?_) v, hc⟩
  subst e'
  have := (show W.heap[g]? = _ from hb).symm.trans hg
  simp at this
  exact hne this.2

theorem loop_down {F : Fence} {n : Nat} {P : Program} {Q : Exit → Act → World → Prop} {c : Code} (I : Nat → Act → World → Prop)
    (round : ∀ k a w, I k a w → ∀ K : Act → World → Prop, (∀ k' a' w', k' < k → I k' a' w' → K a' w') → c.wpIn F n P (Exit.then K Q) a w) {k : Nat} {a : Act} {w : World} (h : I k a w) : (Code.loop c).wpIn F n P Q a w := by
  have key : ∀ m k a w, k < m → I k a w → Code.roundsIn F n P c Q m a w := by
    intro m
    induction m with
    | zero => intro k a w hk; omega
    | succ m ih => exact fun k a w hk hI => round k a w hI _ (fun k' a' w' hk' hI' => ih k' a' w' (by omega) hI')
  exact wpIn_loop_rounds (k + 1) (key (k + 1) k a w (by omega) h)
theorem Marks.lower {lo lo' : Nat} {W : World} (h : lo' ≤ lo) : ∀ {ds : List Deferred} {hi : Nat}, Marks lo W hi ds → Marks lo' W hi ds
  | [], _, _ => trivial
  | d :: ds, hi, hm => by
    obtain ⟨D, h1, h2, h3, h4, h5⟩ := hm
    exact ⟨D, by omega, h2, h3, h4, Marks.lower h h5⟩
theorem Marks.old {lo hi B : Nat} {ds : List Deferred} {X Y : World} (h : Marks lo X hi ds) (hb : Below B X Y) (hB : hi ≤ B) : Marks lo Y hi ds := h.keep (fun k hk he => (hb.block k (by omega)).trans he)
theorem Row1.below {N : Nat} {A B : World} {a : Option Addr} {e : TypeId} {xs : List Value} (h : Row1 N A a e xs) (hb : Below A.heap.size A B) (hN : N ≤ A.heap.size) : Row1 N B a e xs := fun h0 => by
  obtain ⟨g, cur, ha, hl, hk, hc⟩ := h h0
  exact ⟨g, cur, ha, hl, hk.below hb (by omega), hc⟩
theorem Row1.up {N N' : Nat} {A : World} {a : Option Addr} {e : TypeId} {xs : List Value} (h : Row1 N A a e xs) (hN : N ≤ N') : Row1 N' A a e xs := fun h0 => by
  obtain ⟨g, cur, ha, hl, hk, hc⟩ := h h0
  exact ⟨g, cur, ha, by omega, hk, hc⟩
end Go.Proofs.Ytnphbjhikapoeaa
