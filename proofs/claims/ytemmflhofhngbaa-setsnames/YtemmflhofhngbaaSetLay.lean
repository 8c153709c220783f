/- lay's first span: of an empty set that is being made. -/
import Derived.Test.YtemmflhofhngbaaSetClone
import Derived.Deep.AppendLies
import Derived.Deep.RegionLaw
import Derived.Deep.RegionWith
namespace Go.Proofs.Ytemmflhofhngbaa
open Go.RowKit Go.Shelf
set_option linter.unusedVariables false
theorem spread_nil : Spread [] := ⟨fun x h => by simp at h, fun i j x y _ h => by simp at h⟩
theorem infoI : (Try.prog.info? 3).map (fun i => (i.zero, i.size, i.bytes)) = some (some (.int .i64 0), 1, 8) := by kernel_rfl
theorem one_cell (w2 : World) (v : Value) : ∀ j u, [v][j]? = some u → (w2.alloc (.cells #[v] 3)).cell? ((⟨w2.heap.size, 0, none⟩ : Addr).add j) = some u := by
  intro j u hj
  rw [add_none']
  cases j with
  | zero =>
    simp at hj
    subst hj
    exact (Blk.new w2 #[v] 3).cell 0
  | succ j => simp at hj
/-- What the first append leaves: the set's cells, the box, the list of numbers. -/
theorem mid_first {wm w2 w3 : World} {B X : Nat} {cx : Array Value} {tmp : Obj} (hB : Blk wm B #[.slice none 0 0, .slice none 0 0] 66) (hX : Blk wm X cx 28) (hb : Below wm.heap.size wm w2) (hg : (w2.alloc tmp).grownBy w3 none) :
    Blk w3 B #[.slice none 0 0, .slice none 0 0] 66 ∧ Blk w3 X cx 28 :=
  ⟨((hB.below hb hB.lt).alloc tmp).kept hg (by simp), ((hX.below hb hX.lt).alloc tmp).kept hg (by simp)⟩
/-- A set of one span that is being made. -/
def Laid (W : World) (B lo0 : Nat) (x : Int × Int) : Prop := ∃ va vb, Blk W B #[va, vb] 66 ∧ W.ownsRow lo0 28 2 va 1 (encP [x]) ∧ W.ownsRow lo0 3 1 vb 1 [.int .i64 0]
theorem two_cell (w2 : World) (x : Int × Int) : ∀ j u, (encP [x])[j]? = some u → (w2.alloc (.cells #[.int .i32 x.1, .int .i32 x.2] 28)).cell? ((⟨w2.heap.size, 0, none⟩ : Addr).add j) = some u := by
  intro j u hj
  rw [add_none']
  have b := Blk.new w2 #[.int .i32 x.1, .int .i32 x.2] 28
  match j, hj with
  | 0, hj => simp [encP] at hj; subst hj; exact b.cell 0
  | 1, hj => simp [encP] at hj; subst hj; exact b.cell 1
  | j + 2, hj => simp [encP] at hj
theorem fst_end {w wm w2 w3 : World} {B lo0 X g1 cap1 : Nat} {cx : Array Value} {tmp : Obj} (hB : Blk wm B #[.slice none 0 0, .slice none 0 0] 66) (hX : Blk wm X cx 28) (hw : Below w.heap.size w wm) (hb : Below wm.heap.size wm w2) (hg : (w2.alloc tmp).grownBy w3 none) (h0 : lo0 ≤ B) (hl : lo0 ≤ w.heap.size) (hne : X ≠ B)
    (ho : w3.ownsRow lo0 3 1 (.slice (some ⟨g1, 0, none⟩) 1 cap1) 1 [.int .i64 0]) :
    ∃ w4, w4 = w3.setCell ⟨B, 1, none⟩ (.slice (some ⟨g1, 0, none⟩) 1 cap1) ∧ Blk w4 B #[.slice none 0 0, .slice (some ⟨g1, 0, none⟩) 1 cap1] 66 ∧ Blk w4 X cx 28 ∧ w4.ownsRow lo0 3 1 (.slice (some ⟨g1, 0, none⟩) 1 cap1) 1 [.int .i64 0] ∧ Below lo0 w w4 ∧ (∀ X, X < w.heap.size → X ≠ B → w4.heap[X]? = w.heap[X]?) := by
  have hm := mid_first hB hX hb hg
  refine ⟨_, rfl, by simpa using hm.1.set 1 (.slice (some ⟨g1, 0, none⟩) 1 cap1), hm.2.other hne _, ?_, ?_, fun X hX hXB => ?_⟩
  · refine ho.kept (grown_setCell' w3 ⟨B, 1, none⟩ _) (.inr ?_)
    intro e
    simp [Value.ownBlock] at e
    subst e
    rcases ho.2 with ⟨e, _⟩ | ⟨g, cap, cur, e, _, hg', _⟩
    · simp at e
    · simp at e
      obtain ⟨rfl, _⟩ := e
      have := (show w3.heap[g1]? = _ from hm.1).symm.trans hg'
      simp at this
  · have s1 := hw.size
    have s2 := hb.size
    exact ((((hw.mono hl).trans (hb.mono (by omega))).alloc (by omega) tmp).grown hg (by simp; omega) (fun k e => by cases e)).setCell (p := ⟨B, 1, none⟩) h0 _
  · have s1 := hw.size
    have s2 := hb.size
    rw [Below.heap_setCell w3 ⟨B, 1, none⟩ _ X hXB, hg.block X (by simp; omega) (by simp), Below.heap_alloc w2 tmp X (by omega), hb.block X (by omega), hw.block X hX]
theorem snd_end {w w4 w5 : World} {B lo0 g1 cap1 g5 cap5 : Nat} {x : Int × Int} {tmp : Obj} (hB : Blk w4 B #[.slice none 0 0, .slice (some ⟨g1, 0, none⟩) 1 cap1] 66) (ho : w4.ownsRow lo0 3 1 (.slice (some ⟨g1, 0, none⟩) 1 cap1) 1 [.int .i64 0]) (hL : Below lo0 w w4) (hl : lo0 ≤ w.heap.size) (h0 : lo0 ≤ B)
    (hg : (w4.alloc tmp).drew.grownBy w5 none) (ho5 : w5.ownsRow lo0 28 2 (.slice (some ⟨g5, 0, none⟩) 1 cap5) 1 (encP [x])) (hF : ∀ X, X < w.heap.size → X ≠ B → w4.heap[X]? = w.heap[X]?) :
    Laid (w5.setCell ⟨B, 0, none⟩ (.slice (some ⟨g5, 0, none⟩) 1 cap5)) B lo0 x ∧ Below lo0 w (w5.setCell ⟨B, 0, none⟩ (.slice (some ⟨g5, 0, none⟩) 1 cap5)) ∧ (∀ X, X < w.heap.size → X ≠ B → (w5.setCell ⟨B, 0, none⟩ (.slice (some ⟨g5, 0, none⟩) 1 cap5)).heap[X]? = w.heap[X]?) := by
  have hg' : (w4.alloc tmp).grownBy w5 none := ⟨hg.os, hg.tape, hg.output, hg.size, hg.block⟩
  have hm := (hB.alloc tmp).kept hg' (by simp)
  have own_ne : ∀ {E sz : Nat} {g cap n : Nat} {xs : List Value}, 66 ≠ E → w5.ownsRow lo0 E sz (.slice (some ⟨g, 0, none⟩) n cap) n xs → g ≠ B := by
    intro E sz g cap n xs hE h e
    subst e
    rcases h.2 with ⟨e, _⟩ | ⟨g', cap', cur, e, _, hg', _⟩
    · simp at e
    · simp at e
      obtain ⟨rfl, _⟩ := e
      have := (show w5.heap[g]? = _ from hm).symm.trans hg'
      simp at this
      exact hE this.2
  have ho1 : w5.ownsRow lo0 3 1 (.slice (some ⟨g1, 0, none⟩) 1 cap1) 1 [.int .i64 0] := (ho.kept (World.grownBy_alloc w4 tmp none) (by simp [Value.ownBlock])).kept hg' (by simp [Value.ownBlock])
  have n1 := own_ne (by decide) ho1
  have n5 := own_ne (by decide) ho5
  refine ⟨⟨_, _, by simpa using hm.set 0 (.slice (some ⟨g5, 0, none⟩) 1 cap5), ho5.kept (grown_setCell' w5 ⟨B, 0, none⟩ _) (.inr (by simpa [Value.ownBlock] using n5)), ho1.kept (grown_setCell' w5 ⟨B, 0, none⟩ _) (.inr (by simpa [Value.ownBlock] using n1))⟩, ?_, fun X hX hXB => ?_⟩
  · have s1 := hL.size
    exact ((hL.alloc (by omega) tmp).grown hg' (by simp; omega) (fun k e => by cases e)).setCell (p := ⟨B, 0, none⟩) h0 _
  · have s1 := hL.size
    rw [Below.heap_setCell w5 ⟨B, 0, none⟩ _ X hXB, hg'.block X (by simp; omega) (by simp), Below.heap_alloc w4 tmp X (by omega), hF X hX hXB]
set_option maxRecDepth 100000 in
set_option maxHeartbeats 4000000 in
theorem lay_first (B lo0 : Nat) (x : Int × Int) (w : World) (hB : Blk w B #[.slice none 0 0, .slice none 0 0] 66) (h0 : lo0 ≤ B) (hl : lo0 ≤ w.heap.size) :
    Calls Try.prog 35 #[.pointer (some ⟨B, 0, none⟩), spanV x] w fun e w' => (∃ r, e = .returned r) ∧ Laid w' B lo0 x ∧ Below lo0 w w' ∧ (∀ X, X < w.heap.size → X ≠ B → w'.heap[X]? = w.heap[X]?) := by
  obtain ⟨lo, hi⟩ := x
  obtain ⟨iI, hi0, hi1, hi2, hi3⟩ := info_parts infoI
  have HI := hide (And.intro hi0 (And.intro hi1 (And.intro hi2 hi3)))
  obtain ⟨iP, hi0, hi1, hi2, hi3⟩ := info_parts infoP
  have HP := hide (And.intro hi0 (And.intro hi1 (And.intro hi2 hi3)))
  clear hi0 hi1 hi2 hi3
  have HX := hide (Blk.new w #[.int .i32 lo, .int .i32 hi] 28)
  have HBm := hide ((Below.refl w.heap.size w).alloc (Nat.le_refl _) (.cells #[.int .i32 lo, .int .i32 hi] 28))
  have HB := hide (hB.alloc (.cells #[.int .i32 lo, .int .i32 hi] 28))
  have c0 := (unhide HB).cell 0
  have c1 := (unhide HB).cell 1
  go_enter Try.func35, Try.ntmps35
  go_wp2
  generalize w.alloc (.cells #[.int .i32 lo, .int .i32 hi] 28) = wm at *
  have HBd : Hz (Blk wm.drew B #[.slice none 0 0, .slice none 0 0] 66) := hide (unhide HB)
  have HXd : Hz (Blk wm.drew w.heap.size #[.int .i32 lo, .int .i32 hi] 28) := hide (unhide HX)
  have HS := hide (size_any B [] wm.drew ⟨⟨none, 0, none, 0, unhide HBd, fun h => by simp at h, fun h => by simp at h⟩, spread_nil, by simp⟩)
  have HLm : Hz (lo0 ≤ wm.drew.heap.size) := hide (Nat.le_trans hl (unhide HBm).size)
  have HNE : Hz (w.heap.size ≠ B) := hide (fun e => by have := hB.lt; omega)
  have HBmd : Hz (Below w.heap.size w wm.drew) := hide (unhide HBm).drew
  have hmx2 : Try.prog.follows .mixedOrders = true := by kernel_rfl
  go_region_law (first
    | (go_simp; refine (unhide HS).mono ?_; rintro e w2 ⟨rfl, hb⟩; have b2 := (unhide HBd).below hb (unhide HBd).lt; have d0 := b2.cell 0; have d1 := b2.cell 1; have d3 := (b2.alloc (.cells #[.int .i64 (total [])] 3)).cell 1)
    | (refine step_append_lies _ (by rfl) _ _ _ (by rfl) lo0 3 iI (.int .i64 0) 1 8 Try.underlying47 (unhide HI).1 (unhide HI).2.1 (unhide HI).2.2.1 (unhide HI).2.2.2 rfl (by omega) (.slice none 0 0) 0 [] (by rfl) (World.ownsRow_nil _ _ _ _) ⟨w2.heap.size, 0, none⟩ 1 1 [.int .i64 (total [])] (by rfl) (by simp) (one_cell w2 _) (by simp [Value.oneCell']) (by omega) (by unfold maxLen; omega) (by omega) (by have := hb.size; have := unhide HLm; simp; omega) (w2.heap.size + 1) (by simp) ?_; intro g1 cap1 w3 hown1 hgrow1 hat1 hlt1; have hm := mid_first (unhide HBd) (unhide HXd) hb hgrow1; have e0 := hm.1.cell 0; have e1 := hm.1.cell 1; have e2 := hm.1.frozen 1))
  all_goals
    obtain ⟨w4, h4, hb4, hx4, ho4, hB4, hF4⟩ := fst_end (unhide HBd) (unhide HXd) (unhide HBmd) hb hgrow1 h0 hl (unhide HNE) hown1
    rw [← h4]
    have HB4 := hide hb4
    have HX4 := hide hx4
    have HO4 := hide ho4
    have HL4 := hide hB4
    have HF4 := hide hF4
    have p0 := hb4.cell 0
    have p1 := (hb4.alloc (.cells #[.int .i32 lo, .int .i32 hi] 28)).cell 0
    have x0 := hx4.cell 0
    have x1 := hx4.cell 1
    clear h4 hb4 hx4 ho4 hB4 hF4 hown1 hgrow1 hat1 hlt1 hm e0 e1 e2 b2 d0 d1 d3 hb HS HBd HXd HB HX c0 c1 HLm HBm
    go_wp2
    go_region_law (first
      | (refine step_append_lies _ (by rfl) _ _ _ (by rfl) lo0 28 iP (.agg #[.int .i32 0, .int .i32 0]) 2 8 Try.underlying30 (unhide HP).1 (unhide HP).2.1 (unhide HP).2.2.1 (unhide HP).2.2.2 rfl (by omega) (.slice none 0 0) 0 [] (by rfl) (World.ownsRow_nil _ _ _ _) ⟨w4.heap.size, 0, none⟩ 1 1 (encP [(lo, hi)]) (by rfl) (by simp [encP]) (two_cell w4 (lo, hi)) (encP_one _) (by omega) (by unfold maxLen; omega) (by omega) (by have := (unhide HL4).size; simp; omega) (w4.heap.size + 1) (by simp) ?_; intro g5 cap5 w5 hown5 hgrow5 hat5 hlt5; have hm5 := (show Blk (w4.alloc (.cells #[.int .i32 lo, .int .i32 hi] 28)).drew B _ 66 from (unhide HB4).alloc (.cells #[.int .i32 lo, .int .i32 hi] 28)).kept hgrow5 (by simp [Value.ownBlock]); have y0 := hm5.cell 0; have y1 := hm5.frozen 0))
    all_goals
      have HE := hide (snd_end (x := (lo, hi)) (unhide HB4) (unhide HO4) (unhide HL4) hl h0 hgrow5 hown5 (unhide HF4))
      go_end0
      exact ⟨⟨_, rfl⟩, unhide HE⟩
end Go.Proofs.Ytemmflhofhngbaa
