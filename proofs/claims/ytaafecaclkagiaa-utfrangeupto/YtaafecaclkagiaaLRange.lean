/- UtfRange, for every text of at most a million letters: the spots are what a range over the text meets. -/
import Derived.Test.YtaafecaclkagiaaRefText
import Derived.Test.YtaafecaclkagiaaRoundQuiet
import Derived.RangeFuncBox
namespace Go.Proofs.Ytaafecaclkagiaa
open Go.RowKit Go.Shelf
attribute [local go_sem] Oper.semAt_some
set_option linter.unusedVariables false

abbrev i64L (l : List Nat) : List Value := l.map (fun i : Nat => Value.int .i64 (i : Int))
abbrev runL (s : ByteArray) (l : List Nat) : List Value := l.map (fun i => Value.int .i32 ((rn s i : Nat) : Int))

/-- The world of the range: the boxes, the walk over the text, the two lists. -/
structure Rg (s : ByteArray) (N P : Nat) (w W : World) (pos : Nat) (l1 l2 : List Nat) (v1 v2 : Value) : Prop where
  b0 : Blk W N #[.string s] 9
  b1 : Blk W (N + 1) #[.bool false] 4
  b2 : Blk W (N + 1 + 1) #[.string s] 9
  b4 : Blk W P #[v1] 78
  b5 : Blk W (P + 1) #[v2] 48
  it : W.heap[P + 1 + 1]? = some (.stringIter s pos)
  r1 : W.ownsRow (P + 3) 3 1 v1 l1.length (i64L l1)
  r2 : W.ownsRow (P + 3) 21 1 v2 l2.length (runL s l2)
  bel : Below N w W

theorem row_not_low {W : World} {base e size n : Nat} {v : Value} {xs : List Value} (h : W.ownsRow base e size v n xs) {b : Nat} (hb : b < base) : some b ≠ v.ownBlock := fun h0 => by
  have := (own_lt h b h0.symm).1
  omega
theorem rows_apart {W : World} {b1 b2 e1 e2 s1 s2 n1 n2 : Nat} {v1 v2 : Value} {x1 x2 : List Value} (h1 : W.ownsRow b1 e1 s1 v1 n1 x1) (h2 : W.ownsRow b2 e2 s2 v2 n2 x2) (he : e1 ≠ e2) : v1.ownBlock = none ∨ v1.ownBlock ≠ v2.ownBlock := by
  rcases h1.2 with ⟨rfl, _⟩ | ⟨g, cap, cur, rfl, _, hh, _⟩
  · exact .inl rfl
  · refine .inr fun e => ?_
    rcases h2.2 with ⟨rfl, _⟩ | ⟨g2, cap2, cur2, rfl, _, hh2, _⟩
    · simp [Value.ownBlock] at e
    · obtain rfl : g = g2 := by simpa [Value.ownBlock] using e
      rw [hh] at hh2
      simp at hh2
      exact he hh2.2

theorem Rg.iter {s : ByteArray} {N P : Nat} {w W : World} {pos : Nat} {l1 l2 : List Nat} {v1 v2 : Value} (h : Rg s N P w W pos l1 l2 v1 v2) (hN : N + 2 < P) (p' : Nat) : Rg s N P w (W.iterAt (P + 1 + 1) s p') p' l1 l2 v1 v2 := by
  have hg := grown_iterAt W (P + 1 + 1) s p'
  exact ⟨h.b0.kept hg (by simp; omega), h.b1.kept hg (by simp; omega), h.b2.kept hg (by simp; omega), h.b4.kept hg (by simp; omega), h.b5.kept hg (by simp), Lib.iterAt_heap W (P + 1 + 1) s pos p' h.it,
    h.r1.kept hg (.inr (fun e => row_not_low h.r1 (b := P + 1 + 1) (by omega) e.symm)), h.r2.kept hg (.inr (fun e => row_not_low h.r2 (b := P + 1 + 1) (by omega) e.symm)),
    h.bel.grown hg (by have := h.b0.lt; omega) (fun k hk => by simp at hk; omega)⟩

theorem Rg.app1 {s : ByteArray} {N P : Nat} {w W W2 : World} {pos : Nat} {l1 l2 : List Nat} {v1 v2 v1' : Value} {x : Nat} {tmp : Obj} (h : Rg s N P w W pos l1 l2 v1 v2) (hN : N + 2 < P)
    (hown' : W2.ownsRow (P + 3) 3 1 v1' (l1.length + 1) (i64L l1 ++ [.int .i64 x])) (hgrow : (W.alloc tmp).grownBy W2 v1.ownBlock) :
    Blk W2 P #[v1] 78 ∧ Rg s N P w (W2.setCell ⟨P, 0, none⟩ v1') pos (l1 ++ [x]) l2 v1' v2 := by
  have lo := fun b hb => row_not_low h.r1 (b := b) hb
  have k4 := (h.b4.alloc tmp).kept hgrow (lo _ (by omega))
  have hNW := h.b0.lt
  refine ⟨k4, ((h.b0.alloc tmp).kept hgrow (lo _ (by omega))).other (by omega) _, ((h.b1.alloc tmp).kept hgrow (lo _ (by omega))).other (by omega) _, ((h.b2.alloc tmp).kept hgrow (lo _ (by omega))).other (by omega) _, k4.set 0 v1', ((h.b5.alloc tmp).kept hgrow (lo _ (by omega))).other (by omega) _, ?_, ?_, ?_, ?_⟩
  · have hl := (Array.getElem?_eq_some_iff.1 h.it).1
    rw [Below.heap_setCell _ _ _ _ (by show P + 1 + 1 ≠ P; omega), hgrow.block _ (by simp; omega) (lo _ (by omega)), Below.heap_alloc _ _ _ hl]
    exact h.it
  · refine ownsRow_setCell_below ?_ (by show P < P + 3; omega) _
    rw [List.length_append, i64L, List.map_append]
    exact hown'
  · refine ownsRow_setCell_below ?_ (by show P < P + 3; omega) _
    exact (h.r2.alloc tmp).kept hgrow (rows_apart h.r2 h.r1 (by decide))
  · refine Below.setCell (p := ⟨P, 0, none⟩) ?_ (by simp; omega) _
    exact (h.bel.alloc (by omega) tmp).grown hgrow (by simp; omega) (fun k hk => by have := (own_lt h.r1 k hk).1; omega)

theorem Rg.app2 {s : ByteArray} {N P : Nat} {w W W2 : World} {pos : Nat} {l1 l2 : List Nat} {v1 v2 v2' : Value} {x : Nat} {tmp : Obj} (h : Rg s N P w W pos l1 l2 v1 v2) (hN : N + 2 < P)
    (hown' : W2.ownsRow (P + 3) 21 1 v2' (l2.length + 1) (runL s l2 ++ [.int .i32 (rn s x)])) (hgrow : (W.alloc tmp).grownBy W2 v2.ownBlock) :
    Blk W2 (P + 1) #[v2] 48 ∧ Rg s N P w (W2.setCell ⟨P + 1, 0, none⟩ v2') pos l1 (l2 ++ [x]) v1 v2' := by
  have lo := fun b hb => row_not_low h.r2 (b := b) hb
  have k5 := (h.b5.alloc tmp).kept hgrow (lo _ (by omega))
  have hNW := h.b0.lt
  refine ⟨k5, ((h.b0.alloc tmp).kept hgrow (lo _ (by omega))).other (by omega) _, ((h.b1.alloc tmp).kept hgrow (lo _ (by omega))).other (by omega) _, ((h.b2.alloc tmp).kept hgrow (lo _ (by omega))).other (by omega) _, ((h.b4.alloc tmp).kept hgrow (lo _ (by omega))).other (by omega) _, k5.set 0 v2', ?_, ?_, ?_, ?_⟩
  · have hl := (Array.getElem?_eq_some_iff.1 h.it).1
    rw [Below.heap_setCell _ _ _ _ (by simp), hgrow.block _ (by simp; omega) (lo _ (by omega)), Below.heap_alloc _ _ _ hl]
    exact h.it
  · refine ownsRow_setCell_below ?_ (by show P + 1 < P + 3; omega) _
    exact (h.r1.alloc tmp).kept hgrow (rows_apart h.r1 h.r2 (by decide))
  · refine ownsRow_setCell_below ?_ (by show P + 1 < P + 3; omega) _
    rw [List.length_append, runL, List.map_append]
    exact hown'
  · refine Below.setCell (p := ⟨P + 1, 0, none⟩) ?_ (by simp; omega) _
    exact (h.bel.alloc (by omega) tmp).grown hgrow (by simp; omega) (fun k hk => by have := (own_lt h.r2 k hk).1; omega)

/-- A list in memory, in a block below B: its cells. -/
def Row1 (B : Nat) (W : World) (a : Option Addr) (e : TypeId) (xs : List Value) : Prop := 0 < xs.length → ∃ (g : Nat) (cur : Array Value), a = some ⟨g, 0, none⟩ ∧ g < B ∧ Blk W g cur e ∧ ∀ (k : Nat) (u : Value), xs[k]? = some u → cur[k]? = some u
theorem Row1.alloc {B : Nat} {W : World} {a : Option Addr} {e : TypeId} {xs : List Value} (h : Row1 B W a e xs) (o : Obj) : Row1 B (W.alloc o) a e xs := fun h0 => by
  obtain ⟨g, cur, ha, hl, hb, hc⟩ := h h0
  exact ⟨g, cur, ha, hl, hb.alloc o, hc⟩
theorem Row1.own {N : Nat} {A B : World} {row : Option Nat} {a : Option Addr} {e : TypeId} {xs : List Value} (h : Row1 N A a e xs) (hg : A.grownBy B row) (hr : ∀ k, row = some k → ∃ o, A.heap[k]? = some o ∧ o.isCells = false) : Row1 N B a e xs := fun h0 => by
  obtain ⟨g, cur, ha, hl, hb, hc⟩ := h h0
  exact ⟨g, cur, ha, hl, Blk.own g (fun _ : Unit => cur) e () A B row hb hg hr, hc⟩
theorem Row1.set {B : Nat} {W : World} {a : Option Addr} {e : TypeId} {xs : List Value} (h : Row1 B W a e xs) {B' i : Nat} (hB : B ≤ B') (v : Value) : Row1 B (W.setCell ⟨B', i, none⟩ v) a e xs := fun h0 => by
  obtain ⟨g, cur, ha, hl, hb, hc⟩ := h h0
  exact ⟨g, cur, ha, hl, hb.other (by omega) v, hc⟩
theorem Row1.cell {B : Nat} {W : World} {a : Option Addr} {e : TypeId} {xs : List Value} (h : Row1 B W a e xs) (k : Nat) (u : Value) (hk : xs[k]? = some u) : ∃ g, a = some ⟨g, 0, none⟩ ∧ W.cell? ⟨g, k, none⟩ = some u := by
  obtain ⟨g, cur, ha, hl, hb, hc⟩ := h (by have := (List.getElem?_eq_some_iff.1 hk).1; omega)
  exact ⟨g, ha, (hb.cell k).trans (hc k u hk)⟩
theorem own_form1 {W : World} {base e n : Nat} {v : Value} {xs : List Value} (h : W.ownsRow base e 1 v n xs) : ∃ a cap, v = .slice a n cap ∧ Row1 W.heap.size W a e xs := by
  rcases h.2 with ⟨rfl, h0⟩ | ⟨g, cap, cur, rfl, _, hh, _, _, _, ht⟩
  · exact ⟨none, 0, by rw [h0], fun hx => by have := h.1; omega⟩
  · refine ⟨_, cap, rfl, fun _ => ⟨g, cur, rfl, (Array.getElem?_eq_some_iff.1 hh).1, hh, fun k u hk => ?_⟩⟩
    have hl := (List.getElem?_eq_some_iff.1 hk).1
    rw [← ht, List.getElem?_take] at hk
    rw [h.1] at hl
    rw [if_pos hl] at hk
    simpa using hk

theorem keeps_drewN (W : World) (k : Nat) : KeepsOthers W (W.drewN k) := ⟨Nat.le_refl _, fun _ _ h _ => h⟩
theorem startsFrom_next (s : ByteArray) : ∀ f i k x, s.size ≤ i + f → (startsFrom s f i)[k]? = some x → (∀ y, (startsFrom s f i)[k + 1]? = some y → y = x + wd s x) ∧ ((startsFrom s f i)[k + 1]? = none → x + wd s x = s.size)
  | 0, i, k, x, hf, h => by simp [startsFrom] at h
  | f + 1, i, k, x, hf, h => by
    by_cases hi : i < s.size
    · rw [startsFrom_cons s f i hi] at h ⊢
      have hp := wd_pos s i
      have hr := wd_room s i hi
      cases k with
      | zero =>
        simp only [List.getElem?_cons_zero, Option.some.injEq] at h
        subst h
        simp only [Nat.zero_add, List.getElem?_cons_succ]
        by_cases hn : i + wd s i < s.size
        · obtain ⟨f, rfl⟩ : ∃ g, f = g + 1 := ⟨f - 1, by omega⟩
          rw [startsFrom_cons s f _ hn]
          simp
        · rw [startsFrom_end s f _ hn]
          simp
          omega
      | succ k =>
        simp only [List.getElem?_cons_succ] at h ⊢
        exact startsFrom_next s f (i + wd s i) k x (by omega) h
    · rw [startsFrom_end s _ i hi] at h
      simp at h
theorem starts_next (s : ByteArray) (k x : Nat) (h : (starts s)[k]? = some x) : (∀ y, (starts s)[k + 1]? = some y → y = x + wd s x) ∧ ((starts s)[k + 1]? = none → x + wd s x = s.size) := startsFrom_next s s.size 0 k x (by omega) h

theorem infoInt : (Try.prog.info? 3).map (fun i => (i.zero, i.size, i.bytes)) = some (some (.int .i64 0), 1, 8) := by kernel_rfl
theorem infoRune2 : (Try.prog.info? 21).map (fun i => (i.zero, i.size, i.bytes)) = some (some (.int .i32 0), 1, 4) := by kernel_rfl
theorem eq_nil (f : FuncId) (p : Value) (w : World) : (binOp BinOp.eql 25 (.func (.func f) #[] #[p]) .nilFunc).run Try.prog w = .ok (.bool false) w := by
  have e : ∃ d, Op.maxDepth = d + 1 := ⟨_, rfl⟩
  obtain ⟨d, hd⟩ := e
  simp [binOp, Op.equal, hd, Op.equalIn, run_underlying Try.underlying25]
theorem one_new (W : World) (u : Value) (t : TypeId) : ∀ j v, [u][j]? = some v → (W.alloc (.cells #[u] t)).cell? ((⟨W.heap.size, 0, none⟩ : Addr).add j) = some v := by
  intro j v hj
  rw [add_none, (Blk.new W #[u] t).cell (0 + j), ← hj]
  simp

set_option maxRecDepth 100000 in
set_option maxHeartbeats 4000000 in
theorem lrange_in (n : Nat) (hn : 5 ≤ n) (s : ByteArray) (hs : s.size ≤ 1048576) (w : World) :
    CallsIn Fence.wide n Try.prog 8 #[.string s] w fun e W' => e = .returned (.bool true) ∧ Below w.heap.size w W' := by
  have h1 : 1 ≤ n := by omega
  have hms : s.size ≤ maxLen := by unfold maxLen; omega
  obtain ⟨i0, hi, hz0, hz1, hz2⟩ := info_parts infoInt
  obtain ⟨j0, hj, hy0, hy1, hy2⟩ := info_parts infoRune2
  have HI := hide (And.intro hi (And.intro hz0 (And.intro hz1 hz2)))
  have HJ := hide (And.intro hj (And.intro hy0 (And.intro hy1 hy2)))
  clear hi hz0 hz1 hz2 hj hy0 hy1 hy2
  refine callsIn_of_wp_marks Try.func8 rfl trivial ?_ rfl
  simp only [Try.ntmps8, List.size_toArray, List.length_cons, List.length_nil, Nat.reduceAdd, Nat.reduceSub, Array.replicate_succ, Array.replicate_zero, List.push_toArray, List.append_toArray, List.nil_append, List.cons_append]
  have b0 := ((Blk.new w #[.string s] 9).alloc (.cells #[.bool false] 4)).alloc (.cells #[.string s] 9)
  have b1 := (Blk.new (w.alloc (.cells #[.string s] 9)) #[.bool false] 4).alloc (.cells #[.string s] 9)
  have b2 := Blk.new ((w.alloc (.cells #[.string s] 9)).alloc (.cells #[.bool false] 4)) #[.string s] 9
  simp only [World.size_alloc] at b1 b2
  have HBl := hide ((((Below.refl w.heap.size w).alloc (Nat.le_refl _) (.cells #[.string s] 9)).alloc (by simp) (.cells #[.bool false] 4)).alloc (by simp; omega) (.cells #[.string s] 9))
  have Hb0 := hide b0
  have Hb1 := hide b1
  have Hb2 := hide b2
  clear b0 b1 b2
  gi_wp2_with (refine ⟨trivial, ?_⟩; gi_at_call 10; refine (callsIn_wide.2 (spots_any _ _)).mono ?_; rintro e w' ⟨rfl, rfl⟩)
  refine ⟨trivial, ?_⟩
  refine (callsIn_wide.2 (alive_any _)).mono ?_
  rintro e w1 ⟨rfl, hb⟩
  have hN : w.heap.size + 2 < w1.heap.size := by have := hb.size; simp at this; omega
  have k0 := (unhide Hb0).below hb (by simp; omega)
  have k1 := (unhide Hb1).below hb (by simp)
  have k2 := (unhide Hb2).below hb (by simp)
  have HB1 := (unhide HBl).trans (hb.mono (by simp; omega))
  have hrg : Rg s w.heap.size w1.heap.size w (((w1.alloc (.cells #[.slice none 0 0] 78)).alloc (.cells #[.slice none 0 0] 48)).alloc (.stringIter s 0)) 0 [] [] (.slice none 0 0) (.slice none 0 0) := by
    have q4 := ((Blk.new w1 #[.slice none 0 0] 78).alloc (.cells #[.slice none 0 0] 48)).alloc (.stringIter s 0)
    have q5 := (Blk.new (w1.alloc (.cells #[.slice none 0 0] 78)) #[.slice none 0 0] 48).alloc (.stringIter s 0)
    have q6 := World.alloc_heap_new ((w1.alloc (.cells #[.slice none 0 0] 78)).alloc (.cells #[.slice none 0 0] 48)) (.stringIter s 0)
    simp only [World.size_alloc] at q5 q6
    exact ⟨((k0.alloc _).alloc _).alloc _, ((k1.alloc _).alloc _).alloc _, ((k2.alloc _).alloc _).alloc _, q4, q5, q6, World.ownsRow_nil _ _ _ _, World.ownsRow_nil _ _ _ _, ((HB1.alloc (by omega) _).alloc (by simp; omega) _).alloc (by simp; omega) _⟩
  have HRG := hide hrg
  have c0 := ((k0.alloc (.cells #[.slice none 0 0] 78)).alloc (.cells #[.slice none 0 0] 48)).cell 0
  clear hb k1 k2 hrg Hb0 Hb1 Hb2 HBl HB1 k0
  have hnil := eq_nil 41 (.pointer (some ⟨w.heap.size + 1 + 1, 0, none⟩))
  have hnl := starts_length s
  gi_wp2
  clear c0 hnil
  gi_loopw [6] (fun _ wr => ∃ (pre : List Nat) (pos f : Nat) (v1 v2 : Value), Hid (starts s = pre ++ startsFrom s f pos) ∧ s.size ≤ pos + f ∧ Hid (Rg s w.heap.size w1.heap.size w wr pos pre pre v1 v2)) (fun _ wr => s.size - wr.iterPos (w1.heap.size + 1 + 1))
  case atStart => exact ⟨[], 0, s.size, _, _, hide rfl, by omega, HRG⟩
  case round =>
    obtain ⟨pre, pos, f, v1, v2, HS, hf, HR⟩ := hrel
    by_cases hp : pos < s.size
    · have hnx : ∀ ty, (Instr.next (.pointer (some ⟨w1.heap.size + 1 + 1, 0, none⟩)) true ty).run Try.prog wr = _ := fun ty => Lib.run_next_any_at wr (w1.heap.size + 1 + 1) s pos ty (unhide HR).it hp
      have hpl : pre.length < s.size := by
        have h1 := starts_length s
        obtain ⟨g, rfl⟩ : ∃ g, f = g + 1 := ⟨f - 1, by omega⟩
        rw [unhide HS, List.length_append, startsFrom_cons s g pos hp] at h1
        simp at h1
        omega
      have HR1 := hide ((unhide HR).iter hN (pos + (Utf8.decode s pos).2))
      have hpm := iterPos_at (unhide HR).it
      have c4 := (unhide HR1).b4.cell 0
      have hwd := wd_pos s pos
      have HW := hide hwd
      have hroom := (unhide HR1).b0.lt
      have hroom2 : w1.heap.size + 3 ≤ (wr.iterAt (w1.heap.size + 1 + 1) s (pos + (Utf8.decode s pos).2)).heap.size := by have := (Array.getElem?_eq_some_iff.1 (unhide HR1).it).1; omega
      generalize hWi : wr.iterAt (w1.heap.size + 1 + 1) s (pos + (Utf8.decode s pos).2) = Wi at *
      clear hWi hwd
      gi_wp2_with (gi_at_builtin; refine wpListIn_append_own _ rfl _ _ 78 rfl (w1.heap.size + 3) 3 i0 (.int .i64 0) 1 8 Try.underlying78 (unhide HI).1 (unhide HI).2.1 (unhide HI).2.2.1 (unhide HI).2.2.2 rfl (by decide) _ _ _ rfl ((unhide HR1).r1.alloc _) ⟨Wi.heap.size, 0, none⟩ 1 1 [.int .i64 pos] rfl rfl (one_new _ _ _) ?c2 ?c3 ?c4 ?c5 ?_)
      case c2 => intro u hu; simp at hu; rw [hu]; rfl
      case c3 => unfold maxLen; omega
      case c4 => omega
      case c5 => simp; omega
      intro v' w2 hown' hgrow _
      obtain ⟨g', cap', rfl⟩ := ownsRow_succ hown'
      obtain ⟨k4, hrg2⟩ := (unhide HR1).app1 hN hown' hgrow
      have c4' := k4.cell 0
      have f4 := k4.frozen 0
      have c5 := hrg2.b5.cell 0
      have HR2 := hide hrg2
      have hroom3 : w1.heap.size + 3 ≤ (w2.setCell ⟨w1.heap.size, 0, none⟩ (.slice (some ⟨g', 0, none⟩) (pre.length + 1) cap')).heap.size := by have := (Array.getElem?_eq_some_iff.1 hrg2.it).1; omega
      have hs2 : (w2.setCell ⟨w1.heap.size, 0, none⟩ (.slice (some ⟨g', 0, none⟩) (pre.length + 1) cap')).heap.size = w2.heap.size := by simp
      have HLN := hide (one_new (w2.setCell ⟨w1.heap.size, 0, none⟩ (.slice (some ⟨g', 0, none⟩) (pre.length + 1) cap')) (.int .i32 ((rn s pos : Nat) : Int)) 21)
      have HL2 := unhide HLN
      rw [hs2] at HL2
      have HLN2 := hide HL2
      clear hown' hgrow k4 hrg2 c4 HLN HL2 hs2
      gi_wp2_with (gi_at_builtin; refine wpListIn_append_own _ rfl _ _ 48 rfl (w1.heap.size + 3) 21 j0 (.int .i32 0) 1 4 Try.underlying48 (unhide HJ).1 (unhide HJ).2.1 (unhide HJ).2.2.1 (unhide HJ).2.2.2 rfl (by decide) _ _ _ rfl ((unhide HR2).r2.alloc _) ⟨w2.heap.size, 0, none⟩ 1 1 [.int .i32 ((rn s pos : Nat) : Int)] rfl rfl (unhide HLN2) ?c2 ?c3 ?c4 ?c5 ?_)
      case c2 => intro u hu; simp at hu; rw [hu]; rfl
      case c3 => unfold maxLen; omega
      case c4 => omega
      case c5 => simp at hroom3 ⊢; omega
      intro v'' w3 hown' hgrow _
      obtain ⟨g2', cap2', rfl⟩ := ownsRow_succ hown'
      obtain ⟨k5, hrg3⟩ := (unhide HR2).app2 hN hown' hgrow
      have c5' := k5.cell 0
      have f5 := k5.frozen 0
      have HR3 := hide hrg3
      have hpm2 := iterPos_at hrg3.it
      clear hown' hgrow k5 hrg3 c5 f4 c4'
      gi_wp2
      go_roundw
      case rel =>
        exact ⟨pre ++ [pos], pos + wd s pos, f - 1, _, _, hide (by
          obtain ⟨g, rfl⟩ : ∃ g, f = g + 1 := ⟨f - 1, by omega⟩
          rw [unhide HS, startsFrom_cons s g pos hp]; simp), by have := unhide HW; omega, HR3⟩
      case measure =>
        rw [hpm2, hpm]
        have := unhide HW
        simp only [wd] at this
        omega
    · have hnx : ∀ ty, (Instr.next (.pointer (some ⟨w1.heap.size + 1 + 1, 0, none⟩)) true ty).run Try.prog wr = _ := fun ty => Lib.run_next_end_at wr (w1.heap.size + 1 + 1) s pos ty (unhide HR).it hp
      have hst := unhide HS
      rw [startsFrom_end s f pos hp, List.append_nil] at hst
      subst hst
      clear HRG HS
      gi_wp2
      have hrg := unhide HR
      have hM : w1.heap.size + 3 ≤ wr.heap.size := by have := (Array.getElem?_eq_some_iff.1 hrg.it).1; omega
      obtain ⟨a1, cap1, rfl, hr1⟩ := own_form1 hrg.r1
      obtain ⟨a2, cap2, rfl, hr2⟩ := own_form1 hrg.r2
      have q0 := hrg.b0.alloc (.cells #[.int .i64 0] 3)
      have q1 := hrg.b1.alloc (.cells #[.int .i64 0] 3)
      have q2 := hrg.b2.alloc (.cells #[.int .i64 0] 3)
      have q4 := hrg.b4.alloc (.cells #[.int .i64 0] 3)
      have q5 := hrg.b5.alloc (.cells #[.int .i64 0] 3)
      have q8 := Blk.new wr #[.int .i64 0] 3
      have hB0 := hrg.bel.alloc (by omega) (.cells #[.int .i64 0] 3)
      have hrr1 := hr1.alloc (.cells #[.int .i64 0] 3)
      have hrr2 := hr2.alloc (.cells #[.int .i64 0] 3)
      have hsz : (wr.alloc (.cells #[.int .i64 0] 3)).heap.size = wr.heap.size + 1 := by simp
      have HBG := hide hrg.r1
      clear hr1 hr2
      obtain ⟨W0, hW0⟩ : ∃ W0, wr.alloc (.cells #[.int .i64 0] 3) = W0 := ⟨_, rfl⟩
      rw [hW0] at q0 q1 q2 q4 q5 q8 hB0 hrr1 hrr2 hsz ⊢
      clear hW0 hnx hrg HR
      refine wpIn_rangeFunc_ownH rfl h1 (gf := 41) (lb := #[.pointer (some ⟨w.heap.size + 1 + 1, 0, none⟩)]) rfl trivial (enters_of Try.func41 (by kernel_rfl) rfl)
        (spots_stops (n - 1) (w.heap.size + 1 + 1) (by omega) s hms W0 (q2.cell 0)) KpS_t (KpS_b (by omega)) (Below.refl _ _) (fun _ => rfl)
        (fun pre W => (Hid (pre <+: starts s) ∧ Blk W w.heap.size #[.string s] 9 ∧ Blk W (w.heap.size + 1) #[.bool false] 4 ∧ Blk W (w.heap.size + 1 + 1) #[.string s] 9 ∧ Blk W w1.heap.size #[.slice a1 (starts s).length cap1] 78 ∧ Blk W (w1.heap.size + 1) #[.slice a2 (starts s).length cap2] 48 ∧ Row1 wr.heap.size W a1 3 (i64L (starts s)) ∧ Row1 wr.heap.size W a2 21 (runL s (starts s)) ∧ Blk W wr.heap.size #[.int .i64 pre.length] 3) ∧ Below w.heap.size w W)
        (fun c pre W => Hid (¬ pre <+: starts s))
        (OwnFrom.and (Own.from (fun s A B row hs hg hr => ⟨hs.1, Blk.own _ (fun _ => _) _ () A B row hs.2.1 hg hr, Blk.own _ (fun _ => _) _ () A B row hs.2.2.1 hg hr, Blk.own _ (fun _ => _) _ () A B row hs.2.2.2.1 hg hr, Blk.own _ (fun _ => _) _ () A B row hs.2.2.2.2.1 hg hr, Blk.own _ (fun _ => _) _ () A B row hs.2.2.2.2.2.1 hg hr, Row1.own hs.2.2.2.2.2.2.1 hg hr, Row1.own hs.2.2.2.2.2.2.2.1 hg hr, Blk.own _ (fun _ => _) _ () A B row hs.2.2.2.2.2.2.2.2 hg hr⟩) _) (ownFrom_below (Nat.le_refl _) (by omega)))
        (fun c => Own.from (fun s A B row hs hg hr => hs) _)
        ⟨⟨hide ⟨starts s, rfl⟩, q0, q1, q2, q4, q5, hrr1, hrr2, q8⟩, hB0⟩
        (fun x a' W => ∃ Bx, wr.heap.size < Bx ∧ Blk W Bx (spotCells (spotV s x)) 31 ∧ a' = { tmps := #[.string s, .pointer (some ⟨w.heap.size, 0, none⟩), .pointer (some ⟨w.heap.size + 1, 0, none⟩), Value.func (.func 41) #[] #[.pointer (some ⟨w.heap.size + 1 + 1, 0, none⟩)], .pointer (some ⟨w1.heap.size, 0, none⟩), .pointer (some ⟨w1.heap.size + 1, 0, none⟩), u6, u7, .pointer (some ⟨wr.heap.size, 0, none⟩), .int .i64 x, .pointer (some ⟨Bx, 0, none⟩), undef, .string s, Value.func (.func 41) #[] #[.pointer (some ⟨w.heap.size + 1 + 1, 0, none⟩)], .bool true, .bool false, .bool false, Value.func (.func 41) #[] #[.pointer (some ⟨w.heap.size + 1 + 1, 0, none⟩)], .bool false, .bool false, .string s, .pointer (some ⟨w1.heap.size + 1 + 1, 0, none⟩), .tuple #[.bool false], .bool false, u24, u25, u26, u27, u28, u29, u30, u31, u32, u33, Value.func (.func 41) #[] #[.pointer (some ⟨w.heap.size + 1 + 1, 0, none⟩)], .int .i64 x, encSpot (spotV s x), undef, undef, undef, undef, undef, undef, undef, undef, undef, undef, undef, undef, undef, undef, undef, undef, undef, undef, undef, undef, undef, undef, undef, undef, undef, undef, undef, undef, undef, undef, undef, undef, undef, undef, undef, undef, undef, undef, undef, undef, undef, undef, undef, undef, undef, undef, undef, undef, undef, undef, undef, undef, undef, undef, undef, undef, undef, undef], defers := [] })
        (fun x a' => Own.from (fun u A B row hs hg hr => by
          obtain ⟨Bx, h1, h2, h3⟩ := hs
          exact ⟨Bx, h1, Blk.own _ (fun _ => _) _ () A B row h2 hg hr, h3⟩) _)
        ?assign ?body ?done ?stop
      case assign =>
        rintro l pre x W K ⟨⟨hp, k0, k1, k2, k4, k5, kr1, kr2, k8⟩, hB⟩ hK
        gi_wp2
        exact hK _ _ ((KeepsOthers.alloc _ _).from _) ⟨(k2.alloc _).cell 0 |>.trans (k2.cell 0).symm, KeepsWalks.alloc _ _⟩ ⟨⟨hp, k0.alloc _, k1.alloc _, k2.alloc _, k4.alloc _, k5.alloc _, kr1.alloc _, kr2.alloc _, k8.alloc _⟩, hB.alloc hB.size _⟩ ⟨W.heap.size, k8.lt, Blk.new W _ 31, rfl⟩
      case body =>
        rintro l pre x a' W hl ⟨rr, hrr⟩ ⟨⟨hp, k0, k1, k2, k4, k5, kr1, kr2, k8⟩, hB⟩ ⟨Bx, hBx, bX, rfl⟩ hlt
        obtain ⟨r, hr⟩ := unhide hp
        have x0 : W.cell? ⟨Bx, 0, none⟩ = some (.int .i32 ((rn s x : Nat) : Int)) := bX.cell 0
        have x1 : W.cell? ⟨Bx, 1, none⟩ = some (.int .i64 ((wd s x : Nat) : Int)) := bX.cell 1
        have x2 : W.cell? ⟨Bx, 2, none⟩ = some (.bool (decide (rn s x = 65533 ∧ wd s x = 1))) := bX.cell 2
        have c0 := k0.cell 0
        have c1 := k1.cell 0
        have c4 := k4.cell 0
        have c5 := k5.cell 0
        have c8 := k8.cell 0
        have f1 := k1.frozen 0
        have f8 := k8.frozen 0
        have hpl : pre.length ≤ (starts s).length := by rw [← hr, List.length_append]; omega
        cases r with
        | nil =>
          rw [List.append_nil] at hr
          have hge : ((starts s).length : Int) ≤ (pre.length : Int) := by rw [hr]; omega
          have HX : Hid (¬ (pre ++ [x]) <+: starts s) := hide (fun h => by have := h.length_le; rw [List.length_append, hr] at this; simp at this; omega)
          clear hr
          gi_wp2
          refine region_round (by kernel_rfl) (by kernel_rfl) (by kernel_rfl) ?_
          repeat (quiet_step_in (fail))
          refine wpQuietIn_nil ?_
          rintro _ ⟨nq, rfl⟩
          gi_wp2
          exact ⟨((keeps_drewN _ _).trans (KeepsOthers.setCell _ _ _)).from _, HX⟩
        | cons y r' =>
          have hy : (starts s)[pre.length]? = some y := by rw [← hr, List.getElem?_append_right (Nat.le_refl _)]; simp
          have hy1 : (i64L (starts s))[pre.length]? = some (.int .i64 y) := by simp [i64L, hy]
          have hy2 : (runL s (starts s))[pre.length]? = some (.int .i32 ((rn s y : Nat) : Int)) := by simp [runL, hy]
          obtain ⟨g1, ha1, cg1⟩ := kr1.cell _ _ hy1
          obtain ⟨g2, ha2, cg2⟩ := kr2.cell _ _ hy2
          subst ha1
          subst ha2
          have hplt : pre.length < (starts s).length := (List.getElem?_eq_some_iff.1 hy).1
          have hge : ¬ ((starts s).length : Int) ≤ (pre.length : Int) := by omega
          have hi1 : (pre.length : Int) < ((starts s).length : Int) := by omega
          have hi2 : ((pre.length : Nat) : Int).toNat = pre.length := by omega
          by_cases hxy : x = y
          · subst hxy
            obtain ⟨hs1, hs2⟩ := starts_next s pre.length x hy
            have HX := hide (show (pre ++ [x]) <+: starts s from ⟨r', by rw [← hr]; simp⟩)
            have hxe : ((x : Int) != (x : Int)) = false := by simp
            have hre : (((rn s x : Nat) : Int) != ((rn s x : Nat) : Int)) = false := by simp
            have hxs : x < s.size := by
              have := (startsFrom_ge s s.size 0 x (List.mem_of_getElem? hy)).2
              exact this
            have hxr := wd_room s x hxs
            have hxp := wd_pos s x
            have hp1 : (pre.length : Int) + 1 < 2 ^ 63 - 1 := by omega
            obtain ⟨ye, hye, hnext⟩ : ∃ ye : Nat, ye = x + wd s x ∧ ((pre.length + 1 < (starts s).length ∧ W.cell? ⟨g1, pre.length + 1, none⟩ = some (.int .i64 ye)) ∨ (¬ pre.length + 1 < (starts s).length ∧ ye = s.size)) := by
              refine ⟨_, rfl, ?_⟩
              cases hz : (starts s)[pre.length + 1]? with
              | none => exact .inr ⟨by have := List.getElem?_eq_none_iff.1 hz; omega, hs2 hz⟩
              | some z =>
                refine .inl ⟨(List.getElem?_eq_some_iff.1 hz).1, ?_⟩
                obtain ⟨g3, e3, c3⟩ := kr1.cell (pre.length + 1) (.int .i64 z) (by simp [i64L, hz])
                cases e3
                rw [c3, hs1 z hz]
            have hsub : (((wd s x : Nat) : Int) != (ye : Int) - (x : Int)) = false := by rw [bne_eq_false_iff_eq]; omega
            have x2' : W.cell? ⟨Bx, 2, none⟩ = some (.bool ((((rn s x : Nat) : Int) == 65533) && (((wd s x : Nat) : Int) == 1))) := by
              rw [x2]
              congr 2
              rw [Bool.eq_iff_iff, decide_eq_true_iff, Bool.and_eq_true, beq_iff_eq, beq_iff_eq]
              omega
            have hsum : (ye : Int) ≤ 1048576 := by omega
            have hxsz : (x : Int) ≤ 1048576 := by omega
            clear hs1 hs2 hy hy1 hy2 hr x2 bX hye
            generalize ((rn s x : Nat) : Int) = rx at *
            generalize ((wd s x : Nat) : Int) = dx at *
            obtain ⟨m, hm⟩ : ∃ m, m = pre.length + 1 := ⟨_, rfl⟩
            rw [← hm] at hnext
            have hmi : (pre.length : Int) + 1 = (m : Int) := by omega
            have hml : (pre ++ [x]).length = m := by rw [hm]; simp
            have HML := hide hml
            have hmb : (m : Int) ≤ 1048577 := by omega
            clear hm hml
            have hp2 : (pre.length : Int) ≤ 1048576 := by omega
            clear hxr hxp hxs hrr hsz hp1
            rcases hnext with ⟨hn1, cn⟩ | ⟨hn1, rfl⟩
            · have hn2 : (m : Int) < ((starts s).length : Int) := by omega
              have hi3 : ((m : Nat) : Int).toNat = m := by omega
              clear hn1
              gi_wp2
              refine region_round (by kernel_rfl) (by kernel_rfl) (by kernel_rfl) ?_
              repeat (quiet_step_in (fail))
              refine wpQuietIn_nil ?_
              rintro _ ⟨nq, rfl⟩
              clear hpl hplt hlt hnl
              cases hE : (rx == 65533) with
              | false =>
                rw [hE, Bool.false_and] at x2'
                gi_wp2
                refine ⟨((keeps_drewN _ _).trans (KeepsOthers.setCell _ _ _)).from _, ⟨(Blk.cell (k2.other (by omega) _) 0).trans (k2.cell 0).symm, ((keeps_drewN _ _).trans (KeepsOthers.setCell _ _ _)).walks⟩, ⟨HX, k0.other (by omega) _, k1.other (by omega) _, k2.other (by omega) _, k4.other (by omega) _, k5.other (by omega) _, Row1.set kr1 (Nat.le_refl _) _, Row1.set kr2 (Nat.le_refl _) _, ?_⟩, (below_drewN hB nq).setCell (p := ⟨wr.heap.size, 0, none⟩) (by show w.heap.size ≤ wr.heap.size; omega) _⟩
                rw [unhide HML]
                exact k8.set 0 _
              | true =>
                cases hD : (dx == 1) with
                | false =>
                  rw [hE, hD] at x2'
                  gi_wp2
                  refine ⟨((keeps_drewN _ _).trans (KeepsOthers.setCell _ _ _)).from _, ⟨(Blk.cell (k2.other (by omega) _) 0).trans (k2.cell 0).symm, ((keeps_drewN _ _).trans (KeepsOthers.setCell _ _ _)).walks⟩, ⟨HX, k0.other (by omega) _, k1.other (by omega) _, k2.other (by omega) _, k4.other (by omega) _, k5.other (by omega) _, Row1.set kr1 (Nat.le_refl _) _, Row1.set kr2 (Nat.le_refl _) _, ?_⟩, (below_drewN hB nq).setCell (p := ⟨wr.heap.size, 0, none⟩) (by show w.heap.size ≤ wr.heap.size; omega) _⟩
                  rw [unhide HML]
                  exact k8.set 0 _
                | true =>
                  rw [hE, hD] at x2'
                  gi_wp2
                  refine ⟨((keeps_drewN _ _).trans (KeepsOthers.setCell _ _ _)).from _, ⟨(Blk.cell (k2.other (by omega) _) 0).trans (k2.cell 0).symm, ((keeps_drewN _ _).trans (KeepsOthers.setCell _ _ _)).walks⟩, ⟨HX, k0.other (by omega) _, k1.other (by omega) _, k2.other (by omega) _, k4.other (by omega) _, k5.other (by omega) _, Row1.set kr1 (Nat.le_refl _) _, Row1.set kr2 (Nat.le_refl _) _, ?_⟩, (below_drewN hB nq).setCell (p := ⟨wr.heap.size, 0, none⟩) (by show w.heap.size ≤ wr.heap.size; omega) _⟩
                  rw [unhide HML]
                  exact k8.set 0 _
            · have hn2 : ¬ (m : Int) < ((starts s).length : Int) := by omega
              clear hn1
              gi_wp2
              refine region_round (by kernel_rfl) (by kernel_rfl) (by kernel_rfl) ?_
              repeat (quiet_step_in (fail))
              refine wpQuietIn_nil ?_
              rintro _ ⟨nq, rfl⟩
              clear hpl hplt hlt hnl
              cases hE : (rx == 65533) with
              | false =>
                rw [hE, Bool.false_and] at x2'
                gi_wp2
                refine ⟨((keeps_drewN _ _).trans (KeepsOthers.setCell _ _ _)).from _, ⟨(Blk.cell (k2.other (by omega) _) 0).trans (k2.cell 0).symm, ((keeps_drewN _ _).trans (KeepsOthers.setCell _ _ _)).walks⟩, ⟨HX, k0.other (by omega) _, k1.other (by omega) _, k2.other (by omega) _, k4.other (by omega) _, k5.other (by omega) _, Row1.set kr1 (Nat.le_refl _) _, Row1.set kr2 (Nat.le_refl _) _, ?_⟩, (below_drewN hB nq).setCell (p := ⟨wr.heap.size, 0, none⟩) (by show w.heap.size ≤ wr.heap.size; omega) _⟩
                rw [unhide HML]
                exact k8.set 0 _
              | true =>
                cases hD : (dx == 1) with
                | false =>
                  rw [hE, hD] at x2'
                  gi_wp2
                  refine ⟨((keeps_drewN _ _).trans (KeepsOthers.setCell _ _ _)).from _, ⟨(Blk.cell (k2.other (by omega) _) 0).trans (k2.cell 0).symm, ((keeps_drewN _ _).trans (KeepsOthers.setCell _ _ _)).walks⟩, ⟨HX, k0.other (by omega) _, k1.other (by omega) _, k2.other (by omega) _, k4.other (by omega) _, k5.other (by omega) _, Row1.set kr1 (Nat.le_refl _) _, Row1.set kr2 (Nat.le_refl _) _, ?_⟩, (below_drewN hB nq).setCell (p := ⟨wr.heap.size, 0, none⟩) (by show w.heap.size ≤ wr.heap.size; omega) _⟩
                  rw [unhide HML]
                  exact k8.set 0 _
                | true =>
                  rw [hE, hD] at x2'
                  gi_wp2
                  refine ⟨((keeps_drewN _ _).trans (KeepsOthers.setCell _ _ _)).from _, ⟨(Blk.cell (k2.other (by omega) _) 0).trans (k2.cell 0).symm, ((keeps_drewN _ _).trans (KeepsOthers.setCell _ _ _)).walks⟩, ⟨HX, k0.other (by omega) _, k1.other (by omega) _, k2.other (by omega) _, k4.other (by omega) _, k5.other (by omega) _, Row1.set kr1 (Nat.le_refl _) _, Row1.set kr2 (Nat.le_refl _) _, ?_⟩, (below_drewN hB nq).setCell (p := ⟨wr.heap.size, 0, none⟩) (by show w.heap.size ≤ wr.heap.size; omega) _⟩
                  rw [unhide HML]
                  exact k8.set 0 _
          · have hxe : ((x : Int) != (y : Int)) = true := by rw [bne_iff_ne]; omega
            have HX : Hid (¬ (pre ++ [x]) <+: starts s) := hide (fun h => by
              obtain ⟨q, hq⟩ := h
              have : (starts s)[pre.length]? = some x := by rw [← hq]; simp
              rw [hy] at this
              cases this
              exact hxy rfl)
            clear hr hy hy1 hy2 hxy
            gi_wp2
            refine region_round (by kernel_rfl) (by kernel_rfl) (by kernel_rfl) ?_
            repeat (quiet_step_in (fail))
            refine wpQuietIn_nil ?_
            rintro _ ⟨nq, rfl⟩
            gi_wp2
            exact ⟨((keeps_drewN _ _).trans (KeepsOthers.setCell _ _ _)).from _, HX⟩
      case done =>
        rintro D ys W hD rfl ⟨⟨hp, k0, k1, k2, k4, k5, kr1, kr2, k8⟩, hB⟩ hK
        have c1 := k1.cell 0
        have c4 := k4.cell 0
        have c8 := k8.cell 0
        have f1 := k1.frozen 0
        gi_wp2
        have hK' := (KeepsOthers.setCell W ⟨w.heap.size + 1, 0, none⟩ (.bool true)).same D _ hK rfl
        have k1' := k1.set 0 (.bool true)
        have hB' := hB.setCell (p := ⟨w.heap.size + 1, 0, none⟩) (by simp) (.bool true)
        refine ⟨by simp, .inl ⟨_, _, rfl, run_takeDeferred hK', ?_⟩⟩
        have q1 := k1'.put (.deferred Option.none) hK' rfl
        have c := q1.cell 0
        refine ⟨.bool true, ?_, rfl, hB'.trans (belowK_b (w := w) (Nat.le_refl _) _ D _ _ (by omega) hK' rfl rfl)⟩
        simp [results, Try.f8, go_sem, c]
      case stop =>
        rintro D c pre W hD hpre hx hK
        exact absurd hpre (unhide hx)

theorem lrange_any (s : ByteArray) (hs : s.size ≤ 1048576) (w : World) : Calls Try.prog 8 #[.string s] w fun e W' => e = .returned (.bool true) ∧ Below w.heap.size w W' :=
  callsIn_wide.1 (lrange_in 5 (Nat.le_refl _) s hs w)
end Go.Proofs.Ytaafecaclkagiaa
