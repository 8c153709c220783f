/- A text is parted: its basic runes, its high ones (a text in which U+FFFD does not stand). -/
import Derived.Lib.OthersKept
import Derived.Laws.ResultCell
import Derived.Laws.Rows
import Derived.Test.YthjndkjbjflmfaaBtL
import Derived.Test.YthjndkjbjflmfaaBtH
import Derived.Test.YthjndkjbjflmfaaBtX
namespace Go.Proofs.Ythjndkjbjflmfaa
open Go.RowKit Go.Shelf
set_option linter.unusedVariables false
/-- The parts: the basic runes, where they stand, the high ones with their places; why not. -/
def ptF (fi : Int) (s : ByteArray) : List Nat → List Int → List Int → List (Int × Int) → (List Int × List Int × List (Int × Int)) × Int
  | [], b, a, h => ((b, a, h), 0)
  | i :: r, b, a, h => if b.length + h.length = 4096 then (([], [], []), 4) else
     if basicB (rn s i) = true then ptF fi s r (b ++ [(rn s i : Int)]) (a ++ [(i : Int)]) h else
     if fi ≤ (rn s i : Int) then ptF fi s r b a (h ++ [((rn s i : Int), (i : Int))]) else (([], [], []), 50)
abbrev encU (zs : List Int) : List Value := zs.map (Value.int .u8)
abbrev encJ (zs : List Int) : List Value := zs.map (Value.int .i64)
abbrev encH (h : List (Int × Int)) : List Value := h.flatMap (fun x => [.int .i32 x.1, .int .i64 x.2])
theorem infoJb : (Try.prog.info? 3).map (fun i => (i.zero, i.size, i.bytes)) = some (some (.int .i64 0), 1, 8) := by kernel_rfl
theorem infoUb : (Try.prog.info? 5).map (fun i => (i.zero, i.size, i.bytes)) = some (some (.int .u8 0), 1, 1) := by kernel_rfl
theorem infoHb : (Try.prog.info? 80).map (fun i => (i.zero, i.size, i.bytes)) = some (some (.agg #[.int .i32 0, .int .i64 0]), 2, 16) := by kernel_rfl
theorem encH_len (h : List (Int × Int)) : (encH h).length = h.length * 2 := by induction h with
  | nil => rfl
  | cons x r ih => simp [encH] at ih ⊢; omega
theorem rows_typesB {W : World} {b1 b2 e1 e2 s1 s2 n1 n2 : Nat} {v1 v2 : Value} {x1 x2 : List Value} (h1 : W.ownsRow b1 e1 s1 v1 n1 x1) (h2 : W.ownsRow b2 e2 s2 v2 n2 x2) (he : e1 ≠ e2) : v1.ownBlock = none ∨ v1.ownBlock ≠ v2.ownBlock := by
  rcases h1.2 with ⟨rfl, _⟩ | ⟨g, cap, cur, rfl, _, hh, _⟩
  · exact .inl rfl
  · refine .inr fun e => ?_
    rcases h2.2 with ⟨rfl, _⟩ | ⟨g2, cap2, cur2, rfl, _, hh2, _⟩
    · simp [Value.ownBlock] at e
    · obtain rfl : g = g2 := by simpa [Value.ownBlock] using e
      rw [hh] at hh2
      simp at hh2
      exact he hh2.2
/-- The parting's memory: the text's iterator, the parts' box and its three lists, the two boxes beside it. -/
structure PtS (p : Pm) (s : ByteArray) (w : World) (it d : Nat) (vb va vh : Value) (nb na nh : Nat) (xb xa xh : List Value) (W : World) : Prop where
  ir : W.heap[it]? = some (.stringIter s d)
  bx : Blk W (w.heap.size + 1 + 1) #[vb, va, vh] 52
  rb : W.ownsRow (it + 1) 5 1 vb nb xb
  ra : W.ownsRow (it + 1) 3 1 va na xa
  rh : W.ownsRow (it + 1) 80 2 vh nh xh
  p1 : Blk W (w.heap.size + 1) #[.slice none 0 0, .slice none 0 0, .slice none 0 0] 52
  p0 : Blk W w.heap.size (cellsP p) 26
  bl : Below w.heap.size w W
  hg : w.heap.size + 3 < it
theorem iter_lt {W : World} {it d : Nat} {s : ByteArray} (h : W.heap[it]? = some (.stringIter s d)) : it < W.heap.size := (Array.getElem?_eq_some_iff.1 h).1
theorem PtS.drew {p : Pm} {s : ByteArray} {w W : World} {it d nb na nh : Nat} {vb va vh : Value} {xb xa xh : List Value} (h : PtS p s w it d vb va vh nb na nh xb xa xh W) (q : Nat) : PtS p s w it d vb va vh nb na nh xb xa xh (W.drewN q) :=
  ⟨h.ir, h.bx, h.rb, h.ra, h.rh, h.p1, h.p0, below_drewC h.bl q, h.hg⟩
theorem PtS.put0 {p : Pm} {s : ByteArray} {w W w2 : World} {it d nb na nh n2 te : Nat} {vb va vh v2 : Value} {xb xa xh x2 : List Value} {tmp : Array Value} (h : PtS p s w it d vb va vh nb na nh xb xa xh W) (ho : w2.ownsRow (it + 1) 5 1 v2 n2 x2) (hg : (W.alloc (.cells tmp te)).grownBy w2 vb.ownBlock) :
    Blk w2 (w.heap.size + 1 + 1) #[vb, va, vh] 52 ∧ PtS p s w it d v2 va vh n2 na nh x2 xa xh (w2.setCell ⟨w.heap.size + 1 + 1, 0, none⟩ v2) := by
  have hgt := h.hg
  have hne : ∀ k, k ≤ it → some k ≠ vb.ownBlock := fun k hk e => by have := (own_ltB h.rb _ e.symm).1; omega
  have b2 : Blk w2 (w.heap.size + 1 + 1) #[vb, va, vh] 52 := (h.bx.alloc _).kept hg (hne _ (by omega))
  have il := iter_lt h.ir
  have i2 : w2.heap[it]? = some (.stringIter s d) := (hg.block it (by simp; omega) (hne it (Nat.le_refl _))).trans ((World.grownBy_alloc W _ none).block it il (by simp) |>.trans h.ir)
  refine ⟨b2, ⟨((grownC_set w2 (w.heap.size + 1 + 1) 0 v2).block it (iter_lt i2) (by intro e; injection e; omega)).trans i2, b2.set 0 v2, ?_, ?_, ?_, (((h.p1.alloc _).kept hg (hne _ (by omega))).kept (grownC_set w2 _ _ _) (by intro e; injection e; omega)), (((h.p0.alloc _).kept hg (hne _ (by omega))).kept (grownC_set w2 _ _ _) (by intro e; injection e; omega)), ((h.bl.alloc (by omega) _).grown hg (by simp; omega) (fun k e => by have := (own_ltB h.rb k e).1; omega)).grown (grownC_set w2 _ _ _) (by have := iter_lt i2; omega) (fun k e => by injection e; omega), hgt⟩⟩
  · exact (ho.kept (grownC_set w2 (w.heap.size + 1 + 1) 0 v2) (.inr (fun e => by have := (own_ltB ho _ e).1; have := h.hg; omega)))
  · exact (((h.ra.alloc (.cells tmp te)).kept hg (rows_typesB h.ra h.rb (by decide))).kept (grownC_set w2 (w.heap.size + 1 + 1) 0 v2) (.inr (fun e => by have := (own_ltB h.ra _ e).1; have := h.hg; omega)))
  · exact (((h.rh.alloc (.cells tmp te)).kept hg (rows_typesB h.rh h.rb (by decide))).kept (grownC_set w2 (w.heap.size + 1 + 1) 0 v2) (.inr (fun e => by have := (own_ltB h.rh _ e).1; have := h.hg; omega)))
theorem PtS.put1 {p : Pm} {s : ByteArray} {w W w2 : World} {it d nb na nh n2 te : Nat} {vb va vh v2 : Value} {xb xa xh x2 : List Value} {tmp : Array Value} (h : PtS p s w it d vb va vh nb na nh xb xa xh W) (ho : w2.ownsRow (it + 1) 3 1 v2 n2 x2) (hg : (W.alloc (.cells tmp te)).grownBy w2 va.ownBlock) :
    Blk w2 (w.heap.size + 1 + 1) #[vb, va, vh] 52 ∧ PtS p s w it d vb v2 vh nb n2 nh xb x2 xh (w2.setCell ⟨w.heap.size + 1 + 1, 1, none⟩ v2) := by
  have hgt := h.hg
  have hne : ∀ k, k ≤ it → some k ≠ va.ownBlock := fun k hk e => by have := (own_ltB h.ra _ e.symm).1; omega
  have b2 : Blk w2 (w.heap.size + 1 + 1) #[vb, va, vh] 52 := (h.bx.alloc _).kept hg (hne _ (by omega))
  have il := iter_lt h.ir
  have i2 : w2.heap[it]? = some (.stringIter s d) := (hg.block it (by simp; omega) (hne it (Nat.le_refl _))).trans ((World.grownBy_alloc W _ none).block it il (by simp) |>.trans h.ir)
  refine ⟨b2, ⟨((grownC_set w2 (w.heap.size + 1 + 1) 1 v2).block it (iter_lt i2) (by intro e; injection e; omega)).trans i2, b2.set 1 v2, ?_, ?_, ?_, (((h.p1.alloc _).kept hg (hne _ (by omega))).kept (grownC_set w2 _ _ _) (by intro e; injection e; omega)), (((h.p0.alloc _).kept hg (hne _ (by omega))).kept (grownC_set w2 _ _ _) (by intro e; injection e; omega)), ((h.bl.alloc (by omega) _).grown hg (by simp; omega) (fun k e => by have := (own_ltB h.ra k e).1; omega)).grown (grownC_set w2 _ _ _) (by have := iter_lt i2; omega) (fun k e => by injection e; omega), hgt⟩⟩
  · exact (((h.rb.alloc (.cells tmp te)).kept hg (rows_typesB h.rb h.ra (by decide))).kept (grownC_set w2 (w.heap.size + 1 + 1) 1 v2) (.inr (fun e => by have := (own_ltB h.rb _ e).1; have := h.hg; omega)))
  · exact (ho.kept (grownC_set w2 (w.heap.size + 1 + 1) 1 v2) (.inr (fun e => by have := (own_ltB ho _ e).1; have := h.hg; omega)))
  · exact (((h.rh.alloc (.cells tmp te)).kept hg (rows_typesB h.rh h.ra (by decide))).kept (grownC_set w2 (w.heap.size + 1 + 1) 1 v2) (.inr (fun e => by have := (own_ltB h.rh _ e).1; have := h.hg; omega)))
theorem PtS.put2 {p : Pm} {s : ByteArray} {w W w2 : World} {it d nb na nh n2 te : Nat} {vb va vh v2 : Value} {xb xa xh x2 : List Value} {tmp : Array Value} (h : PtS p s w it d vb va vh nb na nh xb xa xh W) (ho : w2.ownsRow (it + 1) 80 2 v2 n2 x2) (hg : (W.alloc (.cells tmp te)).grownBy w2 vh.ownBlock) :
    Blk w2 (w.heap.size + 1 + 1) #[vb, va, vh] 52 ∧ PtS p s w it d vb va v2 nb na n2 xb xa x2 (w2.setCell ⟨w.heap.size + 1 + 1, 2, none⟩ v2) := by
  have hgt := h.hg
  have hne : ∀ k, k ≤ it → some k ≠ vh.ownBlock := fun k hk e => by have := (own_ltB h.rh _ e.symm).1; omega
  have b2 : Blk w2 (w.heap.size + 1 + 1) #[vb, va, vh] 52 := (h.bx.alloc _).kept hg (hne _ (by omega))
  have il := iter_lt h.ir
  have i2 : w2.heap[it]? = some (.stringIter s d) := (hg.block it (by simp; omega) (hne it (Nat.le_refl _))).trans ((World.grownBy_alloc W _ none).block it il (by simp) |>.trans h.ir)
  refine ⟨b2, ⟨((grownC_set w2 (w.heap.size + 1 + 1) 2 v2).block it (iter_lt i2) (by intro e; injection e; omega)).trans i2, b2.set 2 v2, ?_, ?_, ?_, (((h.p1.alloc _).kept hg (hne _ (by omega))).kept (grownC_set w2 _ _ _) (by intro e; injection e; omega)), (((h.p0.alloc _).kept hg (hne _ (by omega))).kept (grownC_set w2 _ _ _) (by intro e; injection e; omega)), ((h.bl.alloc (by omega) _).grown hg (by simp; omega) (fun k e => by have := (own_ltB h.rh k e).1; omega)).grown (grownC_set w2 _ _ _) (by have := iter_lt i2; omega) (fun k e => by injection e; omega), hgt⟩⟩
  · exact (((h.rb.alloc (.cells tmp te)).kept hg (rows_typesB h.rb h.rh (by decide))).kept (grownC_set w2 (w.heap.size + 1 + 1) 2 v2) (.inr (fun e => by have := (own_ltB h.rb _ e).1; have := h.hg; omega)))
  · exact (((h.ra.alloc (.cells tmp te)).kept hg (rows_typesB h.ra h.rh (by decide))).kept (grownC_set w2 (w.heap.size + 1 + 1) 2 v2) (.inr (fun e => by have := (own_ltB h.ra _ e).1; have := h.hg; omega)))
  · exact (ho.kept (grownC_set w2 (w.heap.size + 1 + 1) 2 v2) (.inr (fun e => by have := (own_ltB ho _ e).1; have := h.hg; omega)))
theorem retP {fn : Func} {q u : Tmp} {tmps : Array Value} {w : World} {R : Nat} {x y z v : Value} (h : fn.results = #[.cell q 52, .tmp u]) (hp : tmps.getD q undef = .pointer (some ⟨R, 0, none⟩)) (hv : tmps.getD u undef = v) (hb : Blk w R #[x, y, z] 52) : (results fn tmps).run Try.prog w = .ok (.tuple #[.agg #[x, y, z], v]) w := by
  rw [results_cell_tmp h, hp, hv]
  have := run_loadVar_row (P := Try.prog) w R _ 52 #[x, y, z] _ _ hb Try.underlying52 rfl (by kernel_rfl)
  simp [asAddr, this, Result.andThen]
theorem belP {w W : World} {a b c : Value} (h : Below w.heap.size w W) : Below w.heap.size w (((W.setCell ⟨w.heap.size + 1, 0, none⟩ a).setCell ⟨w.heap.size + 1, 1, none⟩ b).setCell ⟨w.heap.size + 1, 2, none⟩ c) := by
  have g := grownC_trans (grownC_trans (grownC_set W (w.heap.size + 1) 0 a) (grownC_set _ (w.heap.size + 1) 1 b)) (grownC_set _ (w.heap.size + 1) 2 c)
  exact h.grown g h.size (fun k e => by injection e; omega)
theorem rowP {w W : World} {it e sz n : Nat} {v a b c : Value} {xs : List Value} (h : W.ownsRow (it + 1) e sz v n xs) (hg : w.heap.size + 3 < it) : (((W.setCell ⟨w.heap.size + 1, 0, none⟩ a).setCell ⟨w.heap.size + 1, 1, none⟩ b).setCell ⟨w.heap.size + 1, 2, none⟩ c).ownsRow (it + 1) e sz v n xs := by
  have g := grownC_trans (grownC_trans (grownC_set W (w.heap.size + 1) 0 a) (grownC_set _ (w.heap.size + 1) 1 b)) (grownC_set _ (w.heap.size + 1) 2 c)
  exact h.kept g (.inr (fun e => by have := (own_ltB h _ e).1; omega))
/-- How far the parting has come. -/
def PtI (p : Pm) (s : ByteArray) (w : World) (it : Nat) (R : (List Int × List Int × List (Int × Int)) × Int) (wr : World) : Prop :=
  ∃ (pos f : Nat) (b a : List Int) (h : List (Int × Int)) (nb nh : Nat) (vb va vh : Value), s.size ≤ pos + f ∧ Hz (PtS p s w it pos vb va vh nb nb nh (encU b) (encJ a) (encH h) wr) ∧ b.length = nb ∧ h.length = nh ∧ a.length = nb ∧
    nb + nh ≤ pos ∧ Hz (∀ i ∈ startsFrom s f pos, i ∈ starts s) ∧ Hz (ptF p.fi s (startsFrom s f pos) b a h = R)
set_option maxRecDepth 100000 in
set_option maxHeartbeats 4000000 in
theorem parts_any (p : Pm) (s : ByteArray) (hs : s.size ≤ 65536) (hne : ∀ i ∈ starts s, rn s i ≠ 65533) (w : World) :
    Calls Try.prog 25 #[.agg (cellsP p), .string s] w fun e w' => ∃ vb va vh, e = .returned (.tuple #[.agg #[vb, va, vh], .int .i64 (ptF p.fi s (starts s) [] [] []).2]) ∧ Below w.heap.size w w' ∧
      w'.ownsRow w.heap.size 5 1 vb (ptF p.fi s (starts s) [] [] []).1.1.length (encU (ptF p.fi s (starts s) [] [] []).1.1) ∧
      w'.ownsRow w.heap.size 3 1 va (ptF p.fi s (starts s) [] [] []).1.2.1.length (encJ (ptF p.fi s (starts s) [] [] []).1.2.1) ∧
      w'.ownsRow w.heap.size 80 2 vh (ptF p.fi s (starts s) [] [] []).1.2.2.length (encH (ptF p.fi s (starts s) [] [] []).1.2.2) := by
  have hv : validV s = .tuple #[.agg #[.int .i64 0, .int .i64 0], .bool true] := validFrom_none s _ _ (fun i hi => by
    unfold badB
    exact decide_eq_false (fun h => hne i hi h.1))
  have VA := fun w => valid_any s (by unfold maxLen; omega) w
  rw [hv] at VA
  have HVA := hide VA
  clear VA hv
  obtain ⟨R, hR⟩ : ∃ R, ptF p.fi s (starts s) [] [] [] = R := ⟨_, rfl⟩
  rw [hR]
  have HR := hide hR
  have HNE := hide hne
  clear hR hne
  obtain ⟨B, lo, hi, sk, da, bi, fi⟩ := p
  dsimp only [cellsP] at *
  go_enter Try.func25, Try.ntmps25
  go_wp2_with (go_at_call 39; refine (unhide HVA _).mono ?_; rintro e w2 ⟨rfl, hb⟩)
  have hsz := hb.size
  simp only [World.size_alloc] at hsz
  obtain ⟨it, hit⟩ : ∃ it, it = w2.heap.size + 1 := ⟨_, rfl⟩
  have START : PtI ⟨B, lo, hi, sk, da, bi, fi⟩ s w it R ((w2.alloc (.cells #[.int .i64 0, .int .i64 0] 76)).iter s 0) := by
    have P0 : Blk w2 w.heap.size (cellsP ⟨B, lo, hi, sk, da, bi, fi⟩) 26 := (((Blk.new w (cellsP ⟨B, lo, hi, sk, da, bi, fi⟩) 26).alloc _).alloc _).below hb (by simp only [World.size_alloc]; omega)
    have P1 : Blk w2 (w.heap.size + 1) #[.slice none 0 0, .slice none 0 0, .slice none 0 0] 52 := by
      have h1 := Blk.new (w.alloc (.cells (cellsP ⟨B, lo, hi, sk, da, bi, fi⟩) 26)) #[.slice none 0 0, .slice none 0 0, .slice none 0 0] 52
      rw [show (w.alloc (.cells (cellsP ⟨B, lo, hi, sk, da, bi, fi⟩) 26)).heap.size = w.heap.size + 1 by simp] at h1
      exact (h1.alloc _).below hb (by simp only [World.size_alloc]; omega)
    have P2 : Blk w2 (w.heap.size + 1 + 1) #[.slice none 0 0, .slice none 0 0, .slice none 0 0] 52 := by
      have h1 := Blk.new ((w.alloc (.cells (cellsP ⟨B, lo, hi, sk, da, bi, fi⟩) 26)).alloc (.cells #[.slice none 0 0, .slice none 0 0, .slice none 0 0] 52)) #[.slice none 0 0, .slice none 0 0, .slice none 0 0] 52
      rw [show ((w.alloc (.cells (cellsP ⟨B, lo, hi, sk, da, bi, fi⟩) 26)).alloc (.cells #[.slice none 0 0, .slice none 0 0, .slice none 0 0] 52)).heap.size = w.heap.size + 1 + 1 by simp] at h1
      exact h1.below hb (by simp only [World.size_alloc]; omega)
    have B0 : Below w.heap.size w w2 := ((((Below.refl _ w).alloc (Nat.le_refl _) _).alloc (by simp only [World.size_alloc]; omega) _).alloc (by simp only [World.size_alloc]; omega) _).trans (hb.mono (by simp only [World.size_alloc]; omega))
    have I0 : ((w2.alloc (.cells #[.int .i64 0, .int .i64 0] 76)).iter s 0).heap[it]? = some (.stringIter s 0) := by
      have h1 := World.alloc_heap_new (w2.alloc (.cells #[.int .i64 0, .int .i64 0] 76)) (.stringIter s 0)
      rw [show (w2.alloc (.cells #[.int .i64 0, .int .i64 0] 76)).heap.size = it by simp [hit]] at h1
      exact h1
    refine ⟨0, s.size, [], [], [], 0, 0, _, _, _, by omega, hide ⟨I0, (P2.alloc _).alloc _, World.ownsRow_nil _ _ _ _, World.ownsRow_nil _ _ _ _, World.ownsRow_nil _ _ _ _, (P1.alloc _).alloc _, (P0.alloc _).alloc _, (B0.alloc (by omega) _).alloc (by simp; omega) _, by omega⟩, rfl, rfl, rfl, by omega, hide (fun i h => h), HR⟩
  have hit3 : w.heap.size + 3 < it := by omega
  rw [← hit]
  generalize (w2.alloc (.cells #[.int .i64 0, .int .i64 0] 76)).iter s 0 = W5 at *
  have ST := hide START
  clear START hb hsz hit HR
  go_loopw [9] (fun _ wr => PtI ⟨B, lo, hi, sk, da, bi, fi⟩ s w it R wr) (fun _ wr => s.size - wr.iterPos it)
  case atStart => exact unhide ST
  case round =>
    clear ST
    obtain ⟨pos, f, b, a, h, nb, nh, vb, va, vh, g1, PS, g2, g3, g4, g5, HST, HR⟩ := hrel
    have hli := iter_lt (unhide PS).ir
    by_cases hp : pos < s.size
    · have hnx : ∀ ty, (Instr.next (.pointer (some ⟨it, 0, none⟩)) true ty).run Try.prog wr = _ := fun ty => Lib.run_next_any_at wr it s pos ty (unhide PS).ir hp
      obtain ⟨g, rfl⟩ : ∃ g, f = g + 1 := ⟨f - 1, by omega⟩
      have hwd := wd_pos s pos
      have hwr := wd_room s pos hp
      have hsf := startsFrom_cons s g pos hp
      have hin : pos ∈ starts s := unhide HST pos (by rw [hsf]; exact List.mem_cons_self ..)
      have hzw := rn_rune s pos
      have hzn : rn s pos ≠ 65533 := unhide HNE pos hin
      have HR' := unhide HR
      rw [hsf, ptF] at HR'
      have HST' := hide (show ∀ i ∈ startsFrom s g (pos + wd s pos), i ∈ starts s from fun i hi => unhide HST i (by rw [hsf]; exact List.mem_cons_of_mem _ hi))
      have I2 : (wr.iterAt it s (pos + wd s pos)).heap[it]? = some (.stringIter s (pos + wd s pos)) := Lib.iterAt_heap wr it s pos _ (unhide PS).ir
      have GI := grown_iterAt wr it s (pos + wd s pos)
      obtain ⟨d, hd⟩ : ∃ d, d = pos + wd s pos := ⟨_, rfl⟩
      obtain ⟨x, hx⟩ : ∃ x, x = rn s pos := ⟨_, rfl⟩
      rw [← hd] at I2 GI HST' HR' hwr
      rw [← hx] at hzw hzn HR'
      simp only [show (Utf8.decode s pos).1 = x from hx.symm, show pos + (Utf8.decode s pos).2 = d from hd.symm] at hnx
      have hg3 := (unhide PS).hg
      have PI := hide (show PtS ⟨B, lo, hi, sk, da, bi, fi⟩ s w it d vb va vh nb nb nh (encU b) (encJ a) (encH h) (wr.iterAt it s d) from
        ⟨I2, (unhide PS).bx.kept GI (by intro e; injection e; omega), (unhide PS).rb.kept GI (.inr (fun e => by have := (own_ltB (unhide PS).rb _ e).1; omega)), (unhide PS).ra.kept GI (.inr (fun e => by have := (own_ltB (unhide PS).ra _ e).1; omega)), (unhide PS).rh.kept GI (.inr (fun e => by have := (own_ltB (unhide PS).rh _ e).1; omega)), (unhide PS).p1.kept GI (by intro e; injection e; omega), (unhide PS).p0.kept GI (by intro e; injection e; omega), (unhide PS).bl.grown GI (by omega) (fun k e => by injection e; omega), hg3⟩)
      have hIP := hide (And.intro (iterPos_at (unhide PS).ir) (show pos < d by omega))
      have HRR := hide HR'
      obtain ⟨ba, bc, rfl⟩ : ∃ va vc, vb = .slice va nb vc := by
        rcases (unhide PS).rb.2 with ⟨rfl, h0⟩ | ⟨g, cap, cur, rfl, _⟩
        · exact ⟨none, 0, by rw [h0]⟩
        · exact ⟨_, cap, rfl⟩
      obtain ⟨aa, ac, rfl⟩ : ∃ va' vc', va = .slice va' nb vc' := by
        rcases (unhide PS).ra.2 with ⟨rfl, h0⟩ | ⟨g, cap, cur, rfl, _⟩
        · exact ⟨none, 0, by rw [h0]⟩
        · exact ⟨_, cap, rfl⟩
      obtain ⟨ha, hc, rfl⟩ : ∃ va' vc', vh = .slice va' nh vc' := by
        rcases (unhide PS).rh.2 with ⟨rfl, h0⟩ | ⟨g, cap, cur, rfl, _⟩
        · exact ⟨none, 0, by rw [h0]⟩
        · exact ⟨_, cap, rfl⟩
      have L1 := hide g2
      have L2 := hide g3
      have L3 := hide g4
      have hd5 : pos + 1 ≤ d := by omega
      have hsd : s.size ≤ d + g := by omega
      clear I2 GI HR' hd hx PS HR HST hsf hin hwd hli g2 g3 g4 g1 hg3
      generalize hWI : wr.iterAt it s d = WI at *
      have hWI2 := hide hWI
      clear hWI
      have x0 : (WI).cell? ⟨w.heap.size + 1 + 1, 0, none⟩ = some (.slice ba nb bc) := ((unhide PI).bx).cell 0
      have xz0 : (WI).frozen? ⟨w.heap.size + 1 + 1, 0, none⟩ = false := ((unhide PI).bx).frozen 0
      have x1 : (WI).cell? ⟨w.heap.size + 1 + 1, 1, none⟩ = some (.slice aa nb ac) := ((unhide PI).bx).cell 1
      have xz1 : (WI).frozen? ⟨w.heap.size + 1 + 1, 1, none⟩ = false := ((unhide PI).bx).frozen 1
      have x2 : (WI).cell? ⟨w.heap.size + 1 + 1, 2, none⟩ = some (.slice ha nh hc) := ((unhide PI).bx).cell 2
      have xz2 : (WI).frozen? ⟨w.heap.size + 1 + 1, 2, none⟩ = false := ((unhide PI).bx).frozen 2
      have pf : WI.cell? ⟨w.heap.size, 6, none⟩ = some (.int .i32 fi) := (unhide PI).p0.cell 6
      have hil := iter_lt (unhide PI).ir
      have hrr := unhide HRR
      rw [unhide L1, unhide L2] at hrr
      by_cases hm : nb + nh = 4096
      · rw [if_pos hm] at hrr
        subst hrr
        have hmI : ((nb : Int) + (nh : Int)) = 4096 := by omega
        have k0 : WI.cell? ⟨w.heap.size + 1, 0, none⟩ = some (.slice none 0 0) := (unhide PI).p1.cell 0
        have n0 : WI.frozen? ⟨w.heap.size + 1, 0, none⟩ = false := (unhide PI).p1.frozen 0
        have k1 : WI.cell? ⟨w.heap.size + 1, 1, none⟩ = some (.slice none 0 0) := (unhide PI).p1.cell 1
        have n1 : WI.frozen? ⟨w.heap.size + 1, 1, none⟩ = false := (unhide PI).p1.frozen 1
        have k2 : WI.cell? ⟨w.heap.size + 1, 2, none⟩ = some (.slice none 0 0) := (unhide PI).p1.cell 2
        have n2 : WI.frozen? ⟨w.heap.size + 1, 2, none⟩ = false := (unhide PI).p1.frozen 2
        go_wp2_with fail
        exact bodyPost_ret (v := .tuple #[.agg #[.slice none 0 0, .slice none 0 0, .slice none 0 0], .int .i64 4]) (retP Try.results25 rfl rfl ((((unhide PI).p1.set 0 (.slice none 0 0)).set 1 (.slice none 0 0)).set 2 (.slice none 0 0))) rfl ⟨_, _, _, rfl, belP ((unhide PI).bl), World.ownsRow_nil _ _ _ _, World.ownsRow_nil _ _ _ _, World.ownsRow_nil _ _ _ _⟩
      · have hmI : (((nb : Int) + (nh : Int)) == 4096) = false := by rw [beq_eq_false_iff_ne]; omega
        rw [if_neg hm] at hrr
        have IS := fun w => isBasic_any hzw (by omega) w
        obtain ⟨c, hc'⟩ : ∃ c, basicB (x : Int) = c := ⟨_, rfl⟩
        rw [hc'] at IS hrr
        have HIS := hide IS
        have hx1 : (x : Int) ≤ 1114111 := (width_bdH hzw).2
        cases c with
        | true =>
          rw [if_pos rfl] at hrr
          have hxb := basic_lo hc'
          have HRN := hide hrr
          obtain ⟨iU, hif, hz0, hz1, hz2⟩ := info_parts infoUb
          have HIU := hide (And.intro hif (And.intro hz0 (And.intro hz1 hz2)))
          obtain ⟨iJ, hif2, hy0, hy1, hy2⟩ := info_parts infoJb
          have HIJ := hide (And.intro hif2 (And.intro hy0 (And.intro hy1 hy2)))
          clear hif hz0 hz1 hz2 hif2 hy0 hy1 hy2 hrr IS hc' HRR
          go_wp2_with (first
            | (go_at_call 40; refine (unhide HIS _).mono ?_; rintro e w3 ⟨rfl, q3, rfl⟩)
            | (at_builtin; refine wpList_append_own _ rfl _ _ 43 rfl (it + 1) 5 iU (.int .u8 0) 1 1 Try.underlying43 (unhide HIU).1 (unhide HIU).2.1 (unhide HIU).2.2.1 (unhide HIU).2.2.2 rfl (by decide) _ nb _ rfl (World.ownsRow.alloc (w := WI.drewN q3) (unhide PI).rb _) ⟨WI.heap.size, 0, none⟩ 1 1 [.int .u8 (x : Int)] rfl rfl ?c1 ?c2 ?c3 ?c4 ?c5 ?_))
          case c1 =>
            intro j u hj
            rw [addRb]
            exact ((Blk.new (WI.drewN q3) #[.int .u8 (x : Int)] 5).cell (0 + j)).trans (by rw [← hj]; simp)
          case c2 => intro u hu; simp at hu; rw [hu]; rfl
          case c3 => unfold maxLen; omega
          case c4 => omega
          case c5 => simp; omega
          intro v4 w4 h1 h2 _
          obtain ⟨av4, cv4, rfl⟩ : ∃ va vc, v4 = .slice va (nb + 1) vc := by
            rcases h1.2 with ⟨rfl, h0⟩ | ⟨g, cap, cur, rfl, _⟩
            · omega
            · exact ⟨_, cap, rfl⟩
          obtain ⟨b4, P4⟩ := PtS.put0 ((unhide PI).drew q3) h1 h2
          have HP4 := hide P4
          have u0 : (w4).cell? ⟨w.heap.size + 1 + 1, 0, none⟩ = some (.slice ba nb bc) := (b4).cell 0
          have uz0 : (w4).frozen? ⟨w.heap.size + 1 + 1, 0, none⟩ = false := (b4).frozen 0
          have u1 : (w4).cell? ⟨w.heap.size + 1 + 1, 1, none⟩ = some (.slice aa nb ac) := (b4).cell 1
          have uz1 : (w4).frozen? ⟨w.heap.size + 1 + 1, 1, none⟩ = false := (b4).frozen 1
          have u2 : (w4).cell? ⟨w.heap.size + 1 + 1, 2, none⟩ = some (.slice ha nh hc) := (b4).cell 2
          have uz2 : (w4).frozen? ⟨w.heap.size + 1 + 1, 2, none⟩ = false := (b4).frozen 2
          have z4 := h2.size
          simp only [World.size_alloc] at z4
          have z5 : (WI.drewN q3).heap.size = WI.heap.size := rfl
          clear h1 h2 b4 P4 x0 x1 x2 xz0 xz1 xz2
          go_wp2_with (at_builtin; go_loud (refine wpList_append_own _ rfl _ _ 49 rfl (it + 1) 3 iJ (.int .i64 0) 1 8 Try.underlying49 (unhide HIJ).1 (unhide HIJ).2.1 (unhide HIJ).2.2.1 (unhide HIJ).2.2.2 rfl (by decide) _ nb _ rfl (World.ownsRow.alloc (unhide HP4).ra _) ⟨w4.heap.size, 0, none⟩ 1 1 [.int .i64 (pos : Int)] rfl rfl ?c1 ?c2 ?c3 ?c4 ?c5 ?_))
          case c1 =>
            intro j u hj
            rw [addRb, ← show (w4.setCell ⟨w.heap.size + 1 + 1, 0, none⟩ (.slice av4 (nb + 1) cv4)).heap.size = w4.heap.size by simp]
            exact ((Blk.new (w4.setCell ⟨w.heap.size + 1 + 1, 0, none⟩ (.slice av4 (nb + 1) cv4)) #[.int .i64 (pos : Int)] 3).cell (0 + j)).trans (by rw [← hj]; simp)
          case c2 => intro u hu; simp at hu; rw [hu]; rfl
          case c3 => unfold maxLen; omega
          case c4 => omega
          case c5 => simp; omega
          intro v5 w5 h1 h2 _
          obtain ⟨av5, cv5, rfl⟩ : ∃ va vc, v5 = .slice va (nb + 1) vc := by
            rcases h1.2 with ⟨rfl, h0⟩ | ⟨g, cap, cur, rfl, _⟩
            · omega
            · exact ⟨_, cap, rfl⟩
          obtain ⟨b5, P5⟩ := PtS.put1 (unhide HP4) h1 h2
          have HP5 := hide P5
          have y0 : (w5).cell? ⟨w.heap.size + 1 + 1, 0, none⟩ = some (.slice av4 (nb + 1) cv4) := (b5).cell 0
          have yz0 : (w5).frozen? ⟨w.heap.size + 1 + 1, 0, none⟩ = false := (b5).frozen 0
          have y1 : (w5).cell? ⟨w.heap.size + 1 + 1, 1, none⟩ = some (.slice aa nb ac) := (b5).cell 1
          have yz1 : (w5).frozen? ⟨w.heap.size + 1 + 1, 1, none⟩ = false := (b5).frozen 1
          have y2 : (w5).cell? ⟨w.heap.size + 1 + 1, 2, none⟩ = some (.slice ha nh hc) := (b5).cell 2
          have yz2 : (w5).frozen? ⟨w.heap.size + 1 + 1, 2, none⟩ = false := (b5).frozen 2
          clear h1 h2 b5 P5 u0 u1 u2 uz0 uz1 uz2
          go_wp2_with fail
          go_roundw
          case rel =>
            refine ⟨d, g, b ++ [(x : Int)], a ++ [(pos : Int)], h, nb + 1, nh, .slice av4 (nb + 1) cv4, .slice av5 (nb + 1) cv5, .slice ha nh hc, hsd, hide ?_, by rw [List.length_append, unhide L1]; rfl, unhide L2, by rw [List.length_append, unhide L3]; rfl, by omega, HST', HRN⟩
            have := unhide HP5
            simpa [encU, encJ] using this
          case measure =>
            have h9 := iterPos_at (unhide HP5).ir
            have := (unhide hIP).1
            have := (unhide hIP).2
            simp only [h9]
            omega
        | false =>
          rw [if_neg (by decide)] at hrr
          have HRN := hide hrr
          by_cases hfi : fi ≤ (x : Int)
          · have hrr2 := unhide HRN
            rw [if_pos hfi] at hrr2
            have HRN2 := hide hrr2
            obtain ⟨iH, hif, hz0, hz1, hz2⟩ := info_parts infoHb
            have HIH := hide (And.intro hif (And.intro hz0 (And.intro hz1 hz2)))
            clear hif hz0 hz1 hz2 hrr IS hc' HRR hrr2 HRN
            go_wp2_with (first
              | (go_at_call 40; refine (unhide HIS _).mono ?_; rintro e w3 ⟨rfl, q3, rfl⟩)
              | (at_builtin; refine wpList_append_own _ rfl _ _ 50 rfl (it + 1) 80 iH (.agg #[.int .i32 0, .int .i64 0]) 2 16 Try.underlying50 (unhide HIH).1 (unhide HIH).2.1 (unhide HIH).2.2.1 (unhide HIH).2.2.2 rfl (by decide) _ nh _ rfl (World.ownsRow.alloc (w := WI.drewN q3) (unhide PI).rh _) ⟨WI.heap.size, 0, none⟩ 1 1 [.int .i32 (x : Int), .int .i64 (pos : Int)] rfl rfl ?c1 ?c2 ?c3 ?c4 ?c5 ?_))
            case c1 =>
              intro j u hj
              rw [addRb]
              exact ((Blk.new (WI.drewN q3) #[.int .i32 (x : Int), .int .i64 (pos : Int)] 80).cell (0 + j)).trans (by rw [← hj]; simp)
            case c2 => intro u hu; simp at hu; rcases hu with rfl | rfl <;> rfl
            case c3 => unfold maxLen; omega
            case c4 => omega
            case c5 => simp; omega
            intro v4 w4 h1 h2 _
            obtain ⟨av4, cv4, rfl⟩ : ∃ va vc, v4 = .slice va (nh + 1) vc := by
              rcases h1.2 with ⟨rfl, h0⟩ | ⟨g, cap, cur, rfl, _⟩
              · omega
              · exact ⟨_, cap, rfl⟩
            obtain ⟨b4, P4⟩ := PtS.put2 ((unhide PI).drew q3) h1 h2
            have HP4 := hide P4
            have u0 : (w4).cell? ⟨w.heap.size + 1 + 1, 0, none⟩ = some (.slice ba nb bc) := (b4).cell 0
            have uz0 : (w4).frozen? ⟨w.heap.size + 1 + 1, 0, none⟩ = false := (b4).frozen 0
            have u1 : (w4).cell? ⟨w.heap.size + 1 + 1, 1, none⟩ = some (.slice aa nb ac) := (b4).cell 1
            have uz1 : (w4).frozen? ⟨w.heap.size + 1 + 1, 1, none⟩ = false := (b4).frozen 1
            have u2 : (w4).cell? ⟨w.heap.size + 1 + 1, 2, none⟩ = some (.slice ha nh hc) := (b4).cell 2
            have uz2 : (w4).frozen? ⟨w.heap.size + 1 + 1, 2, none⟩ = false := (b4).frozen 2
            clear h1 h2 b4 P4 x0 x1 x2 xz0 xz1 xz2
            go_wp2_with fail
            go_roundw
            case rel =>
              refine ⟨d, g, b, a, h ++ [((x : Int), (pos : Int))], nb, nh + 1, .slice ba nb bc, .slice aa nb ac, .slice av4 (nh + 1) cv4, hsd, hide ?_, unhide L1, by rw [List.length_append, unhide L2]; rfl, unhide L3, by omega, HST', HRN2⟩
              have := unhide HP4
              simpa [encH] using this
            case measure =>
              have h9 := iterPos_at (unhide HP4).ir
              have := (unhide hIP).1
              have := (unhide hIP).2
              simp only [h9]
              omega
          · rw [if_neg hfi] at hrr
            subst hrr
            clear IS hc' HRR HRN
            have k0 : WI.cell? ⟨w.heap.size + 1, 0, none⟩ = some (.slice none 0 0) := (unhide PI).p1.cell 0
            have n0 : WI.frozen? ⟨w.heap.size + 1, 0, none⟩ = false := (unhide PI).p1.frozen 0
            have k1 : WI.cell? ⟨w.heap.size + 1, 1, none⟩ = some (.slice none 0 0) := (unhide PI).p1.cell 1
            have n1 : WI.frozen? ⟨w.heap.size + 1, 1, none⟩ = false := (unhide PI).p1.frozen 1
            have k2 : WI.cell? ⟨w.heap.size + 1, 2, none⟩ = some (.slice none 0 0) := (unhide PI).p1.cell 2
            have n2 : WI.frozen? ⟨w.heap.size + 1, 2, none⟩ = false := (unhide PI).p1.frozen 2
            go_wp2_with (go_at_call 40; refine (unhide HIS _).mono ?_; rintro e w3 ⟨rfl, q3, rfl⟩)
            exact bodyPost_ret (v := .tuple #[.agg #[.slice none 0 0, .slice none 0 0, .slice none 0 0], .int .i64 50]) (retP Try.results25 rfl rfl (((((unhide PI).drew q3).p1.set 0 (.slice none 0 0)).set 1 (.slice none 0 0)).set 2 (.slice none 0 0))) rfl ⟨_, _, _, rfl, belP (((unhide PI).drew q3).bl), World.ownsRow_nil _ _ _ _, World.ownsRow_nil _ _ _ _, World.ownsRow_nil _ _ _ _⟩
    · have hnx : ∀ ty, (Instr.next (.pointer (some ⟨it, 0, none⟩)) true ty).run Try.prog wr = _ := fun ty => Lib.run_next_end_at wr it s pos ty (unhide PS).ir hp
      have hR2 := unhide HR
      rw [startsFrom_end s f pos hp] at hR2
      obtain rfl : R = ((b, a, h), 0) := hR2.symm
      clear HR HNE HST
      obtain ⟨ba, bc, rfl⟩ : ∃ va vc, vb = .slice va nb vc := by
        rcases (unhide PS).rb.2 with ⟨rfl, h0⟩ | ⟨g, cap, cur, rfl, _⟩
        · exact ⟨none, 0, by rw [h0]⟩
        · exact ⟨_, cap, rfl⟩
      obtain ⟨aa, ac, rfl⟩ : ∃ va' vc', va = .slice va' nb vc' := by
        rcases (unhide PS).ra.2 with ⟨rfl, h0⟩ | ⟨g, cap, cur, rfl, _⟩
        · exact ⟨none, 0, by rw [h0]⟩
        · exact ⟨_, cap, rfl⟩
      obtain ⟨ha, hc, rfl⟩ : ∃ va' vc', vh = .slice va' nh vc' := by
        rcases (unhide PS).rh.2 with ⟨rfl, h0⟩ | ⟨g, cap, cur, rfl, _⟩
        · exact ⟨none, 0, by rw [h0]⟩
        · exact ⟨_, cap, rfl⟩
      have hg3 := (unhide PS).hg
      have x0 : (wr).cell? ⟨w.heap.size + 1 + 1, 0, none⟩ = some (.slice ba nb bc) := ((unhide PS).bx).cell 0
      have xz0 : (wr).frozen? ⟨w.heap.size + 1 + 1, 0, none⟩ = false := ((unhide PS).bx).frozen 0
      have x1 : (wr).cell? ⟨w.heap.size + 1 + 1, 1, none⟩ = some (.slice aa nb ac) := ((unhide PS).bx).cell 1
      have xz1 : (wr).frozen? ⟨w.heap.size + 1 + 1, 1, none⟩ = false := ((unhide PS).bx).frozen 1
      have x2 : (wr).cell? ⟨w.heap.size + 1 + 1, 2, none⟩ = some (.slice ha nh hc) := ((unhide PS).bx).cell 2
      have xz2 : (wr).frozen? ⟨w.heap.size + 1 + 1, 2, none⟩ = false := ((unhide PS).bx).frozen 2
      have k0 : wr.cell? ⟨w.heap.size + 1, 0, none⟩ = some (.slice none 0 0) := (unhide PS).p1.cell 0
      have n0 : wr.frozen? ⟨w.heap.size + 1, 0, none⟩ = false := (unhide PS).p1.frozen 0
      have k1 : wr.cell? ⟨w.heap.size + 1, 1, none⟩ = some (.slice none 0 0) := (unhide PS).p1.cell 1
      have n1 : wr.frozen? ⟨w.heap.size + 1, 1, none⟩ = false := (unhide PS).p1.frozen 1
      have k2 : wr.cell? ⟨w.heap.size + 1, 2, none⟩ = some (.slice none 0 0) := (unhide PS).p1.cell 2
      have n2 : wr.frozen? ⟨w.heap.size + 1, 2, none⟩ = false := (unhide PS).p1.frozen 2
      have L1 := hide g2
      have L2 := hide g3
      have L3 := hide g4
      clear g2 g3 g4 hR2
      go_wp2_with fail
      exact bodyPost_ret (v := .tuple #[.agg #[.slice ba nb bc, .slice aa nb ac, .slice ha nh hc], .int .i64 0]) (retP Try.results25 rfl rfl ((((unhide PS).p1.set 0 (.slice ba nb bc)).set 1 (.slice aa nb ac)).set 2 (.slice ha nh hc))) rfl ⟨_, _, _, rfl, belP (unhide PS).bl, own_baseB (by rw [unhide L1]; exact rowP (unhide PS).rb (by omega)) (by omega), own_baseB (by rw [unhide L3]; exact rowP (unhide PS).ra (by omega)) (by omega), own_baseB (by rw [unhide L2]; exact rowP (unhide PS).rh (by omega)) (by omega)⟩
end Go.Proofs.Ythjndkjbjflmfaa
