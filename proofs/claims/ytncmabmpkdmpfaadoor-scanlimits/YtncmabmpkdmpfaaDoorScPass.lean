/- rest and pass: the rest of a text; lines and columns. -/
import Derived.Test.YtncmabmpkdmpfaaDoorScGap
import Derived.Test.YtncmabmpkdmpfaaDoorSl
import Derived.Maps.AppendAt
import Derived.Deep.QuietTactic
namespace Go.Proofs.YtncmabmpkdmpfaaDoor
open Go.RowKit Go.Shelf
set_option linter.unusedVariables false
/-- A cutter's cells. -/
abbrev ctrC (s : ByteArray) (b l c : Int) (v : Value) : Array Value := #[.string s, .int .i64 b, .int .i64 l, .int .i64 c, v]
set_option maxHeartbeats 2000000 in
theorem rest_any (C : Nat) (s : ByteArray) (b : Nat) (hb : b ≤ s.size) (hs : s.size ≤ 4294967281) (l c : Int) (v : Value) (w : World) (h : Blk w C (ctrC s b l c v) 53) :
    Calls Tryd.prog 43 #[.pointer (some ⟨C, 0, none⟩)] w fun e w' => e = .returned (.string (s.extract b s.size)) ∧ ∃ n, w' = w.drewN n := by
  have k0 := h.cell 0
  have k1 := h.cell 1
  have hb1 : (b : Int) ≤ (s.size : Int) := by omega
  have hb2 : ((b : Nat) : Int).toNat = b := by omega
  clear h
  go_enter Tryd.func43, Tryd.ntmps43
  go_wp2
  go_quiet (fail)
  go_wp2
  go_ret
  exact ⟨rfl, _, rfl⟩
/-- Line and column behind one spot more. -/
def lcStep (t : ByteArray) (x : Nat × Nat) (p : Nat) : Nat × Nat := if rn t p = 10 then (x.1 + 1, 1) else (x.1, x.2 + 1)
def lcF (t : ByteArray) (x : Nat × Nat) (ps : List Nat) : Nat × Nat := ps.foldl (lcStep t) x
theorem lcF_snoc (t : ByteArray) (x : Nat × Nat) (ps : List Nat) (p : Nat) : lcF t x (ps ++ [p]) = lcStep t (lcF t x ps) p := by simp [lcF]
theorem lcF_le (t : ByteArray) (x : Nat × Nat) : ∀ ps : List Nat, (lcF t x ps).1 ≤ x.1 + ps.length ∧ (lcF t x ps).2 ≤ x.2 + 1 + ps.length := by
  intro ps
  induction ps generalizing x with
  | nil => exact ⟨by simp [lcF], by simp [lcF]⟩
  | cons p ps ih =>
    have := ih (lcStep t x p)
    have e : lcF t x (p :: ps) = lcF t (lcStep t x p) ps := rfl
    rw [e, List.length_cons]
    have h1 : (lcStep t x p).1 ≤ x.1 + 1 ∧ (lcStep t x p).2 ≤ x.2 + 1 := by unfold lcStep; split <;> simp
    omega
/-- What pass's loop stands on. -/
structure PassSt (w wr : World) (C I : Nat) (u : ByteArray) (pos : Nat) (s : ByteArray) (b l c : Nat) (v : Value) : Prop where
  blk : Blk wr C (ctrC s b l c v) 53
  it : wr.heap[I]? = some (.stringIter u pos)
  gr : w.grownBy wr (some C)
  ne : C < I
  ge : w.heap.size ≤ I
theorem iterAt_blk {wr : World} {C I : Nat} {cs : Array Value} {ty : TypeId} (h : Blk wr C cs ty) (hne : C ≠ I) (u : ByteArray) (pos : Nat) : Blk (wr.iterAt I u pos) C cs ty := (Lib.iterAt_other wr I C u pos hne).trans h
set_option maxRecDepth 100000 in
set_option maxHeartbeats 4000000 in
theorem pass_any (C : Nat) (s : ByteArray) (b n : Nat) (hbn : b + n ≤ s.size) (hs : s.size ≤ 4294967281) (l c : Nat) (hl : l ≤ 4294967281) (hc : c ≤ 4294967281) (v : Value) (w : World) (h : Blk w C (ctrC s b l c v) 53) :
    Calls Tryd.prog 44 #[.pointer (some ⟨C, 0, none⟩), .int .i64 n] w fun e w' => e = .returned (.tuple #[]) ∧
      Blk w' C (ctrC s ((b + n : Nat) : Int) (lcF ((s.extract b s.size).extract 0 n) (l, c) (starts ((s.extract b s.size).extract 0 n))).1 (lcF ((s.extract b s.size).extract 0 n) (l, c) (starts ((s.extract b s.size).extract 0 n))).2 v) 53 ∧ w.grownBy w' (some C) := by
  have hz1 : (s.extract b s.size).size = s.size - b := by rw [ByteArray.size_extract]; omega
  obtain ⟨u, hu⟩ : ∃ u, u = (s.extract b s.size).extract 0 n := ⟨_, rfl⟩
  have hz2 : u.size = n := by rw [hu, ByteArray.size_extract, hz1]; omega
  rw [← hu]
  have hue : (s.extract b s.size).extract 0 n = u := hu.symm
  have hn1 : (n : Int) ≤ ((s.extract b s.size).size : Int) := by omega
  have hn2 : ((n : Nat) : Int).toNat = n := by omega
  have hnb : (n : Int) ≤ 4294967281 := by omega
  have hbb : (b : Int) ≤ 4294967281 := by omega
  have HZ2 := hide hz2
  have hsl := starts_length u
  have hslb : (starts u).length ≤ 4294967281 := by omega
  have HB := hide h
  clear hu hz1 hz2 h
  go_enter Tryd.func44, Tryd.ntmps44
  go_wp2_with fail
  refine (rest_any C s b (by omega) hs l c v _ (unhide HB)).mono ?_
  rintro e w1 ⟨rfl, q, rfl⟩
  have HB1 : Hz (Blk (w.drewN q) C (ctrC s b l c v) 53) := hide (unhide HB)
  have HG1 : Hz (w.grownBy (w.drewN q) (some C)) := hide ⟨rfl, rfl, rfl, Nat.le_refl _, fun _ _ _ => rfl⟩
  have hsz1 : Hz ((w.drewN q).heap.size = w.heap.size) := hide rfl
  have hCw := (unhide HB).lt
  clear HB
  generalize w.drewN q = w1 at *
  go_wp2_with fail
  have HST : Hz (PassSt w (w1.iter u 0) C w1.heap.size u 0 s b l c v) := hide ⟨(unhide HB1).alloc _, World.alloc_heap_new w1 _, (unhide HG1).trans (World.grownBy_alloc _ _ _), (unhide HB1).lt, by have := unhide hsz1; omega⟩
  obtain ⟨I, hI⟩ : ∃ I, I = w1.heap.size := ⟨_, rfl⟩
  rw [← hI] at HST
  rw [← hI]
  clear HB1 HG1 hsz1 hI
  go_loopw [5] (fun _ wr => ∃ (pre : List Nat) (pos f l' c' : Nat), Hz (starts u = pre ++ startsFrom u f pos) ∧ u.size ≤ pos + f ∧ Hz (lcF u (l, c) pre = (l', c')) ∧ Hz (PassSt w wr C I u pos s b l' c' v)) (fun _ wr => u.size - wr.iterPos I)
  case atStart => exact ⟨[], 0, u.size, l, c, hide rfl, by omega, hide rfl, HST⟩
  case round =>
    obtain ⟨pre, pos, f, l', c', HS, hf, HL, HR⟩ := hrel
    have hR := unhide HR
    have hlc := lcF_le u (l, c) pre
    rw [unhide HL] at hlc
    by_cases hp : pos < u.size
    · obtain ⟨g, rfl⟩ : ∃ g, f = g + 1 := ⟨f - 1, by omega⟩
      have hpl : pre.length < (starts u).length := by
        have h1 := congrArg List.length (unhide HS)
        rw [startsFrom_cons u g pos hp] at h1
        simp at h1
        omega
      have hlb : (l' : Int) ≤ 8589934600 := by have : l' ≤ l + pre.length := hlc.1; omega
      have hcb : (c' : Int) ≤ 8589934600 := by have : c' ≤ c + 1 + pre.length := hlc.2; omega
      have hnx : ∀ ty, (Instr.next (.pointer (some ⟨I, 0, none⟩)) true ty).run Tryd.prog wr = _ := fun ty => Lib.run_next_any_at wr I u pos ty hR.it hp
      have hwd := wd_pos u pos
      obtain ⟨d, hd⟩ : ∃ d, d = pos + (Utf8.decode u pos).2 := ⟨_, rfl⟩
      obtain ⟨x, hx⟩ : ∃ x, x = (Utf8.decode u pos).1 := ⟨_, rfl⟩
      rw [← hd, ← hx] at hnx
      have hne : C ≠ I := by have := hR.ne; omega
      have b0 := iterAt_blk hR.blk hne u d
      have b1 : Blk ((wr.iterAt I u d).setCell ⟨C, 3, none⟩ (.int .i64 ((c' : Int) + 1))) C (ctrC s b l' ((c' : Int) + 1) v) 53 := b0.set 3 _
      have b2 : Blk (((wr.iterAt I u d).setCell ⟨C, 3, none⟩ (.int .i64 ((c' : Int) + 1))).setCell ⟨C, 2, none⟩ (.int .i64 ((l' : Int) + 1))) C (ctrC s b ((l' : Int) + 1) ((c' : Int) + 1) v) 53 := b1.set 2 _
      have b3 : Blk ((((wr.iterAt I u d).setCell ⟨C, 3, none⟩ (.int .i64 ((c' : Int) + 1))).setCell ⟨C, 2, none⟩ (.int .i64 ((l' : Int) + 1))).setCell ⟨C, 3, none⟩ (.int .i64 1)) C (ctrC s b ((l' : Int) + 1) 1 v) 53 := b2.set 3 _
      have i0 : (wr.iterAt I u d).heap[I]? = some (.stringIter u d) := Lib.iterAt_heap wr I u pos d hR.it
      have hIne : I ≠ C := fun e => hne e.symm
      have i1 := (Below.heap_setCell (wr.iterAt I u d) ⟨C, 3, none⟩ (.int .i64 ((c' : Int) + 1)) I hIne).trans i0
      have i2 := (Below.heap_setCell _ ⟨C, 2, none⟩ (.int .i64 ((l' : Int) + 1)) I hIne).trans i1
      have i3 := (Below.heap_setCell _ ⟨C, 3, none⟩ (.int .i64 1) I hIne).trans i2
      have g0 : w.grownBy (wr.iterAt I u d) (some C) := hR.gr.andThen (grown_iterAt wr I u d) (fun j hj => by cases hj; exact .inl hR.ge)
      have g1 := g0.trans (grown_setCell' (wr.iterAt I u d) ⟨C, 3, none⟩ (.int .i64 ((c' : Int) + 1)))
      have g2 := g1.trans (grown_setCell' _ ⟨C, 2, none⟩ (.int .i64 ((l' : Int) + 1)))
      have g3 := g2.trans (grown_setCell' _ ⟨C, 3, none⟩ (.int .i64 1))
      have c03 := b0.cell 3
      have f03 := b0.frozen 3
      have c12 := b1.cell 2
      have f12 := b1.frozen 2
      have f23 := b2.frozen 3
      have c23 := b2.cell 3
      have HS2 : Hz (starts u = (pre ++ [pos]) ++ startsFrom u g d) := hide (by rw [unhide HS, startsFrom_cons u g pos hp, hd]; simp)
      have hL2 : lcF u (l, c) (pre ++ [pos]) = if x = 10 then (l' + 1, 1) else (l', c' + 1) := by rw [lcF_snoc, unhide HL, hx]; rfl
      by_cases h10 : x = 10
      · rw [if_pos h10] at hL2
        have HL2 := hide hL2
        have HB3 := hide (And.intro b3 (And.intro i3 g3))
        have h10' : ((x : Int) == 10) = true := by rw [beq_iff_eq]; omega
        have HGE := hide (And.intro hR.ne (And.intro hR.ge (And.intro hd hwd)))
        have HIP := hide (iterPos_at hR.it)
        clear b0 b1 b2 b3 i0 i1 i2 i3 g0 g1 g2 g3 hL2 HS HL HR hR hlc hd hx h10 hwd
        go_wp2_with fail
        go_roundw
        case rel => exact ⟨pre ++ [pos], d, g, l' + 1, 1, HS2, by have := (unhide HGE).2.2.1; have := (unhide HGE).2.2.2; simp only [wd] at this; omega, HL2, hide ⟨by have := (unhide HB3).1; simpa using this, (unhide HB3).2.1, (unhide HB3).2.2, (unhide HGE).1, (unhide HGE).2.1⟩⟩
        case measure =>
          rw [iterPos_at (unhide HB3).2.1, unhide HIP]
          have h1 := (unhide HGE).2.2.1
          have h2 := (unhide HGE).2.2.2
          simp only [wd] at h2
          omega
      · rw [if_neg h10] at hL2
        have HL2 := hide hL2
        have HB3 := hide (And.intro b1 (And.intro i1 g1))
        have h10' : ((x : Int) == 10) = false := by rw [beq_eq_false_iff_ne]; omega
        have HGE := hide (And.intro hR.ne (And.intro hR.ge (And.intro hd hwd)))
        have HIP := hide (iterPos_at hR.it)
        clear b0 b1 b2 b3 i0 i1 i2 i3 g0 g1 g2 g3 hL2 HS HL HR hR hlc hd hx h10 hwd
        go_wp2_with fail
        go_roundw
        case rel => exact ⟨pre ++ [pos], d, g, l', c' + 1, HS2, by have := (unhide HGE).2.2.1; have := (unhide HGE).2.2.2; simp only [wd] at this; omega, HL2, hide ⟨by have := (unhide HB3).1; simpa using this, (unhide HB3).2.1, (unhide HB3).2.2, (unhide HGE).1, (unhide HGE).2.1⟩⟩
        case measure =>
          rw [iterPos_at (unhide HB3).2.1, unhide HIP]
          have h1 := (unhide HGE).2.2.1
          have h2 := (unhide HGE).2.2.2
          simp only [wd] at h2
          omega
    · have hnx : ∀ ty, (Instr.next (.pointer (some ⟨I, 0, none⟩)) true ty).run Tryd.prog wr = _ := fun ty => Lib.run_next_end_at wr I u pos ty hR.it hp
      have hst := unhide HS
      rw [startsFrom_end u f pos hp, List.append_nil] at hst
      have k1 := hR.blk.cell 1
      have f1 := hR.blk.frozen 1
      have hE : Blk (wr.setCell ⟨C, 1, none⟩ (.int .i64 ((b : Int) + n))) C (ctrC s ((b : Int) + n) l' c' v) 53 := hR.blk.set 1 _
      have hG := hR.gr.trans (grown_setCell' wr ⟨C, 1, none⟩ (.int .i64 ((b : Int) + n)))
      have HL2 : Hz (lcF u (l, c) (starts u) = (l', c')) := hide (by rw [hst]; exact unhide HL)
      have HE := hide (And.intro hE hG)
      clear hE hG hst HS HL HR hR hlc
      go_wp2_with fail
      go_end0
      refine ⟨rfl, ?_, (unhide HE).2⟩
      rw [unhide HL2]
      exact (unhide HE).1
end Go.Proofs.YtncmabmpkdmpfaaDoor
