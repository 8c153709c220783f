/- Texts of this claim, one behind the other. -/
import Derived.Test.YtcnhkhjkeemafaaGreatDoorM2
import Derived.Maps.AppendAt
import Derived.Deep.QuietTactic
import Derived.Test.YtcnhkhjkeemafaaGreatDoorM1
import Derived.ScopeJumps
import Derived.WalkMore
import Derived.Deep.RegionWith
import Derived.Deep.RegionLaw
import Derived.Deep.AppendLies
import Derived.OwnWalk
import Derived.Laws.Bits64b
import Derived.Laws.IdiomStrings
/- rest and pass: the rest of a text; lines and columns. -/
namespace Go.Proofs.YtcnhkhjkeemafaaGreatDoor
open Go.RowKit Go.Shelf
set_option linter.unusedVariables false
/-- A cutter's cells. -/
abbrev ctrC (s : ByteArray) (b l c : Int) (v : Value) : Array Value := #[.string s, .int .i64 b, .int .i64 l, .int .i64 c, v]
set_option maxHeartbeats 2000000 in
theorem rest_any (C : Nat) (s : ByteArray) (b : Nat) (hb : b ≤ s.size) (hs : s.size ≤ 4294967281) (l c : Int) (v : Value) (w : World) (h : Blk w C (ctrC s b l c v) 53) :
    Calls Tryz.prog 44 #[.pointer (some ⟨C, 0, none⟩)] w fun e w' => e = .returned (.string (s.extract b s.size)) ∧ ∃ n, w' = w.drewN n := by
  have k0 := h.cell 0
  have k1 := h.cell 1
  have hb1 : (b : Int) ≤ (s.size : Int) := by omega
  have hb2 : ((b : Nat) : Int).toNat = b := by omega
  clear h
  go_enter Tryz.func44, Tryz.ntmps44
  go_wp2
  go_quiet (fail)
  go_wp2
  go_ret
  exact ⟨rfl, _, rfl⟩
/-- Line and column behind one spot more. -/
def lcStep (t : ByteArray) (x : Nat × Nat) (p : Nat) : Nat × Nat := if rn t p = 10 then (x.1 + 1, 1) else (x.1, x.2 + 1)
def lcF (t : ByteArray) (x : Nat × Nat) (ps : List Nat) : Nat × Nat := ps.foldl (lcStep t) x
theorem lcF_snoc (t : ByteArray) (x : Nat × Nat) (ps : List Nat) (p : Nat) : lcF t x (ps ++ [p]) = lcStep t (lcF t x ps) p := by simp [lcF]
theorem lcF_le (t : ByteArray) (x : Nat × Nat) : ∀ ps : List Nat, (lcF t x ps).1 ≤ x.1 + ps.length ∧ (lcF t x ps).2 ≤ x.2 + 1 + ps.length := by
  intro ps
  induction ps generalizing x with
  | nil => exact ⟨by simp [lcF], by simp [lcF]⟩
  | cons p ps ih =>
    have := ih (lcStep t x p)
    have e : lcF t x (p :: ps) = lcF t (lcStep t x p) ps := rfl
    rw [e, List.length_cons]
    have h1 : (lcStep t x p).1 ≤ x.1 + 1 ∧ (lcStep t x p).2 ≤ x.2 + 1 := by unfold lcStep; split <;> simp
    omega
/-- What pass's loop stands on. -/
structure PassSt (w wr : World) (C I : Nat) (u : ByteArray) (pos : Nat) (s : ByteArray) (b l c : Nat) (v : Value) : Prop where
  blk : Blk wr C (ctrC s b l c v) 53
  it : wr.heap[I]? = some (.stringIter u pos)
  gr : w.grownBy wr (some C)
  ne : C < I
  ge : w.heap.size ≤ I
theorem iterAt_blk {wr : World} {C I : Nat} {cs : Array Value} {ty : TypeId} (h : Blk wr C cs ty) (hne : C ≠ I) (u : ByteArray) (pos : Nat) : Blk (wr.iterAt I u pos) C cs ty := (Lib.iterAt_other wr I C u pos hne).trans h
set_option maxRecDepth 100000 in
set_option maxHeartbeats 4000000 in
theorem pass_any (C : Nat) (s : ByteArray) (b n : Nat) (hbn : b + n ≤ s.size) (hs : s.size ≤ 4294967281) (l c : Nat) (hl : l ≤ 4294967281) (hc : c ≤ 4294967281) (v : Value) (w : World) (h : Blk w C (ctrC s b l c v) 53) :
    Calls Tryz.prog 45 #[.pointer (some ⟨C, 0, none⟩), .int .i64 n] w fun e w' => e = .returned (.tuple #[]) ∧
      Blk w' C (ctrC s ((b + n : Nat) : Int) (lcF ((s.extract b s.size).extract 0 n) (l, c) (starts ((s.extract b s.size).extract 0 n))).1 (lcF ((s.extract b s.size).extract 0 n) (l, c) (starts ((s.extract b s.size).extract 0 n))).2 v) 53 ∧ w.grownBy w' (some C) := by
  have hz1 : (s.extract b s.size).size = s.size - b := by rw [ByteArray.size_extract]; omega
  obtain ⟨u, hu⟩ : ∃ u, u = (s.extract b s.size).extract 0 n := ⟨_, rfl⟩
  have hz2 : u.size = n := by rw [hu, ByteArray.size_extract, hz1]; omega
  rw [← hu]
  have hue : (s.extract b s.size).extract 0 n = u := hu.symm
  have hn1 : (n : Int) ≤ ((s.extract b s.size).size : Int) := by omega
  have hn2 : ((n : Nat) : Int).toNat = n := by omega
  have hnb : (n : Int) ≤ 4294967281 := by omega
  have hbb : (b : Int) ≤ 4294967281 := by omega
  have HZ2 := hide hz2
  have hsl := starts_length u
  have hslb : (starts u).length ≤ 4294967281 := by omega
  have HB := hide h
  clear hu hz1 hz2 h
  go_enter Tryz.func45, Tryz.ntmps45
  go_wp2_with fail
  refine (rest_any C s b (by omega) hs l c v _ (unhide HB)).mono ?_
  rintro e w1 ⟨rfl, q, rfl⟩
  have HB1 : Hz (Blk (w.drewN q) C (ctrC s b l c v) 53) := hide (unhide HB)
  have HG1 : Hz (w.grownBy (w.drewN q) (some C)) := hide ⟨rfl, rfl, rfl, Nat.le_refl _, fun _ _ _ => rfl⟩
  have hsz1 : Hz ((w.drewN q).heap.size = w.heap.size) := hide rfl
  have hCw := (unhide HB).lt
  clear HB
  generalize w.drewN q = w1 at *
  go_wp2_with fail
  have HST : Hz (PassSt w (w1.iter u 0) C w1.heap.size u 0 s b l c v) := hide ⟨(unhide HB1).alloc _, World.alloc_heap_new w1 _, (unhide HG1).trans (World.grownBy_alloc _ _ _), (unhide HB1).lt, by have := unhide hsz1; omega⟩
  obtain ⟨I, hI⟩ : ∃ I, I = w1.heap.size := ⟨_, rfl⟩
  rw [← hI] at HST
  rw [← hI]
  clear HB1 HG1 hsz1 hI
  go_loopw [5] (fun _ wr => ∃ (pre : List Nat) (pos f l' c' : Nat), Hz (starts u = pre ++ startsFrom u f pos) ∧ u.size ≤ pos + f ∧ Hz (lcF u (l, c) pre = (l', c')) ∧ Hz (PassSt w wr C I u pos s b l' c' v)) (fun _ wr => u.size - wr.iterPos I)
  case atStart => exact ⟨[], 0, u.size, l, c, hide rfl, by omega, hide rfl, HST⟩
  case round =>
    obtain ⟨pre, pos, f, l', c', HS, hf, HL, HR⟩ := hrel
    have hR := unhide HR
    have hlc := lcF_le u (l, c) pre
    rw [unhide HL] at hlc
    by_cases hp : pos < u.size
    · obtain ⟨g, rfl⟩ : ∃ g, f = g + 1 := ⟨f - 1, by omega⟩
      have hpl : pre.length < (starts u).length := by
        have h1 := congrArg List.length (unhide HS)
        rw [startsFrom_cons u g pos hp] at h1
        simp at h1
        omega
      have hlb : (l' : Int) ≤ 8589934600 := by have : l' ≤ l + pre.length := hlc.1; omega
      have hcb : (c' : Int) ≤ 8589934600 := by have : c' ≤ c + 1 + pre.length := hlc.2; omega
      have hnx : ∀ ty, (Instr.next (.pointer (some ⟨I, 0, none⟩)) true ty).run Tryz.prog wr = _ := fun ty => Lib.run_next_any_at wr I u pos ty hR.it hp
      have hwd := wd_pos u pos
      obtain ⟨d, hd⟩ : ∃ d, d = pos + (Utf8.decode u pos).2 := ⟨_, rfl⟩
      obtain ⟨x, hx⟩ : ∃ x, x = (Utf8.decode u pos).1 := ⟨_, rfl⟩
      rw [← hd, ← hx] at hnx
      have hne : C ≠ I := by have := hR.ne; omega
      have b0 := iterAt_blk hR.blk hne u d
      have b1 : Blk ((wr.iterAt I u d).setCell ⟨C, 3, none⟩ (.int .i64 ((c' : Int) + 1))) C (ctrC s b l' ((c' : Int) + 1) v) 53 := b0.set 3 _
      have b2 : Blk (((wr.iterAt I u d).setCell ⟨C, 3, none⟩ (.int .i64 ((c' : Int) + 1))).setCell ⟨C, 2, none⟩ (.int .i64 ((l' : Int) + 1))) C (ctrC s b ((l' : Int) + 1) ((c' : Int) + 1) v) 53 := b1.set 2 _
      have b3 : Blk ((((wr.iterAt I u d).setCell ⟨C, 3, none⟩ (.int .i64 ((c' : Int) + 1))).setCell ⟨C, 2, none⟩ (.int .i64 ((l' : Int) + 1))).setCell ⟨C, 3, none⟩ (.int .i64 1)) C (ctrC s b ((l' : Int) + 1) 1 v) 53 := b2.set 3 _
      have i0 : (wr.iterAt I u d).heap[I]? = some (.stringIter u d) := Lib.iterAt_heap wr I u pos d hR.it
      have hIne : I ≠ C := fun e => hne e.symm
      have i1 := (Below.heap_setCell (wr.iterAt I u d) ⟨C, 3, none⟩ (.int .i64 ((c' : Int) + 1)) I hIne).trans i0
      have i2 := (Below.heap_setCell _ ⟨C, 2, none⟩ (.int .i64 ((l' : Int) + 1)) I hIne).trans i1
      have i3 := (Below.heap_setCell _ ⟨C, 3, none⟩ (.int .i64 1) I hIne).trans i2
      have g0 : w.grownBy (wr.iterAt I u d) (some C) := hR.gr.andThen (grown_iterAt wr I u d) (fun j hj => by cases hj; exact .inl hR.ge)
      have g1 := g0.trans (grown_setCell' (wr.iterAt I u d) ⟨C, 3, none⟩ (.int .i64 ((c' : Int) + 1)))
      have g2 := g1.trans (grown_setCell' _ ⟨C, 2, none⟩ (.int .i64 ((l' : Int) + 1)))
      have g3 := g2.trans (grown_setCell' _ ⟨C, 3, none⟩ (.int .i64 1))
      have c03 := b0.cell 3
      have f03 := b0.frozen 3
      have c12 := b1.cell 2
      have f12 := b1.frozen 2
      have f23 := b2.frozen 3
      have c23 := b2.cell 3
      have HS2 : Hz (starts u = (pre ++ [pos]) ++ startsFrom u g d) := hide (by rw [unhide HS, startsFrom_cons u g pos hp, hd]; simp)
      have hL2 : lcF u (l, c) (pre ++ [pos]) = if x = 10 then (l' + 1, 1) else (l', c' + 1) := by rw [lcF_snoc, unhide HL, hx]; rfl
      by_cases h10 : x = 10
      · rw [if_pos h10] at hL2
        have HL2 := hide hL2
        have HB3 := hide (And.intro b3 (And.intro i3 g3))
        have h10' : ((x : Int) == 10) = true := by rw [beq_iff_eq]; omega
        have HGE := hide (And.intro hR.ne (And.intro hR.ge (And.intro hd hwd)))
        have HIP := hide (iterPos_at hR.it)
        clear b0 b1 b2 b3 i0 i1 i2 i3 g0 g1 g2 g3 hL2 HS HL HR hR hlc hd hx h10 hwd
        go_wp2_with fail
        go_roundw
        case rel => exact ⟨pre ++ [pos], d, g, l' + 1, 1, HS2, by have := (unhide HGE).2.2.1; have := (unhide HGE).2.2.2; simp only [wd] at this; omega, HL2, hide ⟨by have := (unhide HB3).1; simpa using this, (unhide HB3).2.1, (unhide HB3).2.2, (unhide HGE).1, (unhide HGE).2.1⟩⟩
        case measure =>
          rw [iterPos_at (unhide HB3).2.1, unhide HIP]
          have h1 := (unhide HGE).2.2.1
          have h2 := (unhide HGE).2.2.2
          simp only [wd] at h2
          omega
      · rw [if_neg h10] at hL2
        have HL2 := hide hL2
        have HB3 := hide (And.intro b1 (And.intro i1 g1))
        have h10' : ((x : Int) == 10) = false := by rw [beq_eq_false_iff_ne]; omega
        have HGE := hide (And.intro hR.ne (And.intro hR.ge (And.intro hd hwd)))
        have HIP := hide (iterPos_at hR.it)
        clear b0 b1 b2 b3 i0 i1 i2 i3 g0 g1 g2 g3 hL2 HS HL HR hR hlc hd hx h10 hwd
        go_wp2_with fail
        go_roundw
        case rel => exact ⟨pre ++ [pos], d, g, l', c' + 1, HS2, by have := (unhide HGE).2.2.1; have := (unhide HGE).2.2.2; simp only [wd] at this; omega, HL2, hide ⟨by have := (unhide HB3).1; simpa using this, (unhide HB3).2.1, (unhide HB3).2.2, (unhide HGE).1, (unhide HGE).2.1⟩⟩
        case measure =>
          rw [iterPos_at (unhide HB3).2.1, unhide HIP]
          have h1 := (unhide HGE).2.2.1
          have h2 := (unhide HGE).2.2.2
          simp only [wd] at h2
          omega
    · have hnx : ∀ ty, (Instr.next (.pointer (some ⟨I, 0, none⟩)) true ty).run Tryz.prog wr = _ := fun ty => Lib.run_next_end_at wr I u pos ty hR.it hp
      have hst := unhide HS
      rw [startsFrom_end u f pos hp, List.append_nil] at hst
      have k1 := hR.blk.cell 1
      have f1 := hR.blk.frozen 1
      have hE : Blk (wr.setCell ⟨C, 1, none⟩ (.int .i64 ((b : Int) + n))) C (ctrC s ((b : Int) + n) l' c' v) 53 := hR.blk.set 1 _
      have hG := hR.gr.trans (grown_setCell' wr ⟨C, 1, none⟩ (.int .i64 ((b : Int) + n)))
      have HL2 : Hz (lcF u (l, c) (starts u) = (l', c')) := hide (by rw [hst]; exact unhide HL)
      have HE := hide (And.intro hE hG)
      clear hE hG hst HS HL HR hR hlc
      go_wp2_with fail
      go_end0
      refine ⟨rfl, ?_, (unhide HE).2⟩
      rw [unhide HL2]
      exact (unhide HE).1
end Go.Proofs.YtcnhkhjkeemafaaGreatDoor
/- The words of a text: what the cutter makes of it. -/
namespace Go.Proofs.YtcnhkhjkeemafaaGreatDoor
open Go.RowKit Go.Shelf
set_option linter.unusedVariables false
/-- A word: its kind, its text, its rune, its number, its bytes, whether it is right. -/
structure WV where
  kind : Nat
  S : ByteArray
  R : Nat
  N : Nat
  n : Nat
  ok : Bool
/-- May a text go on behind n bytes, or end there? -/
def edgeB (t : ByteArray) (n : Nat) : Bool := decide (n = t.size) || !stkB (bt t n)
def wordV (t : ByteArray) : WV :=
  if smallB (bt t 0) = true then ⟨1, t.extract 0 (nameLen t), 0, 0, nameLen t, edgeB t (nameLen t)⟩
  else if digB (bt t 0) = true then ⟨2, ByteArray.empty, 0, (numV t).1, (numV t).2, edgeB t (numV t).2⟩
  else if bt t 0 = 85 then ⟨3, ByteArray.empty, (numdV t).1, 0, (numdV t).2.1, (numdV t).2.2 && edgeB t (numdV t).2.1⟩
  else if bt t 0 = 39 then ⟨3, ByteArray.empty, (quoV t).1, 0, (quoV t).2.1, (quoV t).2.2⟩
  else ⟨(sgnV t).1, ByteArray.empty, 0, 0, (sgnV t).2.1, (sgnV t).2.2⟩
/-- A word with its place. -/
structure Wd where
  v : WV
  b : Nat
  l : Nat
  c : Nat
  e : Nat
def wdCells (x : Wd) : List Value := [.int .i64 x.v.kind, .string x.v.S, .int .i32 x.v.R, .int .i64 x.v.N, .int .i64 x.b, .int .i64 x.l, .int .i64 x.c, .int .i64 x.e]
def encWs (ws : List Wd) : List Value := ws.flatMap wdCells
theorem encWs_snoc (ws : List Wd) (x : Wd) : encWs (ws ++ [x]) = encWs ws ++ wdCells x := by simp [encWs]
/-- The text from a place on. -/
abbrev rst (s : ByteArray) (b : Nat) : ByteArray := s.extract b s.size
/-- Line and column behind n bytes of a text. -/
def lcB (t : ByteArray) (x : Nat × Nat) (n : Nat) : Nat × Nat := lcF (t.extract 0 n) x (starts (t.extract 0 n))
/-- Behind the blanks and remarks. -/
def gB (s : ByteArray) (b : Nat) : Nat := b + (gapV (rst s b)).1
def gLC (s : ByteArray) (b : Nat) (x : Nat × Nat) : Nat × Nat := lcB (rst s b) x (gapV (rst s b)).1
structure CutV where
  ok : Bool
  b : Nat
  lc : Nat × Nat
  ws : List Wd
def cutGo (s : ByteArray) : Nat → Nat → Nat × Nat → List Wd → CutV
  | 0, b, x, ws => ⟨false, b, x, ws⟩
  | f + 1, b, x, ws =>
    if (gapV (rst s b)).2 = false then ⟨false, gB s b, gLC s b x, ws⟩
    else if (rst s (gB s b)).size = 0 then ⟨true, gB s b, gLC s b x, ws⟩
    else if (wordV (rst s (gB s b))).ok = false then ⟨false, gB s b + (wordV (rst s (gB s b))).n, lcB (rst s (gB s b)) (gLC s b x) (wordV (rst s (gB s b))).n, ws⟩
    else cutGo s f (gB s b + (wordV (rst s (gB s b))).n) (lcB (rst s (gB s b)) (gLC s b x) (wordV (rst s (gB s b))).n) (ws ++ [⟨wordV (rst s (gB s b)), gB s b, (gLC s b x).1, (gLC s b x).2, gB s b + (wordV (rst s (gB s b))).n⟩])
theorem gapGo_le (t : ByteArray) : ∀ f n, n ≤ t.size → (gapGo t f n).1 ≤ t.size
  | 0, n, h => Nat.le_refl _
  | f + 1, n, h => by
    unfold gapGo
    split
    · split
      · exact gapGo_le t f (n + 1) (by omega)
      · split
        · have := remV_le (t.extract n t.size)
          rw [ByteArray.size_extract] at this
          split
          · exact gapGo_le t f _ (by omega)
          · show n + _ ≤ t.size; omega
        · exact h
    · exact Nat.le_refl _
theorem gapV_le (t : ByteArray) : (gapV t).1 ≤ t.size := gapGo_le t _ 0 (Nat.zero_le _)
theorem rst_size (s : ByteArray) (b : Nat) : (rst s b).size = s.size - b := by rw [ByteArray.size_extract]; omega
theorem gB_le (s : ByteArray) (b : Nat) (h : b ≤ s.size) : b ≤ gB s b ∧ gB s b ≤ s.size := by
  have := gapV_le (rst s b)
  rw [rst_size] at this
  unfold gB
  omega
theorem numdGo_le (t : ByteArray) : ∀ k v n, t.size ≤ n + k → n ≤ t.size → n ≤ (numdGo t v n).2 ∧ (numdGo t v n).2 ≤ t.size ∧ (v ≤ 1114111 → (numdGo t v n).1 ≤ 1114111)
  | 0, v, n, h, hn => by rw [numdGo_stop (by omega)]; exact ⟨Nat.le_refl _, hn, fun h => h⟩
  | k + 1, v, n, h, hn => by
    by_cases hc : n < t.size ∧ (n < 6 ∨ bt t 2 ≠ 48) ∧ 0 ≤ hexI (bt t n) ∧ v * 16 + (hexI (bt t n)).toNat ≤ 1114111
    · rw [numdGo_go hc]
      have := numdGo_le t k (v * 16 + (hexI (bt t n)).toNat) (n + 1) (by omega) (by omega)
      exact ⟨by omega, this.2.1, fun _ => this.2.2 hc.2.2.2⟩
    · rw [numdGo_stop hc]; exact ⟨Nat.le_refl _, hn, fun h => h⟩
theorem numdV_le (t : ByteArray) (h : 0 < t.size) : 1 ≤ (numdV t).2.1 ∧ (numdV t).2.1 ≤ t.size := by
  unfold numdV
  by_cases hc : t.size < 2 ∨ bt t 1 ≠ 43
  · rw [if_pos hc]; exact ⟨Nat.le_refl _, h⟩
  · rw [if_neg hc]
    have := numdGo_le t t.size 0 2 (by omega) (by omega)
    split <;> exact ⟨by show 1 ≤ (numdGo t 0 2).2; omega, by show (numdGo t 0 2).2 ≤ t.size; omega⟩
theorem quoV_le (t : ByteArray) (h : 0 < t.size) : 1 ≤ (quoV t).2.1 ∧ (quoV t).2.1 ≤ t.size := by
  have hz := tl1_size t
  have hb : begLen (tl1 t) ≤ (tl1 t).size := (scanTo_le _ (Nat.zero_le _)).2
  have hw := wd_room (tl1 t) 0
  unfold quoV
  split
  · exact ⟨h, Nat.le_refl _⟩
  · split
    · exact ⟨Nat.le_refl _, h⟩
    · split
      · exact ⟨by show 1 ≤ 1 + _; omega, by show 1 + _ ≤ _; omega⟩
      · split
        · exact ⟨h, Nat.le_refl _⟩
        · have := hw (by omega)
          split
          · exact ⟨by show 1 ≤ _ + 2; omega, by show _ + 2 ≤ _; omega⟩
          · exact ⟨by show 1 ≤ 1 + _; omega, by show 1 + _ ≤ _; omega⟩
theorem dotsB_iff (t : ByteArray) : dotsB t = true → 2 ≤ t.size := fun h => by
  have h2 : [46, 46] <+: t.data.toList := List.isPrefixOf_iff_prefix.1 h
  have := h2.length_le
  rw [Array.length_toList] at this
  exact this
theorem sgnV_le (t : ByteArray) (h : 0 < t.size) : (sgnV t).2.1 ≤ t.size ∧ ((sgnV t).2.2 = true → 1 ≤ (sgnV t).2.1) := by
  unfold sgnV
  repeat' split
  all_goals first
    | exact ⟨h, fun _ => Nat.le_refl _⟩
    | exact ⟨dotsB_iff t (by assumption), fun _ => by decide⟩
    | exact ⟨h, fun e => by cases e⟩
    | exact ⟨Nat.zero_le _, fun e => by cases e⟩
theorem wordV_le (t : ByteArray) (h : 0 < t.size) : (wordV t).n ≤ t.size ∧ ((wordV t).ok = true → 1 ≤ (wordV t).n) := by
  unfold wordV
  split
  · rename_i hs
    have h1 := nameLen_le t
    refine ⟨h1.1, fun _ => ?_⟩
    show 1 ≤ nameLen t
    unfold nameLen
    rw [if_neg (fun q => q.elim (by omega) (fun q => by rw [hs] at q; cases q))]
    exact (scanTo_le _ (by omega)).1
  · split
    · have := numGo_le t t.size (bt t 0 - 48) 1 (by omega) (by omega)
      exact ⟨this.2.1, fun _ => this.1⟩
    · split
      · have := numdV_le t h; exact ⟨this.2, fun _ => this.1⟩
      · split
        · have := quoV_le t h; exact ⟨this.2, fun _ => this.1⟩
        · exact sgnV_le t h
end Go.Proofs.YtcnhkhjkeemafaaGreatDoor
/- A scope in which the run jumps to several labels: what holds at each jump, and a measure that falls. -/
namespace Go.Proofs.YtcnhkhjkeemafaaGreatDoor
open Go.RowKit Go.Shelf
set_option linter.unusedVariables false
/-- As Q; by a goto to a label: J of that label. -/
def jumps (J : Nat → Act → World → Prop) (Q : Exit → Act → World → Prop) : Exit → Act → World → Prop
  | .goto l, a, w => J l a w
  | e, a, w => Q e a w
theorem wp_scope_many {P : Program} {a : Act} {w : World} {Q : Exit → Act → World → Prop} {c : Code} (J : Nat → Nat → Act → World → Prop)
    (first : c.wp P (jumps (fun l a w => ∃ k, J l k a w) Q) a w)
    (pass : ∀ l k a w, J l k a w → ∃ rest, findLabel c l = some rest ∧ rest.wp P (jumps (fun l' a' w' => ∃ k', k' < k ∧ J l' k' a' w') Q) a w) : (Code.scope c).wp P Q a w := by
  intro b k cs
  have key : ∀ n l a w, J l n a w → ∃ rest, gotoIn l (.inScope c :: k) = some (.code rest :: .inScope c :: k) ∧ ∃ e a' w', Q e a' w' ∧ Arrives P (lone (b.at a (.code rest :: .inScope c :: k)) cs w) b k cs e a' w' := by
    intro n
    induction n using Nat.strongRecOn with
    | _ n ih =>
      intro l a w hJ
      obtain ⟨rest, hf, hp⟩ := pass l n a w hJ
      refine ⟨rest, by simp [gotoIn, hf], ?_⟩
      obtain ⟨e, a₁, w₁, hq, harr⟩ := hp b (.inScope c :: k) cs
      cases e with
      | normal => exact ⟨.normal, a₁, w₁, hq, Steps.trans harr (.one step_inScope)⟩
      | exit id => exact ⟨.exit id, a₁, w₁, hq, fun k' hk => harr k' (by simp [exitTo, hk])⟩
      | goto l' =>
        obtain ⟨k', hlt, hJ'⟩ := hq
        obtain ⟨rest', hg, e₂, a₂, w₂, hq₂, harr₂⟩ := ih k' hlt l' a₁ w₁ hJ'
        exact ⟨e₂, a₂, w₂, hq₂, .of_steps (harr _ hg) harr₂⟩
      | ret => exact ⟨_, a₁, w₁, hq, harr⟩
      | panic ch => exact ⟨_, a₁, w₁, hq, harr⟩
      | outgrown => exact ⟨_, a₁, w₁, hq, harr⟩
  obtain ⟨e, a₁, w₁, hq, harr⟩ := first b (.inScope c :: k) cs
  cases e with
  | normal => exact ⟨.normal, a₁, w₁, hq, .head step_scope (Steps.trans harr (.one step_inScope))⟩
  | exit id => exact ⟨.exit id, a₁, w₁, hq, fun k' hk => .head step_scope (harr k' (by simp [exitTo, hk]))⟩
  | goto l' =>
    obtain ⟨k', hq⟩ := hq
    obtain ⟨rest', hg, e₂, a₂, w₂, hq₂, harr₂⟩ := key k' l' a₁ w₁ hq
    exact ⟨e₂, a₂, w₂, hq₂, .of_steps (.head step_scope (harr _ hg)) harr₂⟩
  | ret => exact ⟨_, a₁, w₁, hq, .of_steps (.one step_scope) harr⟩
  | panic ch => exact ⟨_, a₁, w₁, hq, .of_steps (.one step_scope) harr⟩
  | outgrown => exact ⟨_, a₁, w₁, hq, .of_steps (.one step_scope) harr⟩
theorem jumps_mono {P : Program} {c : Code} {J J' : Nat → Act → World → Prop} {Q : Exit → Act → World → Prop} {a : Act} {w : World} (h : c.wp P (jumps J Q) a w) (hJ : ∀ l a w, J l a w → J' l a w) : c.wp P (jumps J' Q) a w := by
  refine wp_mono h ?_
  intro e a' w' he
  cases e <;> first | exact hJ _ _ _ he | exact he
/-- The run comes to the labels 0 and 5 from above, too. -/
theorem wp_scope_cut {P : Program} {a : Act} {w : World} {Q : Exit → Act → World → Prop} {c : Code} (J : Nat → Nat → Act → World → Prop)
    (zero : ∃ X, findLabel c 0 = some (Code.skip.seq X) ∧ (∀ k a w, J 0 k a w → X.wp P (jumps (fun l' a' w' => ∃ k', k' < k ∧ J l' k' a' w') Q) a w) ∧ ((∀ k a w, J 0 k a w → X.wp P (jumps (fun l a w => ∃ k, J l k a w) Q) a w) → c.wp P (jumps (fun l a w => ∃ k, J l k a w) Q) a w))
    (five : ∃ X, findLabel c 5 = some (Code.skip.seq X) ∧ (∀ k a w, J 5 k a w → X.wp P (jumps (fun l' a' w' => ∃ k', k' < k ∧ J l' k' a' w') Q) a w) ∧ ((∀ k a w, J 5 k a w → X.wp P (jumps (fun l' a' w' => ∃ k', k' < k ∧ J l' k' a' w') Q) a w) → ∀ k a w, J 6 k a w → ∃ rest, findLabel c 6 = some rest ∧ rest.wp P (jumps (fun l' a' w' => ∃ k', k' < k ∧ J l' k' a' w') Q) a w))
    (pass : ∀ l k a w, l ≠ 4 → l ≠ 5 → J (l + 1) k a w → ∃ rest, findLabel c (l + 1) = some rest ∧ rest.wp P (jumps (fun l' a' w' => ∃ k', k' < k ∧ J l' k' a' w') Q) a w) : (Code.scope c).wp P Q a w := by
  obtain ⟨X, hf, hz, hfirst⟩ := zero
  obtain ⟨X5, hf5, hz5, h6⟩ := five
  refine wp_scope_many J (hfirst fun k a w h => jumps_mono (hz k a w h) (fun l a w ⟨k', _, hk⟩ => ⟨k', hk⟩)) ?_
  intro l k a w h
  cases l with
  | zero => exact ⟨_, hf, wp_seq (wp_skip (hz k a w h))⟩
  | succ l =>
    by_cases h4 : l = 4
    · subst h4; exact ⟨_, hf5, wp_seq (wp_skip (hz5 k a w h))⟩
    · by_cases h5 : l = 5
      · subst h5; exact h6 hz5 k a w h
      · exact pass l k a w h4 h5 h
end Go.Proofs.YtcnhkhjkeemafaaGreatDoor
/- cut: the words of a text, its walk. -/
namespace Go.Proofs.YtcnhkhjkeemafaaGreatDoor
open Go.RowKit Go.Shelf
set_option linter.unusedVariables false
theorem own_keep {W W' : World} {lo k E sz n : Nat} {v : Value} {xs : List Value} (h : W.ownsRow lo E sz v n xs) (hg : W.grownBy W' (some k)) (hk : k < lo) : W'.ownsRow lo E sz v n xs := by
  refine h.kept hg ?_
  cases hv : v.ownBlock with
  | none => exact .inl rfl
  | some j => exact .inr (fun e => by have := (h.lt j hv).1; simp at e; omega)
theorem prod3 (z : Nat × Nat × Bool) : ∃ y n o, z = (y, n, o) := ⟨z.1, z.2.1, z.2.2, rfl⟩
/-- What the walk stands on. -/
structure CutSt (w W : World) (C : Nat) (s : ByteArray) (b : Nat) (x : Nat × Nat) (v : Value) (ws : List Wd) (cs : Array Value) : Prop where
  blk : Blk W C (ctrC s b x.1 x.2 v) 53
  box : Blk W w.heap.size cs 45
  own : W.ownsRow (w.heap.size + 1) 45 8 v ws.length (encWs ws)
  gr : w.grownBy W (some C)
  lt : C < w.heap.size
theorem CutSt.below {w W W' : World} {C : Nat} {s : ByteArray} {b : Nat} {x : Nat × Nat} {v : Value} {ws : List Wd} {cs : Array Value} (h : CutSt w W C s b x v ws cs) (hb : Below W.heap.size W W') : CutSt w W' C s b x v ws cs :=
  ⟨h.blk.below hb h.blk.lt, h.box.below hb h.box.lt, own_keep h.own ⟨hb.os, hb.tape, hb.output, hb.size, fun k hk _ => hb.block k hk⟩ (k := 0) (by omega), h.gr.trans ⟨hb.os, hb.tape, hb.output, hb.size, fun k hk _ => hb.block k hk⟩, h.lt⟩
theorem CutSt.drew {w W : World} {C : Nat} {s : ByteArray} {b : Nat} {x : Nat × Nat} {v : Value} {ws : List Wd} {cs : Array Value} (h : CutSt w W C s b x v ws cs) (q : Nat) : CutSt w (W.drewN q) C s b x v ws cs :=
  h.below ⟨rfl, rfl, rfl, Nat.le_refl _, fun _ _ => rfl⟩
theorem CutSt.drew1 {w W : World} {C : Nat} {s : ByteArray} {b : Nat} {x : Nat × Nat} {v : Value} {ws : List Wd} {cs : Array Value} (h : CutSt w W C s b x v ws cs) : CutSt w W.drew C s b x v ws cs :=
  h.below ⟨rfl, rfl, rfl, Nat.le_refl _, fun _ _ => rfl⟩
theorem CutSt.pass {w W W' : World} {C : Nat} {s : ByteArray} {b : Nat} {x : Nat × Nat} {v : Value} {ws : List Wd} {cs : Array Value} (h : CutSt w W C s b x v ws cs) {b' : Nat} {x' : Nat × Nat} (hb : Blk W' C (ctrC s b' x'.1 x'.2 v) 53) (hg : W.grownBy W' (some C)) : CutSt w W' C s b' x' v ws cs := by
  have hl := h.lt
  exact ⟨hb, h.box.kept hg (fun e => by simp at e; omega), own_keep h.own hg (by omega), h.gr.trans hg, h.lt⟩
theorem CutSt.set {w W : World} {C : Nat} {s : ByteArray} {b : Nat} {x : Nat × Nat} {v : Value} {ws : List Wd} {cs : Array Value} (h : CutSt w W C s b x v ws cs) (i : Nat) (u : Value) : CutSt w (W.setCell ⟨w.heap.size, i, none⟩ u) C s b x v ws (cs.setIfInBounds i u) := by
  have hl := h.lt
  exact ⟨h.blk.other (by omega) _, h.box.set i u, own_keep h.own (grown_setCell' W ⟨w.heap.size, i, none⟩ u) (by show w.heap.size < _; omega), h.gr.andThen (grown_setCell' W ⟨w.heap.size, i, none⟩ u) (fun j hj => by cases hj; exact .inl (Nat.le_refl _)), h.lt⟩
theorem CutSt.as {w W : World} {C : Nat} {s : ByteArray} {b : Nat} {x : Nat × Nat} {v : Value} {ws : List Wd} {cs cs' : Array Value} (h : CutSt w W C s b x v ws cs) (e : cs = cs') : CutSt w W C s b x v ws cs' := e ▸ h
theorem CutSt.app {w W W2 : World} {C : Nat} {s : ByteArray} {b : Nat} {x : Nat × Nat} {v : Value} {ws : List Wd} {cs : Array Value} {tmp : Obj} (h : CutSt w W C s b x v ws cs) (hg : (W.alloc tmp).drew.grownBy W2 v.ownBlock) : Blk W2 C (ctrC s b x.1 x.2 v) 53 ∧ Blk W2 w.heap.size cs 45 := by
  have hl := h.lt
  have hne : ∀ k, k ≤ w.heap.size → some k ≠ v.ownBlock := fun k hk e => by have := (h.own.lt k e.symm).1; omega
  have hg' : (W.alloc tmp).grownBy W2 v.ownBlock := ⟨hg.os, hg.tape, hg.output, hg.size, hg.block⟩
  exact ⟨(h.blk.alloc tmp).kept hg' (hne C (by omega)), (h.box.alloc tmp).kept hg' (hne _ (Nat.le_refl _))⟩
theorem CutSt.push {w W W2 : World} {C : Nat} {s : ByteArray} {b : Nat} {x : Nat × Nat} {v v' : Value} {ws : List Wd} {cs : Array Value} {tmp : Obj} {X : Wd} (h : CutSt w W C s b x v ws cs) (hg : (W.alloc tmp).drew.grownBy W2 v.ownBlock) (ho : W2.ownsRow (w.heap.size + 1) 45 8 v' (ws.length + 1) (encWs ws ++ wdCells X)) :
    CutSt w (W2.setCell ⟨C, 4, none⟩ v') C s b x v' (ws ++ [X]) cs := by
  have hl := h.lt
  obtain ⟨h1, h2⟩ := h.app hg
  have hg' : (W.alloc tmp).grownBy W2 v.ownBlock := ⟨hg.os, hg.tape, hg.output, hg.size, hg.block⟩
  have gr1 : w.grownBy W2 (some C) := (h.gr.trans (World.grownBy_alloc _ _ _)).andThen hg' (fun j hj => .inl (by have := (h.own.lt j hj).1; omega))
  refine ⟨h1.set 4 v', h2.other (by omega) _, ?_, gr1.trans (grown_setCell' W2 ⟨C, 4, none⟩ v'), hl⟩
  rw [List.length_append, encWs_snoc]
  exact own_keep ho (grown_setCell' W2 ⟨C, 4, none⟩ v') (by show C < _; omega)
theorem infoWord : (Tryz.prog.info? 45).map (fun i => (i.zero, i.size, i.bytes)) = some (some (.agg #[.int .i64 0, .string ⟨#[]⟩, .int .i32 0, .int .i64 0, .int .i64 0, .int .i64 0, .int .i64 0, .int .i64 0]), 8, 72) := by kernel_rfl
end Go.Proofs.YtcnhkhjkeemafaaGreatDoor
/- cut: its jumps. -/
namespace Go.Proofs.YtcnhkhjkeemafaaGreatDoor
open Go.RowKit Go.Shelf
set_option linter.unusedVariables false
theorem lcF_bound (t : ByteArray) : ∀ (ps : List Nat) (x : Nat × Nat), 1 ≤ x.2 → 1 ≤ (lcF t x ps).2 ∧ (lcF t x ps).2 ≤ x.2 + ps.length ∧ (lcF t x ps).1 ≤ x.1 + ps.length
  | [], x, h => ⟨h, Nat.le_refl _, Nat.le_refl _⟩
  | p :: ps, x, h => by
    have h1 : 1 ≤ (lcStep t x p).2 ∧ (lcStep t x p).2 ≤ x.2 + 1 ∧ (lcStep t x p).1 ≤ x.1 + 1 := by unfold lcStep; split <;> simp
    have := lcF_bound t ps (lcStep t x p) h1.1
    have e : lcF t x (p :: ps) = lcF t (lcStep t x p) ps := rfl
    rw [e, List.length_cons]
    omega
theorem lcB_bound (t : ByteArray) (x : Nat × Nat) (n : Nat) (h : 1 ≤ x.2) : 1 ≤ (lcB t x n).2 ∧ (lcB t x n).2 ≤ x.2 + n ∧ (lcB t x n).1 ≤ x.1 + n := by
  have h1 := lcF_bound (t.extract 0 n) (starts (t.extract 0 n)) x h
  have h2 := starts_length (t.extract 0 n)
  have h3 : (t.extract 0 n).size ≤ n := by rw [ByteArray.size_extract]; omega
  unfold lcB
  omega
theorem CutV.parts {R : CutV} {o : Bool} {b : Nat} {x : Nat × Nat} {ws : List Wd} (h : R = ⟨o, b, x, ws⟩) : R.ok = o ∧ R.b = b ∧ R.lc = x ∧ R.ws = ws := by subst h; exact ⟨rfl, rfl, rfl, rfl⟩
/-- From a word's first byte on. -/
def cutWord (s : ByteArray) (f b : Nat) (x : Nat × Nat) (ws : List Wd) : CutV :=
  if (wordV (rst s b)).ok = false then ⟨false, b + (wordV (rst s b)).n, lcB (rst s b) x (wordV (rst s b)).n, ws⟩
  else cutGo s f (b + (wordV (rst s b)).n) (lcB (rst s b) x (wordV (rst s b)).n) (ws ++ [⟨wordV (rst s b), b, x.1, x.2, b + (wordV (rst s b)).n⟩])
theorem cutGo_succ (s : ByteArray) (f b : Nat) (x : Nat × Nat) (ws : List Wd) : cutGo s (f + 1) b x ws = if (gapV (rst s b)).2 = false then ⟨false, gB s b, gLC s b x, ws⟩ else if (rst s (gB s b)).size = 0 then ⟨true, gB s b, gLC s b x, ws⟩ else cutWord s f (gB s b) (gLC s b x) ws := rfl
abbrev wd0 (b : Nat) (x : Nat × Nat) : Array Value := #[.int .i64 0, .string ByteArray.empty, .int .i32 0, .int .i64 0, .int .i64 b, .int .i64 x.1, .int .i64 x.2, .int .i64 0]
abbrev wd1 (y : WV) (b : Nat) (x : Nat × Nat) : Array Value := #[.int .i64 y.kind, .string y.S, .int .i32 y.R, .int .i64 y.N, .int .i64 b, .int .i64 x.1, .int .i64 x.2, .int .i64 0]
theorem set8 {cs : Array Value} (h : cs.size = 8) (a0 a1 a2 a3 a4 a5 a6 a7 : Value) : (((((((cs.setIfInBounds 0 a0).setIfInBounds 1 a1).setIfInBounds 2 a2).setIfInBounds 3 a3).setIfInBounds 4 a4).setIfInBounds 5 a5).setIfInBounds 6 a6).setIfInBounds 7 a7 = #[a0, a1, a2, a3, a4, a5, a6, a7] := by
  have e : ∃ b0 b1 b2 b3 b4 b5 b6 b7, cs = #[b0, b1, b2, b3, b4, b5, b6, b7] := by
    obtain ⟨l⟩ := cs
    match l, h with
    | [b0, b1, b2, b3, b4, b5, b6, b7], _ => exact ⟨b0, b1, b2, b3, b4, b5, b6, b7, rfl⟩
  obtain ⟨b0, b1, b2, b3, b4, b5, b6, b7, rfl⟩ := e
  simp
/-- The bounds of a place. -/
def PlB (s : ByteArray) (b : Nat) (x : Nat × Nat) (j : Nat) : Prop := b ≤ s.size ∧ 1 ≤ x.2 ∧ x.2 ≤ 1 + b ∧ x.1 ≤ 1 + b ∧ j ≤ b
/-- What holds at each label. -/
def cutJ (w : World) (C : Nat) (s : ByteArray) (R : CutV) : Nat → Nat → Act → World → Prop
  | 0, k, a, W => ∃ (f b : Nat) (x : Nat × Nat) (ws : List Wd) (v : Value) (cs : Array Value), k = 10 * (s.size - b) + 9 ∧ PlB s b x ws.length ∧ s.size + 1 ≤ b + f ∧ cs.size = 8 ∧ R = cutGo s f b x ws ∧ CutSt w W C s b x v ws cs ∧ ∃ U : Nat → Value, a = { tmps := #[.pointer (some ⟨C, 0, none⟩), U 1, .bool false, .pointer (some ⟨w.heap.size, 0, none⟩), U 4, U 5, U 6, U 7, U 8, U 9, U 10, U 11, U 12, U 13, U 14, U 15, U 16, U 17, U 18, U 19, U 20, U 21, U 22, U 23, U 24, U 25, U 26, U 27, U 28, U 29, U 30, U 31, U 32, U 33, U 34, U 35, U 36, U 37, U 38, U 39, U 40, U 41, U 42, U 43, U 44, U 45, U 46, U 47, U 48, U 49, U 50, U 51, U 52, U 53, U 54, U 55, U 56, U 57, U 58, U 59, U 60, U 61, U 62, U 63, U 64, U 65, U 66, U 67, U 68, U 69, U 70, U 71, U 72, U 73, U 74, U 75, U 76, U 77, U 78, U 79, U 80, U 81, U 82, U 83, U 84, U 85, U 86, U 87, U 88, U 89, U 90, U 91, U 92, U 93, U 94, U 95, U 96, U 97, U 98, U 99, U 100, U 101, U 102, U 103, U 104, U 105, U 106, U 107, U 108, U 109, U 110, U 111, U 112, U 113], defers := [] }
  | 5, k, a, W => ∃ (f b : Nat) (x : Nat × Nat) (ws : List Wd) (v : Value) (cs : Array Value), k = 10 * (s.size - b) + 2 ∧ PlB s b x ws.length ∧ s.size + 1 ≤ b + 1 + f ∧ 0 < (rst s b).size ∧ cs.size = 8 ∧ ((wordV (rst s b)).ok = true → cs = wd1 (wordV (rst s b)) b x) ∧ R = cutWord s f b x ws ∧ CutSt w W C s b x v ws cs ∧ ∃ U : Nat → Value, a = { tmps := #[.pointer (some ⟨C, 0, none⟩), U 1, .bool false, .pointer (some ⟨w.heap.size, 0, none⟩), .string (rst s b), .int .i64 ((wordV (rst s b)).n : Nat), .bool (wordV (rst s b)).ok, U 7, U 8, U 9, U 10, U 11, U 12, U 13, U 14, U 15, U 16, U 17, U 18, U 19, U 20, U 21, U 22, U 23, U 24, U 25, U 26, U 27, U 28, U 29, U 30, U 31, U 32, U 33, U 34, U 35, U 36, U 37, U 38, U 39, U 40, U 41, U 42, U 43, U 44, U 45, U 46, U 47, U 48, U 49, U 50, U 51, U 52, U 53, U 54, U 55, U 56, U 57, U 58, U 59, U 60, U 61, U 62, U 63, U 64, U 65, U 66, U 67, U 68, U 69, U 70, U 71, U 72, U 73, U 74, U 75, U 76, U 77, U 78, U 79, U 80, U 81, U 82, U 83, U 84, U 85, U 86, U 87, U 88, U 89, U 90, U 91, U 92, U 93, U 94, U 95, U 96, U 97, U 98, U 99, U 100, U 101, U 102, U 103, U 104, U 105, U 106, U 107, U 108, U 109, U 110, U 111, U 112, U 113], defers := [] }
  | 6, k, a, W => ∃ (f b : Nat) (x : Nat × Nat) (ws : List Wd) (v : Value), k = 10 * (s.size - b) + 3 ∧ PlB s b x ws.length ∧ s.size + 1 ≤ b + 1 + f ∧ 0 < (rst s b).size ∧ (wordV (rst s b)).ok = edgeB (rst s b) (wordV (rst s b)).n ∧ R = cutWord s f b x ws ∧ CutSt w W C s b x v ws (wd1 (wordV (rst s b)) b x) ∧ ∃ U : Nat → Value, a = { tmps := #[.pointer (some ⟨C, 0, none⟩), U 1, .bool false, .pointer (some ⟨w.heap.size, 0, none⟩), .string (rst s b), .int .i64 ((wordV (rst s b)).n : Nat), U 6, U 7, U 8, U 9, U 10, U 11, U 12, U 13, U 14, U 15, U 16, U 17, U 18, U 19, U 20, U 21, U 22, U 23, U 24, U 25, U 26, U 27, U 28, U 29, U 30, U 31, U 32, U 33, U 34, U 35, U 36, U 37, U 38, U 39, U 40, U 41, U 42, U 43, U 44, U 45, U 46, U 47, U 48, U 49, U 50, U 51, U 52, U 53, U 54, U 55, U 56, U 57, U 58, U 59, U 60, U 61, U 62, U 63, U 64, U 65, U 66, U 67, U 68, U 69, U 70, U 71, U 72, U 73, U 74, U 75, U 76, U 77, U 78, U 79, U 80, U 81, U 82, U 83, U 84, U 85, U 86, U 87, U 88, U 89, U 90, U 91, U 92, U 93, U 94, U 95, U 96, U 97, U 98, U 99, U 100, U 101, U 102, U 103, U 104, U 105, U 106, U 107, U 108, U 109, U 110, U 111, U 112, U 113], defers := [] }
  | l, k, a, W => (1 ≤ l ∧ l ≤ 4) ∧ ∃ (f b : Nat) (x : Nat × Nat) (ws : List Wd) (v : Value), k = 10 * (s.size - b) + 5 ∧ PlB s b x ws.length ∧ s.size + 1 ≤ b + 1 + f ∧ 0 < (rst s b).size ∧
      ((l = 1 ∧ smallB (bt (rst s b) 0) = true) ∨ (l = 2 ∧ smallB (bt (rst s b) 0) = false ∧ digB (bt (rst s b) 0) = true) ∨ (l = 3 ∧ bt (rst s b) 0 = 85) ∨ (l = 4 ∧ bt (rst s b) 0 = 39)) ∧ R = cutWord s f b x ws ∧ CutSt w W C s b x v ws (wd0 b x) ∧ ∃ U : Nat → Value, a = { tmps := #[.pointer (some ⟨C, 0, none⟩), U 1, .bool false, .pointer (some ⟨w.heap.size, 0, none⟩), .string (rst s b), U 5, U 6, U 7, U 8, U 9, U 10, U 11, U 12, U 13, U 14, U 15, U 16, U 17, U 18, U 19, U 20, U 21, U 22, U 23, U 24, U 25, U 26, U 27, U 28, U 29, U 30, U 31, U 32, U 33, U 34, U 35, U 36, U 37, U 38, U 39, U 40, U 41, U 42, U 43, U 44, U 45, U 46, U 47, U 48, U 49, U 50, U 51, U 52, U 53, U 54, U 55, U 56, U 57, U 58, U 59, U 60, U 61, U 62, U 63, U 64, U 65, U 66, U 67, U 68, U 69, U 70, U 71, U 72, U 73, U 74, U 75, U 76, U 77, U 78, U 79, U 80, U 81, U 82, U 83, U 84, U 85, U 86, U 87, U 88, U 89, U 90, U 91, U 92, U 93, U 94, U 95, U 96, U 97, U 98, U 99, U 100, U 101, U 102, U 103, U 104, U 105, U 106, U 107, U 108, U 109, U 110, U 111, U 112, U 113], defers := [] }
set_option maxRecDepth 100000 in
set_option maxHeartbeats 16000000 in
theorem cutter_any (C : Nat) (s : ByteArray) (hs : s.size ≤ 262144) (m : Int) (w : World) (h : Blk w C (ctrC s (0 : Nat) (1 : Nat) (1 : Nat) (.slice none 0 0)) 53) (hm : w.cell? ⟨0, 0, none⟩ = some (.int .i64 m)) (hg : 0 < C) (R : CutV) (hR : R = cutGo s (s.size + 1) 0 (1, 1) []) :
    Calls Tryz.prog 23 #[.pointer (some ⟨C, 0, none⟩)] w fun e w' => e = .returned (.bool R.ok) ∧ ∃ v cs, CutSt w w' C s R.b R.lc v R.ws cs := by
  have HB := hide h
  have HM := hide hm
  have HR := hide hR
  clear h hm hR
  go_enter Tryz.func23, Tryz.ntmps23
  go_wp2
  refine wp_scope_cut (cutJ w C s R) ⟨_, rfl, ?zero, ?first⟩ ⟨_, rfl, ?five, ?six⟩ ?pass
  case first =>
    intro hp
    have hC := (unhide HB).lt
    have hal := (Below.refl w.heap.size w).alloc (Nat.le_refl _) (.cells #[.int .i64 0, .string ⟨#[]⟩, .int .i32 0, .int .i64 0, .int .i64 0, .int .i64 0, .int .i64 0, .int .i64 0] 45)
    have HST : Hz (CutSt w (w.alloc (.cells #[.int .i64 0, .string ⟨#[]⟩, .int .i32 0, .int .i64 0, .int .i64 0, .int .i64 0, .int .i64 0, .int .i64 0] 45)) C s 0 (1, 1) (.slice none 0 0) [] #[.int .i64 0, .string ⟨#[]⟩, .int .i32 0, .int .i64 0, .int .i64 0, .int .i64 0, .int .i64 0, .int .i64 0]) := hide ⟨(unhide HB).below hal hC, Blk.new w _ _, World.ownsRow_nil _ _ _ _, ⟨hal.os, hal.tape, hal.output, hal.size, fun k hk _ => hal.block k hk⟩, hC⟩
    have HP := hide hp
    clear hp hal
    go_wp2
    rename_i K hK
    go_step3
    apply hK
    clear hK
    exact unhide HP (10 * (s.size - 0) + 9) _ _ ⟨s.size + 1, 0, (1, 1), [], .slice none 0 0, _, rfl, ⟨Nat.zero_le _, by decide, by decide, by decide, Nat.zero_le _⟩, by omega, rfl, unhide HR, unhide HST, mk_act rfl⟩
  case zero =>
    rintro k a W ⟨f, b, x, ws, v, cs, hk, hpl, hfu, hcs, hRe, hst, U, ha⟩
    subst ha
    obtain ⟨f, rfl⟩ : ∃ g, f = g + 1 := ⟨f - 1, by have := hpl.1; omega⟩
    rw [cutGo_succ] at hRe
    have hb0 := hpl.1
    have hgl := gapV_le (rst s b)
    have hrz := rst_size s b
    have hgB := gB_le s b hb0
    have hMW : ∀ W', w.grownBy W' (some C) → W'.cell? ⟨0, 0, none⟩ = some (.int .i64 m) := fun W' hgr => (World.cell?_of_block (a := ⟨0, 0, none⟩) (hgr.block 0 (by have := hst.lt; omega) (fun e => by have := Option.some.inj e; omega))).trans (unhide HM)
    have hMg : 0 < W.heap.size := by have := hst.lt; have := hst.gr.size; omega
    have hrest := rest_any C s b hb0 (by omega) x.1 x.2 v W hst.blk
    have hgap := fun q => gap_any (rst s b) (by omega) m (W.drewN q) (hMW _ (hst.drew q).gr) hMg
    obtain ⟨n0, hn0⟩ : ∃ n0, n0 = (gapV (rst s b)).1 := ⟨_, rfl⟩
    obtain ⟨o0, ho0⟩ : ∃ o0, o0 = (gapV (rst s b)).2 := ⟨_, rfl⟩
    rw [← ho0] at hRe
    have hgv : gapV (rst s b) = (n0, o0) := by rw [hn0, ho0]
    simp only [hgv] at hgap
    have hbn : b + n0 ≤ s.size := by rw [hn0]; omega
    have hpass := fun W' (h : Blk W' C (ctrC s b x.1 x.2 v) 53) => pass_any C s b n0 hbn (by omega) x.1 x.2 (by have := hpl.2.2.2; omega) (by have := hpl.2.2.1; omega) v W' h
    have HST := hide hst
    have HRE := hide hRe
    have HRS := hide hrest
    have HGP := hide hgap
    have HPS := hide hpass
    have HPL := hide hpl
    have HN0 := hide hn0
    have HHK := hide hk
    have hgb0 : gB s b = b + n0 := by unfold gB; rw [hn0]
    have HGB := hide hgb0
    have hlc0 : gLC s b x = lcB (rst s b) x n0 := by unfold gLC; rw [hn0]
    have HLC := hide hlc0
    clear hst hRe hrest hgap hpass hpl hn0 ho0 hgv hk hgb0 hlc0 hMW hgl hrz
    go_wp2_with fail
    refine (unhide HRS).mono ?_
    rintro e w1 ⟨rfl, q, rfl⟩
    go_wp2_with fail
    refine (unhide HGP q).mono ?_
    rintro e w2 ⟨rfl, hb⟩
    have HS2 := hide (((unhide HST).drew q).below hb)
    clear hb HRS HGP HST
    go_wp2_with fail
    refine (unhide HPS w2 (unhide HS2).blk).mono ?_
    rintro e w3 ⟨rfl, hblk, hgr⟩
    have HS3 := hide ((unhide HS2).pass (x' := lcB (rst s b) x n0) hblk hgr)
    clear hblk hgr HPS HS2
    cases o0 with
    | false =>
      have hRe := unhide HRE
      have HRF : Hz (R = ⟨false, gB s b, gLC s b x, ws⟩) := hide (by rw [hRe, if_pos rfl])
      clear hRe HRE
      go_wp2_with fail
      show Exit.noGoto _ Exit.ret _ _
      rw [Exit.noGoto_ret]
      go_ret
      obtain ⟨r1, r2, r3, r4⟩ := CutV.parts (unhide HRF)
      have h3 := unhide HS3
      rw [← unhide HLC, ← unhide HGB] at h3
      rw [r1, r2, r3, r4]
      exact ⟨rfl, v, cs, h3⟩
    | true =>
      have hRe := unhide HRE
      have HR2 : Hz (R = if (rst s (gB s b)).size = 0 then ⟨true, gB s b, gLC s b x, ws⟩ else cutWord s f (gB s b) (gLC s b x) ws) := hide (by rw [hRe, if_neg (by decide)])
      have h3 := unhide HS3
      rw [← unhide HLC, ← unhide HGB] at h3
      obtain ⟨b1, hb1⟩ : ∃ b1, b1 = gB s b := ⟨_, rfl⟩
      obtain ⟨x1, hx1⟩ : ∃ x1, x1 = gLC s b x := ⟨_, rfl⟩
      have hbd := lcB_bound (rst s b) x n0 (unhide HPL).2.1
      rw [← unhide HLC] at hbd
      have hpl1 : PlB s b1 x1 ws.length := by
        have hq := (unhide HPL)
        have hg0 := unhide HGB
        rw [hb1, hx1]
        exact ⟨hgB.2, hbd.1, by have := hq.2.2.1; omega, by have := hq.2.2.2; omega, by have := hq.2.2.2; omega⟩
      have hb1s : b1 ≤ s.size := hpl1.1
      have hbb1 : b ≤ b1 := by rw [hb1]; exact hgB.1
      rw [← hb1, ← hx1] at h3
      have HR3 : Hz (R = if (rst s b1).size = 0 then ⟨true, b1, x1, ws⟩ else cutWord s f b1 x1 ws) := hide (by rw [hb1, hx1]; exact unhide HR2)
      have HS4 := hide h3
      have HPL1 := hide hpl1
      clear hRe HRE HR2 h3 hb1 hx1 hbd hpl1 HS3 HLC HGB HPL hgB HN0 hbn
      have c1 := (unhide HS4).blk.cell 1
      have c2 := (unhide HS4).blk.cell 2
      have c3 := (unhide HS4).blk.cell 3
      have HBL : Hz (Blk w3.drew C (ctrC s b1 x1.1 x1.2 v) 53) := hide (unhide HS4).blk
      have g0 := (unhide HS4).box.frozen
      have k0 := (unhide HS4).box.cell
      go_wp2_with fail
      go_region_with ((go_at_call 44; refine (rest_any C s b1 hb1s (by omega) x1.1 x1.2 v _ (unhide HBL)).mono ?_; rintro e w' ⟨rfl, q, rfl⟩))
      all_goals
        have h5 := (((((((((unhide HS4).drew (1 + q)).set 0 (.int .i64 0)).set 1 (.string ⟨#[]⟩)).set 2 (.int .i32 0)).set 3 (.int .i64 0)).set 4 (.int .i64 b1)).set 5 (.int .i64 x1.1)).set 6 (.int .i64 x1.2)).set 7 (.int .i64 0)
        rw [set8 hcs] at h5
        have HS6 : Hz (CutSt w _ C s b1 x1 v ws (wd0 b1 x1)) := hide h5
        clear h5 c1 c2 c3 g0 k0 HBL HS4
        generalize (((((((((w3.drewN (1 + q)).setCell ⟨w.heap.size, 0, none⟩ (.int .i64 0)).setCell ⟨w.heap.size, 1, none⟩ (.string ⟨#[]⟩)).setCell ⟨w.heap.size, 2, none⟩ (.int .i32 0)).setCell ⟨w.heap.size, 3, none⟩ (.int .i64 0)).setCell ⟨w.heap.size, 4, none⟩ (.int .i64 b1)).setCell ⟨w.heap.size, 5, none⟩ (.int .i64 x1.1)).setCell ⟨w.heap.size, 6, none⟩ (.int .i64 x1.2)).setCell ⟨w.heap.size, 7, none⟩ (.int .i64 0)) = W5 at *
        have hrz1 := rst_size s b1
        by_cases hz1 : 0 < (rst s b1).size
        · have hne := toList_ne (rst s b1) hz1
          have hbt := bt_get (rst s b1) 0 hz1
          have HZP := hide hz1
          have HRW : Hz (R = cutWord s f b1 x1 ws) := hide (by rw [unhide HR3, if_neg (by omega)])
          clear HR3
          have hne' : ((rst s b1).toList == []) = false := by simpa using hne
          clear hne
          cases hsm : smallB (bt (rst s b1) 0) with
          | true =>
            have HF := hide hsm
            rw [hbt] at hsm
            clear hbt
            go_wp2_with (first | (go_at_call 41; refine (isSmall_any _ _).mono ?_; rintro e w' ⟨rfl, rfl⟩) | (go_at_call 46; refine (isDigit_any _ _).mono ?_; rintro e w' ⟨rfl, rfl⟩))
            go_step3
            exact ⟨10 * (s.size - b1) + 5, by have := unhide HHK; omega, ⟨by omega, by omega⟩, f, b1, x1, ws, v, rfl, unhide HPL1, by omega, unhide HZP, .inl ⟨rfl, unhide HF⟩, unhide HRW, unhide HS6, mk_act rfl⟩
          | false =>
            cases hdg : digB (bt (rst s b1) 0) with
            | true =>
              have HF := hide (And.intro hsm hdg)
              rw [hbt] at hsm hdg
              clear hbt
              go_wp2_with (first | (go_at_call 41; refine (isSmall_any _ _).mono ?_; rintro e w' ⟨rfl, rfl⟩) | (go_at_call 46; refine (isDigit_any _ _).mono ?_; rintro e w' ⟨rfl, rfl⟩))
              go_step3
              exact ⟨10 * (s.size - b1) + 5, by have := unhide HHK; omega, ⟨by omega, by omega⟩, f, b1, x1, ws, v, rfl, unhide HPL1, by omega, unhide HZP, .inr (.inl ⟨rfl, (unhide HF).1, (unhide HF).2⟩), unhide HRW, unhide HS6, mk_act rfl⟩
            | false =>
              by_cases h85 : bt (rst s b1) 0 = 85
              · have HF := hide h85
                have h85' : ((((rst s b1)[0]'hz1).toNat : Int) == 85) = true := by rw [← hbt, h85]; rfl
                rw [hbt] at hsm hdg
                clear hbt h85
                go_wp2_with (first | (go_at_call 41; refine (isSmall_any _ _).mono ?_; rintro e w' ⟨rfl, rfl⟩) | (go_at_call 46; refine (isDigit_any _ _).mono ?_; rintro e w' ⟨rfl, rfl⟩))
                go_step3
                exact ⟨10 * (s.size - b1) + 5, by have := unhide HHK; omega, ⟨by omega, by omega⟩, f, b1, x1, ws, v, rfl, unhide HPL1, by omega, unhide HZP, .inr (.inr (.inl ⟨rfl, unhide HF⟩)), unhide HRW, unhide HS6, mk_act rfl⟩
              · have h85' : ((((rst s b1)[0]'hz1).toNat : Int) == 85) = false := by rw [beq_eq_false_iff_ne, ← hbt]; omega
                by_cases h39 : bt (rst s b1) 0 = 39
                · have HF := hide h39
                  have h39' : ((((rst s b1)[0]'hz1).toNat : Int) == 39) = true := by rw [← hbt, h39]; rfl
                  rw [hbt] at hsm hdg
                  clear hbt h85 h39
                  go_wp2_with (first | (go_at_call 41; refine (isSmall_any _ _).mono ?_; rintro e w' ⟨rfl, rfl⟩) | (go_at_call 46; refine (isDigit_any _ _).mono ?_; rintro e w' ⟨rfl, rfl⟩))
                  go_step3
                  exact ⟨10 * (s.size - b1) + 5, by have := unhide HHK; omega, ⟨by omega, by omega⟩, f, b1, x1, ws, v, rfl, unhide HPL1, by omega, unhide HZP, .inr (.inr (.inr ⟨rfl, unhide HF⟩)), unhide HRW, unhide HS6, mk_act rfl⟩
                · have h39' : ((((rst s b1)[0]'hz1).toNat : Int) == 39) = false := by rw [beq_eq_false_iff_ne, ← hbt]; omega
                  have hwv : wordV (rst s b1) = ⟨(sgnV (rst s b1)).1, ByteArray.empty, 0, 0, (sgnV (rst s b1)).2.1, (sgnV (rst s b1)).2.2⟩ := by unfold wordV; rw [if_neg (by rw [hsm]; decide), if_neg (by rw [hdg]; decide), if_neg h85, if_neg h39]
                  have HWV := hide hwv
                  rw [hbt] at hsm hdg
                  clear hbt h85 h39 hwv
                  go_wp2_with (first | (go_at_call 41; refine (isSmall_any _ _).mono ?_; rintro e w' ⟨rfl, rfl⟩) | (go_at_call 46; refine (isDigit_any _ _).mono ?_; rintro e w' ⟨rfl, rfl⟩))
                  refine (sign_any (rst s b1) hz1 _).mono ?_
                  rintro e w6 ⟨rfl, rfl⟩
                  have k0 := (unhide HS6).box.cell 0
                  have f0 := (unhide HS6).box.frozen 0
                  have HS7 := hide ((unhide HS6).set 0 (.int .i64 ((sgnV (rst s b1)).1 : Nat)))
                  have e1 : (wordV (rst s b1)).n = (sgnV (rst s b1)).2.1 := by rw [unhide HWV]
                  have e2 : (wordV (rst s b1)).ok = (sgnV (rst s b1)).2.2 := by rw [unhide HWV]
                  have HE := hide (And.intro e1 e2)
                  clear e1 e2
                  go_wp2_with fail
                  go_step3
                  refine ⟨10 * (s.size - b1) + 2, by have := unhide HHK; omega, f, b1, x1, ws, v, _, rfl, unhide HPL1, by omega, unhide HZP, rfl, fun _ => ?_, unhide HRW, unhide HS7, ?_⟩
                  · rw [unhide HWV]; rfl
                  · rw [(unhide HE).1, (unhide HE).2]; exact mk_act rfl
        · have he : rst s b1 = ByteArray.empty := toList_nil _ (by omega)
          have hte : ((rst s b1).toList == []) = true := by rw [he, ByteArray.toList_eq]; rfl
          have HRF : Hz (R = ⟨true, b1, x1, ws⟩) := hide (by rw [unhide HR3, if_pos (by omega)])
          clear HR3 he hz1
          go_wp2_with fail
          show Exit.noGoto _ Exit.ret _ _
          rw [Exit.noGoto_ret]
          go_ret
          obtain ⟨r1, r2, r3, r4⟩ := CutV.parts (unhide HRF)
          rw [r1, r2, r3, r4]
          exact ⟨rfl, v, _, unhide HS6⟩
  case pass =>
    rintro l k a W hl4 hl5 hJ
    match l, hJ, hl4, hl5 with
    | 0, ⟨_, f, b, x, ws, v, hk, hpl, hfu, hz, hcase, hRe, hst, U, ha⟩, _, _ =>
      subst ha
      refine ⟨_, rfl, ?_⟩
      have hsm : smallB (bt (rst s b) 0) = true := by
        rcases hcase with h | h | h | h
        · exact h.2
        · omega
        · omega
        · omega
      have hwv : wordV (rst s b) = ⟨1, (rst s b).extract 0 (nameLen (rst s b)), 0, 0, nameLen (rst s b), edgeB (rst s b) (nameLen (rst s b))⟩ := by unfold wordV; rw [if_pos hsm]
      have hrz := rst_size s b
      have hnl := (nameLen_le (rst s b)).1
      have hnm := named_any (rst s b) (by unfold maxLen; omega) W
      obtain ⟨n, hn⟩ : ∃ n, n = nameLen (rst s b) := ⟨_, rfl⟩
      rw [← hn] at hwv hnl hnm
      have hn1 : (n : Int) ≤ ((rst s b).size : Int) := by omega
      have hn2 : ((n : Nat) : Int).toNat = n := by omega
      have k0 := hst.box.cell 0
      have k1 := hst.box.cell 1
      have f0 := hst.box.frozen 0
      have f1 := hst.box.frozen 1
      have HNM := hide hnm
      have HWV := hide hwv
      have H0 := hide (And.intro hk (And.intro hpl (And.intro hfu (And.intro hz hRe))))
      have HST := hide hst
      clear hnm hwv hk hpl hfu hz hRe hst hcase hn
      go_wp2_with fail
      refine (unhide HNM).mono ?_
      rintro e w1 ⟨rfl, rfl⟩
      go_wp2_with fail
      go_region_with (fail)
      all_goals
        have h5 := (((unhide HST).set 0 (.int .i64 1)).set 1 (.string ((rst s b).extract 0 n))).drew1
        have HS7 := hide h5
        have e1 : (wordV (rst s b)).n = n := by rw [unhide HWV]
        have e2 : (wordV (rst s b)).ok = edgeB (rst s b) (wordV (rst s b)).n := by rw [unhide HWV]
        have HE := hide (And.intro e1 e2)
        clear h5 e1 e2 k0 k1 f0 f1 HST
        generalize ((w1.setCell ⟨w.heap.size, 0, none⟩ (.int .i64 1)).setCell ⟨w.heap.size, 1, none⟩ (.string ((rst s b).extract 0 n))).drew = W5 at *
        go_wp2_with fail
        go_step3
        obtain ⟨hk, hpl, hfu, hz, hRe⟩ := unhide H0
        refine ⟨10 * (s.size - b) + 3, by omega, f, b, x, ws, v, rfl, hpl, hfu, hz, (unhide HE).2, hRe, ?_, ?_⟩
        · exact CutSt.as (unhide HS7) (by rw [unhide HWV]; simp)
        · rw [(unhide HE).1]; exact mk_act rfl
    | 1, ⟨_, f, b, x, ws, v, hk, hpl, hfu, hz, hcase, hRe, hst, U, ha⟩, _, _ =>
      subst ha
      refine ⟨_, rfl, ?_⟩
      have hsd : smallB (bt (rst s b) 0) = false ∧ digB (bt (rst s b) 0) = true := by
        rcases hcase with h | h | h | h
        · omega
        · exact h.2
        · omega
        · omega
      have hwv : wordV (rst s b) = ⟨2, ByteArray.empty, 0, (numV (rst s b)).1, (numV (rst s b)).2, edgeB (rst s b) (numV (rst s b)).2⟩ := by unfold wordV; rw [if_neg (by rw [hsd.1]; decide), if_pos hsd.2]
      have hrz := rst_size s b
      have hnm := fun W' => number_any (rst s b) (by omega) hz hsd.2 W'
      obtain ⟨n, hn⟩ : ∃ n, n = (numV (rst s b)).2 := ⟨_, rfl⟩
      obtain ⟨y, hy⟩ : ∃ y, y = (numV (rst s b)).1 := ⟨_, rfl⟩
      rw [← hn, ← hy] at hwv
      simp only [← hn, ← hy] at hnm
      have h1 := hst.set 0 (.int .i64 2)
      have k0 := hst.box.cell 0
      have f0 := hst.box.frozen 0
      have k3 := h1.box.cell 3
      have f3 := h1.box.frozen 3
      have HS7 := hide (h1.set 3 (.int .i64 y))
      have HNM := hide hnm
      have HWV := hide hwv
      have H0 := hide (And.intro hk (And.intro hpl (And.intro hfu (And.intro hz hRe))))
      clear hnm hwv hk hpl hfu hz hRe hst hcase hn hy h1 hsd
      go_wp2_with fail
      refine (unhide HNM _).mono ?_
      rintro e w1 ⟨rfl, rfl⟩
      have e1 : (wordV (rst s b)).n = n := by rw [unhide HWV]
      have e2 : (wordV (rst s b)).ok = edgeB (rst s b) (wordV (rst s b)).n := by rw [unhide HWV]
      have HE := hide (And.intro e1 e2)
      clear e1 e2
      go_wp2_with fail
      go_step3
      obtain ⟨hk, hpl, hfu, hz, hRe⟩ := unhide H0
      refine ⟨10 * (s.size - b) + 3, by omega, f, b, x, ws, v, rfl, hpl, hfu, hz, (unhide HE).2, hRe, ?_, ?_⟩
      · exact CutSt.as (unhide HS7) (by rw [unhide HWV]; simp)
      · rw [(unhide HE).1]; exact mk_act rfl
    | 2, ⟨_, f, b, x, ws, v, hk, hpl, hfu, hz, hcase, hRe, hst, U, ha⟩, _, _ =>
      subst ha
      refine ⟨_, rfl, ?_⟩
      have h85 : bt (rst s b) 0 = 85 := by
        rcases hcase with h | h | h | h
        · omega
        · omega
        · exact h.2
        · omega
      have hwv : wordV (rst s b) = ⟨3, ByteArray.empty, (numdV (rst s b)).1, 0, (numdV (rst s b)).2.1, (numdV (rst s b)).2.2 && edgeB (rst s b) (numdV (rst s b)).2.1⟩ := by unfold wordV; rw [h85, if_neg (by decide), if_neg (by decide), if_pos rfl]
      have hrz := rst_size s b
      have hnm := fun W' => numbered_any (rst s b) (by omega) W'
      obtain ⟨y, n, o, hno⟩ : ∃ y n o, numdV (rst s b) = (y, n, o) := prod3 _
      rw [hno] at hwv
      simp only [hno] at hnm
      have h1 := hst.set 0 (.int .i64 3)
      have k0 := hst.box.cell 0
      have f0 := hst.box.frozen 0
      have k2 := h1.box.cell 2
      have f2 := h1.box.frozen 2
      have HS7 := hide (h1.set 2 (.int .i32 y))
      have HNM := hide hnm
      have HWV := hide hwv
      have H0 := hide (And.intro hk (And.intro hpl (And.intro hfu (And.intro hz hRe))))
      clear hnm hwv hk hpl hfu hz hRe hst hcase hno h1 h85
      go_wp2_with fail
      refine (unhide HNM _).mono ?_
      rintro e w1 ⟨rfl, rfl⟩
      cases o with
      | true =>
        have e1 : (wordV (rst s b)).n = n := by rw [unhide HWV]
        have e2 : (wordV (rst s b)).ok = edgeB (rst s b) (wordV (rst s b)).n := by rw [unhide HWV]; rfl
        have HE := hide (And.intro e1 e2)
        clear e1 e2
        go_wp2_with fail
        go_step3
        obtain ⟨hk, hpl, hfu, hz, hRe⟩ := unhide H0
        refine ⟨10 * (s.size - b) + 3, by omega, f, b, x, ws, v, rfl, hpl, hfu, hz, (unhide HE).2, hRe, ?_, ?_⟩
        · exact CutSt.as (unhide HS7) (by rw [unhide HWV]; simp)
        · rw [(unhide HE).1]; exact mk_act rfl
      | false =>
        have e1 : (wordV (rst s b)).n = n := by rw [unhide HWV]
        have e2 : (wordV (rst s b)).ok = false := by rw [unhide HWV]; rfl
        have HE := hide (And.intro e1 e2)
        clear e1 e2
        go_wp2_with fail
        go_step3
        obtain ⟨hk, hpl, hfu, hz, hRe⟩ := unhide H0
        refine ⟨10 * (s.size - b) + 2, by omega, f, b, x, ws, v, _, rfl, hpl, hfu, hz, rfl, fun h => absurd ((unhide HE).2.symm.trans h) (by decide), hRe, unhide HS7, ?_⟩
        rw [(unhide HE).1, (unhide HE).2]; exact mk_act rfl
    | 3, ⟨_, f, b, x, ws, v, hk, hpl, hfu, hz, hcase, hRe, hst, U, ha⟩, _, _ =>
      subst ha
      refine ⟨_, rfl, ?_⟩
      have h39 : bt (rst s b) 0 = 39 := by
        rcases hcase with h | h | h | h
        · omega
        · omega
        · omega
        · exact h.2
      have hwv : wordV (rst s b) = ⟨3, ByteArray.empty, (quoV (rst s b)).1, 0, (quoV (rst s b)).2.1, (quoV (rst s b)).2.2⟩ := by unfold wordV; rw [h39, if_neg (by decide), if_neg (by decide), if_neg (by decide), if_pos rfl]
      have hrz := rst_size s b
      have hnm := fun W' => quoted_any (rst s b) (by omega) hz W'
      obtain ⟨y, n, o, hno⟩ : ∃ y n o, quoV (rst s b) = (y, n, o) := prod3 _
      rw [hno] at hwv
      simp only [hno] at hnm
      have h1 := hst.set 0 (.int .i64 3)
      have k0 := hst.box.cell 0
      have f0 := hst.box.frozen 0
      have HS6 := hide h1
      have HNM := hide hnm
      have HWV := hide hwv
      have H0 := hide (And.intro hk (And.intro hpl (And.intro hfu (And.intro hz hRe))))
      clear hnm hwv hk hpl hfu hz hRe hst hcase hno h1 h39
      go_wp2_with fail
      refine (unhide HNM _).mono ?_
      rintro e w1 ⟨rfl, hb⟩
      have h2 := (unhide HS6).below hb
      have k2 := h2.box.cell 2
      have f2 := h2.box.frozen 2
      have HS7 := hide (h2.set 2 (.int .i32 y))
      have e1 : (wordV (rst s b)).n = n := by rw [unhide HWV]
      have e2 : (wordV (rst s b)).ok = o := by rw [unhide HWV]
      have HE := hide (And.intro e1 e2)
      clear e1 e2 hb h2 k0 f0 HS6
      go_wp2_with fail
      go_step3
      obtain ⟨hk, hpl, hfu, hz, hRe⟩ := unhide H0
      refine ⟨10 * (s.size - b) + 2, by omega, f, b, x, ws, v, _, rfl, hpl, hfu, hz, rfl, fun h => ?_, hRe, unhide HS7, ?_⟩
      · rw [unhide HWV]; simp
      · rw [(unhide HE).1, (unhide HE).2]; exact mk_act rfl
    | 4, hJ, h4, _ => exact absurd rfl h4
    | 5, hJ, _, h5 => exact absurd rfl h5
    | n + 6, ⟨h, _⟩, _, _ => omega
  case six =>
    rintro h5 k a W ⟨f, b, x, ws, v, hk, hpl, hfu, hz, hok, hRe, hst, U, ha⟩
    subst ha
    refine ⟨_, rfl, ?_⟩
    have hrz := rst_size s b
    have hnl := (wordV_le (rst s b) hz).1
    obtain ⟨n, hn⟩ : ∃ n, n = (wordV (rst s b)).n := ⟨_, rfl⟩
    have hok2 : (wordV (rst s b)).ok = edgeB (rst s b) n := by rw [hn]; exact hok
    rw [← hn] at hnl
    rw [← hn]
    have H5 := hide h5
    have HST := hide hst
    have H0 := hide (And.intro hk (And.intro hpl (And.intro hfu (And.intro hz hRe))))
    have HOK := hide hok2
    have HN := hide hn
    clear h5 hst hk hpl hfu hRe hok hok2 hn
    obtain ⟨t, ht⟩ : ∃ t, t = rst s b := ⟨_, rfl⟩
    have fin : ∀ (o : Bool) (a' : Act), o = edgeB t n → (∃ U : Nat → Value, a' = { tmps := #[.pointer (some ⟨C, 0, none⟩), U 1, .bool false, .pointer (some ⟨w.heap.size, 0, none⟩), .string t, .int .i64 n, .bool o, U 7, U 8, U 9, U 10, U 11, U 12, U 13, U 14, U 15, U 16, U 17, U 18, U 19, U 20, U 21, U 22, U 23, U 24, U 25, U 26, U 27, U 28, U 29, U 30, U 31, U 32, U 33, U 34, U 35, U 36, U 37, U 38, U 39, U 40, U 41, U 42, U 43, U 44, U 45, U 46, U 47, U 48, U 49, U 50, U 51, U 52, U 53, U 54, U 55, U 56, U 57, U 58, U 59, U 60, U 61, U 62, U 63, U 64, U 65, U 66, U 67, U 68, U 69, U 70, U 71, U 72, U 73, U 74, U 75, U 76, U 77, U 78, U 79, U 80, U 81, U 82, U 83, U 84, U 85, U 86, U 87, U 88, U 89, U 90, U 91, U 92, U 93, U 94, U 95, U 96, U 97, U 98, U 99, U 100, U 101, U 102, U 103, U 104, U 105, U 106, U 107, U 108, U 109, U 110, U 111, U 112, U 113], defers := [] }) → cutJ w C s R 5 (10 * (s.size - b) + 2) a' W := by
      rintro o a' ho ⟨U, rfl⟩
      obtain ⟨hk, hpl, hfu, hz, hRe⟩ := unhide H0
      refine ⟨f, b, x, ws, v, _, rfl, hpl, hfu, hz, rfl, fun _ => rfl, hRe, unhide HST, U, ?_⟩
      rw [← unhide HN, unhide HOK, ho, ht]
    have FIN := hide fin
    have hnl2 : n ≤ t.size := by rw [ht]; exact hnl
    have HH0 := hide (unhide H0).1
    rw [← ht]
    clear fin hnl hrz hz ht HOK HN HST
    by_cases hns : n = t.size
    · have he : edgeB t n = true := by unfold edgeB; rw [decide_eq_true hns]; rfl
      have HE := hide he
      subst hns
      have hns' : ((t.size : Int) == (t.size : Int)) = true := by simp
      clear he
      go_wp2_with fail
      rename_i K hK
      go_step3
      apply hK
      refine jumps_mono (unhide H5 (10 * (s.size - b) + 2) _ _ (unhide FIN true _ (unhide HE).symm (mk_act rfl))) ?_
      exact fun l a w ⟨k', hlt, hk'⟩ => ⟨k', by have := unhide HH0; omega, hk'⟩
    · have hlt : n < t.size := by omega
      have hbt := bt_get t n hlt
      have he : edgeB t n = !stkB (bt t n) := by unfold edgeB; rw [decide_eq_false hns]; rfl
      rw [hbt] at he
      have hns' : ((n : Int) == (t.size : Int)) = false := by rw [beq_eq_false_iff_ne]; omega
      have hi1 : (n : Int) < (t.size : Int) := by omega
      have hi2 : ((n : Nat) : Int).toNat = n := by omega
      have HE := hide he
      clear hns he hbt
      go_wp2_with fail
      refine (sticks_any _ _).mono ?_
      rintro e w1 ⟨rfl, rfl⟩
      go_wp2_with fail
      rename_i K hK
      go_step3
      apply hK
      refine jumps_mono (unhide H5 (10 * (s.size - b) + 2) _ _ (unhide FIN _ _ (unhide HE).symm (mk_act rfl))) ?_
      exact fun l a w ⟨k', hlt, hk'⟩ => ⟨k', by have := unhide HH0; omega, hk'⟩
  case five =>
    rintro k a W ⟨f, b, x, ws, v, cs, hk, hpl, hfu, hz, hcs, hw1, hRe, hst, U, ha⟩
    subst ha
    have hrz := rst_size s b
    have hle := wordV_le (rst s b) hz
    obtain ⟨n, hn⟩ : ∃ n, n = (wordV (rst s b)).n := ⟨_, rfl⟩
    obtain ⟨o, ho⟩ : ∃ o, o = (wordV (rst s b)).ok := ⟨_, rfl⟩
    obtain ⟨y, hy⟩ : ∃ y, y = wordV (rst s b) := ⟨_, rfl⟩
    rw [← hn, ← ho] at hle
    rw [← ho, ← hy] at hw1
    rw [← hn, ← ho]
    have hbn : b + n ≤ s.size := by omega
    have hps := pass_any C s b n hbn (by omega) x.1 x.2 (by have := hpl.2.2.2; omega) (by have := hpl.2.2.1; omega) v W hst.blk
    have hRe2 : R = if o = false then ⟨false, b + n, lcB (rst s b) x n, ws⟩ else cutGo s f (b + n) (lcB (rst s b) x n) (ws ++ [⟨y, b, x.1, x.2, b + n⟩]) := by rw [hRe, hn, ho, hy]; rfl
    have HPS := hide hps
    have HST := hide hst
    have HRE := hide hRe2
    have HW1 := hide hw1
    have H0 := hide (And.intro hk (And.intro hpl (And.intro hfu hle)))
    clear hps hst hRe hRe2 hw1 hk hpl hfu hz hn ho hy hle hrz
    go_wp2_with fail
    refine (unhide HPS).mono ?_
    rintro e w1 ⟨rfl, hblk, hgr⟩
    have HS2 := hide ((unhide HST).pass (x' := lcB (rst s b) x n) hblk hgr)
    clear hblk hgr HPS HST
    cases o with
    | false =>
      have HRF : Hz (R = ⟨false, b + n, lcB (rst s b) x n, ws⟩) := hide (by rw [unhide HRE, if_pos rfl])
      clear HRE
      go_wp2_with fail
      show Exit.noGoto _ Exit.ret _ _
      rw [Exit.noGoto_ret]
      go_ret
      obtain ⟨r1, r2, r3, r4⟩ := CutV.parts (unhide HRF)
      rw [r1, r2, r3, r4]
      exact ⟨rfl, v, cs, unhide HS2⟩
    | true =>
      have HRF : Hz (R = cutGo s f (b + n) (lcB (rst s b) x n) (ws ++ [⟨y, b, x.1, x.2, b + n⟩])) := hide (by rw [unhide HRE, if_neg (by decide)])
      obtain rfl := unhide HW1 rfl
      have h2 := unhide HS2
      have c1 := h2.blk.cell 1
      have k7 := h2.box.cell 7
      have f7 := h2.box.frozen 7
      obtain ⟨ci, hci⟩ : ∃ ci, ci = (#[.int .i64 y.kind, .string y.S, .int .i32 y.R, .int .i64 y.N, .int .i64 b, .int .i64 x.1, .int .i64 x.2, .int .i64 ((b : Int) + n)] : Array Value) := ⟨_, rfl⟩
      have HS3 : Hz (CutSt w (w1.setCell ⟨w.heap.size, 7, none⟩ (.int .i64 ((b : Int) + n))) C s (b + n) (lcB (rst s b) x n) v ws ci) := hide ((h2.set 7 (.int .i64 ((b : Int) + n))).as (by rw [hci]; simp))
      have hbb : (b : Int) ≤ 262144 := by omega
      have hnb : (n : Int) ≤ 262144 := by omega
      have c1' : w1.cell? ⟨C, 1, none⟩ = some (.int .i64 ((b : Int) + n)) := by rw [c1]; simp [Int.natCast_add]
      clear HRE HW1 h2 HS2 c1
      go_wp2_with fail
      clear c1' k7 f7
      generalize w1.setCell ⟨w.heap.size, 7, none⟩ (.int .i64 ((b : Int) + n)) = W3 at *
      have h3 := unhide HS3
      subst hci
      obtain ⟨i0, hi, hz0, hz1, hz2⟩ := info_parts infoWord
      have HI := hide (And.intro hi (And.intro hz0 (And.intro hz1 hz2)))
      have d4 := h3.blk.cell 4
      have e4 := h3.blk.frozen 4
      have m0 := h3.box.cell 0
      have m1 := h3.box.cell 1
      have m2 := h3.box.cell 2
      have m3 := h3.box.cell 3
      have m4 := h3.box.cell 4
      have m5 := h3.box.cell 5
      have m6 := h3.box.cell 6
      have m7 := h3.box.cell 7
      have hmx : Tryz.prog.follows .mixedOrders = true := by kernel_rfl
      have hown := h3.own
      have hbase : w.heap.size + 1 ≤ W3.heap.size := h3.box.lt
      have hwl : ws.length ≤ 262144 := by have := (unhide H0).2.1; have h9 := this.2.2.2; have h8 := this.1; omega
      have dd4 : ∀ o, (W3.alloc o).cell? ⟨C, 4, none⟩ = some v := fun o => (h3.blk.alloc o).cell 4
      have dd5 : ∀ o, (W3.alloc o).drew.cell? ⟨C, 4, none⟩ = some v := dd4
      have fz : ∀ o, (W3.alloc o).frozen? ⟨C, 4, none⟩ = false := fun o => (h3.blk.alloc o).frozen 4
      have fz2 : ∀ o, (W3.alloc o).drew.frozen? ⟨C, 4, none⟩ = false := fz
      clear hi hz0 hz1 hz2 h3
      go_region_law ((refine step_append_lies _ (by rfl) _ _ _ (by rfl) (w.heap.size + 1) 45 i0 _ 8 72 Tryz.underlying33 (unhide HI).1 (unhide HI).2.1 (unhide HI).2.2.1 (unhide HI).2.2.2 rfl (by omega) v ws.length (encWs ws) (by rfl) ((hown.alloc _).drew) ⟨W3.heap.size, 0, none⟩ 1 1 [.int .i64 y.kind, .string y.S, .int .i32 y.R, .int .i64 y.N, .int .i64 b, .int .i64 x.1, .int .i64 x.2, .int .i64 ((b : Int) + n)] (by rfl) (by rfl) (World.news_of_block (cs := #[.int .i64 y.kind, .string y.S, .int .i32 y.R, .int .i64 y.N, .int .i64 b, .int .i64 x.1, .int .i64 x.2, .int .i64 ((b : Int) + n)]) (t := 45) (fr := (0, 0)) (heap_alloc_new W3 _)) (by simp [Value.oneCell']) (by omega) (by unfold maxLen; omega) (by omega) (by simp; omega) (W3.heap.size + 1) (by simp) ?_; intro gg cap w3 hown1 hgrow hatt hlt; obtain ⟨q1, q2⟩ := (unhide HS3).app hgrow; have q3 := q1.cell 4; have q4 := q1.frozen 4))
      all_goals
        have ew : wdCells ⟨y, b, x.1, x.2, b + n⟩ = [.int .i64 y.kind, .string y.S, .int .i32 y.R, .int .i64 y.N, .int .i64 b, .int .i64 x.1, .int .i64 x.2, .int .i64 ((b : Int) + n)] := by simp [wdCells, Int.natCast_add]
        have h9 := (unhide HS3).push (X := ⟨y, b, x.1, x.2, b + n⟩) hgrow (by rw [ew]; exact hown1)
        have HS9 := hide h9
        clear h9 hown1 hgrow hatt hlt q1 q2 q3 q4 d4 e4 m0 m1 m2 m3 m4 m5 m6 m7 dd4 dd5 fz fz2 hown HS3
        go_wp2_with fail
        go_step3
        obtain ⟨hk, hpl, hfu, hle⟩ := unhide H0
        have h1n := hle.2 (by trivial)
        have hbd := lcB_bound (rst s b) x n hpl.2.1
        refine ⟨10 * (s.size - (b + n)) + 9, by omega, f, b + n, lcB (rst s b) x n, _, _, _, rfl, ⟨hbn, hbd.1, by have := hpl.2.2.1; omega, by have := hpl.2.2.2; omega, ?_⟩, by omega, rfl, unhide HRF, unhide HS9, mk_act rfl⟩
        rw [List.length_append]
        have := hpl.2.2.2
        simp
        omega
end Go.Proofs.YtcnhkhjkeemafaaGreatDoor
/- Where: the place of a byte of a text. -/
namespace Go.Proofs.YtcnhkhjkeemafaaGreatDoor
open Go.RowKit Go.Shelf
set_option linter.unusedVariables false
theorem countNl_sh (s : ByteArray) (w : World) : Calls Tryz.prog 29 #[.string s, .string ⟨#[10]⟩] w fun e w' => e = .returned (.int .i64 (Lib.countByte s.data.toList 10)) ∧ w' = w := Any.strings_Count_one lay138 s 10 w
theorem lastNl_sh (s : ByteArray) (hs : s.size < 4611686018427387904) (w : World) : Calls Tryz.prog 28 #[.string s, .int .u8 10] w fun e w' => e = .returned (.int .i64 (Lib.lastIndexByte s 10)) ∧ w' = w := Any.strings_LastIndexByte lay149 s 10 hs w
/-- What stands ahead of a place, up to a spot's beginning. -/
def aheadV (s : ByteArray) (k : Nat) : ByteArray := s.extract 0 (cutAt s k)
/-- Where the last line of a text begins. -/
def lastL (t : ByteArray) : Nat := (Lib.lastIndexByte t 10 + 1).toNat
/-- Line and column. -/
def whL (s : ByteArray) (k : Nat) : Nat × Nat := (1 + Lib.countByte (aheadV s k).data.toList 10, 1 + (starts ((aheadV s k).extract (lastL (aheadV s k)) (aheadV s k).size)).length)
theorem lastL_le (t : ByteArray) : (Lib.lastIndexByte t 10 + 1) = (lastL t : Int) ∧ lastL t ≤ t.size := by
  unfold lastL
  rcases Lib.lastIndexByte_spec t 10 with ⟨h, _⟩ | ⟨i, hi, h, _⟩
  · rw [h]; exact ⟨rfl, Nat.zero_le _⟩
  · rw [h]; omega
abbrev atA (k : Nat) (x : Nat × Nat) : Array Value := #[.int .i64 k, .int .i64 x.1, .int .i64 x.2]
set_option maxRecDepth 100000 in
set_option maxHeartbeats 4000000 in
theorem where_in (s : ByteArray) (hs : s.size ≤ 262145) (k : Nat) (hk : k ≤ s.size) (w : World) : Calls Tryz.prog 16 #[.string s, .int .i64 k] w fun e w' => e = .returned (.agg (atA k (whL s k))) ∧ Below w.heap.size w w' := by
  have hkc : clampV s (k : Int) = k := by unfold clampV; omega
  have hcut := cut_any s (by unfold maxLen; omega) (k : Int)
  rw [hkc] at hcut
  obtain ⟨t, ht⟩ : ∃ t, t = aheadV s k := ⟨_, rfl⟩
  have hts : t.size ≤ s.size := by rw [ht]; unfold aheadV; rw [ByteArray.size_extract]; omega
  have hcut2 : ∀ w, Calls Tryz.prog 27 #[.string s, .int .i64 k] w fun e w' => e = .returned (.tuple #[.string t, .string (s.extract (cutAt s k) s.size)]) ∧ Below w.heap.size w w' := fun w => by rw [ht]; exact hcut w
  obtain ⟨hl1, hl2⟩ := lastL_le t
  obtain ⟨n, hn⟩ : ∃ n, n = lastL t := ⟨_, rfl⟩
  obtain ⟨j, hj⟩ : ∃ j, j = Lib.countByte t.data.toList 10 := ⟨_, rfl⟩
  have hjs : j ≤ t.size := by rw [hj]; have := List.count_le_length (a := (10 : UInt8)) (l := t.data.toList); rw [Array.length_toList] at this; exact this
  have hlast := lastNl_sh t (by omega)
  have hcnt := countNl_sh t
  rw [← hn] at hl1 hl2
  rw [← hj] at hcnt
  have hw : whL s k = (1 + j, 1 + (starts (t.extract n t.size)).length) := by unfold whL; rw [← ht, ← hj, ← hn]
  have hus : (t.extract n t.size).size ≤ t.size := by rw [ByteArray.size_extract]; omega
  have hsl := starts_length (t.extract n t.size)
  obtain ⟨u, hu⟩ : ∃ u, u = t.extract n t.size := ⟨_, rfl⟩
  rw [← hu] at hw hus hsl
  have hcu := count_any u (by unfold maxLen; omega)
  obtain ⟨z, hz⟩ : ∃ z, z = (starts u).length := ⟨_, rfl⟩
  rw [← hz] at hw hsl hcu
  have hue : t.extract n t.size = u := hu.symm
  have hks : (k : Int) ≤ (s.size : Int) := by omega
  have hk0 : (0 : Int) ≤ (k : Int) := by omega
  have hn1 : (n : Int) ≤ (t.size : Int) := by omega
  have hn2 : ((n : Nat) : Int).toNat = n := by omega
  have hjb : (j : Int) ≤ 262145 := by omega
  have hzb : (z : Int) ≤ 262145 := by omega
  have HC := hide hcut2
  have HL := hide hlast
  have HN := hide hcnt
  have HU := hide hcu
  have HW := hide hw
  have HL1 := hide hl1
  have hB0 := (Below.refl w.heap.size w).alloc (Nat.le_refl _) (.cells #[.int .i64 0, .int .i64 0, .int .i64 0] 35)
  have b0 := Blk.new w #[.int .i64 0, .int .i64 0, .int .i64 0] 35
  have Hb0 := hide b0
  have HB0 := hide hB0
  clear hcut hcut2 hlast hcnt hcu hw hl1 hu hz hn hj ht hkc hB0 b0
  go_enter Tryz.func16, Tryz.ntmps16
  go_wp2_with fail
  rw [show min (k : Int) (s.size : Int) = k by omega]
  refine (unhide HC _).mono ?_
  rintro e w1 ⟨rfl, hb⟩
  have Hb1 := hide ((unhide Hb0).below hb (unhide Hb0).lt)
  have HB1 := hide ((unhide HB0).trans (hb.mono (unhide HB0).size))
  clear hb Hb0 HB0 HC
  go_wp2_with fail
  refine (unhide HL _).mono ?_
  rintro e w2 ⟨rfl, rfl⟩
  rw [show Lib.lastIndexByte t 10 = (n : Int) - 1 by have := unhide HL1; omega]
  have hnb : (n : Int) ≤ 262145 := by omega
  have HBZ : Hz (w2.frozen? ⟨w.heap.size, 0, none⟩ = false ∧ w2.frozen? ⟨w.heap.size, 1, none⟩ = false ∧ w2.frozen? ⟨w.heap.size, 2, none⟩ = false) := hide ⟨(unhide Hb1).frozen 0, (unhide Hb1).frozen 1, (unhide Hb1).frozen 2⟩
  go_wp2_with fail
  have hB2 : ∀ w' : World, Below w2.drew.heap.size w2.drew w' → Blk w' w.heap.size #[.int .i64 0, .int .i64 0, .int .i64 0] 35 := fun w' hb => (show Blk w2.drew w.heap.size #[.int .i64 0, .int .i64 0, .int .i64 0] 35 from unhide Hb1).below hb (unhide Hb1).lt
  have HB2 := hide hB2
  clear hB2
  go_region_with ((first | (go_at_call 29; refine (unhide HN _).mono ?_; rintro e w' ⟨rfl, rfl⟩) | (go_at_call 30; refine (unhide HU _).mono ?_; rintro e w' ⟨rfl, hb⟩; have c0 := (unhide HB2 w' hb).cell 0; have c1 := (unhide HB2 w' hb).cell 1; have c2 := (unhide HB2 w' hb).cell 2; have f0 := (unhide HB2 w' hb).frozen 0; have f1 := (unhide HB2 w' hb).frozen 1; have f2 := (unhide HB2 w' hb).frozen 2)))
  rw [wrap_i64 (n := 1 + (j : Int)) (by omega) (by omega), wrap_i64 (n := 1 + (z : Int)) (by omega) (by omega)]
  have hE : Blk (((w'.setCell ⟨w.heap.size, 0, none⟩ (.int .i64 k)).setCell ⟨w.heap.size, 1, none⟩ (.int .i64 (1 + (j : Int)))).setCell ⟨w.heap.size, 2, none⟩ (.int .i64 (1 + (z : Int)))) w.heap.size #[.int .i64 k, .int .i64 (1 + (j : Int)), .int .i64 (1 + (z : Int))] 35 := (((unhide HB2 w' hb).set 0 (.int .i64 k)).set 1 (.int .i64 (1 + (j : Int)))).set 2 (.int .i64 (1 + (z : Int)))
  have hBB : Below w.heap.size w w' := (show Below w.heap.size w w2.drew from (unhide HB1).drew).trans (hb.mono (unhide HB1).size)
  have hBE := ((hBB.setCell (p := ⟨w.heap.size, 0, none⟩) (Nat.le_refl _) (.int .i64 k)).setCell (p := ⟨w.heap.size, 1, none⟩) (Nat.le_refl _) (.int .i64 (1 + (j : Int)))).setCell (p := ⟨w.heap.size, 2, none⟩) (Nat.le_refl _) (.int .i64 (1 + (z : Int)))
  have r0 := hE.cell 0
  have r1 := hE.cell 1
  have r2 := hE.cell 2
  have HBE := hide hBE
  clear hE hBB hBE hb c0 c1 c2 f0 f1 f2
  generalize (((w'.setCell ⟨w.heap.size, 0, none⟩ (.int .i64 k)).setCell ⟨w.heap.size, 1, none⟩ (.int .i64 (1 + (j : Int)))).setCell ⟨w.heap.size, 2, none⟩ (.int .i64 (1 + (z : Int)))) = W9 at *
  go_wp2_with fail
  refine bodyPost_ret (v := .agg #[.int .i64 k, .int .i64 (1 + (j : Int)), .int .i64 (1 + (z : Int))]) (by simp [results, Tryz.results16, go_sem, r0, r1, r2]) rfl ⟨?_, unhide HBE⟩
  rw [unhide HW]
  simp [atA, Int.natCast_add]
end Go.Proofs.YtcnhkhjkeemafaaGreatDoor
/- Words: the words of a text. -/
namespace Go.Proofs.YtcnhkhjkeemafaaGreatDoor
open Go.RowKit Go.Shelf
set_option linter.unusedVariables false
theorem whL_zero (s : ByteArray) : whL s 0 = (1, 1) := by
  have h0 : cutAt s 0 = 0 := Nat.le_zero.1 (cutAt_le s 0)
  have ha : aheadV s 0 = ByteArray.empty := by unfold aheadV; rw [h0]; exact toList_nil _ (by rw [ByteArray.size_extract]; omega)
  unfold whL
  rw [ha]
  have h1 : (ByteArray.empty.extract (lastL ByteArray.empty) ByteArray.empty.size) = ByteArray.empty := toList_nil _ (by rw [ByteArray.size_extract]; have h9 : ByteArray.empty.size = 0 := rfl; omega)
  rw [h1]
  rfl
theorem own_lower {W : World} {lo lo' E sz n : Nat} {v : Value} {xs : List Value} (h : W.ownsRow lo E sz v n xs) (hl : lo' ≤ lo) : W.ownsRow lo' E sz v n xs := by
  refine ⟨h.1, ?_⟩
  rcases h.2 with h2 | ⟨g, cap, cur, e, hb, h3⟩
  · exact .inl h2
  · exact .inr ⟨g, cap, cur, e, by omega, h3⟩
/-- What the cutter makes of a text. -/
def wordsV (s : ByteArray) : CutV := cutGo s (s.size + 1) 0 (1, 1) []
set_option maxRecDepth 100000 in
set_option maxHeartbeats 4000000 in
theorem words_yes (s : ByteArray) (hs : s.size ≤ 262144) (hok : (wordsV s).ok = true) (m : Int) (w : World) (hm : w.cell? ⟨0, 0, none⟩ = some (.int .i64 m)) (hg : 0 < w.heap.size) :
    Calls Tryz.prog 13 #[.string s] w fun e w' => ∃ v, e = .returned (.tuple #[v, .agg #[.int .i64 0, .int .i64 0, .int .i64 0], .int .i64 0]) ∧ w'.ownsRow w.heap.size 45 8 v (wordsV s).ws.length (encWs (wordsV s).ws) ∧ Below w.heap.size w w' := by
  have hl : ¬ (262144 : Int) < (s.size : Int) := by omega
  have hwh := fun w => where_in s (by omega) 0 (Nat.zero_le _) w
  simp only [whL_zero] at hwh
  have b0 := Blk.new w #[.int .i64 0, .int .i64 0, .int .i64 0] 35
  have hB0 := (Below.refl w.heap.size w).alloc (Nat.le_refl _) (.cells #[.int .i64 0, .int .i64 0, .int .i64 0] 35)
  have Hb0 := hide b0
  have HB0 := hide hB0
  have HWH := hide hwh
  have HM := hide hm
  have HOK := hide hok
  clear hwh b0 hB0 hm hok
  go_enter Tryz.func13, Tryz.ntmps13
  go_wp2_with fail
  refine (show Calls Tryz.prog 16 #[.string s, .int .i64 0] _ _ from unhide HWH _).mono ?_
  rintro e w1 ⟨rfl, hb⟩
  have Hb1 := hide ((unhide Hb0).below hb (unhide Hb0).lt)
  have HB1 := hide ((unhide HB0).trans (hb.mono (unhide HB0).size))
  clear hb Hb0 HB0 HWH
  go_wp2_with fail
  have hal := (Below.refl w1.heap.size w1).alloc (Nat.le_refl _) (.cells #[.string s, .int .i64 0, .int .i64 1, .int .i64 1, .slice none 0 0] 53)
  have bC : Blk (w1.alloc (.cells #[.string s, .int .i64 0, .int .i64 1, .int .i64 1, .slice none 0 0] 53)) w1.heap.size (ctrC s (0 : Nat) (1 : Nat) (1 : Nat) (.slice none 0 0)) 53 := Blk.new w1 _ _
  have Hb2 := hide ((unhide Hb1).below hal (unhide Hb1).lt)
  have HB2 := hide ((unhide HB1).trans (hal.mono (unhide HB1).size))
  have hw1 := (unhide HB1).size
  have hM2 : (w1.alloc (.cells #[.string s, .int .i64 0, .int .i64 1, .int .i64 1, .slice none 0 0] 53)).cell? ⟨0, 0, none⟩ = some (.int .i64 m) := ((unhide HB2).cell (p := ⟨0, 0, none⟩) hg).trans (unhide HM)
  refine (cutter_any w1.heap.size s hs m _ bC hM2 (by omega) (wordsV s) rfl).mono ?_
  rintro e w3 ⟨rfl, v, cs, hst⟩
  rw [unhide HOK]
  have hgr := hst.gr
  have HB3 : Hz (Below w.heap.size w w3) := hide ((unhide HB2).grown hgr (unhide HB2).size (fun k hk => by cases hk; exact hw1))
  have hbl := hst.blk
  have hb3 : Blk w3 w.heap.size #[.int .i64 0, .int .i64 0, .int .i64 0] 35 := (unhide Hb2).kept hgr (fun e => by have := Option.some.inj e; have := (unhide Hb1).lt; omega)
  have c4 := hbl.cell 4
  have f0 := hb3.frozen 0
  have f1 := hb3.frozen 1
  have f2 := hb3.frozen 2
  have k0 := hb3.cell 0
  have k1 := hb3.cell 1
  have k2 := hb3.cell 2
  have hown := hst.own
  have HOWN := hide hown
  have hE : Blk (((w3.setCell ⟨w.heap.size, 0, none⟩ (.int .i64 0)).setCell ⟨w.heap.size, 1, none⟩ (.int .i64 0)).setCell ⟨w.heap.size, 2, none⟩ (.int .i64 0)) w.heap.size #[.int .i64 0, .int .i64 0, .int .i64 0] 35 := ((hb3.set 0 (.int .i64 0)).set 1 (.int .i64 0)).set 2 (.int .i64 0)
  have r0 := hE.cell 0
  have r1 := hE.cell 1
  have r2 := hE.cell 2
  clear hst hbl hb3 hown hgr bC hM2 hal Hb1 Hb2 HB1 HB2 hE
  go_wp2_with fail
  have hO : (((w3.setCell ⟨w.heap.size, 0, none⟩ (.int .i64 0)).setCell ⟨w.heap.size, 1, none⟩ (.int .i64 0)).setCell ⟨w.heap.size, 2, none⟩ (.int .i64 0)).ownsRow w.heap.size 45 8 v (wordsV s).ws.length (encWs (wordsV s).ws) := by
    have hlo : w.heap.size < (w1.alloc (.cells #[.string s, .int .i64 0, .int .i64 1, .int .i64 1, .slice none 0 0] 53)).heap.size + 1 := by rw [World.size_alloc]; omega
    exact own_lower (own_keep (own_keep (own_keep (unhide HOWN) (grown_setCell' _ ⟨w.heap.size, 0, none⟩ _) hlo) (grown_setCell' _ ⟨w.heap.size, 1, none⟩ _) hlo) (grown_setCell' _ ⟨w.heap.size, 2, none⟩ _) hlo) (by omega)
  have hBE := (((unhide HB3).setCell (p := ⟨w.heap.size, 0, none⟩) (Nat.le_refl _) (.int .i64 0)).setCell (p := ⟨w.heap.size, 1, none⟩) (Nat.le_refl _) (.int .i64 0)).setCell (p := ⟨w.heap.size, 2, none⟩) (Nat.le_refl _) (.int .i64 0)
  exact bodyPost_ret (v := .tuple #[v, .agg #[.int .i64 0, .int .i64 0, .int .i64 0], .int .i64 0]) (by simp [results, Tryz.results13, go_sem, r0, r1, r2]) rfl ⟨v, rfl, hO, hBE⟩
set_option maxRecDepth 100000 in
set_option maxHeartbeats 4000000 in
theorem words_no (s : ByteArray) (hs : s.size ≤ 262144) (hok : (wordsV s).ok = false) (hb : (wordsV s).b ≤ s.size) (m : Int) (w : World) (hm : w.cell? ⟨0, 0, none⟩ = some (.int .i64 m)) (hg : 0 < w.heap.size) :
    Calls Tryz.prog 13 #[.string s] w fun e w' => e = .returned (.tuple #[.slice none 0 0, .agg (atA (wordsV s).b (whL s (wordsV s).b)), .int .i64 (if (wordsV s).b < s.size then 20 else 21)]) ∧ Below w.heap.size w w' := by
  have hl : ¬ (262144 : Int) < (s.size : Int) := by omega
  have hwh := fun w => where_in s (by omega) 0 (Nat.zero_le _) w
  simp only [whL_zero] at hwh
  have hwb := fun w => where_in s (by omega) (wordsV s).b hb w
  obtain ⟨n, hn⟩ : ∃ n, n = (wordsV s).b := ⟨_, rfl⟩
  obtain ⟨p1, p2, hp⟩ : ∃ p1 p2, whL s (wordsV s).b = (p1, p2) := ⟨_, _, rfl⟩
  simp only [hp] at hwb
  simp only [← hn] at hwb
  rw [hp, ← hn]
  have b0 := Blk.new w #[.int .i64 0, .int .i64 0, .int .i64 0] 35
  have hB0 := (Below.refl w.heap.size w).alloc (Nat.le_refl _) (.cells #[.int .i64 0, .int .i64 0, .int .i64 0] 35)
  have Hb0 := hide b0
  have HB0 := hide hB0
  have HWH := hide hwh
  have HWB := hide hwb
  have HM := hide hm
  have HOK := hide hok
  have HN := hide hn
  clear hwh b0 hB0 hm hok hwb hp hb hn
  go_enter Tryz.func13, Tryz.ntmps13
  go_wp2_with fail
  refine (show Calls Tryz.prog 16 #[.string s, .int .i64 0] _ _ from unhide HWH _).mono ?_
  rintro e w1 ⟨rfl, hb⟩
  have Hb1 := hide ((unhide Hb0).below hb (unhide Hb0).lt)
  have HB1 := hide ((unhide HB0).trans (hb.mono (unhide HB0).size))
  clear hb Hb0 HB0 HWH
  go_wp2_with fail
  have hal := (Below.refl w1.heap.size w1).alloc (Nat.le_refl _) (.cells #[.string s, .int .i64 0, .int .i64 1, .int .i64 1, .slice none 0 0] 53)
  have bC : Blk (w1.alloc (.cells #[.string s, .int .i64 0, .int .i64 1, .int .i64 1, .slice none 0 0] 53)) w1.heap.size (ctrC s (0 : Nat) (1 : Nat) (1 : Nat) (.slice none 0 0)) 53 := Blk.new w1 _ _
  have Hb2 := hide ((unhide Hb1).below hal (unhide Hb1).lt)
  have HB2 := hide ((unhide HB1).trans (hal.mono (unhide HB1).size))
  have hw1 := (unhide HB1).size
  have hM2 : (w1.alloc (.cells #[.string s, .int .i64 0, .int .i64 1, .int .i64 1, .slice none 0 0] 53)).cell? ⟨0, 0, none⟩ = some (.int .i64 m) := ((unhide HB2).cell (p := ⟨0, 0, none⟩) hg).trans (unhide HM)
  refine (cutter_any w1.heap.size s hs m _ bC hM2 (by omega) (wordsV s) rfl).mono ?_
  rintro e w3 ⟨rfl, v, cs, hst⟩
  rw [unhide HOK]
  have hgr := hst.gr
  have HB3 : Hz (Below w.heap.size w w3) := hide ((unhide HB2).grown hgr (unhide HB2).size (fun k hk => by cases hk; exact hw1))
  have hbl := hst.blk
  rw [← unhide HN] at hbl
  have hb3 : Blk w3 w.heap.size #[.int .i64 0, .int .i64 0, .int .i64 0] 35 := (unhide Hb2).kept hgr (fun e => by have := Option.some.inj e; have := (unhide Hb1).lt; omega)
  have c1 := hbl.cell 1
  have Hb3 := hide hb3
  clear hst hbl hb3 hgr bC hM2 hal Hb1 Hb2 HB1 HB2
  go_wp2_with fail
  refine (unhide HWB _).mono ?_
  rintro e w4 ⟨rfl, hb⟩
  have hb4 := (unhide Hb3).below hb (unhide Hb3).lt
  have hB4 := (unhide HB3).trans (hb.mono (unhide HB3).size)
  have s0 := Blk.new w4 #[.int .i64 n, .int .i64 p1, .int .i64 p2] 35
  have hb5 := hb4.alloc (.cells #[.int .i64 n, .int .i64 p1, .int .i64 p2] 35)
  have hB5 := hB4.alloc hB4.size (.cells #[.int .i64 n, .int .i64 p1, .int .i64 p2] 35)
  have x0 := s0.cell 0
  have x1 := s0.cell 1
  have x2 := s0.cell 2
  have f0 := hb5.frozen 0
  have f1 := hb5.frozen 1
  have f2 := hb5.frozen 2
  have k0 := hb5.cell 0
  have k1 := hb5.cell 1
  have k2 := hb5.cell 2
  have Hb5 := hide hb5
  have HB5 := hide hB5
  clear c1 hb hb4 hB4 s0 hb5 hB5 Hb3 HB3
  have hfin : ∀ (W : World) (B5 : Below w.heap.size w W) (hbk : Blk W w.heap.size #[.int .i64 0, .int .i64 0, .int .i64 0] 35), Blk (((W.setCell ⟨w.heap.size, 0, none⟩ (.int .i64 n)).setCell ⟨w.heap.size, 1, none⟩ (.int .i64 p1)).setCell ⟨w.heap.size, 2, none⟩ (.int .i64 p2)) w.heap.size #[.int .i64 n, .int .i64 p1, .int .i64 p2] 35 ∧ Below w.heap.size w (((W.setCell ⟨w.heap.size, 0, none⟩ (.int .i64 n)).setCell ⟨w.heap.size, 1, none⟩ (.int .i64 p1)).setCell ⟨w.heap.size, 2, none⟩ (.int .i64 p2)) := fun W B5 hbk =>
    ⟨((hbk.set 0 _).set 1 _).set 2 _, ((B5.setCell (p := ⟨w.heap.size, 0, none⟩) (Nat.le_refl _) _).setCell (p := ⟨w.heap.size, 1, none⟩) (Nat.le_refl _) _).setCell (p := ⟨w.heap.size, 2, none⟩) (Nat.le_refl _) _⟩
  have HFIN := hide hfin
  clear hfin
  by_cases hlt : n < s.size
  · have hlt' : (n : Int) < (s.size : Int) := by omega
    have hc : (if n < s.size then (20 : Int) else 21) = 20 := if_pos hlt
    have HCC := hide hc
    clear hc hlt
    go_wp2_with fail
    go_region_with (fail)
    all_goals
      obtain ⟨q1, q2⟩ := unhide HFIN _ (unhide HB5) (unhide Hb5)
      have q1' : Blk ((((w4.alloc (.cells #[.int .i64 n, .int .i64 p1, .int .i64 p2] 35)).setCell ⟨w.heap.size, 0, none⟩ (.int .i64 n)).setCell ⟨w.heap.size, 1, none⟩ (.int .i64 p1)).setCell ⟨w.heap.size, 2, none⟩ (.int .i64 p2)).drew w.heap.size #[.int .i64 n, .int .i64 p1, .int .i64 p2] 35 := q1
      have q2' := q2.drew
      have r0 := q1'.cell 0
      have r1 := q1'.cell 1
      have r2 := q1'.cell 2
      have HQ := hide q2'
      clear q1 q2 q1' q2' x0 x1 x2 f0 f1 f2 k0 k1 k2
      generalize ((((w4.alloc (.cells #[.int .i64 n, .int .i64 p1, .int .i64 p2] 35)).setCell ⟨w.heap.size, 0, none⟩ (.int .i64 n)).setCell ⟨w.heap.size, 1, none⟩ (.int .i64 p1)).setCell ⟨w.heap.size, 2, none⟩ (.int .i64 p2)).drew = W9 at *
      go_wp2_with fail
      exact bodyPost_ret (v := .tuple #[.slice none 0 0, .agg #[.int .i64 n, .int .i64 p1, .int .i64 p2], .int .i64 20]) (by simp [results, Tryz.results13, go_sem, r0, r1, r2]) rfl ⟨by first | rfl | rw [unhide HCC], unhide HQ⟩
  · have hlt' : ¬ (n : Int) < (s.size : Int) := by omega
    have hc : (if n < s.size then (20 : Int) else 21) = 21 := if_neg hlt
    have HCC := hide hc
    clear hc hlt
    go_wp2_with fail
    go_region_with (fail)
    all_goals
      obtain ⟨q1, q2⟩ := unhide HFIN _ (unhide HB5) (unhide Hb5)
      have q1' : Blk ((((w4.alloc (.cells #[.int .i64 n, .int .i64 p1, .int .i64 p2] 35)).setCell ⟨w.heap.size, 0, none⟩ (.int .i64 n)).setCell ⟨w.heap.size, 1, none⟩ (.int .i64 p1)).setCell ⟨w.heap.size, 2, none⟩ (.int .i64 p2)).drew w.heap.size #[.int .i64 n, .int .i64 p1, .int .i64 p2] 35 := q1
      have q2' := q2.drew
      have r0 := q1'.cell 0
      have r1 := q1'.cell 1
      have r2 := q1'.cell 2
      have HQ := hide q2'
      clear q1 q2 q1' q2' x0 x1 x2 f0 f1 f2 k0 k1 k2
      generalize ((((w4.alloc (.cells #[.int .i64 n, .int .i64 p1, .int .i64 p2] 35)).setCell ⟨w.heap.size, 0, none⟩ (.int .i64 n)).setCell ⟨w.heap.size, 1, none⟩ (.int .i64 p1)).setCell ⟨w.heap.size, 2, none⟩ (.int .i64 p2)).drew = W9 at *
      go_wp2_with fail
      exact bodyPost_ret (v := .tuple #[.slice none 0 0, .agg #[.int .i64 n, .int .i64 p1, .int .i64 p2], .int .i64 21]) (by simp [results, Tryz.results13, go_sem, r0, r1, r2]) rfl ⟨by first | rfl | rw [unhide HCC], unhide HQ⟩
end Go.Proofs.YtcnhkhjkeemafaaGreatDoor
/- bits.TrailingZeros of 16. -/
namespace Go.Proofs.YtcnhkhjkeemafaaGreatDoor
open Go.RowKit Go.Shelf
set_option linter.unusedVariables false
theorem pow16_any (w : World) : Calls Tryz.prog 95 #[.int .i64 16] w fun e w' => e = .returned (.bool true) ∧ w' = w := by
  go_enter Tryz.func95, Tryz.ntmps95
  go_wp2
  go_ret
  exact ⟨rfl, rfl⟩
theorem tz16_any (w : World) (hT : w.cell? ⟨6, 15, none⟩ = some (.int .u8 4)) : Calls Tryz.prog 109 #[.int .u64 16] w fun e w' => e = .returned (.int .i64 4) ∧ w' = w := by
  have hk : IntKind.u64.wrap (bits BinOp.and IntKind.u64 16 (IntKind.u64.wrap (-16)) * 285870213051353865) / 288230376151711744 = 15 := by decide +kernel
  go_enter Tryz.func109, Tryz.ntmps109
  go_wp2
  go_ret
  exact ⟨rfl, rfl⟩
theorem tz_any (w : World) (hT : w.cell? ⟨6, 15, none⟩ = some (.int .u8 4)) : Calls Tryz.prog 96 #[.int .u64 16] w fun e w' => e = .returned (.int .i64 4) ∧ w' = w := by
  go_enter Tryz.func96, Tryz.ntmps96
  go_wp2_with (go_at_call 109; refine (tz16_any _ hT).mono ?_; rintro e w' ⟨rfl, rfl⟩)
  go_ret
  exact ⟨rfl, rfl⟩
end Go.Proofs.YtcnhkhjkeemafaaGreatDoor
/- FormatInt at 16: hexadecimal digits. -/
namespace Go.Proofs.YtcnhkhjkeemafaaGreatDoor
open Go.RowKit Go.Shelf
set_option linter.unusedVariables false
/-- A digit's byte. -/
def digC (d : Nat) : UInt8 := if d < 10 then (48 + d).toUInt8 else (87 + d).toUInt8
/-- A number's hexadecimal digits. -/
def hexF : Nat → Nat → List UInt8
  | 0, n => [digC n]
  | f + 1, n => if n < 16 then [digC n] else hexF f (n / 16) ++ [digC (n % 16)]
def hexL (n : Nat) : List UInt8 := hexF n n
theorem hexF_fuel : ∀ f g n, n ≤ f → n ≤ g → hexF f n = hexF g n
  | 0, 0, n, _, _ => rfl
  | 0, g + 1, n, h, _ => by
    obtain rfl : n = 0 := by omega
    rfl
  | f + 1, 0, n, _, h => by
    obtain rfl : n = 0 := by omega
    rfl
  | f + 1, g + 1, n, hf, hg => by
    rw [hexF, hexF]
    by_cases h : n < 16
    · rw [if_pos h, if_pos h]
    · rw [if_neg h, if_neg h, hexF_fuel f g (n / 16) (by omega) (by omega)]
abbrev digS : ByteArray := ⟨#[48, 49, 50, 51, 52, 53, 54, 55, 56, 57, 97, 98, 99, 100, 101, 102, 103, 104, 105, 106, 107, 108, 109, 110, 111, 112, 113, 114, 115, 116, 117, 118, 119, 120, 121, 122]⟩
theorem and15 (u : Nat) (h : u < 4294967296) : bits BinOp.and IntKind.u64 (u : Int) 15 = ((u % 16 : Nat) : Int) := by
  rw [show (15 : Int) = ((15 : Nat) : Int) from rfl, bits_and_u64_nat u 15 (by omega) (by decide), Nat.and_two_pow_sub_one_eq_mod u 4]
/-- The digits that stand in the array. -/
def DigAt (W : World) (B : Nat) (L : List UInt8) : Prop := ∃ cur : Array Value, Blk W B cur 123 ∧ cur.size = 65 ∧ L.length ≤ 65 ∧ ∀ k d, L[k]? = some d → cur[65 - L.length + k]? = some (.int .u8 (d.toNat : Int))
theorem DigAt.push {W : World} {B : Nat} {L : List UInt8} (h : DigAt W B L) (hl : L.length ≤ 64) (d : UInt8) : DigAt (W.setCell ⟨B, 64 - L.length, none⟩ (.int .u8 (d.toNat : Int))) B (d :: L) := by
  obtain ⟨cur, hb, hs, h1, h2⟩ := h
  refine ⟨_, hb.set (64 - L.length) _, by simpa using hs, by simp; omega, fun k e hk => ?_⟩
  rw [List.length_cons]
  cases k with
  | zero =>
    simp at hk
    subst hk
    rw [Array.getElem?_setIfInBounds, if_pos (by omega)]
    simp [hs]
    omega
  | succ k =>
    simp at hk
    rw [Array.getElem?_setIfInBounds, if_neg (by omega)]
    have := h2 k e hk
    rwa [show 65 - (L.length + 1) + (k + 1) = 65 - L.length + k by omega]
theorem zeros_at (w : World) : DigAt (w.alloc (.cells Tryz.zeroCells123 123)) w.heap.size [] := ⟨_, Blk.new w _ _, by decide +kernel, by simp, fun k d h => by simp at h⟩
theorem DigAt.frozen {W : World} {B : Nat} {L : List UInt8} (h : DigAt W B L) (i : Nat) : W.frozen? ⟨B, i, none⟩ = false := by
  obtain ⟨cur, hb, _⟩ := h
  exact hb.frozen i
theorem DigAt.has {W : World} {B : Nat} {L : List UInt8} (h : DigAt W B L) (i : Nat) (hi : i < 65) : ∃ v, W.cell? ⟨B, i, none⟩ = some v := by
  obtain ⟨cur, hb, hs, _⟩ := h
  exact ⟨cur[i]'(by omega), (hb.cell i).trans (by simp [hs, hi])⟩
theorem dig_get : ∀ d, d < 16 → (digS.get! d).toNat = (digC d).toNat := by decide +kernel
theorem dig_at (d : Nat) (h : d < digS.size) (h16 : d < 16) : (digS[d]'h).toNat = (digC d).toNat := by rw [← dig_get d h16, get_lt digS d h]; rfl
theorem hexL_small {n : Nat} (h : n < 16) : hexL n = [digC n] := by
  unfold hexL
  cases n with
  | zero => rfl
  | succ k => rw [hexF, if_pos h]
theorem hexL_step {n : Nat} (h : 16 ≤ n) : hexL n = hexL (n / 16) ++ [digC (n % 16)] := by
  unfold hexL
  obtain ⟨k, rfl⟩ : ∃ k, n = k + 1 := ⟨n - 1, by omega⟩
  rw [hexF, if_neg (by omega), hexF_fuel k ((k + 1) / 16) ((k + 1) / 16) (by omega) (Nat.le_refl _)]
set_option maxRecDepth 100000 in
set_option maxHeartbeats 4000000 in
theorem formatBits_any (n : Nat) (hn : n < 4294967296) (w : World) (hT : w.cell? ⟨6, 15, none⟩ = some (.int .u8 4)) : Calls Tryz.prog 74 #[.slice none 0 0, .int .u64 n, .int .i64 16, .bool false, .bool false] w fun e w' => e = .returned (.tuple #[.slice none 0 0, .string ⟨(hexL n).toArray⟩]) ∧ Below w.heap.size w w' := by
  go_enter Tryz.func74, Tryz.ntmps74
  have hA : (w.alloc (.cells Tryz.zeroCells123 123)).cell? ⟨6, 15, none⟩ = some (.int .u8 4) := (((Below.refl w.heap.size w).alloc (Nat.le_refl _) _).cell (p := ⟨6, 15, none⟩) (cell_lt hT)).trans hT
  have HA := hide hA
  clear hA
  go_wp2_with (go_at_call 95; refine (pow16_any _).mono ?_; rintro e w' ⟨rfl, rfl⟩)
  refine (tz_any _ (unhide HA)).mono ?_
  rintro e w1 ⟨rfl, rfl⟩
  go_wp2_with fail
  clear HA
  have HD0 := hide (zeros_at w)
  have HB0 := hide ((Below.refl w.heap.size w).alloc (Nat.le_refl _) (.cells Tryz.zeroCells123 123))
  generalize w.alloc (.cells Tryz.zeroCells123 123) = w0 at *
  go_loopw [1, 13] (fun x i wr => ∃ (u : Nat) (L : List UInt8), x = .int .u64 u ∧ i = .int .i64 ((65 - L.length : Nat) : Int) ∧ u * 16 ^ L.length ≤ n ∧ L.length ≤ 9 ∧ Hz (hexL n = hexL u ++ L) ∧ Hz (DigAt wr w.heap.size L) ∧ Hz (Below w.heap.size w wr)) (fun x _ _ => (intOf x).toNat)
  case atStart => exact ⟨n, [], rfl, rfl, by simp, by simp, hide (by simp), HD0, HB0⟩
  case round =>
    obtain ⟨u, L, rfl, rfl, hu, hl9, HL, HD, HB⟩ := hrel
    by_cases h16 : 16 ≤ u
    · have hl6 : L.length ≤ 6 := by
        by_cases h7 : L.length ≤ 6
        · exact h7
        · have h1 : 16 ^ 7 ≤ 16 ^ L.length := Nat.pow_le_pow_right (by decide) (by omega)
          have h2 : 16 * 16 ^ 7 ≤ u * 16 ^ L.length := Nat.mul_le_mul h16 h1
          omega
      have hub : u < 4294967296 := by
        have h1 : 1 ≤ 16 ^ L.length := Nat.one_le_pow _ _ (by decide)
        have := Nat.mul_le_mul_left u h1
        omega
      have hu1 : (16 : Int) ≤ (u : Int) := by omega
      have hand := and15 u hub
      have hd16 : u % 16 < 16 := Nat.mod_lt _ (by decide)
      obtain ⟨d, hd⟩ : ∃ d, d = u % 16 := ⟨_, rfl⟩
      rw [← hd] at hand hd16
      obtain ⟨i, hi⟩ : ∃ i, i = 64 - L.length := ⟨_, rfl⟩
      have hic : ((65 - L.length : Nat) : Int) - 1 = (i : Int) := by omega
      have hi65 : (i : Int) < 65 := by omega
      have hi0 : ((i : Nat) : Int).toNat = i := by omega
      obtain ⟨v0, hv0⟩ := (unhide HD).has i (by omega)
      have hf0 := (unhide HD).frozen i
      have hdi : (d : Int) < 36 := by omega
      have hd0 : ((d : Nat) : Int).toNat = d := by omega
      have hub2 : (u : Int) ≤ 4294967296 := by omega
      have hib : ((65 - L.length : Nat) : Int) ≤ 65 := by omega
      have hib0 : (0 : Int) ≤ ((65 - L.length : Nat) : Int) := by omega
      generalize ((65 - L.length : Nat) : Int) = ii at *
      have HI := hide hi
      have HHD := hide hd
      have hds : d < digS.size := by have : digS.size = 36 := rfl; omega
      have hP := (unhide HD).push (by omega) (digC d)
      rw [← hi, ← dig_at d hds hd16] at hP
      have HP := hide hP
      have HBE := hide ((unhide HB).setCell (p := ⟨w.heap.size, i, none⟩) (Nat.le_refl _) (.int .u8 (((digS[d]'hds).toNat : Nat) : Int)))
      have HN2 : Hz (hexL n = hexL (u / 16) ++ (digC d :: L)) := hide (by rw [unhide HL, hexL_step h16, ← hd]; simp)
      have HU : Hz (u / 16 * 16 ^ (digC d :: L).length ≤ n) := hide (by
        rw [List.length_cons, Nat.pow_succ, ← Nat.mul_assoc, Nat.mul_right_comm]
        exact Nat.le_trans (Nat.mul_le_mul_right _ (Nat.div_mul_le_self u 16)) hu)
      clear hi hd hP hu HL HD
      go_wp2_with fail
      go_roundw
      case rel => exact ⟨u / 16, digC d :: L, by go_num, by rw [List.length_cons]; have := unhide HI; go_num, unhide HU, by simp; omega, HN2, HP, HBE⟩
      case measure => simp [intOf]; omega
    · have hub : u < 16 := by omega
      have hu1 : ¬ (16 : Int) ≤ (u : Int) := by omega
      obtain ⟨i, hi⟩ : ∃ i, i = 64 - L.length := ⟨_, rfl⟩
      have hic : ((65 - L.length : Nat) : Int) - 1 = (i : Int) := by omega
      have hi65 : (i : Int) < 65 := by omega
      have hi65' : (i : Int) ≤ 65 := by omega
      have hi0 : ((i : Nat) : Int).toNat = i := by omega
      obtain ⟨v0, hv0⟩ := (unhide HD).has i (by omega)
      have hf0 := (unhide HD).frozen i
      have hdi : (u : Int) < 36 := by omega
      have hd0 : ((u : Nat) : Int).toNat = u := by omega
      have hib : ((65 - L.length : Nat) : Int) ≤ 65 := by omega
      have hib0 : (0 : Int) ≤ ((65 - L.length : Nat) : Int) := by omega
      generalize ((65 - L.length : Nat) : Int) = ii at *
      have HI := hide hi
      have hds : u < digS.size := by have : digS.size = 36 := rfl; omega
      have hP := (unhide HD).push (by omega) (digC u)
      rw [← hi, ← dig_at u hds hub] at hP
      have HP := hide hP
      have HBE := hide ((unhide HB).setCell (p := ⟨w.heap.size, i, none⟩) (Nat.le_refl _) (.int .u8 (((digS[u]'hds).toNat : Nat) : Int)))
      have HN2 : Hz (hexL n = digC u :: L) := hide (by rw [unhide HL, hexL_small hub]; rfl)
      have hlen : (digC u :: L).length = 65 - i := by rw [List.length_cons]; omega
      have hconv : (convert 50 9 (.slice (some ⟨w.heap.size, i, none⟩) (65 - i) (65 - i))).run Tryz.prog (wr.setCell ⟨w.heap.size, i, none⟩ (.int .u8 (((digS[u]'hds).toNat : Nat) : Int))) = .ok (.string ⟨(digC u :: L).toArray⟩) (wr.setCell ⟨w.heap.size, i, none⟩ (.int .u8 (((digS[u]'hds).toNat : Nat) : Int))) := by
        rw [← hlen]
        refine run_convert_bytes_back _ 50 9 5 ⟨w.heap.size, i, none⟩ _ (digC u :: L) Tryz.underlying50 Tryz.underlying5 Tryz.underlying9 (fun j hj => ?_)
        obtain ⟨cur, hb, hs5, h1, h2⟩ := hP
        rw [show (⟨w.heap.size, i, none⟩ : Addr).add j = ⟨w.heap.size, i + j, none⟩ by unfold Addr.add; split <;> simp_all]
        have h3 := h2 j _ (List.getElem?_eq_getElem hj)
        rw [hlen, show 65 - (65 - i) + j = i + j by omega] at h3
        exact (hb.cell (i + j)).trans h3
      clear hi hP hu HL HD hlen
      go_wp2_with fail
      go_ret2
      exact ⟨by rw [unhide HN2]; rfl, unhide HBE⟩
end Go.Proofs.YtcnhkhjkeemafaaGreatDoor
/- strconv.FormatInt at 16. -/
namespace Go.Proofs.YtcnhkhjkeemafaaGreatDoor
open Go.RowKit Go.Shelf
set_option linter.unusedVariables false
theorem ifmt16 (n : Nat) (hn : n < 2147483648) (w : World) (hT : w.cell? ⟨6, 15, none⟩ = some (.int .u8 4)) : Calls Tryz.prog 37 #[.int .i64 n, .int .i64 16] w fun e w' => e = .returned (.string ⟨(hexL n).toArray⟩) ∧ Below w.heap.size w w' := by
  have h0 : ¬ (n : Int) < 0 := by omega
  have h00 : (0 : Int) ≤ (n : Int) := by omega
  have hb : (n : Int) ≤ 2147483648 := by omega
  have HF := hide (formatBits_any n (by omega) w hT)
  go_enter Tryz.func37, Tryz.ntmps37
  go_wp2_with fail
  refine (unhide HF).mono ?_
  rintro e w1 ⟨rfl, hb1⟩
  have HB := hide hb1
  clear hb1
  go_wp2_with fail
  go_ret
  exact ⟨rfl, unhide HB⟩
theorem fmt16 (n : Nat) (hn : n < 2147483648) (w : World) (hT : w.cell? ⟨6, 15, none⟩ = some (.int .u8 4)) : Calls Tryz.prog 19 #[.int .i64 n, .int .i64 16] w fun e w' => e = .returned (.string ⟨(hexL n).toArray⟩) ∧ Below w.heap.size w w' := by
  have HF := hide (ifmt16 n hn w hT)
  go_enter Tryz.func19, Tryz.ntmps19
  go_wp2_with fail
  refine (unhide HF).mono ?_
  rintro e w1 ⟨rfl, hb1⟩
  have HB := hide hb1
  clear hb1
  go_wp2_with fail
  go_ret
  exact ⟨rfl, unhide HB⟩
end Go.Proofs.YtcnhkhjkeemafaaGreatDoor
