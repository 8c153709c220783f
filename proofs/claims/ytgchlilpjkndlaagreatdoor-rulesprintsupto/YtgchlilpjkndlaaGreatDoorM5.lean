/- Texts of this claim, one behind the other. -/
import Derived.Test.YtgchlilpjkndlaaGreatDoorM4
import Derived.Test.YtgchlilpjkndlaaGreatDoorM1
import Derived.Maps.AppendAt
import Derived.Deep.QuietTactic
import Derived.Laws.StructEq
import Derived.WalkKit
import Derived.BigQuiet
import Derived.BigRegion
/- rest and pass: the rest of a text; lines and columns. -/
namespace Go.Proofs.YtgchlilpjkndlaaGreatDoor
open Go.RowKit Go.Shelf
set_option linter.unusedVariables false
abbrev ctrC (s : ByteArray) (b l c : Int) (v : Value) : Array Value := #[.string s, .int .i64 b, .int .i64 l, .int .i64 c, v]
set_option maxHeartbeats 2000000 in
theorem rest_any (C : Nat) (s : ByteArray) (b : Nat) (hb : b ≤ s.size) (hs : s.size ≤ 4294967281) (l c : Int) (v : Value) (w : World) (h : Blk w C (ctrC s b l c v) 159) :
    Calls Tryz.prog 117 #[.pointer (some ⟨C, 0, none⟩)] w fun e w' => e = .returned (.string (s.extract b s.size)) ∧ ∃ n, w' = w.drewN n := by
  have k0 := h.cell 0
  have k1 := h.cell 1
  have hb1 : (b : Int) ≤ (s.size : Int) := by omega
  have hb2 : ((b : Nat) : Int).toNat = b := by omega
  clear h
  go_enter Tryz.func117, Tryz.ntmps117
  go_wp2
  go_quiet (fail)
  go_wp2
  go_ret
  exact ⟨rfl, _, rfl⟩
def lcStep (t : ByteArray) (x : Nat × Nat) (p : Nat) : Nat × Nat := if rn t p = 10 then (x.1 + 1, 1) else (x.1, x.2 + 1)
def lcF (t : ByteArray) (x : Nat × Nat) (ps : List Nat) : Nat × Nat := ps.foldl (lcStep t) x
theorem lcF_snoc (t : ByteArray) (x : Nat × Nat) (ps : List Nat) (p : Nat) : lcF t x (ps ++ [p]) = lcStep t (lcF t x ps) p := by simp [lcF]
theorem lcF_le (t : ByteArray) (x : Nat × Nat) : ∀ ps : List Nat, (lcF t x ps).1 ≤ x.1 + ps.length ∧ (lcF t x ps).2 ≤ x.2 + 1 + ps.length := by
  intro ps
  induction ps generalizing x with
  | nil => exact ⟨by simp [lcF], by simp [lcF]⟩
  | cons p ps ih =>
    have := ih (lcStep t x p)
    have e : lcF t x (p :: ps) = lcF t (lcStep t x p) ps := rfl
    rw [e, List.length_cons]
    have h1 : (lcStep t x p).1 ≤ x.1 + 1 ∧ (lcStep t x p).2 ≤ x.2 + 1 := by unfold lcStep; split <;> simp
    omega
structure PassSt (w wr : World) (C I : Nat) (u : ByteArray) (pos : Nat) (s : ByteArray) (b l c : Nat) (v : Value) : Prop where
  blk : Blk wr C (ctrC s b l c v) 159
  it : wr.heap[I]? = some (.stringIter u pos)
  gr : w.grownBy wr (some C)
  ne : C < I
  ge : w.heap.size ≤ I
theorem iterAt_blk {wr : World} {C I : Nat} {cs : Array Value} {ty : TypeId} (h : Blk wr C cs ty) (hne : C ≠ I) (u : ByteArray) (pos : Nat) : Blk (wr.iterAt I u pos) C cs ty := (Lib.iterAt_other wr I C u pos hne).trans h
set_option maxRecDepth 100000 in
set_option maxHeartbeats 4000000 in
theorem pass_any (C : Nat) (s : ByteArray) (b n : Nat) (hbn : b + n ≤ s.size) (hs : s.size ≤ 4294967281) (l c : Nat) (hl : l ≤ 4294967281) (hc : c ≤ 4294967281) (v : Value) (w : World) (h : Blk w C (ctrC s b l c v) 159) :
    Calls Tryz.prog 118 #[.pointer (some ⟨C, 0, none⟩), .int .i64 n] w fun e w' => e = .returned (.tuple #[]) ∧
      Blk w' C (ctrC s ((b + n : Nat) : Int) (lcF ((s.extract b s.size).extract 0 n) (l, c) (starts ((s.extract b s.size).extract 0 n))).1 (lcF ((s.extract b s.size).extract 0 n) (l, c) (starts ((s.extract b s.size).extract 0 n))).2 v) 159 ∧ w.grownBy w' (some C) := by
  have hz1 : (s.extract b s.size).size = s.size - b := by rw [ByteArray.size_extract]; omega
  obtain ⟨u, hu⟩ : ∃ u, u = (s.extract b s.size).extract 0 n := ⟨_, rfl⟩
  have hz2 : u.size = n := by rw [hu, ByteArray.size_extract, hz1]; omega
  rw [← hu]
  have hue : (s.extract b s.size).extract 0 n = u := hu.symm
  have hn1 : (n : Int) ≤ ((s.extract b s.size).size : Int) := by omega
  have hn2 : ((n : Nat) : Int).toNat = n := by omega
  have hnb : (n : Int) ≤ 4294967281 := by omega
  have hbb : (b : Int) ≤ 4294967281 := by omega
  have HZ2 := hide hz2
  have hsl := starts_length u
  have hslb : (starts u).length ≤ 4294967281 := by omega
  have HB := hide h
  clear hu hz1 hz2 h
  go_enter Tryz.func118, Tryz.ntmps118
  go_wp2_with fail
  refine (rest_any C s b (by omega) hs l c v _ (unhide HB)).mono ?_
  rintro e w1 ⟨rfl, q, rfl⟩
  have HB1 : Hz (Blk (w.drewN q) C (ctrC s b l c v) 159) := hide (unhide HB)
  have HG1 : Hz (w.grownBy (w.drewN q) (some C)) := hide ⟨rfl, rfl, rfl, Nat.le_refl _, fun _ _ _ => rfl⟩
  have hsz1 : Hz ((w.drewN q).heap.size = w.heap.size) := hide rfl
  have hCw := (unhide HB).lt
  clear HB
  generalize w.drewN q = w1 at *
  go_wp2_with fail
  have HST : Hz (PassSt w (w1.iter u 0) C w1.heap.size u 0 s b l c v) := hide ⟨(unhide HB1).alloc _, World.alloc_heap_new w1 _, (unhide HG1).trans (World.grownBy_alloc _ _ _), (unhide HB1).lt, by have := unhide hsz1; omega⟩
  obtain ⟨I, hI⟩ : ∃ I, I = w1.heap.size := ⟨_, rfl⟩
  rw [← hI] at HST
  rw [← hI]
  clear HB1 HG1 hsz1 hI
  go_loopw [5] (fun _ wr => ∃ (pre : List Nat) (pos f l' c' : Nat), Hz (starts u = pre ++ startsFrom u f pos) ∧ u.size ≤ pos + f ∧ Hz (lcF u (l, c) pre = (l', c')) ∧ Hz (PassSt w wr C I u pos s b l' c' v)) (fun _ wr => u.size - wr.iterPos I)
  case atStart => exact ⟨[], 0, u.size, l, c, hide rfl, by omega, hide rfl, HST⟩
  case round =>
    obtain ⟨pre, pos, f, l', c', HS, hf, HL, HR⟩ := hrel
    have hR := unhide HR
    have hlc := lcF_le u (l, c) pre
    rw [unhide HL] at hlc
    by_cases hp : pos < u.size
    · obtain ⟨g, rfl⟩ : ∃ g, f = g + 1 := ⟨f - 1, by omega⟩
      have hpl : pre.length < (starts u).length := by
        have h1 := congrArg List.length (unhide HS)
        rw [startsFrom_cons u g pos hp] at h1
        simp at h1
        omega
      have hlb : (l' : Int) ≤ 8589934600 := by have : l' ≤ l + pre.length := hlc.1; omega
      have hcb : (c' : Int) ≤ 8589934600 := by have : c' ≤ c + 1 + pre.length := hlc.2; omega
      have hnx : ∀ ty, (Instr.next (.pointer (some ⟨I, 0, none⟩)) true ty).run Tryz.prog wr = _ := fun ty => Lib.run_next_any_at wr I u pos ty hR.it hp
      have hwd := wd_pos u pos
      obtain ⟨d, hd⟩ : ∃ d, d = pos + (Utf8.decode u pos).2 := ⟨_, rfl⟩
      obtain ⟨x, hx⟩ : ∃ x, x = (Utf8.decode u pos).1 := ⟨_, rfl⟩
      rw [← hd, ← hx] at hnx
      have hne : C ≠ I := by have := hR.ne; omega
      have b0 := iterAt_blk hR.blk hne u d
      have b1 : Blk ((wr.iterAt I u d).setCell ⟨C, 3, none⟩ (.int .i64 ((c' : Int) + 1))) C (ctrC s b l' ((c' : Int) + 1) v) 159 := b0.set 3 _
      have b2 : Blk (((wr.iterAt I u d).setCell ⟨C, 3, none⟩ (.int .i64 ((c' : Int) + 1))).setCell ⟨C, 2, none⟩ (.int .i64 ((l' : Int) + 1))) C (ctrC s b ((l' : Int) + 1) ((c' : Int) + 1) v) 159 := b1.set 2 _
      have b3 : Blk ((((wr.iterAt I u d).setCell ⟨C, 3, none⟩ (.int .i64 ((c' : Int) + 1))).setCell ⟨C, 2, none⟩ (.int .i64 ((l' : Int) + 1))).setCell ⟨C, 3, none⟩ (.int .i64 1)) C (ctrC s b ((l' : Int) + 1) 1 v) 159 := b2.set 3 _
      have i0 : (wr.iterAt I u d).heap[I]? = some (.stringIter u d) := Lib.iterAt_heap wr I u pos d hR.it
      have hIne : I ≠ C := fun e => hne e.symm
      have i1 := (Below.heap_setCell (wr.iterAt I u d) ⟨C, 3, none⟩ (.int .i64 ((c' : Int) + 1)) I hIne).trans i0
      have i2 := (Below.heap_setCell _ ⟨C, 2, none⟩ (.int .i64 ((l' : Int) + 1)) I hIne).trans i1
      have i3 := (Below.heap_setCell _ ⟨C, 3, none⟩ (.int .i64 1) I hIne).trans i2
      have g0 : w.grownBy (wr.iterAt I u d) (some C) := hR.gr.andThen (grown_iterAt wr I u d) (fun j hj => by cases hj; exact .inl hR.ge)
      have g1 := g0.trans (grown_setCell' (wr.iterAt I u d) ⟨C, 3, none⟩ (.int .i64 ((c' : Int) + 1)))
      have g2 := g1.trans (grown_setCell' _ ⟨C, 2, none⟩ (.int .i64 ((l' : Int) + 1)))
      have g3 := g2.trans (grown_setCell' _ ⟨C, 3, none⟩ (.int .i64 1))
      have c03 := b0.cell 3
      have f03 := b0.frozen 3
      have c12 := b1.cell 2
      have f12 := b1.frozen 2
      have f23 := b2.frozen 3
      have c23 := b2.cell 3
      have HS2 : Hz (starts u = (pre ++ [pos]) ++ startsFrom u g d) := hide (by rw [unhide HS, startsFrom_cons u g pos hp, hd]; simp)
      have hL2 : lcF u (l, c) (pre ++ [pos]) = if x = 10 then (l' + 1, 1) else (l', c' + 1) := by rw [lcF_snoc, unhide HL, hx]; rfl
      by_cases h10 : x = 10
      · rw [if_pos h10] at hL2
        have HL2 := hide hL2
        have HB3 := hide (And.intro b3 (And.intro i3 g3))
        have h10' : ((x : Int) == 10) = true := by rw [beq_iff_eq]; omega
        have HGE := hide (And.intro hR.ne (And.intro hR.ge (And.intro hd hwd)))
        have HIP := hide (iterPos_at hR.it)
        clear b0 b1 b2 b3 i0 i1 i2 i3 g0 g1 g2 g3 hL2 HS HL HR hR hlc hd hx h10 hwd
        go_wp2_with fail
        go_roundw
        case rel => exact ⟨pre ++ [pos], d, g, l' + 1, 1, HS2, by have := (unhide HGE).2.2.1; have := (unhide HGE).2.2.2; simp only [wd] at this; omega, HL2, hide ⟨by have := (unhide HB3).1; simpa using this, (unhide HB3).2.1, (unhide HB3).2.2, (unhide HGE).1, (unhide HGE).2.1⟩⟩
        case measure =>
          rw [iterPos_at (unhide HB3).2.1, unhide HIP]
          have h1 := (unhide HGE).2.2.1
          have h2 := (unhide HGE).2.2.2
          simp only [wd] at h2
          omega
      · rw [if_neg h10] at hL2
        have HL2 := hide hL2
        have HB3 := hide (And.intro b1 (And.intro i1 g1))
        have h10' : ((x : Int) == 10) = false := by rw [beq_eq_false_iff_ne]; omega
        have HGE := hide (And.intro hR.ne (And.intro hR.ge (And.intro hd hwd)))
        have HIP := hide (iterPos_at hR.it)
        clear b0 b1 b2 b3 i0 i1 i2 i3 g0 g1 g2 g3 hL2 HS HL HR hR hlc hd hx h10 hwd
        go_wp2_with fail
        go_roundw
        case rel => exact ⟨pre ++ [pos], d, g, l', c' + 1, HS2, by have := (unhide HGE).2.2.1; have := (unhide HGE).2.2.2; simp only [wd] at this; omega, HL2, hide ⟨by have := (unhide HB3).1; simpa using this, (unhide HB3).2.1, (unhide HB3).2.2, (unhide HGE).1, (unhide HGE).2.1⟩⟩
        case measure =>
          rw [iterPos_at (unhide HB3).2.1, unhide HIP]
          have h1 := (unhide HGE).2.2.1
          have h2 := (unhide HGE).2.2.2
          simp only [wd] at h2
          omega
    · have hnx : ∀ ty, (Instr.next (.pointer (some ⟨I, 0, none⟩)) true ty).run Tryz.prog wr = _ := fun ty => Lib.run_next_end_at wr I u pos ty hR.it hp
      have hst := unhide HS
      rw [startsFrom_end u f pos hp, List.append_nil] at hst
      have k1 := hR.blk.cell 1
      have f1 := hR.blk.frozen 1
      have hE : Blk (wr.setCell ⟨C, 1, none⟩ (.int .i64 ((b : Int) + n))) C (ctrC s ((b : Int) + n) l' c' v) 159 := hR.blk.set 1 _
      have hG := hR.gr.trans (grown_setCell' wr ⟨C, 1, none⟩ (.int .i64 ((b : Int) + n)))
      have HL2 : Hz (lcF u (l, c) (starts u) = (l', c')) := hide (by rw [hst]; exact unhide HL)
      have HE := hide (And.intro hE hG)
      clear hE hG hst HS HL HR hR hlc
      go_wp2_with fail
      go_end0
      refine ⟨rfl, ?_, (unhide HE).2⟩
      rw [unhide HL2]
      exact (unhide HE).1
structure WV where
  kind : Nat
  S : ByteArray
  R : Nat
  N : Nat
  n : Nat
  ok : Bool
def edgeB (t : ByteArray) (n : Nat) : Bool := decide (n = t.size) || !stkB (bt t n)
def wordV (t : ByteArray) : WV :=
  if smallB (bt t 0) = true then ⟨1, t.extract 0 (nameLen t), 0, 0, nameLen t, edgeB t (nameLen t)⟩
  else if digB (bt t 0) = true then ⟨2, ByteArray.empty, 0, (numV t).1, (numV t).2, edgeB t (numV t).2⟩
  else if bt t 0 = 85 then ⟨3, ByteArray.empty, (numdV t).1, 0, (numdV t).2.1, (numdV t).2.2 && edgeB t (numdV t).2.1⟩
  else if bt t 0 = 39 then ⟨3, ByteArray.empty, (quoV t).1, 0, (quoV t).2.1, (quoV t).2.2⟩
  else ⟨(sgnV t).1, ByteArray.empty, 0, 0, (sgnV t).2.1, (sgnV t).2.2⟩
structure Wd where
  v : WV
  b : Nat
  l : Nat
  c : Nat
  e : Nat
def wdCells (x : Wd) : List Value := [.int .i64 x.v.kind, .string x.v.S, .int .i32 x.v.R, .int .i64 x.v.N, .int .i64 x.b, .int .i64 x.l, .int .i64 x.c, .int .i64 x.e]
def encWs (ws : List Wd) : List Value := ws.flatMap wdCells
theorem encWs_snoc (ws : List Wd) (x : Wd) : encWs (ws ++ [x]) = encWs ws ++ wdCells x := by simp [encWs]
abbrev rst (s : ByteArray) (b : Nat) : ByteArray := s.extract b s.size
def lcB (t : ByteArray) (x : Nat × Nat) (n : Nat) : Nat × Nat := lcF (t.extract 0 n) x (starts (t.extract 0 n))
def gB (s : ByteArray) (b : Nat) : Nat := b + (gapV (rst s b)).1
def gLC (s : ByteArray) (b : Nat) (x : Nat × Nat) : Nat × Nat := lcB (rst s b) x (gapV (rst s b)).1
structure CutV where
  ok : Bool
  b : Nat
  lc : Nat × Nat
  ws : List Wd
def cutGo (s : ByteArray) : Nat → Nat → Nat × Nat → List Wd → CutV
  | 0, b, x, ws => ⟨false, b, x, ws⟩
  | f + 1, b, x, ws =>
    if (gapV (rst s b)).2 = false then ⟨false, gB s b, gLC s b x, ws⟩
    else if (rst s (gB s b)).size = 0 then ⟨true, gB s b, gLC s b x, ws⟩
    else if (wordV (rst s (gB s b))).ok = false then ⟨false, gB s b + (wordV (rst s (gB s b))).n, lcB (rst s (gB s b)) (gLC s b x) (wordV (rst s (gB s b))).n, ws⟩
    else cutGo s f (gB s b + (wordV (rst s (gB s b))).n) (lcB (rst s (gB s b)) (gLC s b x) (wordV (rst s (gB s b))).n) (ws ++ [⟨wordV (rst s (gB s b)), gB s b, (gLC s b x).1, (gLC s b x).2, gB s b + (wordV (rst s (gB s b))).n⟩])
theorem gapGo_le (t : ByteArray) : ∀ f n, n ≤ t.size → (gapGo t f n).1 ≤ t.size
  | 0, n, h => Nat.le_refl _
  | f + 1, n, h => by
    unfold gapGo
    split
    · split
      · exact gapGo_le t f (n + 1) (by omega)
      · split
        · have := remV_le (t.extract n t.size)
          rw [ByteArray.size_extract] at this
          split
          · exact gapGo_le t f _ (by omega)
          · show n + _ ≤ t.size; omega
        · exact h
    · exact Nat.le_refl _
theorem gapV_le (t : ByteArray) : (gapV t).1 ≤ t.size := gapGo_le t _ 0 (Nat.zero_le _)
theorem rst_size (s : ByteArray) (b : Nat) : (rst s b).size = s.size - b := by rw [ByteArray.size_extract]; omega
theorem gB_le (s : ByteArray) (b : Nat) (h : b ≤ s.size) : b ≤ gB s b ∧ gB s b ≤ s.size := by
  have := gapV_le (rst s b)
  rw [rst_size] at this
  unfold gB
  omega
theorem numdGo_le (t : ByteArray) : ∀ k v n, t.size ≤ n + k → n ≤ t.size → n ≤ (numdGo t v n).2 ∧ (numdGo t v n).2 ≤ t.size ∧ (v ≤ 1114111 → (numdGo t v n).1 ≤ 1114111)
  | 0, v, n, h, hn => by rw [numdGo_stop (by omega)]; exact ⟨Nat.le_refl _, hn, fun h => h⟩
  | k + 1, v, n, h, hn => by
    by_cases hc : n < t.size ∧ (n < 6 ∨ bt t 2 ≠ 48) ∧ 0 ≤ hexI (bt t n) ∧ v * 16 + (hexI (bt t n)).toNat ≤ 1114111
    · rw [numdGo_go hc]
      have := numdGo_le t k (v * 16 + (hexI (bt t n)).toNat) (n + 1) (by omega) (by omega)
      exact ⟨by omega, this.2.1, fun _ => this.2.2 hc.2.2.2⟩
    · rw [numdGo_stop hc]; exact ⟨Nat.le_refl _, hn, fun h => h⟩
theorem numdV_le (t : ByteArray) (h : 0 < t.size) : 1 ≤ (numdV t).2.1 ∧ (numdV t).2.1 ≤ t.size := by
  unfold numdV
  by_cases hc : t.size < 2 ∨ bt t 1 ≠ 43
  · rw [if_pos hc]; exact ⟨Nat.le_refl _, h⟩
  · rw [if_neg hc]
    have := numdGo_le t t.size 0 2 (by omega) (by omega)
    split <;> exact ⟨by show 1 ≤ (numdGo t 0 2).2; omega, by show (numdGo t 0 2).2 ≤ t.size; omega⟩
theorem quoV_le (t : ByteArray) (h : 0 < t.size) : 1 ≤ (quoV t).2.1 ∧ (quoV t).2.1 ≤ t.size := by
  have hz := tl1_size t
  have hb : begLen (tl1 t) ≤ (tl1 t).size := (scanTo_le _ (Nat.zero_le _)).2
  have hw := wd_room (tl1 t) 0
  unfold quoV
  split
  · exact ⟨h, Nat.le_refl _⟩
  · split
    · exact ⟨Nat.le_refl _, h⟩
    · split
      · exact ⟨by show 1 ≤ 1 + _; omega, by show 1 + _ ≤ _; omega⟩
      · split
        · exact ⟨h, Nat.le_refl _⟩
        · have := hw (by omega)
          split
          · exact ⟨by show 1 ≤ _ + 2; omega, by show _ + 2 ≤ _; omega⟩
          · exact ⟨by show 1 ≤ 1 + _; omega, by show 1 + _ ≤ _; omega⟩
theorem dotsB_iff (t : ByteArray) : dotsB t = true → 2 ≤ t.size := fun h => by
  have h2 : [46, 46] <+: t.data.toList := List.isPrefixOf_iff_prefix.1 h
  have := h2.length_le
  rw [Array.length_toList] at this
  exact this
theorem sgnV_le (t : ByteArray) (h : 0 < t.size) : (sgnV t).2.1 ≤ t.size ∧ ((sgnV t).2.2 = true → 1 ≤ (sgnV t).2.1) := by
  unfold sgnV
  repeat' split
  all_goals first
    | exact ⟨h, fun _ => Nat.le_refl _⟩
    | exact ⟨dotsB_iff t (by assumption), fun _ => by decide⟩
    | exact ⟨h, fun e => by cases e⟩
    | exact ⟨Nat.zero_le _, fun e => by cases e⟩
theorem wordV_le (t : ByteArray) (h : 0 < t.size) : (wordV t).n ≤ t.size ∧ ((wordV t).ok = true → 1 ≤ (wordV t).n) := by
  unfold wordV
  split
  · rename_i hs
    have h1 := nameLen_le t
    refine ⟨h1.1, fun _ => ?_⟩
    show 1 ≤ nameLen t
    unfold nameLen
    rw [if_neg (fun q => q.elim (by omega) (fun q => by rw [hs] at q; cases q))]
    exact (scanTo_le _ (by omega)).1
  · split
    · have := numGo_le t t.size (bt t 0 - 48) 1 (by omega) (by omega)
      exact ⟨this.2.1, fun _ => this.1⟩
    · split
      · have := numdV_le t h; exact ⟨this.2, fun _ => this.1⟩
      · split
        · have := quoV_le t h; exact ⟨this.2, fun _ => this.1⟩
        · exact sgnV_le t h
structure W8 where
  k : Int
  S : ByteArray
  r : Int
  n : Int
  b : Int
  l : Int
  c : Int
  e : Int
def w8Cells (x : W8) : List Value := [.int .i64 x.k, .string x.S, .int .i32 x.r, .int .i64 x.n, .int .i64 x.b, .int .i64 x.l, .int .i64 x.c, .int .i64 x.e]
def encW (zs : List W8) : List Value := zs.flatMap w8Cells
theorem encW_cons (x : W8) (zs : List W8) : encW (x :: zs) = w8Cells x ++ encW zs := rfl
theorem encW_length (zs : List W8) : (encW zs).length = zs.length * 8 := by
  induction zs with
  | nil => rfl
  | cons x zs ih => rw [encW_cons, List.length_append, ih, List.length_cons]; show 8 + _ = _; omega
theorem encW_at (zs : List W8) (j : Nat) (x : W8) (h : zs[j]? = some x) : ∀ i u, (w8Cells x)[i]? = some u → (encW zs)[j * 8 + i]? = some u := by
  induction zs generalizing j with
  | nil => simp at h
  | cons y zs ih =>
    intro i u hu
    have hi : i < 8 := (List.getElem?_eq_some_iff.1 hu).1
    cases j with
    | zero =>
      obtain rfl : y = x := by simpa using h
      rw [encW_cons, Nat.zero_mul, Nat.zero_add, List.getElem?_append_left (by exact hi)]
      exact hu
    | succ j =>
      have h' : zs[j]? = some x := by simpa using h
      rw [encW_cons, List.getElem?_append_right (by show 8 ≤ _; omega), show (j + 1) * 8 + i - (w8Cells y).length = j * 8 + i by show (j + 1) * 8 + i - 8 = _; omega]
      exact ih j h' i u hu
def w8 (x : Wd) : W8 := ⟨x.v.kind, x.v.S, x.v.R, x.v.N, x.b, x.l, x.c, x.e⟩
theorem encW_ws (ws : List Wd) : encW (ws.map w8) = encWs ws := by
  unfold encW encWs
  rw [List.flatMap_map]
  rfl
def RowW (W : World) (a : Option Addr) (zs : List W8) : Prop := 0 < zs.length → ∃ g, a = some ⟨g, 0, none⟩ ∧ g < W.heap.size ∧ ∀ j x, zs[j]? = some x → ∀ i u, (w8Cells x)[i]? = some u → W.cell? ⟨g, j * 8 + i, none⟩ = some u
theorem own_rowW {W : World} {base n : Nat} {v : Value} {zs : List W8} (h : W.ownsRow base 171 8 v n (encW zs)) : ∃ a c, v = .slice a zs.length c ∧ RowW W a zs ∧ n = zs.length ∧ zs.length ≤ c := by
  obtain ⟨hl, h⟩ := h
  rw [encW_length] at hl
  have hn : n = zs.length := by omega
  subst hn
  rcases h with ⟨rfl, h0⟩ | ⟨g, cap, cur, rfl, hb, hg, h1, h2, h3, h4⟩
  · exact ⟨none, 0, by rw [h0], fun h => by omega, rfl, by omega⟩
  · refine ⟨_, cap, rfl, fun h0 => ⟨g, rfl, (Array.getElem?_eq_some_iff.1 hg).1, fun j x hj i u hu => ?_⟩, rfl, h1⟩
    have hbk : Blk W g cur 171 := hg
    have e := encW_at zs j x hj i u hu
    rw [← h4] at e
    have hjl := (List.getElem?_eq_some_iff.1 hj).1
    have hil : i < 8 := (List.getElem?_eq_some_iff.1 hu).1
    rw [List.getElem?_take, if_pos (by omega)] at e
    rw [Blk.cell hbk]
    simpa using e
theorem below_drewNW {B : Nat} {a w : World} (h : Below B a w) (n : Nat) : Below B a (w.drewN n) := h.trans ⟨rfl, rfl, rfl, Nat.le_refl _, fun _ _ => rfl⟩
structure Rf where
  b : Int
  l : Int
  c : Int
  why : Int
def rfCells (x : Rf) : Array Value := #[.int .i64 x.b, .int .i64 x.l, .int .i64 x.c, .int .i64 x.why]
def RefAt (W : World) (R : Nat) (v : Value) : Option Rf → Prop
  | none => v = .pointer none
  | some x => ∃ F, v = .pointer (some ⟨F, 0, none⟩) ∧ R < F ∧ Blk W F (rfCells x) 120
def WordsAt (W : World) (g : Nat) (ws : List W8) : Prop := ∀ j x, ws[j]? = some x → ∀ i u, (w8Cells x)[i]? = some u → W.cell? ⟨g, 8 * j + i, none⟩ = some u
structure RdAt (W : World) (R Tx g : Nat) (ws : List W8) (k : Nat) (bad : Option Rf) : Prop where
  kn : k ≤ ws.length
  nmax : ws.length ≤ 1000000
  blk : ∃ a c v, Blk W R #[.slice a (ws.length - k) c, .pointer (some ⟨Tx, 0, none⟩), v] 127 ∧ (k < ws.length → a = some ⟨g, 8 * k, none⟩) ∧ ws.length - k ≤ c ∧ RefAt W R v bad
  words : WordsAt W g ws
  gR : g ≠ R
def seesB (ws : List W8) (k : Nat) (bad : Option Rf) (kind : Int) : Bool := match bad, ws[k]? with
  | none, some x => x.k == kind
  | _, _ => false
theorem WordsAt.first {W : World} {g : Nat} {ws : List W8} (h : WordsAt W g ws) {k : Nat} {x : W8} (hx : ws[k]? = some x) : W.cell? ⟨g, 8 * k, none⟩ = some (.int .i64 x.k) := h k x hx 0 _ rfl
set_option maxRecDepth 100000 in
set_option maxHeartbeats 4000000 in
theorem sees_any (R Tx g : Nat) (ws : List W8) (k : Nat) (bad : Option Rf) (kind : Int) (W : World) (h : RdAt W R Tx g ws k bad) :
    Calls Tryz.prog 139 #[.pointer (some ⟨R, 0, none⟩), .int .i64 kind] W fun e w' => e = .returned (.bool (seesB ws k bad kind)) ∧ w' = W := by
  obtain ⟨a, c, v, hb, ha, hc, hv⟩ := h.blk
  have hw := h.words
  have hkn := h.kn
  have hnm := h.nmax
  have c0 := hb.cell 0
  have c2 := hb.cell 2
  clear h hb
  go_enter Tryz.func139, Tryz.ntmps139
  cases bad with
  | some x =>
    obtain ⟨F, rfl, _, hF⟩ := hv
    clear hF
    go_wp2_with fail
    go_ret
    exact ⟨rfl, rfl⟩
  | none =>
    subst hv
    cases hx : ws[k]? with
    | none =>
      have hk : ws.length - k = 0 := by have := List.getElem?_eq_none_iff.1 hx; omega
      rw [hk] at c0
      have HE := hide (show seesB ws k none kind = false by simp only [seesB, hx])
      clear hx hk hkn hc ha hw
      go_wp2_with fail
      go_ret
      exact ⟨by rw [unhide HE]; rfl, rfl⟩
    | some x =>
      have hk := (List.getElem?_eq_some_iff.1 hx).1
      obtain rfl := ha hk
      have w0 := hw.first hx
      have hpos : (0 : Int) < ((ws.length - k : Nat) : Int) := by omega
      have HE := hide (show seesB ws k none kind = (x.k == kind) by simp only [seesB, hx])
      obtain ⟨m, hm⟩ : ∃ m, m = ws.length - k := ⟨_, rfl⟩
      rw [← hm] at c0 hpos
      clear hx ha hw hm hc hkn hk
      go_wp2_with fail
      go_ret
      exact ⟨by rw [unhide HE]; rfl, rfl⟩
end Go.Proofs.YtgchlilpjkndlaaGreatDoor
