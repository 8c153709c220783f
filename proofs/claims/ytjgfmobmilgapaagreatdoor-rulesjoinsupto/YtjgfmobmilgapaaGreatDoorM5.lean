/- Texts of this claim, one behind the other. -/
import Derived.Test.YtjgfmobmilgapaaGreatDoorM4
import Derived.Test.YtjgfmobmilgapaaGreatDoorM1
import Derived.Laws.StructEq
import Derived.Deep.QuietTactic
import Derived.WalkKit
import Derived.BigQuiet
import Derived.BigRegion
/- The words of a text: what the cutter makes of it. -/
namespace Go.Proofs.YtjgfmobmilgapaaGreatDoor
open Go.RowKit Go.Shelf
set_option linter.unusedVariables false
structure WV where
  kind : Nat
  S : ByteArray
  R : Nat
  N : Nat
  n : Nat
  ok : Bool
def edgeB (t : ByteArray) (n : Nat) : Bool := decide (n = t.size) || !stkB (bt t n)
def wordV (t : ByteArray) : WV :=
  if smallB (bt t 0) = true then ⟨1, t.extract 0 (nameLen t), 0, 0, nameLen t, edgeB t (nameLen t)⟩
  else if digB (bt t 0) = true then ⟨2, ByteArray.empty, 0, (numV t).1, (numV t).2, edgeB t (numV t).2⟩
  else if bt t 0 = 85 then ⟨3, ByteArray.empty, (numdV t).1, 0, (numdV t).2.1, (numdV t).2.2 && edgeB t (numdV t).2.1⟩
  else if bt t 0 = 39 then ⟨3, ByteArray.empty, (quoV t).1, 0, (quoV t).2.1, (quoV t).2.2⟩
  else ⟨(sgnV t).1, ByteArray.empty, 0, 0, (sgnV t).2.1, (sgnV t).2.2⟩
structure Wd where
  v : WV
  b : Nat
  l : Nat
  c : Nat
  e : Nat
def wdCells (x : Wd) : List Value := [.int .i64 x.v.kind, .string x.v.S, .int .i32 x.v.R, .int .i64 x.v.N, .int .i64 x.b, .int .i64 x.l, .int .i64 x.c, .int .i64 x.e]
def encWs (ws : List Wd) : List Value := ws.flatMap wdCells
theorem encWs_snoc (ws : List Wd) (x : Wd) : encWs (ws ++ [x]) = encWs ws ++ wdCells x := by simp [encWs]
abbrev rst (s : ByteArray) (b : Nat) : ByteArray := s.extract b s.size
def lcB (t : ByteArray) (x : Nat × Nat) (n : Nat) : Nat × Nat := lcF (t.extract 0 n) x (starts (t.extract 0 n))
def gB (s : ByteArray) (b : Nat) : Nat := b + (gapV (rst s b)).1
def gLC (s : ByteArray) (b : Nat) (x : Nat × Nat) : Nat × Nat := lcB (rst s b) x (gapV (rst s b)).1
structure CutV where
  ok : Bool
  b : Nat
  lc : Nat × Nat
  ws : List Wd
def cutGo (s : ByteArray) : Nat → Nat → Nat × Nat → List Wd → CutV
  | 0, b, x, ws => ⟨false, b, x, ws⟩
  | f + 1, b, x, ws =>
    if (gapV (rst s b)).2 = false then ⟨false, gB s b, gLC s b x, ws⟩
    else if (rst s (gB s b)).size = 0 then ⟨true, gB s b, gLC s b x, ws⟩
    else if (wordV (rst s (gB s b))).ok = false then ⟨false, gB s b + (wordV (rst s (gB s b))).n, lcB (rst s (gB s b)) (gLC s b x) (wordV (rst s (gB s b))).n, ws⟩
    else cutGo s f (gB s b + (wordV (rst s (gB s b))).n) (lcB (rst s (gB s b)) (gLC s b x) (wordV (rst s (gB s b))).n) (ws ++ [⟨wordV (rst s (gB s b)), gB s b, (gLC s b x).1, (gLC s b x).2, gB s b + (wordV (rst s (gB s b))).n⟩])
theorem gapGo_le (t : ByteArray) : ∀ f n, n ≤ t.size → (gapGo t f n).1 ≤ t.size
  | 0, n, h => Nat.le_refl _
  | f + 1, n, h => by
    unfold gapGo
    split
    · split
      · exact gapGo_le t f (n + 1) (by omega)
      · split
        · have := remV_le (t.extract n t.size)
          rw [ByteArray.size_extract] at this
          split
          · exact gapGo_le t f _ (by omega)
          · show n + _ ≤ t.size; omega
        · exact h
    · exact Nat.le_refl _
theorem gapV_le (t : ByteArray) : (gapV t).1 ≤ t.size := gapGo_le t _ 0 (Nat.zero_le _)
theorem rst_size (s : ByteArray) (b : Nat) : (rst s b).size = s.size - b := by rw [ByteArray.size_extract]; omega
theorem gB_le (s : ByteArray) (b : Nat) (h : b ≤ s.size) : b ≤ gB s b ∧ gB s b ≤ s.size := by
  have := gapV_le (rst s b)
  rw [rst_size] at this
  unfold gB
  omega
theorem numdGo_le (t : ByteArray) : ∀ k v n, t.size ≤ n + k → n ≤ t.size → n ≤ (numdGo t v n).2 ∧ (numdGo t v n).2 ≤ t.size ∧ (v ≤ 1114111 → (numdGo t v n).1 ≤ 1114111)
  | 0, v, n, h, hn => by rw [numdGo_stop (by omega)]; exact ⟨Nat.le_refl _, hn, fun h => h⟩
  | k + 1, v, n, h, hn => by
    by_cases hc : n < t.size ∧ (n < 6 ∨ bt t 2 ≠ 48) ∧ 0 ≤ hexI (bt t n) ∧ v * 16 + (hexI (bt t n)).toNat ≤ 1114111
    · rw [numdGo_go hc]
      have := numdGo_le t k (v * 16 + (hexI (bt t n)).toNat) (n + 1) (by omega) (by omega)
      exact ⟨by omega, this.2.1, fun _ => this.2.2 hc.2.2.2⟩
    · rw [numdGo_stop hc]; exact ⟨Nat.le_refl _, hn, fun h => h⟩
theorem numdV_le (t : ByteArray) (h : 0 < t.size) : 1 ≤ (numdV t).2.1 ∧ (numdV t).2.1 ≤ t.size := by
  unfold numdV
  by_cases hc : t.size < 2 ∨ bt t 1 ≠ 43
  · rw [if_pos hc]; exact ⟨Nat.le_refl _, h⟩
  · rw [if_neg hc]
    have := numdGo_le t t.size 0 2 (by omega) (by omega)
    split <;> exact ⟨by show 1 ≤ (numdGo t 0 2).2; omega, by show (numdGo t 0 2).2 ≤ t.size; omega⟩
theorem quoV_le (t : ByteArray) (h : 0 < t.size) : 1 ≤ (quoV t).2.1 ∧ (quoV t).2.1 ≤ t.size := by
  have hz := tl1_size t
  have hb : begLen (tl1 t) ≤ (tl1 t).size := (scanTo_le _ (Nat.zero_le _)).2
  have hw := wd_room (tl1 t) 0
  unfold quoV
  split
  · exact ⟨h, Nat.le_refl _⟩
  · split
    · exact ⟨Nat.le_refl _, h⟩
    · split
      · exact ⟨by show 1 ≤ 1 + _; omega, by show 1 + _ ≤ _; omega⟩
      · split
        · exact ⟨h, Nat.le_refl _⟩
        · have := hw (by omega)
          split
          · exact ⟨by show 1 ≤ _ + 2; omega, by show _ + 2 ≤ _; omega⟩
          · exact ⟨by show 1 ≤ 1 + _; omega, by show 1 + _ ≤ _; omega⟩
theorem dotsB_iff (t : ByteArray) : dotsB t = true → 2 ≤ t.size := fun h => by
  have h2 : [46, 46] <+: t.data.toList := List.isPrefixOf_iff_prefix.1 h
  have := h2.length_le
  rw [Array.length_toList] at this
  exact this
theorem sgnV_le (t : ByteArray) (h : 0 < t.size) : (sgnV t).2.1 ≤ t.size ∧ ((sgnV t).2.2 = true → 1 ≤ (sgnV t).2.1) := by
  unfold sgnV
  repeat' split
  all_goals first
    | exact ⟨h, fun _ => Nat.le_refl _⟩
    | exact ⟨dotsB_iff t (by assumption), fun _ => by decide⟩
    | exact ⟨h, fun e => by cases e⟩
    | exact ⟨Nat.zero_le _, fun e => by cases e⟩
theorem wordV_le (t : ByteArray) (h : 0 < t.size) : (wordV t).n ≤ t.size ∧ ((wordV t).ok = true → 1 ≤ (wordV t).n) := by
  unfold wordV
  split
  · rename_i hs
    have h1 := nameLen_le t
    refine ⟨h1.1, fun _ => ?_⟩
    show 1 ≤ nameLen t
    unfold nameLen
    rw [if_neg (fun q => q.elim (by omega) (fun q => by rw [hs] at q; cases q))]
    exact (scanTo_le _ (by omega)).1
  · split
    · have := numGo_le t t.size (bt t 0 - 48) 1 (by omega) (by omega)
      exact ⟨this.2.1, fun _ => this.1⟩
    · split
      · have := numdV_le t h; exact ⟨this.2, fun _ => this.1⟩
      · split
        · have := quoV_le t h; exact ⟨this.2, fun _ => this.1⟩
        · exact sgnV_le t h
structure W8 where
  k : Int
  S : ByteArray
  r : Int
  n : Int
  b : Int
  l : Int
  c : Int
  e : Int
def w8Cells (x : W8) : List Value := [.int .i64 x.k, .string x.S, .int .i32 x.r, .int .i64 x.n, .int .i64 x.b, .int .i64 x.l, .int .i64 x.c, .int .i64 x.e]
def encW (zs : List W8) : List Value := zs.flatMap w8Cells
theorem encW_cons (x : W8) (zs : List W8) : encW (x :: zs) = w8Cells x ++ encW zs := rfl
theorem encW_length (zs : List W8) : (encW zs).length = zs.length * 8 := by
  induction zs with
  | nil => rfl
  | cons x zs ih => rw [encW_cons, List.length_append, ih, List.length_cons]; show 8 + _ = _; omega
theorem encW_at (zs : List W8) (j : Nat) (x : W8) (h : zs[j]? = some x) : ∀ i u, (w8Cells x)[i]? = some u → (encW zs)[j * 8 + i]? = some u := by
  induction zs generalizing j with
  | nil => simp at h
  | cons y zs ih =>
    intro i u hu
    have hi : i < 8 := (List.getElem?_eq_some_iff.1 hu).1
    cases j with
    | zero =>
      obtain rfl : y = x := by simpa using h
      rw [encW_cons, Nat.zero_mul, Nat.zero_add, List.getElem?_append_left (by exact hi)]
      exact hu
    | succ j =>
      have h' : zs[j]? = some x := by simpa using h
      rw [encW_cons, List.getElem?_append_right (by show 8 ≤ _; omega), show (j + 1) * 8 + i - (w8Cells y).length = j * 8 + i by show (j + 1) * 8 + i - 8 = _; omega]
      exact ih j h' i u hu
def w8 (x : Wd) : W8 := ⟨x.v.kind, x.v.S, x.v.R, x.v.N, x.b, x.l, x.c, x.e⟩
theorem encW_ws (ws : List Wd) : encW (ws.map w8) = encWs ws := by
  unfold encW encWs
  rw [List.flatMap_map]
  rfl
def RowW (W : World) (a : Option Addr) (zs : List W8) : Prop := 0 < zs.length → ∃ g, a = some ⟨g, 0, none⟩ ∧ g < W.heap.size ∧ ∀ j x, zs[j]? = some x → ∀ i u, (w8Cells x)[i]? = some u → W.cell? ⟨g, j * 8 + i, none⟩ = some u
theorem own_rowW {W : World} {base n : Nat} {v : Value} {zs : List W8} (h : W.ownsRow base 115 8 v n (encW zs)) : ∃ a c, v = .slice a zs.length c ∧ RowW W a zs ∧ n = zs.length ∧ zs.length ≤ c := by
  obtain ⟨hl, h⟩ := h
  rw [encW_length] at hl
  have hn : n = zs.length := by omega
  subst hn
  rcases h with ⟨rfl, h0⟩ | ⟨g, cap, cur, rfl, hb, hg, h1, h2, h3, h4⟩
  · exact ⟨none, 0, by rw [h0], fun h => by omega, rfl, by omega⟩
  · refine ⟨_, cap, rfl, fun h0 => ⟨g, rfl, (Array.getElem?_eq_some_iff.1 hg).1, fun j x hj i u hu => ?_⟩, rfl, h1⟩
    have hbk : Blk W g cur 115 := hg
    have e := encW_at zs j x hj i u hu
    rw [← h4] at e
    have hjl := (List.getElem?_eq_some_iff.1 hj).1
    have hil : i < 8 := (List.getElem?_eq_some_iff.1 hu).1
    rw [List.getElem?_take, if_pos (by omega)] at e
    rw [Blk.cell hbk]
    simpa using e
theorem below_drewNW {B : Nat} {a w : World} (h : Below B a w) (n : Nat) : Below B a (w.drewN n) := h.trans ⟨rfl, rfl, rfl, Nat.le_refl _, fun _ _ => rfl⟩
structure Rf where
  b : Int
  l : Int
  c : Int
  why : Int
def rfCells (x : Rf) : Array Value := #[.int .i64 x.b, .int .i64 x.l, .int .i64 x.c, .int .i64 x.why]
def RefAt (W : World) (R : Nat) (v : Value) : Option Rf → Prop
  | none => v = .pointer none
  | some x => ∃ F, v = .pointer (some ⟨F, 0, none⟩) ∧ R < F ∧ Blk W F (rfCells x) 54
def WordsAt (W : World) (g : Nat) (ws : List W8) : Prop := ∀ j x, ws[j]? = some x → ∀ i u, (w8Cells x)[i]? = some u → W.cell? ⟨g, 8 * j + i, none⟩ = some u
structure RdAt (W : World) (R Tx g : Nat) (ws : List W8) (k : Nat) (bad : Option Rf) : Prop where
  kn : k ≤ ws.length
  nmax : ws.length ≤ 1000000
  blk : ∃ a c v, Blk W R #[.slice a (ws.length - k) c, .pointer (some ⟨Tx, 0, none⟩), v] 61 ∧ (k < ws.length → a = some ⟨g, 8 * k, none⟩) ∧ ws.length - k ≤ c ∧ RefAt W R v bad
  words : WordsAt W g ws
  gR : g ≠ R
def seesB (ws : List W8) (k : Nat) (bad : Option Rf) (kind : Int) : Bool := match bad, ws[k]? with
  | none, some x => x.k == kind
  | _, _ => false
theorem WordsAt.first {W : World} {g : Nat} {ws : List W8} (h : WordsAt W g ws) {k : Nat} {x : W8} (hx : ws[k]? = some x) : W.cell? ⟨g, 8 * k, none⟩ = some (.int .i64 x.k) := h k x hx 0 _ rfl
set_option maxRecDepth 100000 in
set_option maxHeartbeats 4000000 in
theorem sees_any (R Tx g : Nat) (ws : List W8) (k : Nat) (bad : Option Rf) (kind : Int) (W : World) (h : RdAt W R Tx g ws k bad) :
    Calls Tryz.prog 88 #[.pointer (some ⟨R, 0, none⟩), .int .i64 kind] W fun e w' => e = .returned (.bool (seesB ws k bad kind)) ∧ w' = W := by
  obtain ⟨a, c, v, hb, ha, hc, hv⟩ := h.blk
  have hw := h.words
  have hkn := h.kn
  have hnm := h.nmax
  have c0 := hb.cell 0
  have c2 := hb.cell 2
  clear h hb
  go_enter Tryz.func88, Tryz.ntmps88
  cases bad with
  | some x =>
    obtain ⟨F, rfl, _, hF⟩ := hv
    clear hF
    go_wp2_with fail
    go_ret
    exact ⟨rfl, rfl⟩
  | none =>
    subst hv
    cases hx : ws[k]? with
    | none =>
      have hk : ws.length - k = 0 := by have := List.getElem?_eq_none_iff.1 hx; omega
      rw [hk] at c0
      have HE := hide (show seesB ws k none kind = false by simp only [seesB, hx])
      clear hx hk hkn hc ha hw
      go_wp2_with fail
      go_ret
      exact ⟨by rw [unhide HE]; rfl, rfl⟩
    | some x =>
      have hk := (List.getElem?_eq_some_iff.1 hx).1
      obtain rfl := ha hk
      have w0 := hw.first hx
      have hpos : (0 : Int) < ((ws.length - k : Nat) : Int) := by omega
      have HE := hide (show seesB ws k none kind = (x.k == kind) by simp only [seesB, hx])
      obtain ⟨m, hm⟩ : ∃ m, m = ws.length - k := ⟨_, rfl⟩
      rw [← hm] at c0 hpos
      clear hx ha hw hm hc hkn hk
      go_wp2_with fail
      go_ret
      exact ⟨by rw [unhide HE]; rfl, rfl⟩
structure EndAt (W : World) (Tx : Nat) (eb el ec : Int) : Prop where
  c0 : W.cell? ⟨Tx, 17, none⟩ = some (.int .i64 eb)
  c1 : W.cell? ⟨Tx, 18, none⟩ = some (.int .i64 el)
  c2 : W.cell? ⟨Tx, 19, none⟩ = some (.int .i64 ec)
def refV (ws : List W8) (k : Nat) (eb el ec : Int) : Rf := match ws[k]? with
  | some x => ⟨x.b, x.l, x.c, 5⟩
  | none => ⟨eb, el, ec, 21⟩
theorem grown_trans' {a b c : World} {row : Option Nat} (h : a.grownBy b row) (k : b.grownBy c row) : a.grownBy c row :=
  ⟨k.os.trans h.os, k.tape.trans h.tape, k.output.trans h.output, Nat.le_trans h.size k.size, fun i hi hn => (k.block i (by have := h.size; omega) hn).trans (h.block i hi hn)⟩
theorem grown_set' (W : World) (B i : Nat) (v : Value) : W.grownBy (W.setCell ⟨B, i, none⟩ v) (some B) := ⟨rfl, rfl, rfl, (KeepsWalks.setCell W _ _).size, fun k hk hn => Below.heap_setCell W ⟨B, i, none⟩ _ k (fun e => hn (by rw [e]))⟩
theorem RefAt.kept {W W' : World} {R : Nat} {v : Value} {bad : Option Rf} {row : Option Nat} (h : RefAt W R v bad) (hg : W.grownBy W' row) (hne : ∀ F x, Blk W F (rfCells x) 54 → some F ≠ row) : RefAt W' R v bad := by
  cases bad with
  | none => exact h
  | some x =>
    obtain ⟨F, e, hRF, hF⟩ := h
    exact ⟨F, e, hRF, hF.kept hg (hne F x hF)⟩
theorem RdAt.upd {W W' : World} {R Tx g : Nat} {ws : List W8} {k k2 : Nat} {bad bad2 : Option Rf} (h : RdAt W R Tx g ws k bad) (hg : W.grownBy W' (some R)) (hk : k2 ≤ ws.length) (a : Option Addr) (c : Nat) (v : Value)
    (hb : Blk W' R #[.slice a (ws.length - k2) c, .pointer (some ⟨Tx, 0, none⟩), v] 61) (ha : k2 < ws.length → a = some ⟨g, 8 * k2, none⟩) (hc : ws.length - k2 ≤ c) (hv : RefAt W' R v bad2) : RdAt W' R Tx g ws k2 bad2 :=
  ⟨hk, h.nmax, ⟨a, c, v, hb, ha, hc, hv⟩, fun j x hx i u hu => hg.cell (h.words j x hx i u hu) (by show some g ≠ some R; intro e; exact h.gR (Option.some.inj e)), h.gR⟩
set_option maxRecDepth 100000 in
set_option maxHeartbeats 4000000 in
theorem refuse_any (R Tx g : Nat) (ws : List W8) (k : Nat) (bad : Option Rf) (eb el ec : Int) (W : World) (h : RdAt W R Tx g ws k bad) (hE : EndAt W Tx eb el ec) :
    Calls Tryz.prog 44 #[.pointer (some ⟨R, 0, none⟩)] W fun e w' => (∃ r, e = .returned r) ∧ RdAt w' R Tx g ws k (some (refV ws k eb el ec)) ∧ W.grownBy w' (some R) := by
  have H := hide h
  obtain ⟨a, c, v, hb, ha, hc, hv⟩ := h.blk
  have hkn := h.kn
  have hnm := h.nmax
  have c0 := hb.cell 0
  have c1 := hb.cell 1
  have c2 := hb.cell 2
  have f2 := hb.frozen 2
  have e0 := hE.c0
  have e1 := hE.c1
  have e2 := hE.c2
  have hRl := hb.lt
  clear h hE
  go_enter Tryz.func44, Tryz.ntmps44
  cases hx : ws[k]? with
  | none =>
    have hk : ws.length - k = 0 := by have := List.getElem?_eq_none_iff.1 hx; omega
    have HE := hide (show refV ws k eb el ec = ⟨eb, el, ec, 21⟩ by simp only [refV, hx])
    have HK := hide hk
    rw [hk] at c0
    have HB := hide hb
    have HA := hide ha
    have HC := hide hc
    clear hb ha hc hv hk hx
    go_wp2_with fail
    go_end0
    have hz : (W.setCell ⟨R, 2, none⟩ (.pointer (some ⟨W.heap.size, 0, none⟩))).heap.size = W.heap.size := by simp
    have hg : W.grownBy ((W.setCell ⟨R, 2, none⟩ (.pointer (some ⟨W.heap.size, 0, none⟩))).alloc (.cells (rfCells ⟨eb, el, ec, 21⟩) 54)) (some R) := grown_trans' (grown_set' W R 2 _) (World.grownBy_alloc _ _ _)
    have hF := Blk.new (W.setCell ⟨R, 2, none⟩ (.pointer (some ⟨W.heap.size, 0, none⟩))) (rfCells ⟨eb, el, ec, 21⟩) 54
    rw [hz] at hF
    refine ⟨⟨_, rfl⟩, ?_, hg⟩
    rw [unhide HE]
    exact (unhide H).upd hg hkn a c (.pointer (some ⟨W.heap.size, 0, none⟩)) (((unhide HB).set 2 _).alloc _) (unhide HA) (unhide HC) ⟨W.heap.size, rfl, hRl, hF⟩
  | some x =>
    have hk := (List.getElem?_eq_some_iff.1 hx).1
    obtain rfl := ha hk
    have hw := (unhide H).words
    have hgR := (unhide H).gR
    have hg1 : W.grownBy ((W.setCell ⟨R, 2, none⟩ (.pointer (some ⟨W.heap.size, 0, none⟩))).alloc (.cells #[.int .i64 eb, .int .i64 el, .int .i64 ec, .int .i64 21] 54)) (some R) := grown_trans' (grown_set' W R 2 _) (World.grownBy_alloc _ _ _)
    have w4 := hg1.cell (a := ⟨g, 8 * k + 4, none⟩) (hw k x hx 4 _ rfl) (by show some g ≠ some R; intro e; exact hgR (Option.some.inj e))
    have w5 := hg1.cell (a := ⟨g, 8 * k + 4 + 1, none⟩) (hw k x hx 5 _ rfl) (by show some g ≠ some R; intro e; exact hgR (Option.some.inj e))
    have w6 := hg1.cell (a := ⟨g, 8 * k + 4 + 2, none⟩) (hw k x hx 6 _ rfl) (by show some g ≠ some R; intro e; exact hgR (Option.some.inj e))
    have HG1 := hide hg1
    clear hg1
    have HE := hide (show refV ws k eb el ec = ⟨x.b, x.l, x.c, 5⟩ by simp only [refV, hx])
    have hpos : (0 : Int) < ((ws.length - k : Nat) : Int) := by omega
    have hpos2 : 0 < ws.length - k := by omega
    obtain ⟨m, hm⟩ : ∃ m, m = ws.length - k := ⟨_, rfl⟩
    rw [← hm] at c0 hpos hpos2
    have HB := hide hb
    have HA := hide ha
    have HC := hide hc
    clear hb ha hc hv hx hw hm hk
    go_wp2_with fail
    go_end0
    have hz : (((W.setCell ⟨R, 2, none⟩ (.pointer (some ⟨W.heap.size, 0, none⟩))).setCell ⟨R, 2, none⟩ (.pointer (some ⟨W.heap.size + 1, 0, none⟩))).alloc (.cells (rfCells ⟨eb, el, ec, 21⟩) 54)).heap.size = W.heap.size + 1 := by simp
    have hg : W.grownBy ((((W.setCell ⟨R, 2, none⟩ (.pointer (some ⟨W.heap.size, 0, none⟩))).setCell ⟨R, 2, none⟩ (.pointer (some ⟨W.heap.size + 1, 0, none⟩))).alloc (.cells (rfCells ⟨eb, el, ec, 21⟩) 54)).alloc (.cells (rfCells ⟨x.b, x.l, x.c, 5⟩) 54)) (some R) :=
      grown_trans' (grown_trans' (grown_trans' (grown_set' W R 2 _) (grown_set' _ R 2 _)) (World.grownBy_alloc _ _ _)) (World.grownBy_alloc _ _ _)
    have hF := Blk.new (((W.setCell ⟨R, 2, none⟩ (.pointer (some ⟨W.heap.size, 0, none⟩))).setCell ⟨R, 2, none⟩ (.pointer (some ⟨W.heap.size + 1, 0, none⟩))).alloc (.cells (rfCells ⟨eb, el, ec, 21⟩) 54)) (rfCells ⟨x.b, x.l, x.c, 5⟩) 54
    rw [hz] at hF
    refine ⟨⟨_, rfl⟩, ?_, hg⟩
    rw [unhide HE]
    exact (unhide H).upd hg hkn _ c (.pointer (some ⟨W.heap.size + 1, 0, none⟩)) (((((unhide HB).set 2 _).set 2 _).alloc _).alloc _) (fun _ => rfl) (unhide HC) ⟨W.heap.size + 1, rfl, Nat.lt_succ_of_lt hRl, hF⟩
theorem RdAt.alloc {W : World} {R Tx g : Nat} {ws : List W8} {k : Nat} {bad : Option Rf} (h : RdAt W R Tx g ws k bad) (o : Obj) : RdAt (W.alloc o) R Tx g ws k bad := by
  obtain ⟨a, c, v, hb, ha, hc, hv⟩ := h.blk
  exact h.upd (World.grownBy_alloc W o _) h.kn a c v (hb.alloc o) ha hc (hv.kept (World.grownBy_alloc W o none) (fun F x _ => by simp))
theorem EndAt.kept {W W' : World} {Tx : Nat} {eb el ec : Int} {row : Option Nat} (h : EndAt W Tx eb el ec) (hg : W.grownBy W' row) (hne : some Tx ≠ row) : EndAt W' Tx eb el ec := ⟨hg.cell h.c0 hne, hg.cell h.c1 hne, hg.cell h.c2 hne⟩
def wV (x : W8) : Value := .agg #[.int .i64 x.k, .string x.S, .int .i32 x.r, .int .i64 x.n, .int .i64 x.b, .int .i64 x.l, .int .i64 x.c, .int .i64 x.e]
theorem box8 {W : World} {N : Nat} {a0 a1 a2 a3 a4 a5 a6 a7 : Value} {ty : TypeId} (h : Blk W N #[a0, a1, a2, a3, a4, a5, a6, a7] ty) (v0 v1 v2 v3 v4 v5 v6 v7 : Value) : Blk ((((((((W.setCell ⟨N, 0, none⟩ v0).setCell ⟨N, 1, none⟩ v1).setCell ⟨N, 2, none⟩ v2).setCell ⟨N, 3, none⟩ v3).setCell ⟨N, 4, none⟩ v4).setCell ⟨N, 5, none⟩ v5).setCell ⟨N, 6, none⟩ v6).setCell ⟨N, 7, none⟩ v7) N #[v0, v1, v2, v3, v4, v5, v6, v7] ty := by
  have h0 : Blk (_ : World) N #[v0, a1, a2, a3, a4, a5, a6, a7] ty := h.set 0 v0
  have h1 : Blk (_ : World) N #[v0, v1, a2, a3, a4, a5, a6, a7] ty := h0.set 1 v1
  have h2 : Blk (_ : World) N #[v0, v1, v2, a3, a4, a5, a6, a7] ty := h1.set 2 v2
  have h3 : Blk (_ : World) N #[v0, v1, v2, v3, a4, a5, a6, a7] ty := h2.set 3 v3
  have h4 : Blk (_ : World) N #[v0, v1, v2, v3, v4, a5, a6, a7] ty := h3.set 4 v4
  have h5 : Blk (_ : World) N #[v0, v1, v2, v3, v4, v5, a6, a7] ty := h4.set 5 v5
  have h6 : Blk (_ : World) N #[v0, v1, v2, v3, v4, v5, v6, a7] ty := h5.set 6 v6
  have h7 : Blk (_ : World) N #[v0, v1, v2, v3, v4, v5, v6, v7] ty := h6.set 7 v7
  exact h7
theorem grown8 (W : World) (N : Nat) (v0 v1 v2 v3 v4 v5 v6 v7 : Value) : W.grownBy ((((((((W.setCell ⟨N, 0, none⟩ v0).setCell ⟨N, 1, none⟩ v1).setCell ⟨N, 2, none⟩ v2).setCell ⟨N, 3, none⟩ v3).setCell ⟨N, 4, none⟩ v4).setCell ⟨N, 5, none⟩ v5).setCell ⟨N, 6, none⟩ v6).setCell ⟨N, 7, none⟩ v7) (some N) :=
  grown_trans' (grown_trans' (grown_trans' (grown_trans' (grown_trans' (grown_trans' (grown_trans' (grown_set' W N 0 v0) (grown_set' _ N 1 v1)) (grown_set' _ N 2 v2)) (grown_set' _ N 3 v3)) (grown_set' _ N 4 v4)) (grown_set' _ N 5 v5)) (grown_set' _ N 6 v6)) (grown_set' _ N 7 v7)
theorem RdAt.far {W W' : World} {R Tx g N : Nat} {ws : List W8} {k : Nat} {bad : Option Rf} (h : RdAt W R Tx g ws k bad) (hg : W.grownBy W' (some N)) (hR : R ≠ N) (hgN : ∀ (j : Nat) (x : W8), ws[j]? = some x → g ≠ N) (hF : ∀ F x, Blk W F (rfCells x) 54 → F ≠ N) : RdAt W' R Tx g ws k bad := by
  obtain ⟨a, c, v, hb, ha, hc, hv⟩ := h.blk
  refine ⟨h.kn, h.nmax, ⟨a, c, v, hb.kept hg (fun e => hR (Option.some.inj e)), ha, hc, hv.kept hg (fun F x hx e => hF F x hx (Option.some.inj e))⟩, fun j x hx i u hu => hg.cell (h.words j x hx i u hu) (fun e => hgN j x hx (Option.some.inj e)), h.gR⟩
theorem RdAt.glt {W : World} {R Tx g : Nat} {ws : List W8} {k : Nat} {bad : Option Rf} (h : RdAt W R Tx g ws k bad)   : ∀ (j : Nat) (x : W8), ws[j]? = some x → g < W.heap.size := fun j x hx => cell_lt (h.words j x hx 0 _ rfl)
theorem blk_types {W : World} {B : Nat} {cs cs' : Array Value} {t t' : TypeId} (h : Blk W B cs t) (h' : Blk W B cs' t') : t = t' := by
  have := h.symm.trans h'
  injection this with e
  injection e
def zeroW : W8 := ⟨0, ⟨#[]⟩, 0, 0, 0, 0, 0, 0⟩
structure Tk where
  x : W8
  k : Nat
  bad : Option Rf
def takeV (ws : List W8) (k : Nat) (bad : Option Rf) (eb el ec kind : Int) : Tk := match seesB ws k bad kind, ws[k]? with
  | true, some x => ⟨x, k + 1, bad⟩
  | _, _ => ⟨zeroW, k, some (refV ws k eb el ec)⟩
set_option maxRecDepth 100000 in
set_option maxHeartbeats 4000000 in
theorem take_any (R Tx g : Nat) (ws : List W8) (k : Nat) (bad : Option Rf) (eb el ec kind : Int) (W : World) (h : RdAt W R Tx g ws k bad) (hE : EndAt W Tx eb el ec) :
    Calls Tryz.prog 45 #[.pointer (some ⟨R, 0, none⟩), .int .i64 kind] W fun e w' => e = .returned (wV (takeV ws k bad eb el ec kind).x) ∧ RdAt w' R Tx g ws (takeV ws k bad eb el ec kind).k (takeV ws k bad eb el ec kind).bad ∧ W.grownBy w' (some R) := by
  obtain ⟨Z, hZ⟩ : ∃ Z, Z = Obj.cells #[.int .i64 0, .string ⟨#[]⟩, .int .i32 0, .int .i64 0, .int .i64 0, .int .i64 0, .int .i64 0, .int .i64 0] 115 := ⟨_, rfl⟩
  have h2 := h.alloc Z
  have hE2 := hE.kept (World.grownBy_alloc W Z none) (by simp)
  have hgZ := World.grownBy_alloc W Z (some R)
  have hbz : Blk (W.alloc Z) W.heap.size #[.int .i64 0, .string ⟨#[]⟩, .int .i32 0, .int .i64 0, .int .i64 0, .int .i64 0, .int .i64 0, .int .i64 0] 115 := by rw [hZ]; exact Blk.new W _ _
  have hszW : W.heap.size < (W.alloc Z).heap.size := by simp
  have hRW : R < W.heap.size := by obtain ⟨a, c, v, hb, _⟩ := h.blk; exact hb.lt
  have H := hide h2
  have HGZ := hide hgZ
  have HS := hide (sees_any R Tx g ws k bad kind _ h2)
  have HF := hide (refuse_any R Tx g ws k bad eb el ec _ h2 hE2)
  subst hZ
  go_enter Tryz.func45, Tryz.ntmps45
  cases hs : seesB ws k bad kind with
  | false =>
    rw [hs] at HS
    have HT := hide (show takeV ws k bad eb el ec kind = ⟨zeroW, k, some (refV ws k eb el ec)⟩ by unfold takeV; rw [hs])
    clear hE hs h2 hE2 hgZ
    go_wp2_with fail
    generalize W.alloc (.cells #[.int .i64 0, .string ⟨#[]⟩, .int .i32 0, .int .i64 0, .int .i64 0, .int .i64 0, .int .i64 0, .int .i64 0] 115) = WZ at *
    refine (unhide HS).mono ?_
    rintro e w1 ⟨rfl, hw1⟩
    subst hw1
    go_wp2_with fail
    refine (unhide HF).mono ?_
    rintro e w2 ⟨⟨r, rfl⟩, hR, hg⟩
    have hb2 := hbz.kept hg (by simp; omega)
    have HR := hide hR
    have HG := hide (grown_trans' (unhide HGZ) hg)
    have HB2 := hide hb2
    have hW2 : W.heap.size < w2.heap.size := hb2.lt
    have k0 := hb2.cell 0
    have f0 := hb2.frozen 0
    have k1 := hb2.cell 1
    have f1 := hb2.frozen 1
    have k2 := hb2.cell 2
    have f2 := hb2.frozen 2
    have k3 := hb2.cell 3
    have f3 := hb2.frozen 3
    have k4 := hb2.cell 4
    have f4 := hb2.frozen 4
    have k5 := hb2.cell 5
    have f5 := hb2.frozen 5
    have k6 := hb2.cell 6
    have f6 := hb2.frozen 6
    have k7 := hb2.cell 7
    have f7 := hb2.frozen 7
    obtain ⟨N, hN⟩ : ∃ N, N = W.heap.size := ⟨_, rfl⟩
    rw [← hN] at HB2 k0 k1 k2 k3 k4 k5 k6 k7 f0 f1 f2 f3 f4 f5 f6 f7 ⊢
    have hb8 := box8 (unhide HB2) (.int .i64 0) (.string ⟨#[]⟩) (.int .i32 0) (.int .i64 0) (.int .i64 0) (.int .i64 0) (.int .i64 0) (.int .i64 0)
    have r0 := hb8.cell 0
    have r1 := hb8.cell 1
    have r2 := hb8.cell 2
    have r3 := hb8.cell 3
    have r4 := hb8.cell 4
    have r5 := hb8.cell 5
    have r6 := hb8.cell 6
    have r7 := hb8.cell 7
    have hglt := h.glt
    have HFAR : Hz (RdAt ((((((((w2.setCell ⟨N, 0, none⟩ (.int .i64 0)).setCell ⟨N, 1, none⟩ (.string ⟨#[]⟩)).setCell ⟨N, 2, none⟩ (.int .i32 0)).setCell ⟨N, 3, none⟩ (.int .i64 0)).setCell ⟨N, 4, none⟩ (.int .i64 0)).setCell ⟨N, 5, none⟩ (.int .i64 0)).setCell ⟨N, 6, none⟩ (.int .i64 0)).setCell ⟨N, 7, none⟩ (.int .i64 0)) R Tx g ws k (some (refV ws k eb el ec))) := hide (hR.far (grown8 w2 N _ _ _ _ _ _ _ _) (by omega) (fun j x hx => by have := hglt j x hx; omega) (fun F x hx e => by subst e; have := blk_types hx (unhide HB2); revert this; decide))
    have HGG : Hz (W.grownBy ((((((((w2.setCell ⟨N, 0, none⟩ (.int .i64 0)).setCell ⟨N, 1, none⟩ (.string ⟨#[]⟩)).setCell ⟨N, 2, none⟩ (.int .i32 0)).setCell ⟨N, 3, none⟩ (.int .i64 0)).setCell ⟨N, 4, none⟩ (.int .i64 0)).setCell ⟨N, 5, none⟩ (.int .i64 0)).setCell ⟨N, 6, none⟩ (.int .i64 0)).setCell ⟨N, 7, none⟩ (.int .i64 0)) (some R)) := hide (by
      have q := grown8 w2 N (.int .i64 0) (.string ⟨#[]⟩) (.int .i32 0) (.int .i64 0) (.int .i64 0) (.int .i64 0) (.int .i64 0) (.int .i64 0)
      exact ⟨q.os.trans (unhide HG).os, q.tape.trans (unhide HG).tape, q.output.trans (unhide HG).output, Nat.le_trans (unhide HG).size q.size, fun i hi hn => (q.block i (by have := (unhide HG).size; omega) (fun e => by injection e; omega)).trans ((unhide HG).block i hi hn)⟩)
    clear hR hg HF HS H hbz hb2 hb8 hN hglt h
    go_wp2_with fail
    rw [unhide HT]
    exact bodyPost_ret (v := wV zeroW) (by simp [results, Tryz.results45, go_sem, r0, r1, r2, r3, r4, r5, r6, r7, wV, zeroW]) rfl ⟨rfl, unhide HFAR, unhide HGG⟩
  | true =>
    rw [hs] at HS
    obtain ⟨x, hx, hbn⟩ : ∃ x, ws[k]? = some x ∧ bad = none := by
      cases bad with
      | some y => simp [seesB] at hs
      | none =>
        cases hx : ws[k]? with
        | none => simp [seesB, hx] at hs
        | some x => exact ⟨x, rfl, rfl⟩
    subst hbn
    have HT := hide (show takeV ws k none eb el ec kind = ⟨x, k + 1, none⟩ by unfold takeV; rw [hs, hx])
    have hk := (List.getElem?_eq_some_iff.1 hx).1
    obtain ⟨a, c, v, hb, ha, hc, hv⟩ := h2.blk
    obtain rfl := ha hk
    have hw := h2.words
    have w0 := hw.first hx
    have w1 := hw k x hx 1 _ rfl
    have w2 := hw k x hx 2 _ rfl
    have w3 := hw k x hx 3 _ rfl
    have w4 := hw k x hx 4 _ rfl
    have w5 := hw k x hx 5 _ rfl
    have w6 := hw k x hx 6 _ rfl
    have w7 := hw k x hx 7 _ rfl
    have c0 := hb.cell 0
    have f0 := hb.frozen 0
    obtain ⟨m, hm⟩ : ∃ m, m = ws.length - (k + 1) := ⟨_, rfl⟩
    have hm1 : ws.length - k = m + 1 := by omega
    rw [hm1] at c0 hc
    have HB := hide hb
    have HM := hide (And.intro hm hm1)
    have hcm : m + 1 ≤ c := hc
    have HK := hide hk
    have HX := hide hx
    have HV := hide hv
    clear hE hs hE2 hgZ hw hx hm hm1 hb ha hc hv hk HF
    go_wp2_with fail
    generalize W.alloc (.cells #[.int .i64 0, .string ⟨#[]⟩, .int .i32 0, .int .i64 0, .int .i64 0, .int .i64 0, .int .i64 0, .int .i64 0] 115) = WZ at *
    refine (unhide HS).mono ?_
    rintro e w1 ⟨rfl, hw1⟩
    rw [hw1]
    clear hw1
    have hbW := unhide HB
    rw [(unhide HM).2] at hbW
    have d0 := (hbW.alloc (.cells #[.int .i64 x.k, .string x.S, .int .i32 x.r, .int .i64 x.n, .int .i64 x.b, .int .i64 x.l, .int .i64 x.c, .int .i64 x.e] 115)).cell 0
    have g0 := (hbW.alloc (.cells #[.int .i64 x.k, .string x.S, .int .i32 x.r, .int .i64 x.n, .int .i64 x.b, .int .i64 x.l, .int .i64 x.c, .int .i64 x.e] 115)).frozen 0
    obtain ⟨N, hN⟩ : ∃ N, N = W.heap.size := ⟨_, rfl⟩
    rw [← hN] at hbz
    rw [← hN]
    have HBZ := hide hbz
    have hRN : R < N := by omega
    have hglt : ∀ (j : Nat) (y : W8), ws[j]? = some y → g < N := fun j y hy => by have := h.glt j y hy; omega
    have hNZ : N < WZ.heap.size := hbz.lt
    have HN := hide hN
    clear hbz h h2 hRW hN HS
    by_cases hc1 : c = 1
    · obtain rfl : m = 0 := by omega
      subst hc1
      have hg3 : WZ.grownBy ((WZ.alloc (.cells #[.int .i64 x.k, .string x.S, .int .i32 x.r, .int .i64 x.n, .int .i64 x.b, .int .i64 x.l, .int .i64 x.c, .int .i64 x.e] 115)).setCell ⟨R, 0, none⟩ (.slice (some ⟨g, 8 * k, none⟩) 0 0)) (some R) := grown_trans' (World.grownBy_alloc _ _ _) (grown_set' _ R 0 _)
      have hbN : Blk ((WZ.alloc (.cells #[.int .i64 x.k, .string x.S, .int .i32 x.r, .int .i64 x.n, .int .i64 x.b, .int .i64 x.l, .int .i64 x.c, .int .i64 x.e] 115)).setCell ⟨R, 0, none⟩ (.slice (some ⟨g, 8 * k, none⟩) 0 0)) N #[.int .i64 0, .string ⟨#[]⟩, .int .i32 0, .int .i64 0, .int .i64 0, .int .i64 0, .int .i64 0, .int .i64 0] 115 := (unhide HBZ).kept hg3 (fun e => by have := Option.some.inj e; omega)
      have hbR : Blk ((WZ.alloc (.cells #[.int .i64 x.k, .string x.S, .int .i32 x.r, .int .i64 x.n, .int .i64 x.b, .int .i64 x.l, .int .i64 x.c, .int .i64 x.e] 115)).setCell ⟨R, 0, none⟩ (.slice (some ⟨g, 8 * k, none⟩) 0 0)) R #[.slice (some ⟨g, 8 * k, none⟩) 0 0, .pointer (some ⟨Tx, 0, none⟩), v] 61 := (hbW.alloc _).set 0 _
      have k0 := hbN.cell 0
      have q0 := hbN.frozen 0
      have k1 := hbN.cell 1
      have q1 := hbN.frozen 1
      have k2 := hbN.cell 2
      have q2 := hbN.frozen 2
      have k3 := hbN.cell 3
      have q3 := hbN.frozen 3
      have k4 := hbN.cell 4
      have q4 := hbN.frozen 4
      have k5 := hbN.cell 5
      have q5 := hbN.frozen 5
      have k6 := hbN.cell 6
      have q6 := hbN.frozen 6
      have k7 := hbN.cell 7
      have q7 := hbN.frozen 7
      have hb8 := box8 hbN (.int .i64 x.k) (.string x.S) (.int .i32 x.r) (.int .i64 x.n) (.int .i64 x.b) (.int .i64 x.l) (.int .i64 x.c) (.int .i64 x.e)
      have r0 := hb8.cell 0
      have r1 := hb8.cell 1
      have r2 := hb8.cell 2
      have r3 := hb8.cell 3
      have r4 := hb8.cell 4
      have r5 := hb8.cell 5
      have r6 := hb8.cell 6
      have r7 := hb8.cell 7
      have hR3 : RdAt ((WZ.alloc (.cells #[.int .i64 x.k, .string x.S, .int .i32 x.r, .int .i64 x.n, .int .i64 x.b, .int .i64 x.l, .int .i64 x.c, .int .i64 x.e] 115)).setCell ⟨R, 0, none⟩ (.slice (some ⟨g, 8 * k, none⟩) 0 0)) R Tx g ws (k + 1) none := (unhide H).upd hg3 (unhide HK) (some ⟨g, 8 * k, none⟩) 0 v (by rw [← (unhide HM).1]; exact hbR) (fun h9 => by have := (unhide HM).1; omega) (by rw [← (unhide HM).1]; omega) (unhide HV)
      have HFAR : Hz (RdAt ((((((((((WZ.alloc (.cells #[.int .i64 x.k, .string x.S, .int .i32 x.r, .int .i64 x.n, .int .i64 x.b, .int .i64 x.l, .int .i64 x.c, .int .i64 x.e] 115)).setCell ⟨R, 0, none⟩ (.slice (some ⟨g, 8 * k, none⟩) 0 0)).setCell ⟨N, 0, none⟩ (.int .i64 x.k)).setCell ⟨N, 1, none⟩ (.string x.S)).setCell ⟨N, 2, none⟩ (.int .i32 x.r)).setCell ⟨N, 3, none⟩ (.int .i64 x.n)).setCell ⟨N, 4, none⟩ (.int .i64 x.b)).setCell ⟨N, 5, none⟩ (.int .i64 x.l)).setCell ⟨N, 6, none⟩ (.int .i64 x.c)).setCell ⟨N, 7, none⟩ (.int .i64 x.e)) R Tx g ws (k + 1) none) := hide (hR3.far (grown8 _ N _ _ _ _ _ _ _ _) (by omega) (fun j y hy => by have := hglt j y hy; omega) (fun F y hy e => by subst e; have := blk_types hy hbN; revert this; decide))
      have HGG : Hz (W.grownBy ((((((((((WZ.alloc (.cells #[.int .i64 x.k, .string x.S, .int .i32 x.r, .int .i64 x.n, .int .i64 x.b, .int .i64 x.l, .int .i64 x.c, .int .i64 x.e] 115)).setCell ⟨R, 0, none⟩ (.slice (some ⟨g, 8 * k, none⟩) 0 0)).setCell ⟨N, 0, none⟩ (.int .i64 x.k)).setCell ⟨N, 1, none⟩ (.string x.S)).setCell ⟨N, 2, none⟩ (.int .i32 x.r)).setCell ⟨N, 3, none⟩ (.int .i64 x.n)).setCell ⟨N, 4, none⟩ (.int .i64 x.b)).setCell ⟨N, 5, none⟩ (.int .i64 x.l)).setCell ⟨N, 6, none⟩ (.int .i64 x.c)).setCell ⟨N, 7, none⟩ (.int .i64 x.e)) (some R)) := hide (by
        have q := grown8 ((WZ.alloc (.cells #[.int .i64 x.k, .string x.S, .int .i32 x.r, .int .i64 x.n, .int .i64 x.b, .int .i64 x.l, .int .i64 x.c, .int .i64 x.e] 115)).setCell ⟨R, 0, none⟩ (.slice (some ⟨g, 8 * k, none⟩) 0 0)) N (.int .i64 x.k) (.string x.S) (.int .i32 x.r) (.int .i64 x.n) (.int .i64 x.b) (.int .i64 x.l) (.int .i64 x.c) (.int .i64 x.e)
        have q0 := grown_trans' (unhide HGZ) hg3
        have hNN := unhide HN
        exact ⟨q.os.trans q0.os, q.tape.trans q0.tape, q.output.trans q0.output, Nat.le_trans q0.size q.size, fun i hi hn => (q.block i (by have := q0.size; omega) (fun e => by injection e; omega)).trans (q0.block i hi hn)⟩)
      clear hg3 hbN hbR hb8 hR3
      go_wp2_with fail
      rw [unhide HT]
      exact bodyPost_ret (v := wV x) (by simp [results, Tryz.results45, go_sem, r0, r1, r2, r3, r4, r5, r6, r7, wV]) rfl ⟨rfl, unhide HFAR, unhide HGG⟩
    · obtain ⟨c2, rfl⟩ : ∃ c2, c = c2 + 2 := ⟨c - 2, by omega⟩
      have hg3 : WZ.grownBy ((WZ.alloc (.cells #[.int .i64 x.k, .string x.S, .int .i32 x.r, .int .i64 x.n, .int .i64 x.b, .int .i64 x.l, .int .i64 x.c, .int .i64 x.e] 115)).setCell ⟨R, 0, none⟩ (.slice (some ⟨g, 8 * k + 8, none⟩) m (c2 + 1))) (some R) := grown_trans' (World.grownBy_alloc _ _ _) (grown_set' _ R 0 _)
      have hbN : Blk ((WZ.alloc (.cells #[.int .i64 x.k, .string x.S, .int .i32 x.r, .int .i64 x.n, .int .i64 x.b, .int .i64 x.l, .int .i64 x.c, .int .i64 x.e] 115)).setCell ⟨R, 0, none⟩ (.slice (some ⟨g, 8 * k + 8, none⟩) m (c2 + 1))) N #[.int .i64 0, .string ⟨#[]⟩, .int .i32 0, .int .i64 0, .int .i64 0, .int .i64 0, .int .i64 0, .int .i64 0] 115 := (unhide HBZ).kept hg3 (fun e => by have := Option.some.inj e; omega)
      have hbR : Blk ((WZ.alloc (.cells #[.int .i64 x.k, .string x.S, .int .i32 x.r, .int .i64 x.n, .int .i64 x.b, .int .i64 x.l, .int .i64 x.c, .int .i64 x.e] 115)).setCell ⟨R, 0, none⟩ (.slice (some ⟨g, 8 * k + 8, none⟩) m (c2 + 1))) R #[.slice (some ⟨g, 8 * k + 8, none⟩) m (c2 + 1), .pointer (some ⟨Tx, 0, none⟩), v] 61 := (hbW.alloc _).set 0 _
      have k0 := hbN.cell 0
      have q0 := hbN.frozen 0
      have k1 := hbN.cell 1
      have q1 := hbN.frozen 1
      have k2 := hbN.cell 2
      have q2 := hbN.frozen 2
      have k3 := hbN.cell 3
      have q3 := hbN.frozen 3
      have k4 := hbN.cell 4
      have q4 := hbN.frozen 4
      have k5 := hbN.cell 5
      have q5 := hbN.frozen 5
      have k6 := hbN.cell 6
      have q6 := hbN.frozen 6
      have k7 := hbN.cell 7
      have q7 := hbN.frozen 7
      have hb8 := box8 hbN (.int .i64 x.k) (.string x.S) (.int .i32 x.r) (.int .i64 x.n) (.int .i64 x.b) (.int .i64 x.l) (.int .i64 x.c) (.int .i64 x.e)
      have r0 := hb8.cell 0
      have r1 := hb8.cell 1
      have r2 := hb8.cell 2
      have r3 := hb8.cell 3
      have r4 := hb8.cell 4
      have r5 := hb8.cell 5
      have r6 := hb8.cell 6
      have r7 := hb8.cell 7
      have hR3 : RdAt ((WZ.alloc (.cells #[.int .i64 x.k, .string x.S, .int .i32 x.r, .int .i64 x.n, .int .i64 x.b, .int .i64 x.l, .int .i64 x.c, .int .i64 x.e] 115)).setCell ⟨R, 0, none⟩ (.slice (some ⟨g, 8 * k + 8, none⟩) m (c2 + 1))) R Tx g ws (k + 1) none := (unhide H).upd hg3 (unhide HK) (some ⟨g, 8 * k + 8, none⟩) (c2 + 1) v (by rw [← (unhide HM).1]; exact hbR) (fun _ => by congr 2) (by rw [← (unhide HM).1]; omega) (unhide HV)
      have HFAR : Hz (RdAt ((((((((((WZ.alloc (.cells #[.int .i64 x.k, .string x.S, .int .i32 x.r, .int .i64 x.n, .int .i64 x.b, .int .i64 x.l, .int .i64 x.c, .int .i64 x.e] 115)).setCell ⟨R, 0, none⟩ (.slice (some ⟨g, 8 * k + 8, none⟩) m (c2 + 1))).setCell ⟨N, 0, none⟩ (.int .i64 x.k)).setCell ⟨N, 1, none⟩ (.string x.S)).setCell ⟨N, 2, none⟩ (.int .i32 x.r)).setCell ⟨N, 3, none⟩ (.int .i64 x.n)).setCell ⟨N, 4, none⟩ (.int .i64 x.b)).setCell ⟨N, 5, none⟩ (.int .i64 x.l)).setCell ⟨N, 6, none⟩ (.int .i64 x.c)).setCell ⟨N, 7, none⟩ (.int .i64 x.e)) R Tx g ws (k + 1) none) := hide (hR3.far (grown8 _ N _ _ _ _ _ _ _ _) (by omega) (fun j y hy => by have := hglt j y hy; omega) (fun F y hy e => by subst e; have := blk_types hy hbN; revert this; decide))
      have HGG : Hz (W.grownBy ((((((((((WZ.alloc (.cells #[.int .i64 x.k, .string x.S, .int .i32 x.r, .int .i64 x.n, .int .i64 x.b, .int .i64 x.l, .int .i64 x.c, .int .i64 x.e] 115)).setCell ⟨R, 0, none⟩ (.slice (some ⟨g, 8 * k + 8, none⟩) m (c2 + 1))).setCell ⟨N, 0, none⟩ (.int .i64 x.k)).setCell ⟨N, 1, none⟩ (.string x.S)).setCell ⟨N, 2, none⟩ (.int .i32 x.r)).setCell ⟨N, 3, none⟩ (.int .i64 x.n)).setCell ⟨N, 4, none⟩ (.int .i64 x.b)).setCell ⟨N, 5, none⟩ (.int .i64 x.l)).setCell ⟨N, 6, none⟩ (.int .i64 x.c)).setCell ⟨N, 7, none⟩ (.int .i64 x.e)) (some R)) := hide (by
        have q := grown8 ((WZ.alloc (.cells #[.int .i64 x.k, .string x.S, .int .i32 x.r, .int .i64 x.n, .int .i64 x.b, .int .i64 x.l, .int .i64 x.c, .int .i64 x.e] 115)).setCell ⟨R, 0, none⟩ (.slice (some ⟨g, 8 * k + 8, none⟩) m (c2 + 1))) N (.int .i64 x.k) (.string x.S) (.int .i32 x.r) (.int .i64 x.n) (.int .i64 x.b) (.int .i64 x.l) (.int .i64 x.c) (.int .i64 x.e)
        have q0 := grown_trans' (unhide HGZ) hg3
        have hNN := unhide HN
        exact ⟨q.os.trans q0.os, q.tape.trans q0.tape, q.output.trans q0.output, Nat.le_trans q0.size q.size, fun i hi hn => (q.block i (by have := q0.size; omega) (fun e => by injection e; omega)).trans (q0.block i hi hn)⟩)
      clear hg3 hbN hbR hb8 hR3
      go_wp2_with fail
      rw [unhide HT]
      exact bodyPost_ret (v := wV x) (by simp [results, Tryz.results45, go_sem, r0, r1, r2, r3, r4, r5, r6, r7, wV]) rfl ⟨rfl, unhide HFAR, unhide HGG⟩
end Go.Proofs.YtjgfmobmilgapaaGreatDoor
