/- Texts of this claim, one behind the other. -/
import Derived.Test.YtbefahknbdjnpaaGreatDoorM19
import Derived.Test.YtbefahknbdjnpaaGreatDoorM27
import Derived.Test.YtbefahknbdjnpaaGreatDoorM21
/- A list of words, told by what they say: the rules that are read out of it. Plain mathematics. -/
namespace Go.Proofs.YtbefahknbdjnpaaGreatDoor
open Go.RowKit Go.Shelf
set_option linter.unusedVariables false
/-- What a word says, without its place. -/
structure Tq where
  k : Int
  S : ByteArray
  r : Int
  n : Int
def stripW (x : W8) : Tq := ⟨x.k, x.S, x.r, x.n⟩
def Has (ws : List W8) : Nat → List Tq → Prop
  | _, [] => True
  | k, v :: l => (∃ x, ws[k]? = some x ∧ stripW x = v) ∧ Has ws (k + 1) l
theorem has_app {ws : List W8} : ∀ {a b : List Tq} {k : Nat}, Has ws k (a ++ b) ↔ Has ws k a ∧ Has ws (k + a.length) b
  | [], b, k => by
    constructor
    · intro h; exact ⟨trivial, h⟩
    · intro h; exact h.2
  | v :: a, b, k => by
    show ((∃ x, ws[k]? = some x ∧ stripW x = v) ∧ Has ws (k + 1) (a ++ b)) ↔ ((∃ x, ws[k]? = some x ∧ stripW x = v) ∧ Has ws (k + 1) a) ∧ Has ws (k + (a.length + 1)) b
    rw [has_app (a := a), show k + (a.length + 1) = k + 1 + a.length by omega, and_assoc]
theorem has_le {ws : List W8} : ∀ {l : List Tq} {k : Nat}, Has ws k l → k ≤ ws.length → k + l.length ≤ ws.length
  | [], k, _, hk => hk
  | v :: l, k, h, hk => by
    obtain ⟨⟨x, hx, _⟩, h2⟩ := h
    have := (List.getElem?_eq_some_iff.1 hx).1
    have := has_le h2 (by omega)
    rw [List.length_cons]
    omega
theorem take_tok {ws : List W8} {k : Nat} {x : W8} {kind : Int} (eb el ec : Int) (hx : ws[k]? = some x) (hk : x.k = kind) : takeV ws k none eb el ec kind = ⟨x, k + 1, none⟩ := by
  have : seesB ws k none kind = true := by unfold seesB; rw [hx]; simpa using hk
  unfold takeV
  rw [this, hx]
theorem sees_yes {ws : List W8} {k : Nat} {x : W8} {kind : Int} (hx : ws[k]? = some x) (hk : x.k = kind) : seesB ws k none kind = true := by unfold seesB; rw [hx]; simpa using hk
theorem sees_no {ws : List W8} {k : Nat} {x : W8} {kind : Int} (hx : ws[k]? = some x) (hk : x.k ≠ kind) : ¬ seesB ws k none kind = true := by unfold seesB; rw [hx]; simpa using hk
def tqR (r : Int) : Tq := ⟨3, ByteArray.empty, r, 0⟩
def tqN (S : ByteArray) : Tq := ⟨1, S, 0, 0⟩
def tqC (n : Int) : Tq := ⟨2, ByteArray.empty, 0, n⟩
def tqS (k : Int) : Tq := ⟨k, ByteArray.empty, 0, 0⟩
theorem strip_k {x : W8} {v : Tq} (h : stripW x = v) : x.k = v.k := by rw [← h]; rfl
theorem strip_S {x : W8} {v : Tq} (h : stripW x = v) : x.S = v.S := by rw [← h]; rfl
theorem strip_r {x : W8} {v : Tq} (h : stripW x = v) : x.r = v.r := by rw [← h]; rfl
theorem strip_n {x : W8} {v : Tq} (h : stripW x = v) : x.n = v.n := by rw [← h]; rfl
/-- The words of a span. -/
def spanQ (s : Int × Int) : List Tq := if s.2 = s.1 then [tqR s.1] else [tqR s.1, tqS 9, tqR s.2]
theorem spanQ_head (s : Int × Int) : ∃ r, spanQ s = tqR s.1 :: r := by unfold spanQ; split <;> exact ⟨_, rfl⟩
theorem spanQ_pos (s : Int × Int) : 1 ≤ (spanQ s).length := by obtain ⟨r, h⟩ := spanQ_head s; rw [h, List.length_cons]; omega
theorem span_tok {ws : List W8} {k : Nat} {s : Int × Int} {v : Tq} (eb el ec : Int) (h : Has ws k (spanQ s ++ [v])) (hv : v.k ≠ 9) : spanV ws k none eb el ec = ⟨s.1, s.2, k + (spanQ s).length, none⟩ := by
  obtain ⟨lo, hi⟩ := s
  unfold spanQ at h ⊢
  unfold spanV
  by_cases e : hi = lo
  · rw [if_pos e] at h ⊢
    obtain ⟨⟨x, hx, ex⟩, ⟨y, hy, ey⟩, _⟩ := h
    rw [take_tok (kind := 3) eb el ec hx (strip_k ex)]
    dsimp only
    rw [if_neg (sees_no (kind := 9) hy (by rw [strip_k ey]; exact hv)), strip_r ex, e]
    rfl
  · rw [if_neg e] at h ⊢
    obtain ⟨⟨x, hx, ex⟩, ⟨y, hy, ey⟩, ⟨z, hz, ez⟩, _⟩ := h
    rw [take_tok (kind := 3) eb el ec hx (strip_k ex)]
    dsimp only
    rw [if_pos (sees_yes (kind := 9) hy (strip_k ey)), take_tok (kind := 9) eb el ec hy (strip_k ey)]
    dsimp only
    rw [take_tok (kind := 3) eb el ec hz (strip_k ez), strip_r ex]
    dsimp only
    rw [strip_r ez]
    rfl
def spanI : Nat → List (Int × Int) → List Nat
  | _, [] => []
  | k, s :: l => k :: spanI (k + (spanQ s).length) l
theorem spanI_len : ∀ (l : List (Int × Int)) (k : Nat), (spanI k l).length = l.length
  | [], k => rfl
  | s :: l, k => by show _ + 1 = _ + 1; rw [spanI_len l]
theorem spansQ_head (l : List (Int × Int)) : ∃ v r, l.flatMap spanQ ++ [tqS 5] = v :: r ∧ v.k ≠ 9 := by
  cases l with
  | nil => exact ⟨tqS 5, [], rfl, by decide⟩
  | cons s l =>
    obtain ⟨r, h⟩ := spanQ_head s
    exact ⟨tqR s.1, _, by rw [List.flatMap_cons, h]; rfl, by show (3 : Int) ≠ 9; decide⟩
theorem spans_tok {ws : List W8} (eb el ec : Int) : ∀ (l : List (Int × Int)) (k f : Nat), Has ws k (l.flatMap spanQ ++ [tqS 5]) → l.length < f → spansGo ws eb el ec f k none = ⟨l, (spanI k l).map (atV ws), k + (l.flatMap spanQ).length, none⟩
  | [], k, 0, h, hf => by omega
  | [], k, f + 1, h, hf => by
    obtain ⟨⟨x, hx, ex⟩, _⟩ := h
    unfold spansGo
    rw [if_neg (sees_no (kind := 3) hx (by rw [strip_k ex]; show (5 : Int) ≠ 3; decide))]
    rfl
  | s :: l, k, 0, h, hf => by omega
  | s :: l, k, f + 1, h, hf => by
    have hl : (s :: l).length = l.length + 1 := rfl
    rw [List.flatMap_cons, List.append_assoc] at h
    obtain ⟨v, r, hv, hk⟩ := spansQ_head l
    have h2 := has_app.1 h
    have h3 : Has ws k (spanQ s ++ [v]) := has_app.2 ⟨h2.1, by rw [hv] at h2; exact ⟨h2.2.1, trivial⟩⟩
    have hs : seesB ws k none 3 = true := by
      obtain ⟨r, e⟩ := spanQ_head s
      rw [e] at h2
      obtain ⟨x, hx, ex⟩ := h2.1.1
      exact sees_yes hx (strip_k ex)
    unfold spansGo
    rw [if_pos hs, span_tok eb el ec h3 hk]
    dsimp only
    rw [spans_tok eb el ec l _ f h2.2 (by omega), List.flatMap_cons, List.length_append, Nat.add_assoc]
    rfl
/-- Spans between braces. -/
def spansQ (l : List (Int × Int)) : List Tq := tqS 4 :: (l.flatMap spanQ ++ [tqS 5])
theorem spansQ_len (l : List (Int × Int)) : (spansQ l).length = (l.flatMap spanQ).length + 2 := by show (l.flatMap spanQ ++ [tqS 5]).length + 1 = _; rw [List.length_append]; rfl
theorem flat_le : ∀ (l : List (Int × Int)), l.length ≤ (l.flatMap spanQ).length
  | [] => Nat.le_refl _
  | s :: l => by have := flat_le l; have := spanQ_pos s; rw [List.flatMap_cons, List.length_append, List.length_cons]; omega
theorem spansV_tok {ws : List W8} {k : Nat} {l : List (Int × Int)} (eb el ec : Int) (h : Has ws k (spansQ l)) (hk : k ≤ ws.length) : spansV ws k none eb el ec = ⟨l, (spanI (k + 1) l).map (atV ws), k + (spansQ l).length, none⟩ := by
  have hle := has_le h hk
  have hl := spansQ_len l
  have hf := flat_le l
  obtain ⟨⟨x, hx, ex⟩, h2⟩ := h
  have h3 := has_app.1 h2
  obtain ⟨y, hy, ey⟩ := h3.2.1
  unfold spansV
  rw [take_tok (kind := 4) eb el ec hx (strip_k ex)]
  dsimp only
  rw [spans_tok eb el ec l (k + 1) _ h2 (by omega)]
  dsimp only
  rw [take_tok (kind := 5) eb el ec hy (strip_k ey)]
  dsimp only
  rw [hl]
  congr 1
  omega
theorem markV_tok {ws : List W8} {k : Nat} {a c : Int} (eb el ec : Int) (h : Has ws k [tqR a, tqC c, tqS 6]) : markV ws k none eb el ec = ⟨a, c, k + 3, none⟩ := by
  obtain ⟨⟨x, hx, ex⟩, ⟨y, hy, ey⟩, ⟨z, hz, ez⟩, _⟩ := h
  unfold markV
  rw [take_tok (kind := 3) eb el ec hx (strip_k ex)]
  dsimp only
  rw [take_tok (kind := 2) eb el ec hy (strip_k ey)]
  dsimp only
  rw [take_tok (kind := 6) eb el ec hz (strip_k ez)]
  dsimp only
  rw [strip_r ex, strip_n ey]
  rfl
theorem pairV_tok {ws : List W8} {k : Nat} {a b c : Int} (eb el ec : Int) (h : Has ws k [tqR a, tqS 7, tqR b, tqS 8, tqR c, tqS 6]) : pairV ws k none eb el ec = ⟨a, b, c, k + 6, none⟩ := by
  obtain ⟨⟨x, hx, ex⟩, ⟨y, hy, ey⟩, ⟨z, hz, ez⟩, ⟨p, hp, ep⟩, ⟨q, hq, eq⟩, ⟨r, hr, er⟩, _⟩ := h
  unfold pairV
  rw [take_tok (kind := 3) eb el ec hx (strip_k ex)]
  dsimp only
  rw [take_tok (kind := 7) eb el ec hy (strip_k ey)]
  dsimp only
  rw [take_tok (kind := 3) eb el ec hz (strip_k ez)]
  dsimp only
  rw [take_tok (kind := 8) eb el ec hp (strip_k ep)]
  dsimp only
  rw [take_tok (kind := 3) eb el ec hq (strip_k eq)]
  dsimp only
  rw [take_tok (kind := 6) eb el ec hr (strip_k er)]
  dsimp only
  rw [strip_r ex, strip_r ez, strip_r eq]
  rfl
theorem mapGo_tok {ws : List W8} (eb el ec : Int) : ∀ (l : List Int) (k f : Nat), Has ws k (l.map tqR ++ [tqS 6]) → l.length < f → mapGo ws eb el ec f k none = ⟨l, k + l.length, none⟩
  | [], k, 0, h, hf => by omega
  | [], k, f + 1, h, hf => by
    obtain ⟨⟨x, hx, ex⟩, _⟩ := h
    unfold mapGo
    rw [if_neg (sees_no (kind := 3) hx (by rw [strip_k ex]; show (6 : Int) ≠ 3; decide))]
    rfl
  | r :: l, k, 0, h, hf => by omega
  | r :: l, k, f + 1, h, hf => by
    obtain ⟨⟨x, hx, ex⟩, h2⟩ := h
    have hl : (r :: l).length = l.length + 1 := rfl
    unfold mapGo
    rw [if_pos (sees_yes (kind := 3) hx (strip_k ex)), take_tok (kind := 3) eb el ec hx (strip_k ex)]
    dsimp only
    rw [mapGo_tok eb el ec l (k + 1) f h2 (by omega), strip_r ex, hl, show k + (l.length + 1) = k + 1 + l.length by omega]
    rfl
def mapQ (a : Int) (l : List Int) : List Tq := tqR a :: tqS 7 :: (l.map tqR ++ [tqS 6])
theorem mapQ_len (a : Int) (l : List Int) : (mapQ a l).length = l.length + 3 := by show (l.map tqR ++ [tqS 6]).length + 1 + 1 = _; rw [List.length_append, List.length_map]; rfl
theorem mapV_tok {ws : List W8} {k : Nat} {a r : Int} {l : List Int} (eb el ec : Int) (h : Has ws k (mapQ a (r :: l))) (hk : k ≤ ws.length) : mapV ws k none eb el ec = ⟨a, r :: l, k + (mapQ a (r :: l)).length, none⟩ := by
  have hle := has_le h hk
  have hl := mapQ_len a (r :: l)
  rw [List.length_cons] at hl
  obtain ⟨⟨x, hx, ex⟩, ⟨y, hy, ey⟩, ⟨z, hz, ez⟩, h2⟩ := h
  have h3 := has_app.1 h2
  rw [List.length_map] at h3
  obtain ⟨p, hp, ep⟩ := h3.2.1
  unfold mapV
  rw [take_tok (kind := 3) eb el ec hx (strip_k ex)]
  dsimp only
  rw [take_tok (kind := 7) eb el ec hy (strip_k ey)]
  dsimp only
  rw [take_tok (kind := 3) eb el ec hz (strip_k ez)]
  dsimp only
  rw [mapGo_tok eb el ec l _ _ h2 (by omega)]
  dsimp only
  rw [take_tok (kind := 6) eb el ec hp (strip_k ep)]
  dsimp only
  rw [strip_r ex, strip_r ez, hl]
  show Mp.mk a (r :: l) _ none = _
  congr 1
  omega
/-- The lines of a table, each a rule. -/
def scQ (x : ByteArray × List (Int × Int)) : List Tq := tqN ⟨#[115, 99, 114, 105, 112, 116]⟩ :: tqN x.1 :: spansQ x.2
def maQ (x : Int × Int) : List Tq := [tqN ⟨#[109, 97, 114, 107]⟩, tqR x.1, tqC x.2, tqS 6]
def prQ (x : Int × Int × Int) : List Tq := [tqN ⟨#[112, 97, 105, 114]⟩, tqR x.1, tqS 7, tqR x.2.1, tqS 8, tqR x.2.2, tqS 6]
def foQ (x : Int × List Int) : List Tq := tqN ⟨#[102, 111, 108, 100]⟩ :: mapQ x.1 x.2
def lkQ (x : Int × List Int) : List Tq := tqN ⟨#[108, 111, 111, 107]⟩ :: mapQ x.1 x.2
def coQ (l : List (Int × Int)) : List Tq := tqN ⟨#[99, 111, 109, 109, 111, 110]⟩ :: spansQ l
def drQ (l : List (Int × Int)) : List Tq := tqN ⟨#[100, 114, 111, 112]⟩ :: spansQ l
def alQ (l : List (Int × Int)) : List Tq := tqN ⟨#[97, 108, 108, 111, 119]⟩ :: spansQ l
theorem rule_go {ws : List W8} {eb el ec : Int} {k : Nat} {x : W8} {S : ByteArray} {T : TV} {n : Nat} (ex : stripW x = tqN S) (hn : ruleNo S = n) : ruleV ws eb el ec k x T = ruleAt ws eb el ec k x T n := by
  unfold ruleV
  rw [strip_S ex]
  show ruleAt ws eb el ec k x T (ruleNo S) = _
  rw [hn]
theorem at_word {ws : List W8} {k : Nat} {x : W8} (hx : ws[k]? = some x) : atV ws k = (x.b, x.l, x.c) := by unfold atV; rw [hx]
theorem sc_step {ws : List W8} {eb el ec : Int} (k : Nat) (x : ByteArray × List (Int × Int)) (T : TV) (h : Has ws k (scQ x)) : ∃ y, ws[k]? = some y ∧ ruleV ws eb el ec k y T = ⟨k + (scQ x).length, none, { T with sc := T.sc ++ [x], r1 := T.r1 ++ [atV ws k] }⟩ := by
  obtain ⟨⟨y, hy, ey⟩, ⟨z, hz, ez⟩, h2⟩ := h
  refine ⟨y, hy, ?_⟩
  have hle : k + 2 ≤ ws.length := (List.getElem?_eq_some_iff.1 hz).1
  have hV : scriptV ws (k + 1) none eb el ec = ⟨x.1, ⟨x.2, (spanI (k + 2 + 1) x.2).map (atV ws), k + 2 + (spansQ x.2).length, none⟩⟩ := by
    unfold scriptV
    rw [take_tok (kind := 1) eb el ec hz (strip_k ez)]
    dsimp only
    rw [spansV_tok eb el ec h2 hle, strip_S ez]
    rfl
  rw [rule_go (n := 1) ey (by decide +kernel), at_word hy]
  simp only [ruleAt]
  rw [hV]
  dsimp only
  congr 1
  show _ = k + ((spansQ x.2).length + 1 + 1)
  omega
theorem co_step {ws : List W8} {eb el ec : Int} (k : Nat) (l : List (Int × Int)) (T : TV) (h : Has ws k (coQ l)) : ∃ y, ws[k]? = some y ∧ ruleV ws eb el ec k y T = ⟨k + (coQ l).length, none, { T with co := T.co ++ l, r2 := T.r2 ++ (spanI (k + 2) l).map (atV ws) }⟩ := by
  obtain ⟨⟨y, hy, ey⟩, h2⟩ := h
  refine ⟨y, hy, ?_⟩
  have hle : k + 1 ≤ ws.length := (List.getElem?_eq_some_iff.1 hy).1
  rw [rule_go (n := 2) ey (by decide +kernel)]
  simp only [ruleAt]
  rw [spansV_tok eb el ec h2 hle]
  dsimp only
  congr 1
  show _ = k + ((spansQ l).length + 1)
  omega
theorem dr_step {ws : List W8} {eb el ec : Int} (k : Nat) (l : List (Int × Int)) (T : TV) (h : Has ws k (drQ l)) : ∃ y, ws[k]? = some y ∧ ruleV ws eb el ec k y T = ⟨k + (drQ l).length, none, { T with dr := T.dr ++ l, r7 := T.r7 ++ (spanI (k + 2) l).map (atV ws) }⟩ := by
  obtain ⟨⟨y, hy, ey⟩, h2⟩ := h
  refine ⟨y, hy, ?_⟩
  have hle : k + 1 ≤ ws.length := (List.getElem?_eq_some_iff.1 hy).1
  rw [rule_go (n := 7) ey (by decide +kernel)]
  simp only [ruleAt]
  rw [spansV_tok eb el ec h2 hle]
  dsimp only
  congr 1
  show _ = k + ((spansQ l).length + 1)
  omega
theorem al_step {ws : List W8} {eb el ec : Int} (k : Nat) (l : List (Int × Int)) (T : TV) (h : Has ws k (alQ l)) : ∃ y, ws[k]? = some y ∧ ruleV ws eb el ec k y T = ⟨k + (alQ l).length, none, { T with al := T.al ++ l, r8 := T.r8 ++ (spanI (k + 2) l).map (atV ws) }⟩ := by
  obtain ⟨⟨y, hy, ey⟩, h2⟩ := h
  refine ⟨y, hy, ?_⟩
  have hle : k + 1 ≤ ws.length := (List.getElem?_eq_some_iff.1 hy).1
  rw [rule_go (n := 8) ey (by decide +kernel)]
  simp only [ruleAt]
  rw [spansV_tok eb el ec h2 hle]
  dsimp only
  congr 1
  show _ = k + ((spansQ l).length + 1)
  omega
theorem ma_step {ws : List W8} {eb el ec : Int} (k : Nat) (x : Int × Int) (T : TV) (h : Has ws k (maQ x)) : ∃ y, ws[k]? = some y ∧ ruleV ws eb el ec k y T = ⟨k + (maQ x).length, none, { T with ma := T.ma ++ [x], r3 := T.r3 ++ [atV ws k] }⟩ := by
  obtain ⟨⟨y, hy, ey⟩, h2⟩ := h
  refine ⟨y, hy, ?_⟩
  rw [rule_go (n := 3) ey (by decide +kernel), at_word hy]
  simp only [ruleAt]
  rw [markV_tok eb el ec h2]
  rfl
theorem pr_step {ws : List W8} {eb el ec : Int} (k : Nat) (x : Int × Int × Int) (T : TV) (h : Has ws k (prQ x)) : ∃ y, ws[k]? = some y ∧ ruleV ws eb el ec k y T = ⟨k + (prQ x).length, none, { T with pr := T.pr ++ [x], r4 := T.r4 ++ [atV ws k] }⟩ := by
  obtain ⟨⟨y, hy, ey⟩, h2⟩ := h
  refine ⟨y, hy, ?_⟩
  rw [rule_go (n := 4) ey (by decide +kernel), at_word hy]
  simp only [ruleAt]
  rw [pairV_tok eb el ec h2]
  rfl
theorem fo_step {ws : List W8} {eb el ec : Int} (k : Nat) (x : Int × List Int) (hx : x.2 ≠ []) (T : TV) (h : Has ws k (foQ x)) : ∃ y, ws[k]? = some y ∧ ruleV ws eb el ec k y T = ⟨k + (foQ x).length, none, { T with fo := T.fo ++ [(x.1, runesBytes x.2)], r5 := T.r5 ++ [atV ws k] }⟩ := by
  obtain ⟨a, l⟩ := x
  obtain ⟨⟨y, hy, ey⟩, h2⟩ := h
  refine ⟨y, hy, ?_⟩
  have hle : k + 1 ≤ ws.length := (List.getElem?_eq_some_iff.1 hy).1
  rw [rule_go (n := 5) ey (by decide +kernel), at_word hy]
  simp only [ruleAt]
  cases l with
  | nil => exact absurd rfl hx
  | cons r l =>
    rw [mapV_tok eb el ec h2 hle]
    dsimp only
    congr 1
    show _ = k + ((mapQ a (r :: l)).length + 1)
    omega
theorem lk_step {ws : List W8} {eb el ec : Int} (k : Nat) (x : Int × List Int) (hx : x.2 ≠ []) (T : TV) (h : Has ws k (lkQ x)) : ∃ y, ws[k]? = some y ∧ ruleV ws eb el ec k y T = ⟨k + (lkQ x).length, none, { T with lk := T.lk ++ [(x.1, runesBytes x.2)], r6 := T.r6 ++ [atV ws k] }⟩ := by
  obtain ⟨a, l⟩ := x
  obtain ⟨⟨y, hy, ey⟩, h2⟩ := h
  refine ⟨y, hy, ?_⟩
  have hle : k + 1 ≤ ws.length := (List.getElem?_eq_some_iff.1 hy).1
  rw [rule_go (n := 6) ey (by decide +kernel), at_word hy]
  simp only [ruleAt]
  cases l with
  | nil => exact absurd rfl hx
  | cons r l =>
    rw [mapV_tok eb el ec h2 hle]
    dsimp only
    congr 1
    show _ = k + ((mapQ a (r :: l)).length + 1)
    omega
/-- A row of rules of one kind, one behind the other. -/
def updL {α : Type} (tk : α → List Tq) (upd : TV → Nat → α → TV) : TV → Nat → List α → TV
  | T, _, [] => T
  | T, k, x :: l => updL tk upd (upd T k x) (k + (tk x).length) l
def idxL {α : Type} (tk : α → List Tq) : Nat → List α → List Nat
  | _, [] => []
  | k, x :: l => k :: idxL tk (k + (tk x).length) l
theorem rules_fold {α : Type} {ws : List W8} {eb el ec : Int} (tk : α → List Tq) (upd : TV → Nat → α → TV) (P : α → Prop) (hs : ∀ k x T, P x → Has ws k (tk x) → ∃ y, ws[k]? = some y ∧ ruleV ws eb el ec k y T = ⟨k + (tk x).length, none, upd T k x⟩) : ∀ (l : List α) (f k : Nat) (T : TV), (∀ x ∈ l, P x) → Has ws k (l.flatMap tk) → rulesGo ws eb el ec (f + l.length) k none T = rulesGo ws eb el ec f (k + (l.flatMap tk).length) none (updL tk upd T k l)
  | [], f, k, T, _, h => rfl
  | x :: l, f, k, T, hP, h => by
    rw [List.flatMap_cons] at h
    have h2 := has_app.1 h
    obtain ⟨y, hy, e⟩ := hs k x T (hP x (List.mem_cons_self ..)) h2.1
    have ih := rules_fold tk upd P hs l f (k + (tk x).length) (upd T k x) (fun z hz => hP z (List.mem_cons_of_mem _ hz)) h2.2
    have hl : f + (x :: l).length = f + l.length + 1 := rfl
    rw [hl]
    conv => lhs; unfold rulesGo
    rw [hy]
    dsimp only
    rw [e]
    dsimp only
    rw [ih, List.flatMap_cons, List.length_append, Nat.add_assoc]
    rfl
theorem upd_sc (ws : List W8) : ∀ (l : List (ByteArray × List (Int × Int))) (k : Nat) (T : TV), updL scQ (fun T k x => { T with sc := T.sc ++ [x], r1 := T.r1 ++ [atV ws k] }) T k l = { T with sc := T.sc ++ l, r1 := T.r1 ++ (idxL scQ k l).map (atV ws) }
  | [], k, T => by show T = { T with sc := T.sc ++ [], r1 := T.r1 ++ [] }; rw [List.append_nil, List.append_nil]
  | x :: l, k, T => by
    show updL scQ _ _ _ l = _
    rw [upd_sc ws l]
    simp only [idxL, List.map_cons, List.append_assoc, List.singleton_append]
theorem upd_ma (ws : List W8) : ∀ (l : List (Int × Int)) (k : Nat) (T : TV), updL maQ (fun T k x => { T with ma := T.ma ++ [x], r3 := T.r3 ++ [atV ws k] }) T k l = { T with ma := T.ma ++ l, r3 := T.r3 ++ (idxL maQ k l).map (atV ws) }
  | [], k, T => by show T = { T with ma := T.ma ++ [], r3 := T.r3 ++ [] }; rw [List.append_nil, List.append_nil]
  | x :: l, k, T => by
    show updL maQ _ _ _ l = _
    rw [upd_ma ws l]
    simp only [idxL, List.map_cons, List.append_assoc, List.singleton_append]
theorem upd_pr (ws : List W8) : ∀ (l : List (Int × Int × Int)) (k : Nat) (T : TV), updL prQ (fun T k x => { T with pr := T.pr ++ [x], r4 := T.r4 ++ [atV ws k] }) T k l = { T with pr := T.pr ++ l, r4 := T.r4 ++ (idxL prQ k l).map (atV ws) }
  | [], k, T => by show T = { T with pr := T.pr ++ [], r4 := T.r4 ++ [] }; rw [List.append_nil, List.append_nil]
  | x :: l, k, T => by
    show updL prQ _ _ _ l = _
    rw [upd_pr ws l]
    simp only [idxL, List.map_cons, List.append_assoc, List.singleton_append]
theorem upd_fo (ws : List W8) : ∀ (l : List (Int × List Int)) (k : Nat) (T : TV), updL foQ (fun T k x => { T with fo := T.fo ++ [(x.1, runesBytes x.2)], r5 := T.r5 ++ [atV ws k] }) T k l = { T with fo := T.fo ++ l.map (fun x => (x.1, runesBytes x.2)), r5 := T.r5 ++ (idxL foQ k l).map (atV ws) }
  | [], k, T => by show T = { T with fo := T.fo ++ [], r5 := T.r5 ++ [] }; rw [List.append_nil, List.append_nil]
  | x :: l, k, T => by
    show updL foQ _ _ _ l = _
    rw [upd_fo ws l]
    simp only [idxL, List.map_cons, List.append_assoc, List.singleton_append]
theorem upd_lk (ws : List W8) : ∀ (l : List (Int × List Int)) (k : Nat) (T : TV), updL lkQ (fun T k x => { T with lk := T.lk ++ [(x.1, runesBytes x.2)], r6 := T.r6 ++ [atV ws k] }) T k l = { T with lk := T.lk ++ l.map (fun x => (x.1, runesBytes x.2)), r6 := T.r6 ++ (idxL lkQ k l).map (atV ws) }
  | [], k, T => by show T = { T with lk := T.lk ++ [], r6 := T.r6 ++ [] }; rw [List.append_nil, List.append_nil]
  | x :: l, k, T => by
    show updL lkQ _ _ _ l = _
    rw [upd_lk ws l]
    simp only [idxL, List.map_cons, List.append_assoc, List.singleton_append]
end Go.Proofs.YtbefahknbdjnpaaGreatDoor
/- What the printer writes, as lines of words. Plain mathematics. -/
namespace Go.Proofs.YtbefahknbdjnpaaGreatDoor
open Go.RowKit Go.Shelf
set_option linter.unusedVariables false
/-- What the printer has, beside the whole text and whether all of it could be written. -/
def PnI (p : Pn) (L : List UInt8) (ok bg : Bool) : Prop := p.wr = !ok ∧ (ok = true → (L.length ≤ 262144 → p.t = L ∧ p.bg = bg) ∧ (262144 < L.length → 262144 < p.t.length))
def spB (bg : Bool) : List UInt8 := if bg then [32] else []
theorem pni_put {p : Pn} {L : List UInt8} {ok bg : Bool} (w : ByteArray) (h : PnI p L ok bg) : PnI (put1 p w) (L ++ (spB bg ++ w.data.toList)) ok true := by
  obtain ⟨h1, h2⟩ := h
  cases ok with
  | false =>
    have he : endedB p = true := by unfold endedB; rw [h1]; rfl
    rw [put1_ended he]
    exact ⟨h1, fun h => by cases h⟩
  | true =>
    have h3 := h2 rfl
    have hw : p.wr = false := h1
    have hl : (L ++ (spB bg ++ w.data.toList)).length = L.length + (spB bg ++ w.data.toList).length := List.length_append
    rcases Nat.lt_or_ge 262144 L.length with hL | hL
    · have he : endedB p = true := by unfold endedB; rw [hw, decide_eq_true (h3.2 hL)]; rfl
      rw [put1_ended he]
      exact ⟨h1, fun _ => ⟨fun q => by omega, fun _ => h3.2 hL⟩⟩
    · obtain ⟨e1, e2⟩ := h3.1 hL
      have he : ¬ endedB p = true := by unfold endedB; rw [hw, e1, decide_eq_false (by omega)]; decide
      have e : put1 p w = ⟨L ++ (spB bg ++ w.data.toList), true, false⟩ := by
        unfold put1
        rw [if_neg he, hw, e1, e2]
        unfold spB
        cases bg <;> simp
      rw [e]
      exact ⟨rfl, fun _ => ⟨fun _ => ⟨rfl, rfl⟩, fun q => q⟩⟩
theorem pni_line {p : Pn} {L : List UInt8} {ok bg : Bool} (h : PnI p L ok bg) : PnI (lineV p) (L ++ [10]) ok false := by
  obtain ⟨h1, h2⟩ := h
  cases ok with
  | false => exact ⟨h1, fun h => by cases h⟩
  | true =>
    have h3 := h2 rfl
    have hw : p.wr = false := h1
    have hl : (L ++ [(10 : UInt8)]).length = L.length + 1 := List.length_append
    refine ⟨h1, fun _ => ?_⟩
    unfold lineV
    dsimp only
    rcases Nat.lt_or_ge 262144 L.length with hL | hL
    · have he : endedB p = true := by unfold endedB; rw [hw, decide_eq_true (h3.2 hL)]; rfl
      rw [if_pos he]
      exact ⟨fun q => by omega, fun _ => h3.2 hL⟩
    · obtain ⟨e1, e2⟩ := h3.1 hL
      have he : ¬ endedB p = true := by unfold endedB; rw [hw, e1, decide_eq_false (by omega)]; decide
      rw [if_neg he, e1]
      exact ⟨fun _ => ⟨rfl, rfl⟩, fun q => q⟩
theorem pni_need {p : Pn} {L : List UInt8} {ok bg : Bool} (b : Bool) (h : PnI p L ok bg) : PnI (needV p b) L (ok && b) bg := by
  obtain ⟨h1, h2⟩ := h
  unfold needV
  refine ⟨?_, fun q => ?_⟩
  · show (p.wr || !b) = _
    rw [h1]
    cases ok <;> cases b <;> rfl
  · have hk : ok = true := by cases ok <;> first | rfl | cases q
    exact h2 hk
/-- Words, a space ahead of each but the line's first. -/
def wdL : Bool → List ByteArray → List UInt8
  | _, [] => []
  | bg, w :: ws => spB bg ++ w.data.toList ++ wdL true ws
theorem wdL_app : ∀ (a b : List ByteArray) (bg : Bool), wdL bg (a ++ b) = wdL bg a ++ wdL (bg || !a.isEmpty) b
  | [], b, bg => by show wdL bg b = [] ++ wdL (bg || false) b; rw [Bool.or_false]; rfl
  | w :: a, b, bg => by
    show spB bg ++ w.data.toList ++ wdL true (a ++ b) = spB bg ++ w.data.toList ++ wdL true a ++ wdL (bg || true) b
    rw [wdL_app a b true, Bool.or_true, List.append_assoc, List.append_assoc, List.append_assoc]
    rfl
theorem pni_puts : ∀ (ws : List ByteArray) {p : Pn} {L : List UInt8} {ok bg : Bool}, PnI p L ok bg → PnI (putV p ws) (L ++ wdL bg ws) ok (bg || !ws.isEmpty)
  | [], p, L, ok, bg, h => by
    show PnI p (L ++ []) ok (bg || false)
    rw [List.append_nil, Bool.or_false]
    exact h
  | w :: ws, p, L, ok, bg, h => by
    have := pni_puts ws (pni_put w h)
    show PnI (putV (put1 p w) ws) (L ++ (spB bg ++ w.data.toList ++ wdL true ws)) ok (bg || true)
    rw [Bool.or_true]
    rw [List.append_assoc L, Bool.true_or] at this
    exact this
/-- A rune's word, and whether it can be written. -/
def okR (r : Int) : Bool := (textV r).2 == 0
def rtB (r : Int) : ByteArray := (textV r).1
theorem pni_rune (r : Int) {p : Pn} {L : List UInt8} {ok bg : Bool} (h : PnI p L ok bg) : PnI (runeV p r) (L ++ wdL bg [rtB r]) (ok && okR r) true := by
  have := pni_puts [rtB r] (pni_need (okR r) h)
  rw [show (bg || !([rtB r] : List ByteArray).isEmpty) = true by cases bg <;> rfl] at this
  exact this
def spanW (s : Int × Int) : List ByteArray := if s.2 = s.1 then [rtB s.1] else [rtB s.1, ⟨#[46, 46]⟩, rtB s.2]
def spanK (s : Int × Int) : Bool := okR s.1 && okR s.2
theorem pni_span (s : Int × Int) {p : Pn} {L : List UInt8} {ok : Bool} (h : PnI p L ok true) : PnI (spanP p s) (L ++ wdL true (spanW s)) (ok && spanK s) true := by
  unfold spanP spanW spanK
  by_cases e : s.2 = s.1
  · rw [if_pos e, if_pos e, e, Bool.and_self]
    exact pni_rune s.1 h
  · rw [if_neg e, if_neg e]
    have h1 := pni_rune s.2 (pni_puts [⟨#[46, 46]⟩] (pni_rune s.1 h))
    rw [List.append_assoc, List.append_assoc, Bool.and_assoc, Bool.true_or] at h1
    have e2 : wdL true [rtB s.1, ⟨#[46, 46]⟩, rtB s.2] = wdL true [rtB s.1] ++ (wdL true [⟨#[46, 46]⟩] ++ wdL true [rtB s.2]) := by
      show wdL true ([rtB s.1] ++ ([⟨#[46, 46]⟩] ++ [rtB s.2])) = _
      rw [wdL_app, wdL_app, Bool.true_or, Bool.true_or]
    rw [e2]
    exact h1
theorem pni_spans : ∀ (l : List (Int × Int)) {p : Pn} {L : List UInt8} {ok : Bool}, PnI p L ok true → PnI (l.foldl spanP p) (L ++ wdL true (l.flatMap spanW)) (ok && l.all spanK) true
  | [], p, L, ok, h => by
    show PnI p (L ++ []) (ok && true) true
    rw [List.append_nil, Bool.and_true]
    exact h
  | s :: l, p, L, ok, h => by
    have := pni_spans l (pni_span s h)
    rw [List.append_assoc, Bool.and_assoc] at this
    rw [List.flatMap_cons, wdL_app, List.all_cons, Bool.true_or]
    exact this
/-- A line of words. -/
def lineB (ws : List ByteArray) : List UInt8 := wdL false ws ++ [10]
def spansW (l : List (Int × Int)) : List ByteArray := ⟨#[123]⟩ :: (l.flatMap spanW ++ [⟨#[125]⟩])
theorem pni_braces (l : List (Int × Int)) {p : Pn} {L : List UInt8} {ok : Bool} (h : PnI p L ok true) : PnI (spansP p l) (L ++ (wdL true (spansW l) ++ [10])) (ok && l.all spanK) false := by
  unfold spansP
  have h1 := pni_puts [⟨#[123]⟩] h
  rw [Bool.true_or] at h1
  have h2 := pni_line (pni_puts [⟨#[125]⟩] (pni_spans l h1))
  have e : wdL true (spansW l) = wdL true [⟨#[123]⟩] ++ (wdL true (l.flatMap spanW) ++ wdL true [⟨#[125]⟩]) := by
    show wdL true ([⟨#[123]⟩] ++ (l.flatMap spanW ++ [⟨#[125]⟩])) = _
    rw [wdL_app, wdL_app, Bool.true_or, Bool.true_or]
  rw [e]
  simp only [List.append_assoc] at h2 ⊢
  exact h2
def scW (x : ByteArray × List (Int × Int)) : List ByteArray := ⟨#[115, 99, 114, 105, 112, 116]⟩ :: x.1 :: spansW x.2
def scK (x : ByteArray × List (Int × Int)) : Bool := legalB x.1 && x.2.all spanK
theorem pni_sc (x : ByteArray × List (Int × Int)) {p : Pn} {L : List UInt8} {ok : Bool} (h : PnI p L ok false) : PnI (scriptP p x) (L ++ lineB (scW x)) (ok && scK x) false := by
  unfold scriptP scK
  have h1 := pni_puts [⟨#[115, 99, 114, 105, 112, 116]⟩, x.1] (pni_need (legalB x.1) h)
  have h2 := pni_braces x.2 h1
  have e : lineB (scW x) = wdL false [⟨#[115, 99, 114, 105, 112, 116]⟩, x.1] ++ (wdL true (spansW x.2) ++ [10]) := by
    show wdL false ([⟨#[115, 99, 114, 105, 112, 116]⟩, x.1] ++ spansW x.2) ++ [10] = _
    rw [wdL_app, List.append_assoc]
    rfl
  rw [e]
  rw [List.append_assoc, Bool.and_assoc] at h2
  exact h2
def liW (word : ByteArray) (l : List (Int × Int)) : List ByteArray := word :: spansW l
theorem pni_li (word : ByteArray) (l : List (Int × Int)) {p : Pn} {L : List UInt8} {ok : Bool} (h : PnI p L ok false) : PnI (listP p word l) (L ++ (if l.length = 0 then [] else lineB (liW word l))) (ok && l.all spanK) false := by
  unfold listP
  by_cases e : l.length = 0
  · rw [if_pos e, if_pos e, List.append_nil]
    obtain rfl := List.length_eq_zero_iff.1 e
    show PnI p L (ok && true) false
    rw [Bool.and_true]
    exact h
  · rw [if_neg e, if_neg e]
    have h2 := pni_braces l (pni_puts [word] h)
    have e : lineB (liW word l) = wdL false [word] ++ (wdL true (spansW l) ++ [10]) := by
      show wdL false ([word] ++ spansW l) ++ [10] = _
      rw [wdL_app, List.append_assoc]
      rfl
    rw [e]
    rw [List.append_assoc] at h2
    exact h2
def maW (x : Int × Int) : List ByteArray := [⟨#[109, 97, 114, 107]⟩, rtB x.1, itoaB x.2, ⟨#[59]⟩]
def maK (x : Int × Int) : Bool := clsB x.2 && okR x.1
theorem pni_ma (x : Int × Int) {p : Pn} {L : List UInt8} {ok : Bool} (h : PnI p L ok false) : PnI (markP p x) (L ++ lineB (maW x)) (ok && maK x) false := by
  unfold markP maK
  have h1 := pni_line (pni_puts [itoaB x.2, ⟨#[59]⟩] (pni_rune x.1 (pni_puts [⟨#[109, 97, 114, 107]⟩] (pni_need (clsB x.2) h))))
  have e : lineB (maW x) = wdL false [⟨#[109, 97, 114, 107]⟩] ++ (wdL true [rtB x.1] ++ (wdL true [itoaB x.2, ⟨#[59]⟩] ++ [10])) := by
    show wdL false ([⟨#[109, 97, 114, 107]⟩] ++ ([rtB x.1] ++ [itoaB x.2, ⟨#[59]⟩])) ++ [10] = _
    rw [wdL_app, wdL_app]
    simp only [List.append_assoc]
    rfl
  rw [e]
  simp only [List.append_assoc, Bool.and_assoc] at h1
  exact h1
def prW (x : Int × Int × Int) : List ByteArray := [⟨#[112, 97, 105, 114]⟩, rtB x.1, ⟨#[61]⟩, rtB x.2.1, ⟨#[43]⟩, rtB x.2.2, ⟨#[59]⟩]
def prK (x : Int × Int × Int) : Bool := okR x.1 && (okR x.2.1 && okR x.2.2)
theorem pni_pr (x : Int × Int × Int) {p : Pn} {L : List UInt8} {ok : Bool} (h : PnI p L ok false) : PnI (pairP p x) (L ++ lineB (prW x)) (ok && prK x) false := by
  unfold pairP prK
  have h1 := pni_line (pni_puts [⟨#[59]⟩] (pni_rune x.2.2 (pni_puts [⟨#[43]⟩] (pni_rune x.2.1 (pni_puts [⟨#[61]⟩] (pni_rune x.1 (pni_puts [⟨#[112, 97, 105, 114]⟩] h)))))))
  have e : lineB (prW x) = wdL false [⟨#[112, 97, 105, 114]⟩] ++ (wdL true [rtB x.1] ++ (wdL true [⟨#[61]⟩] ++ (wdL true [rtB x.2.1] ++ (wdL true [⟨#[43]⟩] ++ (wdL true [rtB x.2.2] ++ (wdL true [⟨#[59]⟩] ++ [10])))))) := by
    show wdL false ([⟨#[112, 97, 105, 114]⟩] ++ ([rtB x.1] ++ ([⟨#[61]⟩] ++ ([rtB x.2.1] ++ ([⟨#[43]⟩] ++ ([rtB x.2.2] ++ [⟨#[59]⟩])))))) ++ [10] = _
    simp only [wdL_app, List.append_assoc]
    rfl
  rw [e]
  simp only [List.append_assoc, Bool.and_assoc] at h1
  exact h1
theorem pni_runes : ∀ (l : List Int) {p : Pn} {L : List UInt8} {ok : Bool}, PnI p L ok true → PnI (l.foldl runeV p) (L ++ wdL true (l.map rtB)) (ok && l.all okR) true
  | [], p, L, ok, h => by
    show PnI p (L ++ []) (ok && true) true
    rw [List.append_nil, Bool.and_true]
    exact h
  | r :: l, p, L, ok, h => by
    have := pni_runes l (pni_rune r h)
    rw [List.append_assoc, Bool.and_assoc] at this
    rw [List.all_cons, show (r :: l).map rtB = [rtB r] ++ l.map rtB from rfl, wdL_app, Bool.true_or]
    exact this
def mpW (word : ByteArray) (x : Int × ByteArray) : List ByteArray := word :: rtB x.1 :: ⟨#[61]⟩ :: ((runesL x.2).map rtB ++ [⟨#[59]⟩])
def mpK (x : Int × ByteArray) : Bool := okTo x.2 && (okR x.1 && (runesL x.2).all okR)
theorem pni_mp (word : ByteArray) (x : Int × ByteArray) {p : Pn} {L : List UInt8} {ok : Bool} (h : PnI p L ok false) : PnI (mapP word p x) (L ++ lineB (mpW word x)) (ok && mpK x) false := by
  unfold mapP mpK
  have h1 := pni_line (pni_puts [⟨#[59]⟩] (pni_runes (runesL x.2) (pni_puts [⟨#[61]⟩] (pni_rune x.1 (pni_puts [word] (pni_need (okTo x.2) h))))))
  have e : lineB (mpW word x) = wdL false [word] ++ (wdL true [rtB x.1] ++ (wdL true [⟨#[61]⟩] ++ (wdL true ((runesL x.2).map rtB) ++ (wdL true [⟨#[59]⟩] ++ [10])))) := by
    show wdL false ([word] ++ ([rtB x.1] ++ ([⟨#[61]⟩] ++ ((runesL x.2).map rtB ++ [⟨#[59]⟩])))) ++ [10] = _
    simp only [wdL_app, List.append_assoc]
    rfl
  rw [e]
  simp only [List.append_assoc, Bool.and_assoc] at h1
  exact h1
theorem pni_fold {α : Type} (P : Pn → α → Pn) (W : α → List ByteArray) (K : α → Bool) (hs : ∀ x {p : Pn} {L : List UInt8} {ok : Bool}, PnI p L ok false → PnI (P p x) (L ++ lineB (W x)) (ok && K x) false) : ∀ (l : List α) {p : Pn} {L : List UInt8} {ok : Bool}, PnI p L ok false → PnI (l.foldl P p) (L ++ (l.map W).flatMap lineB) (ok && l.all K) false
  | [], p, L, ok, h => by
    show PnI p (L ++ []) (ok && true) false
    rw [List.append_nil, Bool.and_true]
    exact h
  | x :: l, p, L, ok, h => by
    have := pni_fold P W K hs l (hs x h)
    rw [List.append_assoc, Bool.and_assoc] at this
    exact this
/-- The lines of a table. -/
def liL (word : ByteArray) (l : List (Int × Int)) : List (List ByteArray) := if l.length = 0 then [] else [liW word l]
theorem liL_flat (word : ByteArray) (l : List (Int × Int)) : (liL word l).flatMap lineB = if l.length = 0 then [] else lineB (liW word l) := by
  unfold liL
  split
  · rfl
  · show lineB (liW word l) ++ [] = _
    rw [List.append_nil]
def linesT (T : TV) : List (List ByteArray) :=
  T.sc.map scW ++ (liL ⟨#[99, 111, 109, 109, 111, 110]⟩ T.co ++ (T.ma.map maW ++ (T.pr.map prW ++ (T.fo.map (mpW ⟨#[102, 111, 108, 100]⟩) ++ (T.lk.map (mpW ⟨#[108, 111, 111, 107]⟩) ++ (liL ⟨#[100, 114, 111, 112]⟩ T.dr ++ liL ⟨#[97, 108, 108, 111, 119]⟩ T.al))))))
def okT (T : TV) : Bool := T.sc.all scK && (T.co.all spanK && (T.ma.all maK && (T.pr.all prK && (T.fo.all mpK && (T.lk.all mpK && (T.dr.all spanK && T.al.all spanK))))))
theorem print_inv (T : TV) : PnI (printP T) ((linesT T).flatMap lineB) (okT T) false := by
  have h0 : PnI ⟨[], false, false⟩ [] true false := ⟨rfl, fun _ => ⟨fun _ => ⟨rfl, rfl⟩, fun q => q⟩⟩
  have h := pni_li ⟨#[97, 108, 108, 111, 119]⟩ T.al (pni_li ⟨#[100, 114, 111, 112]⟩ T.dr (pni_fold (mapP ⟨#[108, 111, 111, 107]⟩) (mpW ⟨#[108, 111, 111, 107]⟩) mpK (fun x => pni_mp _ x) T.lk (pni_fold (mapP ⟨#[102, 111, 108, 100]⟩) (mpW ⟨#[102, 111, 108, 100]⟩) mpK (fun x => pni_mp _ x) T.fo (pni_fold pairP prW prK (fun x => pni_pr x) T.pr (pni_fold markP maW maK (fun x => pni_ma x) T.ma (pni_li ⟨#[99, 111, 109, 109, 111, 110]⟩ T.co (pni_fold scriptP scW scK (fun x => pni_sc x) T.sc h0)))))))
  rw [← liL_flat, ← liL_flat, ← liL_flat] at h
  unfold printP linesT okT
  simp only [List.flatMap_append]
  simp only [List.append_assoc, Bool.and_assoc, List.nil_append, Bool.true_and] at h
  exact h
theorem print_ok {T : TV} (hk : okT T = true) (hl : ((linesT T).flatMap lineB).length ≤ 262144) : printV T = (⟨((linesT T).flatMap lineB).toArray⟩, 0) := by
  obtain ⟨h1, h2⟩ := print_inv T
  obtain ⟨h3, _⟩ := (h2 hk).1 hl
  unfold printV
  rw [h1, hk, if_neg (by decide), h3, if_neg (by omega)]
theorem print_long {T : TV} (hk : okT T = true) (hl : 262144 < ((linesT T).flatMap lineB).length) : printV T = (⟨#[]⟩, 3) := by
  obtain ⟨h1, h2⟩ := print_inv T
  have h3 := (h2 hk).2 hl
  unfold printV
  rw [h1, hk, if_neg (by decide), if_pos h3]
theorem print_bad {T : TV} (hk : okT T = false) : printV T = (⟨#[]⟩, 5) := by
  obtain ⟨h1, h2⟩ := print_inv T
  unfold printV
  rw [h1, hk, if_pos (by decide)]
end Go.Proofs.YtbefahknbdjnpaaGreatDoor
