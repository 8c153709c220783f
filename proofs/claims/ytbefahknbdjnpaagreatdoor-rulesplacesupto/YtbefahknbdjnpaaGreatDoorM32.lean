/- Texts of this claim, one behind the other. -/
import Derived.Test.YtbefahknbdjnpaaGreatDoorM31
import Derived.Test.YtbefahknbdjnpaaGreatDoorM22
import Derived.Test.YtbefahknbdjnpaaGreatDoorM24
/- Where the rows of a printed table stand. Plain mathematics. -/
namespace Go.Proofs.YtbefahknbdjnpaaGreatDoor
open Go.RowKit Go.Shelf
set_option linter.unusedVariables false
theorem idxL_ge {α : Type} (tk : α → List Tq) (hp : ∀ x, 1 ≤ (tk x).length) : ∀ (l : List α) (k r i : Nat), (idxL tk k l)[r]? = some i → k ≤ i ∧ i + 1 ≤ k + (l.flatMap tk).length
  | [], k, r, i, h => by cases h
  | x :: l, k, 0, i, h => by
    obtain rfl := Option.some.inj h
    have := hp x
    rw [List.flatMap_cons, List.length_append]
    omega
  | x :: l, k, r + 1, i, h => by
    have := idxL_ge tk hp l (k + (tk x).length) r i h
    rw [List.flatMap_cons, List.length_append]
    omega
theorem idxL_lt {α : Type} (tk : α → List Tq) (hp : ∀ x, 1 ≤ (tk x).length) : ∀ (l : List α) (k r s i j : Nat), r < s → (idxL tk k l)[r]? = some i → (idxL tk k l)[s]? = some j → i < j
  | [], k, r, s, i, j, hrs, h, _ => by cases h
  | x :: l, k, 0, 0, i, j, hrs, h, _ => by omega
  | x :: l, k, 0, s + 1, i, j, hrs, h, h2 => by
    obtain rfl := Option.some.inj h
    have := idxL_ge tk hp l (k + (tk x).length) s j h2
    have := hp x
    omega
  | x :: l, k, r + 1, 0, i, j, hrs, h, _ => by omega
  | x :: l, k, r + 1, s + 1, i, j, hrs, h, h2 => idxL_lt tk hp l (k + (tk x).length) r s i j (by omega) h h2
theorem idxL_word {α : Type} (tk : α → List Tq) (W : α → List ByteArray) (hW : ∀ x, (W x).length = (tk x).length) (hp : ∀ x, 1 ≤ (tk x).length) : ∀ (l : List α) (k r i : Nat), (idxL tk k l)[r]? = some i → ∃ x j, l[r]? = some x ∧ i = k + j ∧ (l.flatMap W)[j]? = (W x)[0]?
  | [], k, r, i, h => by cases h
  | x :: l, k, 0, i, h => by
    obtain rfl := Option.some.inj h
    refine ⟨x, 0, rfl, rfl, ?_⟩
    rw [List.flatMap_cons, List.getElem?_append_left (by rw [hW]; exact hp x)]
  | x :: l, k, r + 1, i, h => by
    obtain ⟨y, j, h1, h2, h3⟩ := idxL_word tk W hW hp l (k + (tk x).length) r i h
    refine ⟨y, (tk x).length + j, h1, by omega, ?_⟩
    rw [List.flatMap_cons, List.getElem?_append_right (by rw [hW]; omega), hW, Nat.add_sub_cancel_left, h3]
theorem spanI_idx : ∀ (l : List (Int × Int)) (k : Nat), spanI k l = idxL spanQ k l
  | [], k => rfl
  | s :: l, k => by show k :: spanI _ l = k :: idxL spanQ _ l; rw [spanI_idx l]
theorem spanW_len (s : Int × Int) : (spanW s).length = (spanQ s).length := by unfold spanW spanQ; split <;> rfl
theorem flatW_len : ∀ (l : List (Int × Int)), (l.flatMap spanW).length = (l.flatMap spanQ).length
  | [] => rfl
  | s :: l => by rw [List.flatMap_cons, List.flatMap_cons, List.length_append, List.length_append, spanW_len, flatW_len l]
theorem spansW_len (l : List (Int × Int)) : (spansW l).length = (spansQ l).length := by
  show (l.flatMap spanW ++ [(⟨#[125]⟩ : ByteArray)]).length + 1 = (l.flatMap spanQ ++ [tqS 5]).length + 1
  rw [List.length_append, List.length_append, flatW_len]
  rfl
theorem scW_len (x : ByteArray × List (Int × Int)) : (scW x).length = (scQ x).length := by show (spansW x.2).length + 1 + 1 = (spansQ x.2).length + 1 + 1; rw [spansW_len]
theorem mpW_len (w : ByteArray) (x : Int × ByteArray) : (mpW w x).length = (tqN w :: mapQ (runesX x).1 (runesX x).2).length := by
  show ((runesL x.2).map rtB ++ [(⟨#[59]⟩ : ByteArray)]).length + 1 + 1 + 1 = ((runesL x.2).map tqR ++ [tqS 6]).length + 1 + 1 + 1
  rw [List.length_append, List.length_append, List.length_map, List.length_map]
  rfl
theorem flat_len {α : Type} (f : α → List ByteArray) (g : α → List Tq) (h : ∀ x, (f x).length = (g x).length) : ∀ (l : List α), (l.flatMap f).length = (l.flatMap g).length
  | [] => rfl
  | x :: l => by rw [List.flatMap_cons, List.flatMap_cons, List.length_append, List.length_append, h x, flat_len f g h l]
theorem liL_len (w : ByteArray) (g : List (Int × Int) → List Tq) (hg : ∀ l, g l = tqN w :: spansQ l) (l : List (Int × Int)) : (liL w l).flatten.length = ((liS l).flatMap g).length := by
  unfold liL liS
  split
  · rfl
  · show ([liW w l].flatten).length = ([l].flatMap g).length
    rw [List.flatten_cons, List.flatten_nil, List.append_nil, List.flatMap_cons, List.flatMap_nil, List.append_nil, hg]
    show (spansW l).length + 1 = (spansQ l).length + 1
    rw [spansW_len]
/-- How many words stand ahead of a list's end. -/
def kTL (T : TV) : Nat → Nat
  | 0 => 0 | 1 => kT1 T | 2 => kT2 T | 3 => kT3 T | 4 => kT4 T | 5 => kT5 T | 6 => kT6 T | 7 => kT7 T | _ => kT8 T
/-- The words at which the rows of a list stand. -/
def idxs (T : TV) : Nat → List Nat
  | 1 => idxL scQ 0 T.sc | 2 => spanI (kT1 T + 2) T.co | 3 => idxL maQ (kT2 T) T.ma | 4 => idxL prQ (kT3 T) T.pr | 5 => idxL foQ (kT4 T) (T.fo.map runesX) | 6 => idxL lkQ (kT5 T) (T.lk.map runesX) | 7 => spanI (kT6 T + 2) T.dr | 8 => spanI (kT7 T + 2) T.al | _ => []
def kwOf : Nat → ByteArray
  | 1 => ⟨#[115, 99, 114, 105, 112, 116]⟩ | 3 => ⟨#[109, 97, 114, 107]⟩ | 4 => ⟨#[112, 97, 105, 114]⟩ | 5 => ⟨#[102, 111, 108, 100]⟩ | 6 => ⟨#[108, 111, 111, 107]⟩ | _ => ByteArray.empty
def spOf (T : TV) : Nat → List (Int × Int)
  | 2 => T.co | 7 => T.dr | 8 => T.al | _ => []
def lenOf (T : TV) : Nat → Nat
  | 1 => T.sc.length | 2 => T.co.length | 3 => T.ma.length | 4 => T.pr.length | 5 => T.fo.length | 6 => T.lk.length | 7 => T.dr.length | 8 => T.al.length | _ => 0
/-- The word that stands where a row is told to stand. -/
def wordOf (T : TV) (l r : Nat) : ByteArray := if kwOf l = ByteArray.empty then rtB ((spOf T l).getD r (0, 0)).1 else kwOf l
theorem idxs_len (T : TV) (l : Nat) : (idxs T l).length = lenOf T l := by
  unfold idxs lenOf
  split <;> first | rfl | (rw [idxL_len]; done) | (rw [spanI_len]; done) | (rw [idxL_len, List.length_map])
theorem rows_idxs (ws : List W8) (T : TV) (l : Nat) : rowsOf (backT ws T) l = (idxs T l).map (atV ws) := by
  rcases l with _ | _ | _ | _ | _ | _ | _ | _ | _ | l <;> rfl
theorem kTL_mono (T : TV) (l : Nat) : kTL T l ≤ kTL T (l + 1) := by
  unfold kTL
  rcases l with _ | _ | _ | _ | _ | _ | _ | _ | l
  · exact Nat.zero_le _
  · exact Nat.le_add_right _ _
  · exact Nat.le_add_right _ _
  · exact Nat.le_add_right _ _
  · exact Nat.le_add_right _ _
  · exact Nat.le_add_right _ _
  · exact Nat.le_add_right _ _
  · exact Nat.le_add_right _ _
  · exact Nat.le_refl _
theorem li_end (g : List (Int × Int) → List Tq) (w : ByteArray) (hg : ∀ l, g l = tqN w :: spansQ l) {l : List (Int × Int)} {k r i : Nat} (h : (spanI (k + 2) l)[r]? = some i) : k + 2 ≤ i ∧ i + 1 ≤ k + ((liS l).flatMap g).length := by
  rw [spanI_idx] at h
  have h1 := idxL_ge spanQ spanQ_pos l (k + 2) r i h
  have hne : l.length ≠ 0 := fun e => by rw [List.length_eq_zero_iff.1 e] at h; cases h
  have h2 : ((liS l).flatMap g).length = (l.flatMap spanQ).length + 3 := by
    unfold liS
    rw [if_neg hne, List.flatMap_cons, List.flatMap_nil, List.append_nil, hg, List.length_cons, spansQ_len]
  omega
theorem idxs_in {T : TV} {l r i : Nat} (h : (idxs T (l + 1))[r]? = some i) : kTL T l ≤ i ∧ i < kTL T (l + 1) := by
  have p1 : ∀ x, 1 ≤ (scQ x).length := fun x => by unfold scQ; rw [List.length_cons]; omega
  have p3 : ∀ x, 1 ≤ (maQ x).length := fun x => by unfold maQ; rw [List.length_cons]; omega
  have p4 : ∀ x, 1 ≤ (prQ x).length := fun x => by unfold prQ; rw [List.length_cons]; omega
  have p5 : ∀ x, 1 ≤ (foQ x).length := fun x => by unfold foQ; rw [List.length_cons]; omega
  have p6 : ∀ x, 1 ≤ (lkQ x).length := fun x => by unfold lkQ; rw [List.length_cons]; omega
  rcases l with _ | _ | _ | _ | _ | _ | _ | _ | l
  · have := idxL_ge scQ p1 T.sc 0 r i h; exact ⟨this.1, this.2⟩
  · have := li_end coQ _ (fun _ => rfl) h; exact ⟨by show kT1 T ≤ i; omega, this.2⟩
  · have := idxL_ge maQ p3 T.ma (kT2 T) r i h; exact ⟨this.1, this.2⟩
  · have := idxL_ge prQ p4 T.pr (kT3 T) r i h; exact ⟨this.1, this.2⟩
  · have := idxL_ge foQ p5 (T.fo.map runesX) (kT4 T) r i h; exact ⟨this.1, this.2⟩
  · have := idxL_ge lkQ p6 (T.lk.map runesX) (kT5 T) r i h; exact ⟨this.1, this.2⟩
  · have := li_end drQ _ (fun _ => rfl) h; exact ⟨by show kT6 T ≤ i; omega, this.2⟩
  · have := li_end alQ _ (fun _ => rfl) h; exact ⟨by show kT7 T ≤ i; omega, this.2⟩
  · cases h
theorem idxs_lt {T : TV} {l r s i j : Nat} (hrs : r < s) (h : (idxs T l)[r]? = some i) (h2 : (idxs T l)[s]? = some j) : i < j := by
  have p1 : ∀ x, 1 ≤ (scQ x).length := fun x => by unfold scQ; rw [List.length_cons]; omega
  have p3 : ∀ x, 1 ≤ (maQ x).length := fun x => by unfold maQ; rw [List.length_cons]; omega
  have p4 : ∀ x, 1 ≤ (prQ x).length := fun x => by unfold prQ; rw [List.length_cons]; omega
  have p5 : ∀ x, 1 ≤ (foQ x).length := fun x => by unfold foQ; rw [List.length_cons]; omega
  have p6 : ∀ x, 1 ≤ (lkQ x).length := fun x => by unfold lkQ; rw [List.length_cons]; omega
  have sp : ∀ (l : List (Int × Int)) (k : Nat), (spanI k l)[r]? = some i → (spanI k l)[s]? = some j → i < j := fun l k a b => by rw [spanI_idx] at a b; exact idxL_lt spanQ spanQ_pos l k r s i j hrs a b
  rcases l with _ | _ | _ | _ | _ | _ | _ | _ | _ | l
  · cases h
  · exact idxL_lt scQ p1 _ _ r s i j hrs h h2
  · exact sp _ _ h h2
  · exact idxL_lt maQ p3 _ _ r s i j hrs h h2
  · exact idxL_lt prQ p4 _ _ r s i j hrs h h2
  · exact idxL_lt foQ p5 _ _ r s i j hrs h h2
  · exact idxL_lt lkQ p6 _ _ r s i j hrs h h2
  · exact sp _ _ h h2
  · exact sp _ _ h h2
  · cases h
theorem idx_map {α β : Type} (f : α → β) (tk : β → List Tq) : ∀ (l : List α) (k : Nat), idxL tk k (l.map f) = idxL (fun x => tk (f x)) k l
  | [], k => rfl
  | x :: l, k => by show k :: idxL tk _ (l.map f) = k :: idxL _ _ l; rw [idx_map f tk l]
theorem mid_at {α : Type} {A B C : List α} {n j : Nat} {x : α} (hn : A.length = n) (h : B[j]? = some x) : (A ++ (B ++ C))[n + j]? = some x := by
  rw [List.getElem?_append_right (by omega), hn, Nat.add_sub_cancel_left, List.getElem?_append_left (List.getElem?_eq_some_iff.1 h).1]
  exact h
theorem li_word (w : ByteArray) (g : List (Int × Int) → List Tq) {l : List (Int × Int)} {k r i : Nat} (h : (spanI (k + 2) l)[r]? = some i) : ∃ j, i = k + j ∧ (liL w l).flatten[j]? = some (rtB (l.getD r (0, 0)).1) := by
  rw [spanI_idx] at h
  have hne : l.length ≠ 0 := fun e => by rw [List.length_eq_zero_iff.1 e] at h; cases h
  obtain ⟨x, j, h1, h2, h3⟩ := idxL_word spanQ spanW spanW_len spanQ_pos l (k + 2) r i h
  have h4 : (spanW x)[0]? = some (rtB x.1) := by unfold spanW; split <;> rfl
  refine ⟨2 + j, by omega, ?_⟩
  have h5 : l.getD r (0, 0) = x := by rw [List.getD_eq_getElem?_getD, h1]; rfl
  rw [h5]
  unfold liL
  rw [if_neg hne, List.flatten_cons, List.flatten_nil, List.append_nil]
  show (w :: ⟨#[123]⟩ :: (l.flatMap spanW ++ [⟨#[125]⟩]))[2 + j]? = _
  rw [show 2 + j = j + 1 + 1 by omega, List.getElem?_cons_succ, List.getElem?_cons_succ]
  rw [List.getElem?_append_left (by have := (List.getElem?_eq_some_iff.1 (h3.trans h4)).1; exact this)]
  exact h3.trans h4
theorem idxs_word {T : TV} {l r i : Nat} (h : (idxs T l)[r]? = some i) : (linesT T).flatten[i]? = some (wordOf T l r) := by
  have p1 : ∀ x, 1 ≤ (scQ x).length := fun x => by unfold scQ; rw [List.length_cons]; omega
  have p3 : ∀ x, 1 ≤ (maQ x).length := fun x => by unfold maQ; rw [List.length_cons]; omega
  have p4 : ∀ x, 1 ≤ (prQ x).length := fun x => by unfold prQ; rw [List.length_cons]; omega
  have p5 : ∀ x, 1 ≤ (foQ x).length := fun x => by unfold foQ; rw [List.length_cons]; omega
  have p6 : ∀ x, 1 ≤ (lkQ x).length := fun x => by unfold lkQ; rw [List.length_cons]; omega
  have n1 : (T.sc.flatMap scW).length = kT1 T := by unfold kT1; rw [Nat.zero_add]; exact flat_len scW scQ scW_len T.sc
  have n2 : (T.sc.flatMap scW ++ (liL ⟨#[99, 111, 109, 109, 111, 110]⟩ T.co).flatten).length = kT2 T := by rw [List.length_append, n1, liL_len _ coQ (fun _ => rfl)]; rfl
  have n3 : (T.sc.flatMap scW ++ (liL ⟨#[99, 111, 109, 109, 111, 110]⟩ T.co).flatten ++ T.ma.flatMap maW).length = kT3 T := by rw [List.length_append, n2, flat_len maW maQ (fun _ => rfl)]; rfl
  have n4 : (T.sc.flatMap scW ++ (liL ⟨#[99, 111, 109, 109, 111, 110]⟩ T.co).flatten ++ T.ma.flatMap maW ++ T.pr.flatMap prW).length = kT4 T := by rw [List.length_append, n3, flat_len prW prQ (fun _ => rfl)]; rfl
  have n5 : (T.sc.flatMap scW ++ (liL ⟨#[99, 111, 109, 109, 111, 110]⟩ T.co).flatten ++ T.ma.flatMap maW ++ T.pr.flatMap prW ++ T.fo.flatMap (mpW ⟨#[102, 111, 108, 100]⟩)).length = kT5 T := by
    rw [List.length_append, n4, flat_len (mpW ⟨#[102, 111, 108, 100]⟩) (fun x => foQ (runesX x)) (fun x => mpW_len _ x)]
    unfold kT5
    rw [List.flatMap_map]
  have n6 : (T.sc.flatMap scW ++ (liL ⟨#[99, 111, 109, 109, 111, 110]⟩ T.co).flatten ++ T.ma.flatMap maW ++ T.pr.flatMap prW ++ T.fo.flatMap (mpW ⟨#[102, 111, 108, 100]⟩) ++ T.lk.flatMap (mpW ⟨#[108, 111, 111, 107]⟩)).length = kT6 T := by
    rw [List.length_append, n5, flat_len (mpW ⟨#[108, 111, 111, 107]⟩) (fun x => lkQ (runesX x)) (fun x => mpW_len _ x)]
    unfold kT6
    rw [List.flatMap_map]
  have n7 : (T.sc.flatMap scW ++ (liL ⟨#[99, 111, 109, 109, 111, 110]⟩ T.co).flatten ++ T.ma.flatMap maW ++ T.pr.flatMap prW ++ T.fo.flatMap (mpW ⟨#[102, 111, 108, 100]⟩) ++ T.lk.flatMap (mpW ⟨#[108, 111, 111, 107]⟩) ++ (liL ⟨#[100, 114, 111, 112]⟩ T.dr).flatten).length = kT7 T := by rw [List.length_append, n6, liL_len _ drQ (fun _ => rfl)]; rfl
  have hF : (linesT T).flatten = T.sc.flatMap scW ++ ((liL ⟨#[99, 111, 109, 109, 111, 110]⟩ T.co).flatten ++ (T.ma.flatMap maW ++ (T.pr.flatMap prW ++ (T.fo.flatMap (mpW ⟨#[102, 111, 108, 100]⟩) ++ (T.lk.flatMap (mpW ⟨#[108, 111, 111, 107]⟩) ++ ((liL ⟨#[100, 114, 111, 112]⟩ T.dr).flatten ++ (liL ⟨#[97, 108, 108, 111, 119]⟩ T.al).flatten)))))) := by
    unfold linesT
    simp only [List.flatten_append, ← List.flatMap_def]
  rw [hF]
  rcases l with _ | _ | _ | _ | _ | _ | _ | _ | _ | l
  · cases h
  · obtain ⟨x, j, _, e, h3⟩ := idxL_word scQ scW scW_len p1 T.sc 0 r i h
    rw [e, Nat.zero_add, List.getElem?_append_left (List.getElem?_eq_some_iff.1 (h3.trans (show (scW x)[0]? = some _ from rfl))).1]
    exact h3
  · obtain ⟨j, e, h3⟩ := li_word ⟨#[99, 111, 109, 109, 111, 110]⟩ coQ h
    rw [e]
    exact mid_at n1 h3
  · obtain ⟨x, j, _, e, h3⟩ := idxL_word maQ maW (fun _ => rfl) p3 T.ma (kT2 T) r i h
    rw [e, ← List.append_assoc]
    exact mid_at n2 (h3.trans (show (maW x)[0]? = some _ from rfl))
  · obtain ⟨x, j, _, e, h3⟩ := idxL_word prQ prW (fun _ => rfl) p4 T.pr (kT3 T) r i h
    rw [e, ← List.append_assoc, ← List.append_assoc]
    exact mid_at n3 (h3.trans (show (prW x)[0]? = some _ from rfl))
  · have h' : (idxL (fun x => foQ (runesX x)) (kT4 T) T.fo)[r]? = some i := by rw [← idx_map]; exact h
    obtain ⟨x, j, _, e, h3⟩ := idxL_word (fun x => foQ (runesX x)) (mpW ⟨#[102, 111, 108, 100]⟩) (fun x => mpW_len _ x) (fun x => p5 _) T.fo (kT4 T) r i h'
    rw [e, ← List.append_assoc, ← List.append_assoc, ← List.append_assoc]
    exact mid_at n4 (h3.trans (show (mpW ⟨#[102, 111, 108, 100]⟩ x)[0]? = some _ from rfl))
  · have h' : (idxL (fun x => lkQ (runesX x)) (kT5 T) T.lk)[r]? = some i := by rw [← idx_map]; exact h
    obtain ⟨x, j, _, e, h3⟩ := idxL_word (fun x => lkQ (runesX x)) (mpW ⟨#[108, 111, 111, 107]⟩) (fun x => mpW_len _ x) (fun x => p6 _) T.lk (kT5 T) r i h'
    rw [e, ← List.append_assoc, ← List.append_assoc, ← List.append_assoc, ← List.append_assoc]
    exact mid_at n5 (h3.trans (show (mpW ⟨#[108, 111, 111, 107]⟩ x)[0]? = some _ from rfl))
  · obtain ⟨j, e, h3⟩ := li_word ⟨#[100, 114, 111, 112]⟩ drQ h
    rw [e, ← List.append_assoc, ← List.append_assoc, ← List.append_assoc, ← List.append_assoc, ← List.append_assoc]
    exact mid_at n6 h3
  · obtain ⟨j, e, h3⟩ := li_word ⟨#[97, 108, 108, 111, 119]⟩ alQ h
    rw [e, ← List.append_assoc, ← List.append_assoc, ← List.append_assoc, ← List.append_assoc, ← List.append_assoc, ← List.append_assoc]
    have := mid_at (C := []) n7 h3
    rw [List.append_nil] at this
    exact this
  · cases h
/-- Where words stand in a text. -/
def posOf (T : TV) (i : Nat) : Nat := (places 0 ((linesT T).flatMap lineP)).getD i 0
theorem places_lt : ∀ (l : List (ByteArray × UInt8)) (b i j p q : Nat), i < j → (places b l)[i]? = some p → (places b l)[j]? = some q → p < q
  | [], b, i, j, p, q, hij, h, _ => by cases h
  | x :: l, b, 0, 0, p, q, hij, h, _ => by omega
  | x :: l, b, 0, j + 1, p, q, hij, h, h2 => by
    obtain rfl := Option.some.inj h
    have key : ∀ (l : List (ByteArray × UInt8)) (b j q : Nat), (places b l)[j]? = some q → b ≤ q := by
      intro l
      induction l with
      | nil => intro b j q h; cases h
      | cons y l ih => intro b j q h; cases j with
        | zero => obtain rfl := Option.some.inj h; exact Nat.le_refl _
        | succ j => have := ih _ j q h; omega
    have := key l _ j q h2
    omega
  | x :: l, b, i + 1, 0, p, q, hij, h, _ => by omega
  | x :: l, b, i + 1, j + 1, p, q, hij, h, h2 => places_lt l (b + x.1.size + 1) i j p q (by omega) h h2
/-- A row's place, and the word that stands there. -/
theorem row_at {T : TV} (hk : okT T = true) {l r : Nat} (hr : r < lenOf T l) : ∃ i p, (idxs T l)[r]? = some i ∧ (places 0 ((linesT T).flatMap lineP))[i]? = some p ∧ p + (wordOf T l r).size + 1 ≤ (textT T).size ∧ (textT T).extract p (p + (wordOf T l r).size) = wordOf T l r ∧ (rowsOf (backT (wsOf (textT T)) T) l)[r]? = some (((p : Nat) : Int), (((mkW (textT T) p).l : Nat) : Int), (((mkW (textT T) p).c : Nat) : Int)) := by
  obtain ⟨i, hi⟩ : ∃ i, (idxs T l)[r]? = some i := ⟨_, List.getElem?_eq_getElem (by rw [idxs_len]; exact hr)⟩
  have hw := idxs_word hi
  rw [← flat_fst, List.getElem?_map] at hw
  obtain ⟨x, hx, hx2⟩ := Option.map_eq_some_iff.1 hw
  obtain ⟨p, h1, _, h3, h4⟩ := places_at (s := textT T) ((linesT T).flatMap lineP) 0 (Nat.zero_le _) (rst_zero _) i x hx
  rw [hx2] at h3 h4
  refine ⟨i, p, hi, h1, h3, h4, ?_⟩
  rw [rows_idxs, List.getElem?_map, hi]
  have h5 : (wsOf (textT T))[i]? = some (w8 (mkW (textT T) p)) := by
    rw [(text_words hk).2.2, List.getElem?_map, h1]
    rfl
  show some (atV (wsOf (textT T)) i) = _
  rw [at_word h5]
  rfl
theorem rows_end {T : TV} (ws : List W8) (l : Nat) : (rowsOf (backT ws T) l)[lenOf T l]? = none := by
  rw [rows_idxs]
  exact List.getElem?_eq_none (by rw [List.length_map, idxs_len]; exact Nat.le_refl _)
end Go.Proofs.YtbefahknbdjnpaaGreatDoor
/- The reference's need and sequence. -/
namespace Go.Proofs.YtbefahknbdjnpaaGreatDoor
open Go.RowKit Go.Shelf
set_option linter.unusedVariables false
/-- How a sequence goes on behind its first byte. -/
def need4V (c : Nat) : Nat × Nat × Nat × Bool := if c < 128 then (0, 0, 0, true) else if (secOf c).1 = 0 then (0, 0, 0, false) else (szOf c - 1, (secOf c).1, (secOf c).2, true)
set_option maxRecDepth 100000 in
set_option maxHeartbeats 4000000 in
theorem need_any (c : Nat) (hc : c < 256) (w : World) : Calls Tryz.prog 142 #[.int .u8 c] w fun e w' => e = .returned (.tuple #[.int .i64 (need4V c).1, .int .u8 (need4V c).2.1, .int .u8 (need4V c).2.2.1, .bool (need4V c).2.2.2]) ∧ w' = w := by
  have hc : (c < 128 ∧ need4V c = (0, 0, 0, true)) ∨ (128 ≤ c ∧ c < 194 ∧ need4V c = (0, 0, 0, false)) ∨ (194 ≤ c ∧ c ≤ 223 ∧ need4V c = (1, 128, 191, true)) ∨ (c = 224 ∧ need4V c = (2, 160, 191, true)) ∨ (225 ≤ c ∧ c ≤ 236 ∧ need4V c = (2, 128, 191, true)) ∨ (c = 237 ∧ need4V c = (2, 128, 159, true)) ∨ (c = 238 ∧ need4V c = (2, 128, 191, true)) ∨ (c = 239 ∧ need4V c = (2, 128, 191, true)) ∨
      (c = 240 ∧ need4V c = (3, 144, 191, true)) ∨ (241 ≤ c ∧ c ≤ 243 ∧ need4V c = (3, 128, 191, true)) ∨ (c = 244 ∧ need4V c = (3, 128, 143, true)) ∨ (245 ≤ c ∧ need4V c = (0, 0, 0, false)) := by
    unfold need4V secOf szOf
    repeat' split
    all_goals simp_all
    all_goals omega
  rcases hc with ⟨h, e⟩ | ⟨h, h', e⟩ | ⟨h, h', e⟩ | ⟨rfl, e⟩ | ⟨h, h', e⟩ | ⟨rfl, e⟩ | ⟨rfl, e⟩ | ⟨rfl, e⟩ | ⟨rfl, e⟩ | ⟨h, h', e⟩ | ⟨rfl, e⟩ | ⟨h, e⟩
  all_goals
    rw [e]; clear e
    go_enter Tryz.func142, Tryz.ntmps142
    go_wp2
    exact bodyPost_ret (v := .tuple #[_, _, _, _]) (by simp [results, Tryz.results142, go_sem]; first | done | exact ⟨rfl, rfl, rfl, rfl⟩) rfl ⟨rfl, rfl⟩
theorem and31 : ∀ b : Nat, b < 256 → bits BinOp.and IntKind.i32 (b : Int) 31 = ((b % 32 : Nat) : Int) := by decide +kernel
theorem and15c : ∀ b : Nat, b < 256 → bits BinOp.and IntKind.i32 (b : Int) 15 = ((b % 16 : Nat) : Int) := by decide +kernel
theorem and7c : ∀ b : Nat, b < 256 → bits BinOp.and IntKind.i32 (b : Int) 7 = ((b % 8 : Nat) : Int) := by decide +kernel
theorem and63 : ∀ b : Nat, b < 256 → bits BinOp.and IntKind.u8 (b : Int) 63 = ((b % 64 : Nat) : Int) := by decide +kernel
theorem step_add (A c : Nat) (hA : A < 33554432) (hc : c < 256) : wrap32 (wrap32 ((A : Int) * 64) + wrap32 (bits BinOp.and IntKind.u8 (c : Int) 63)) = ((A * 64 + c % 64 : Nat) : Int) := by
  rw [and63 c hc]
  unfold wrap32
  omega
abbrev seqR4 (a : Nat) (x : Nat × Nat × Bool) : Value := .tuple #[.int .i32 x.1, .int .i64 ((a + x.2.1 : Nat) : Int), .bool x.2.2]
theorem rst_bt (s : ByteArray) (a k : Nat) (h : a ≤ s.size) : bt (rst s a) k = bt s (a + k) := by unfold bt; rw [get_suffix s a k h]
set_option maxRecDepth 100000 in
set_option maxHeartbeats 4000000 in
theorem sequence_small (s : ByteArray) (hs : s.size ≤ 1099511627776) (a : Nat) (ha : a ≤ 1099511627776) (h : s.size ≤ a ∨ (a < s.size ∧ (bt s a < 128 ∨ (128 ≤ bt s a ∧ (secOf (bt s a)).1 = 0)))) (w : World) : Calls Tryz.prog 91 #[.string s, .int .i64 a] w fun e w' => e = .returned (seqR4 a (seq4V (rst s a))) ∧ w' = w := by
  rcases h with h | ⟨h, hx⟩
  · have HV := hide (seq4_end (t := rst s a) (by rw [rst_size]; omega))
    have h' : (s.size : Int) ≤ (a : Int) := by omega
    clear h
    go_enter Tryz.func91, Tryz.ntmps91
    go_wp2
    go_ret3
    exact ⟨by rw [unhide HV]; rfl, rfl⟩
  · have h' : ¬ (s.size : Int) ≤ (a : Int) := by omega
    have hl : (a : Int) < (s.size : Int) := by omega
    have hgb := bt_get s a h
    have hb0 : bt (rst s a) 0 = bt s a := rst_bt s a 0 (by omega)
    have hpos : 0 < (rst s a).size := by rw [rst_size]; omega
    have hlt := bt_lt s a
    obtain ⟨b, eb⟩ : ∃ b, (s[a]'h).toNat = b := ⟨_, rfl⟩
    rw [hgb, eb] at hx hb0 hlt
    have HC := hide (need_any b hlt)
    rcases hx with hx | ⟨hx, hs0⟩
    · have HV := hide (seq4_ascii hpos (by rw [hb0]; exact hx))
      rw [hb0] at HV
      have hn : need4V b = (0, 0, 0, true) := by unfold need4V; rw [if_pos hx]
      rw [hn] at HC
      clear hn hb0 hpos hgb
      go_enter Tryz.func91, Tryz.ntmps91
      go_wp2_with fail
      refine (unhide HC _).mono ?_
      rintro e w1 ⟨rfl, rfl⟩
      go_wp2_with fail
      refine wp_loop_rounds 1 ?_
      rw [rounds_succ]
      go_wp2_with fail
      go_ret3
      exact ⟨by rw [unhide HV]; rfl, rfl⟩
    · have HV := hide (seq4_none hpos (by rw [hb0]; exact hx) (by rw [hb0]; exact hs0))
      have hn : need4V b = (0, 0, 0, false) := by unfold need4V; rw [if_neg (by omega), if_pos hs0]
      rw [hn] at HC
      clear hn hb0 hpos hgb
      go_enter Tryz.func91, Tryz.ntmps91
      go_wp2_with fail
      refine (unhide HC _).mono ?_
      rintro e w1 ⟨rfl, rfl⟩
      go_wp2_with fail
      go_ret3
      exact ⟨by rw [unhide HV]; rfl, rfl⟩
set_option maxRecDepth 100000 in
set_option maxHeartbeats 8000000 in
theorem sequence_long (s : ByteArray) (hs : s.size ≤ 1099511627776) (a : Nat) (ha : a < s.size) (hx : (secOf (bt s a)).1 ≠ 0) (w : World) : Calls Tryz.prog 91 #[.string s, .int .i64 a] w fun e w' => e = .returned (seqR4 a (seq4V (rst s a))) ∧ w' = w := by
  have hb0 : bt (rst s a) 0 = bt s a := rst_bt s a 0 (by omega)
  have hpos : 0 < (rst s a).size := by rw [rst_size]; omega
  have hq := secOf_lo _ hx
  have hGG := seq4_good hpos (by rw [hb0]; exact hx)
  have hBB := fun k h1 h2 h3 h4 => seq4_bad hpos (by rw [hb0]; exact hx) k h1 h2 h3 h4
  have hgo : ∀ k, 1 ≤ k → good4 (rst s a) k = decide (a + k < s.size ∧ (if k = 1 then (secOf (bt s a)).1 else 128) ≤ bt s (a + k) ∧ bt s (a + k) ≤ (if k = 1 then (secOf (bt s a)).2 else 191)) := fun k hk => by
    unfold good4
    rw [hb0, rst_bt s a k (by omega)]
    congr 1
    rw [rst_size]
    apply propext
    constructor <;> intro h <;> exact ⟨by omega, h.2⟩
  have hac : ∀ k, 1 ≤ k → accOf (rst s a) (k + 1) = accOf (rst s a) k * 64 + bt s (a + k) % 64 := fun k hk => by rw [acc_step _ k hk, rst_bt s a k (by omega)]
  have ha1 : accOf (rst s a) 1 = leadOf (bt s a) := by show leadOf (bt (rst s a) 0) = _; rw [hb0]
  rw [hb0] at hGG hBB
  have hgb := bt_get s a ha
  have hlt := bt_lt s a
  have hsz : (szOf (bt s a) = 1 + 1 ∧ leadOf (bt s a) = bt s a % 32) ∨ (szOf (bt s a) = 2 + 1 ∧ leadOf (bt s a) = bt s a % 16) ∨ (szOf (bt s a) = 3 + 1 ∧ leadOf (bt s a) = bt s a % 8) := by
    unfold szOf leadOf; repeat' split
    all_goals simp
  have hnv : need4V (bt s a) = (szOf (bt s a) - 1, (secOf (bt s a)).1, (secOf (bt s a)).2, true) := by unfold need4V; rw [if_neg (by omega), if_neg hx]
  have HC := hide (need_any (bt s a) hlt)
  rw [hnv] at HC
  obtain ⟨lo, hlo⟩ : ∃ lo, (secOf (bt s a)).1 = lo := ⟨_, rfl⟩
  obtain ⟨hi, hhi⟩ : ∃ hi, (secOf (bt s a)).2 = hi := ⟨_, rfl⟩
  obtain ⟨z, hz⟩ : ∃ z, szOf (bt s a) = z := ⟨_, rfl⟩
  rw [hlo, hhi] at hgo hq HC
  rw [hz] at hsz HC hGG hBB
  clear hnv hb0 hpos hx hlo hhi hz
  obtain ⟨b, eb⟩ : ∃ b, (s[a]'ha).toNat = b := ⟨_, rfl⟩
  rw [hgb, eb] at hlt HC ha1 hsz
  have h' : ¬ (s.size : Int) ≤ (a : Int) := by omega
  have hl : (a : Int) < (s.size : Int) := by omega
  have HGG := hide hGG
  have HBB := hide hBB
  have HGO := hide hgo
  have HAC := hide hac
  clear hGG hBB hgo hac hgb
  have hlo2 : 128 ≤ lo ∧ lo ≤ 191 ∧ 128 ≤ hi ∧ hi ≤ 191 := by omega
  clear hq
  obtain ⟨N, rfl⟩ : ∃ N, z = N + 1 := ⟨z - 1, by omega⟩
  have hN : 1 ≤ N ∧ N ≤ 3 := by omega
  have HINI : Hz (accOf (rst s a) 1 < 32) := hide (by omega)
  simp only [Nat.add_sub_cancel] at HC
  rcases hsz with ⟨hz, hl1⟩ | ⟨hz, hl1⟩ | ⟨hz, hl1⟩
  all_goals
    rw [hl1] at ha1
    have n1 : ((N : Int) == 1) = decide (N = 1) := by cases hd : decide (N = 1) <;> simp at hd ⊢ <;> omega
    have n2 : ((N : Int) == 2) = decide (N = 2) := by cases hd : decide (N = 2) <;> simp at hd ⊢ <;> omega
    have n3 : ((N : Int) == 3) = decide (N = 3) := by cases hd : decide (N = 3) <;> simp at hd ⊢ <;> omega
    first | rw [decide_eq_true (by omega)] at n1 | rw [decide_eq_false (by omega)] at n1
    first | rw [decide_eq_true (by omega)] at n2 | rw [decide_eq_false (by omega)] at n2
    first | rw [decide_eq_true (by omega)] at n3 | rw [decide_eq_false (by omega)] at n3
    have HA1 := hide ha1
    clear hl1 ha1 hz
    go_enter Tryz.func91, Tryz.ntmps91
    go_wp2_with fail
    refine (unhide HC _).mono ?_
    rintro e w1 ⟨rfl, rfl⟩
    go_wp2_with fail
    first | rw [and31 b hlt] | rw [and15c b hlt] | rw [and7c b hlt]
    rw [← unhide HA1]
    clear HA1 HC n1 n2 n3 hlo2 eb hlt hl h'
    go_loop [8, 9, 11, 12] (fun l h r i => ∃ K L H : Nat, 1 ≤ K ∧ K ≤ N + 1 ∧ i = .int .i64 K ∧ r = .int .i32 (accOf (rst s a) K) ∧ l = .int .u8 L ∧ h = .int .u8 H ∧ Hz (L = if K = 1 then lo else 128) ∧ Hz (H = if K = 1 then hi else 191) ∧ Hz (∀ j, 1 ≤ j → j < K → good4 (rst s a) j = true) ∧ Hz (accOf (rst s a) K < bndOf K)) (fun _ _ _ i => N + 1 - (intOf i).toNat)
    case atStart => exact ⟨1, lo, hi, by omega, by omega, rfl, rfl, rfl, rfl, hide rfl, hide rfl, hide (fun j h1 h2 => by omega), HINI⟩
    case round =>
      obtain ⟨K, L, H, hK1, hK2, rfl, rfl, rfl, rfl, HL, HH, HGo, HA⟩ := hrel
      have hgK := unhide HGO K hK1
      rw [← unhide HL, ← unhide HH] at hgK
      by_cases hkn : K ≤ N
      · have hkn' : (K : Int) ≤ (N : Int) := by omega
        by_cases hks : a + K < s.size
        · have hks' : ¬ (s.size : Int) ≤ (a : Int) + (K : Int) := by omega
          have hks2 : (a : Int) + (K : Int) < (s.size : Int) := by omega
          have hgc := bt_get s (a + K) hks
          obtain ⟨c, ec⟩ : ∃ c, (s[a + K]'hks).toNat = c := ⟨_, rfl⟩
          rw [hgc, ec] at hgK
          by_cases hc1 : c < L
          · have hc1' : decide (c < L) = true := decide_eq_true hc1
            have HV := hide (unhide HBB K hK1 (by omega) (unhide HGo) (by rw [hgK]; exact decide_eq_false (by omega)))
            clear hgK hgc
            go_wp2_with fail
            go_ret3
            exact ⟨by rw [unhide HV]; rfl, rfl⟩
          · have hc1' : ¬ c < L := hc1
            by_cases hc2 : H < c
            · have hc2' : decide (H < c) = true := decide_eq_true hc2
              have HV := hide (unhide HBB K hK1 (by omega) (unhide HGo) (by rw [hgK]; exact decide_eq_false (by omega)))
              clear hgK hgc
              go_wp2_with fail
              go_ret3
              exact ⟨by rw [unhide HV]; rfl, rfl⟩
            · have hst := unhide HAC K hK1
              have hcl := bt_lt s (a + K)
              rw [hgc, ec] at hst hcl
              have hA := unhide HA
              have hgd : good4 (rst s a) K = true := by rw [hgK]; exact decide_eq_true (by omega)
              have HGD := hide hgd
              generalize accOf (rst s a) K = A at hst hA
              have HST := hide hst
              have hbs := bnd_step K A c hK1 (by omega) hA
              have HBS := hide hbs
              have hcl' : Hz (c < 256) := hide hcl
              clear hgK hgc hst HA hA hgd hbs hcl hN
              go_wp2_with fail
              go_round
              case rel =>
                refine ⟨K + 1, 128, 191, by omega, by omega, by go_num, ?_, rfl, rfl, hide (by rw [if_neg (by omega)]), hide (by rw [if_neg (by omega)]), hide (fun j h1 h2 => ?_), hide ?_⟩
                · rw [unhide HST, step_add A c (unhide HBS).1 (unhide hcl')]
                · by_cases e : j = K
                  · subst e; exact unhide HGD
                  · exact unhide HGo j h1 (by omega)
                · rw [unhide HST]; exact (unhide HBS).2
              case measure => simp [intOf]; omega
        · have hks' : (s.size : Int) ≤ (a : Int) + (K : Int) := by omega
          have HV := hide (unhide HBB K hK1 (by omega) (unhide HGo) (by rw [hgK]; exact decide_eq_false (by omega)))
          clear hgK
          go_wp2_with fail
          go_ret3
          exact ⟨by rw [unhide HV]; rfl, rfl⟩
      · have hkn' : ¬ (K : Int) ≤ (N : Int) := by omega
        have hKN : K = N + 1 := by omega
        have HV : Hz (seq4V (rst s a) = (accOf (rst s a) K, N + 1, true)) := hide (by rw [hKN]; exact unhide HGG (fun j h1 h2 => unhide HGo j h1 (by omega)))
        clear hgK hKN
        go_wp2_with fail
        go_ret3
        exact ⟨by rw [unhide HV]; rfl, rfl⟩
end Go.Proofs.YtbefahknbdjnpaaGreatDoor
