/- Texts of this claim, one behind the other. -/
import Derived.Test.YtjgfmobmilgapaaGreatDoorM19
import Derived.Test.YtjgfmobmilgapaaGreatDoorM26
import Derived.Lib.TrimUEq
import Derived.KernelRfl
/- What the printer writes, as lines of words. Plain mathematics. -/
namespace Go.Proofs.YtjgfmobmilgapaaGreatDoor
open Go.RowKit Go.Shelf
set_option linter.unusedVariables false
def PnI (p : Pn) (L : List UInt8) (ok bg : Bool) : Prop := p.wr = !ok ∧ (ok = true → (L.length ≤ 262144 → p.t = L ∧ p.bg = bg) ∧ (262144 < L.length → 262144 < p.t.length))
def spB (bg : Bool) : List UInt8 := if bg then [32] else []
theorem pni_put {p : Pn} {L : List UInt8} {ok bg : Bool} (w : ByteArray) (h : PnI p L ok bg) : PnI (put1 p w) (L ++ (spB bg ++ w.data.toList)) ok true := by
  obtain ⟨h1, h2⟩ := h
  cases ok with
  | false =>
    have he : endedB p = true := by unfold endedB; rw [h1]; rfl
    rw [put1_ended he]
    exact ⟨h1, fun h => by cases h⟩
  | true =>
    have h3 := h2 rfl
    have hw : p.wr = false := h1
    have hl : (L ++ (spB bg ++ w.data.toList)).length = L.length + (spB bg ++ w.data.toList).length := List.length_append
    rcases Nat.lt_or_ge 262144 L.length with hL | hL
    · have he : endedB p = true := by unfold endedB; rw [hw, decide_eq_true (h3.2 hL)]; rfl
      rw [put1_ended he]
      exact ⟨h1, fun _ => ⟨fun q => by omega, fun _ => h3.2 hL⟩⟩
    · obtain ⟨e1, e2⟩ := h3.1 hL
      have he : ¬ endedB p = true := by unfold endedB; rw [hw, e1, decide_eq_false (by omega)]; decide
      have e : put1 p w = ⟨L ++ (spB bg ++ w.data.toList), true, false⟩ := by
        unfold put1
        rw [if_neg he, hw, e1, e2]
        unfold spB
        cases bg <;> simp
      rw [e]
      exact ⟨rfl, fun _ => ⟨fun _ => ⟨rfl, rfl⟩, fun q => q⟩⟩
theorem pni_line {p : Pn} {L : List UInt8} {ok bg : Bool} (h : PnI p L ok bg) : PnI (lineV p) (L ++ [10]) ok false := by
  obtain ⟨h1, h2⟩ := h
  cases ok with
  | false => exact ⟨h1, fun h => by cases h⟩
  | true =>
    have h3 := h2 rfl
    have hw : p.wr = false := h1
    have hl : (L ++ [(10 : UInt8)]).length = L.length + 1 := List.length_append
    refine ⟨h1, fun _ => ?_⟩
    unfold lineV
    dsimp only
    rcases Nat.lt_or_ge 262144 L.length with hL | hL
    · have he : endedB p = true := by unfold endedB; rw [hw, decide_eq_true (h3.2 hL)]; rfl
      rw [if_pos he]
      exact ⟨fun q => by omega, fun _ => h3.2 hL⟩
    · obtain ⟨e1, e2⟩ := h3.1 hL
      have he : ¬ endedB p = true := by unfold endedB; rw [hw, e1, decide_eq_false (by omega)]; decide
      rw [if_neg he, e1]
      exact ⟨fun _ => ⟨rfl, rfl⟩, fun q => q⟩
theorem pni_need {p : Pn} {L : List UInt8} {ok bg : Bool} (b : Bool) (h : PnI p L ok bg) : PnI (needV p b) L (ok && b) bg := by
  obtain ⟨h1, h2⟩ := h
  unfold needV
  refine ⟨?_, fun q => ?_⟩
  · show (p.wr || !b) = _
    rw [h1]
    cases ok <;> cases b <;> rfl
  · have hk : ok = true := by cases ok <;> first | rfl | cases q
    exact h2 hk
def wdL : Bool → List ByteArray → List UInt8
  | _, [] => []
  | bg, w :: ws => spB bg ++ w.data.toList ++ wdL true ws
theorem wdL_app : ∀ (a b : List ByteArray) (bg : Bool), wdL bg (a ++ b) = wdL bg a ++ wdL (bg || !a.isEmpty) b
  | [], b, bg => by show wdL bg b = [] ++ wdL (bg || false) b; rw [Bool.or_false]; rfl
  | w :: a, b, bg => by
    show spB bg ++ w.data.toList ++ wdL true (a ++ b) = spB bg ++ w.data.toList ++ wdL true a ++ wdL (bg || true) b
    rw [wdL_app a b true, Bool.or_true, List.append_assoc, List.append_assoc, List.append_assoc]
    rfl
theorem pni_puts : ∀ (ws : List ByteArray) {p : Pn} {L : List UInt8} {ok bg : Bool}, PnI p L ok bg → PnI (putV p ws) (L ++ wdL bg ws) ok (bg || !ws.isEmpty)
  | [], p, L, ok, bg, h => by
    show PnI p (L ++ []) ok (bg || false)
    rw [List.append_nil, Bool.or_false]
    exact h
  | w :: ws, p, L, ok, bg, h => by
    have := pni_puts ws (pni_put w h)
    show PnI (putV (put1 p w) ws) (L ++ (spB bg ++ w.data.toList ++ wdL true ws)) ok (bg || true)
    rw [Bool.or_true]
    rw [List.append_assoc L, Bool.true_or] at this
    exact this
def okR (r : Int) : Bool := (textV r).2 == 0
def rtB (r : Int) : ByteArray := (textV r).1
theorem pni_rune (r : Int) {p : Pn} {L : List UInt8} {ok bg : Bool} (h : PnI p L ok bg) : PnI (runeV p r) (L ++ wdL bg [rtB r]) (ok && okR r) true := by
  have := pni_puts [rtB r] (pni_need (okR r) h)
  rw [show (bg || !([rtB r] : List ByteArray).isEmpty) = true by cases bg <;> rfl] at this
  exact this
def spanW (s : Int × Int) : List ByteArray := if s.2 = s.1 then [rtB s.1] else [rtB s.1, ⟨#[46, 46]⟩, rtB s.2]
def spanK (s : Int × Int) : Bool := okR s.1 && okR s.2
theorem pni_span (s : Int × Int) {p : Pn} {L : List UInt8} {ok : Bool} (h : PnI p L ok true) : PnI (spanP p s) (L ++ wdL true (spanW s)) (ok && spanK s) true := by
  unfold spanP spanW spanK
  by_cases e : s.2 = s.1
  · rw [if_pos e, if_pos e, e, Bool.and_self]
    exact pni_rune s.1 h
  · rw [if_neg e, if_neg e]
    have h1 := pni_rune s.2 (pni_puts [⟨#[46, 46]⟩] (pni_rune s.1 h))
    rw [List.append_assoc, List.append_assoc, Bool.and_assoc, Bool.true_or] at h1
    have e2 : wdL true [rtB s.1, ⟨#[46, 46]⟩, rtB s.2] = wdL true [rtB s.1] ++ (wdL true [⟨#[46, 46]⟩] ++ wdL true [rtB s.2]) := by
      show wdL true ([rtB s.1] ++ ([⟨#[46, 46]⟩] ++ [rtB s.2])) = _
      rw [wdL_app, wdL_app, Bool.true_or, Bool.true_or]
    rw [e2]
    exact h1
theorem pni_spans : ∀ (l : List (Int × Int)) {p : Pn} {L : List UInt8} {ok : Bool}, PnI p L ok true → PnI (l.foldl spanP p) (L ++ wdL true (l.flatMap spanW)) (ok && l.all spanK) true
  | [], p, L, ok, h => by
    show PnI p (L ++ []) (ok && true) true
    rw [List.append_nil, Bool.and_true]
    exact h
  | s :: l, p, L, ok, h => by
    have := pni_spans l (pni_span s h)
    rw [List.append_assoc, Bool.and_assoc] at this
    rw [List.flatMap_cons, wdL_app, List.all_cons, Bool.true_or]
    exact this
def lineB (ws : List ByteArray) : List UInt8 := wdL false ws ++ [10]
def spansW (l : List (Int × Int)) : List ByteArray := ⟨#[123]⟩ :: (l.flatMap spanW ++ [⟨#[125]⟩])
theorem pni_braces (l : List (Int × Int)) {p : Pn} {L : List UInt8} {ok : Bool} (h : PnI p L ok true) : PnI (spansP p l) (L ++ (wdL true (spansW l) ++ [10])) (ok && l.all spanK) false := by
  unfold spansP
  have h1 := pni_puts [⟨#[123]⟩] h
  rw [Bool.true_or] at h1
  have h2 := pni_line (pni_puts [⟨#[125]⟩] (pni_spans l h1))
  have e : wdL true (spansW l) = wdL true [⟨#[123]⟩] ++ (wdL true (l.flatMap spanW) ++ wdL true [⟨#[125]⟩]) := by
    show wdL true ([⟨#[123]⟩] ++ (l.flatMap spanW ++ [⟨#[125]⟩])) = _
    rw [wdL_app, wdL_app, Bool.true_or, Bool.true_or]
  rw [e]
  simp only [List.append_assoc] at h2 ⊢
  exact h2
def scW (x : ByteArray × List (Int × Int)) : List ByteArray := ⟨#[115, 99, 114, 105, 112, 116]⟩ :: x.1 :: spansW x.2
def scK (x : ByteArray × List (Int × Int)) : Bool := legalB x.1 && x.2.all spanK
theorem pni_sc (x : ByteArray × List (Int × Int)) {p : Pn} {L : List UInt8} {ok : Bool} (h : PnI p L ok false) : PnI (scriptP p x) (L ++ lineB (scW x)) (ok && scK x) false := by
  unfold scriptP scK
  have h1 := pni_puts [⟨#[115, 99, 114, 105, 112, 116]⟩, x.1] (pni_need (legalB x.1) h)
  have h2 := pni_braces x.2 h1
  have e : lineB (scW x) = wdL false [⟨#[115, 99, 114, 105, 112, 116]⟩, x.1] ++ (wdL true (spansW x.2) ++ [10]) := by
    show wdL false ([⟨#[115, 99, 114, 105, 112, 116]⟩, x.1] ++ spansW x.2) ++ [10] = _
    rw [wdL_app, List.append_assoc]
    rfl
  rw [e]
  rw [List.append_assoc, Bool.and_assoc] at h2
  exact h2
def liW (word : ByteArray) (l : List (Int × Int)) : List ByteArray := word :: spansW l
theorem pni_li (word : ByteArray) (l : List (Int × Int)) {p : Pn} {L : List UInt8} {ok : Bool} (h : PnI p L ok false) : PnI (listP p word l) (L ++ (if l.length = 0 then [] else lineB (liW word l))) (ok && l.all spanK) false := by
  unfold listP
  by_cases e : l.length = 0
  · rw [if_pos e, if_pos e, List.append_nil]
    obtain rfl := List.length_eq_zero_iff.1 e
    show PnI p L (ok && true) false
    rw [Bool.and_true]
    exact h
  · rw [if_neg e, if_neg e]
    have h2 := pni_braces l (pni_puts [word] h)
    have e : lineB (liW word l) = wdL false [word] ++ (wdL true (spansW l) ++ [10]) := by
      show wdL false ([word] ++ spansW l) ++ [10] = _
      rw [wdL_app, List.append_assoc]
      rfl
    rw [e]
    rw [List.append_assoc] at h2
    exact h2
def maW (x : Int × Int) : List ByteArray := [⟨#[109, 97, 114, 107]⟩, rtB x.1, itoaB x.2, ⟨#[59]⟩]
def maK (x : Int × Int) : Bool := clsB x.2 && okR x.1
theorem pni_ma (x : Int × Int) {p : Pn} {L : List UInt8} {ok : Bool} (h : PnI p L ok false) : PnI (markP p x) (L ++ lineB (maW x)) (ok && maK x) false := by
  unfold markP maK
  have h1 := pni_line (pni_puts [itoaB x.2, ⟨#[59]⟩] (pni_rune x.1 (pni_puts [⟨#[109, 97, 114, 107]⟩] (pni_need (clsB x.2) h))))
  have e : lineB (maW x) = wdL false [⟨#[109, 97, 114, 107]⟩] ++ (wdL true [rtB x.1] ++ (wdL true [itoaB x.2, ⟨#[59]⟩] ++ [10])) := by
    show wdL false ([⟨#[109, 97, 114, 107]⟩] ++ ([rtB x.1] ++ [itoaB x.2, ⟨#[59]⟩])) ++ [10] = _
    rw [wdL_app, wdL_app]
    simp only [List.append_assoc]
    rfl
  rw [e]
  simp only [List.append_assoc, Bool.and_assoc] at h1
  exact h1
def prW (x : Int × Int × Int) : List ByteArray := [⟨#[112, 97, 105, 114]⟩, rtB x.1, ⟨#[61]⟩, rtB x.2.1, ⟨#[43]⟩, rtB x.2.2, ⟨#[59]⟩]
def prK (x : Int × Int × Int) : Bool := okR x.1 && (okR x.2.1 && okR x.2.2)
theorem pni_pr (x : Int × Int × Int) {p : Pn} {L : List UInt8} {ok : Bool} (h : PnI p L ok false) : PnI (pairP p x) (L ++ lineB (prW x)) (ok && prK x) false := by
  unfold pairP prK
  have h1 := pni_line (pni_puts [⟨#[59]⟩] (pni_rune x.2.2 (pni_puts [⟨#[43]⟩] (pni_rune x.2.1 (pni_puts [⟨#[61]⟩] (pni_rune x.1 (pni_puts [⟨#[112, 97, 105, 114]⟩] h)))))))
  have e : lineB (prW x) = wdL false [⟨#[112, 97, 105, 114]⟩] ++ (wdL true [rtB x.1] ++ (wdL true [⟨#[61]⟩] ++ (wdL true [rtB x.2.1] ++ (wdL true [⟨#[43]⟩] ++ (wdL true [rtB x.2.2] ++ (wdL true [⟨#[59]⟩] ++ [10])))))) := by
    show wdL false ([⟨#[112, 97, 105, 114]⟩] ++ ([rtB x.1] ++ ([⟨#[61]⟩] ++ ([rtB x.2.1] ++ ([⟨#[43]⟩] ++ ([rtB x.2.2] ++ [⟨#[59]⟩])))))) ++ [10] = _
    simp only [wdL_app, List.append_assoc]
    rfl
  rw [e]
  simp only [List.append_assoc, Bool.and_assoc] at h1
  exact h1
theorem pni_runes : ∀ (l : List Int) {p : Pn} {L : List UInt8} {ok : Bool}, PnI p L ok true → PnI (l.foldl runeV p) (L ++ wdL true (l.map rtB)) (ok && l.all okR) true
  | [], p, L, ok, h => by
    show PnI p (L ++ []) (ok && true) true
    rw [List.append_nil, Bool.and_true]
    exact h
  | r :: l, p, L, ok, h => by
    have := pni_runes l (pni_rune r h)
    rw [List.append_assoc, Bool.and_assoc] at this
    rw [List.all_cons, show (r :: l).map rtB = [rtB r] ++ l.map rtB from rfl, wdL_app, Bool.true_or]
    exact this
def mpW (word : ByteArray) (x : Int × ByteArray) : List ByteArray := word :: rtB x.1 :: ⟨#[61]⟩ :: ((runesL x.2).map rtB ++ [⟨#[59]⟩])
def mpK (x : Int × ByteArray) : Bool := okTo x.2 && (okR x.1 && (runesL x.2).all okR)
theorem pni_mp (word : ByteArray) (x : Int × ByteArray) {p : Pn} {L : List UInt8} {ok : Bool} (h : PnI p L ok false) : PnI (mapP word p x) (L ++ lineB (mpW word x)) (ok && mpK x) false := by
  unfold mapP mpK
  have h1 := pni_line (pni_puts [⟨#[59]⟩] (pni_runes (runesL x.2) (pni_puts [⟨#[61]⟩] (pni_rune x.1 (pni_puts [word] (pni_need (okTo x.2) h))))))
  have e : lineB (mpW word x) = wdL false [word] ++ (wdL true [rtB x.1] ++ (wdL true [⟨#[61]⟩] ++ (wdL true ((runesL x.2).map rtB) ++ (wdL true [⟨#[59]⟩] ++ [10])))) := by
    show wdL false ([word] ++ ([rtB x.1] ++ ([⟨#[61]⟩] ++ ((runesL x.2).map rtB ++ [⟨#[59]⟩])))) ++ [10] = _
    simp only [wdL_app, List.append_assoc]
    rfl
  rw [e]
  simp only [List.append_assoc, Bool.and_assoc] at h1
  exact h1
theorem pni_fold {α : Type} (P : Pn → α → Pn) (W : α → List ByteArray) (K : α → Bool) (hs : ∀ x {p : Pn} {L : List UInt8} {ok : Bool}, PnI p L ok false → PnI (P p x) (L ++ lineB (W x)) (ok && K x) false) : ∀ (l : List α) {p : Pn} {L : List UInt8} {ok : Bool}, PnI p L ok false → PnI (l.foldl P p) (L ++ (l.map W).flatMap lineB) (ok && l.all K) false
  | [], p, L, ok, h => by
    show PnI p (L ++ []) (ok && true) false
    rw [List.append_nil, Bool.and_true]
    exact h
  | x :: l, p, L, ok, h => by
    have := pni_fold P W K hs l (hs x h)
    rw [List.append_assoc, Bool.and_assoc] at this
    exact this
def liL (word : ByteArray) (l : List (Int × Int)) : List (List ByteArray) := if l.length = 0 then [] else [liW word l]
theorem liL_flat (word : ByteArray) (l : List (Int × Int)) : (liL word l).flatMap lineB = if l.length = 0 then [] else lineB (liW word l) := by
  unfold liL
  split
  · rfl
  · show lineB (liW word l) ++ [] = _
    rw [List.append_nil]
def linesT (T : TV) : List (List ByteArray) :=
  T.sc.map scW ++ (liL ⟨#[99, 111, 109, 109, 111, 110]⟩ T.co ++ (T.ma.map maW ++ (T.pr.map prW ++ (T.fo.map (mpW ⟨#[102, 111, 108, 100]⟩) ++ (T.lk.map (mpW ⟨#[108, 111, 111, 107]⟩) ++ (liL ⟨#[100, 114, 111, 112]⟩ T.dr ++ liL ⟨#[97, 108, 108, 111, 119]⟩ T.al))))))
def okT (T : TV) : Bool := T.sc.all scK && (T.co.all spanK && (T.ma.all maK && (T.pr.all prK && (T.fo.all mpK && (T.lk.all mpK && (T.dr.all spanK && T.al.all spanK))))))
theorem print_inv (T : TV) : PnI (printP T) ((linesT T).flatMap lineB) (okT T) false := by
  have h0 : PnI ⟨[], false, false⟩ [] true false := ⟨rfl, fun _ => ⟨fun _ => ⟨rfl, rfl⟩, fun q => q⟩⟩
  have h := pni_li ⟨#[97, 108, 108, 111, 119]⟩ T.al (pni_li ⟨#[100, 114, 111, 112]⟩ T.dr (pni_fold (mapP ⟨#[108, 111, 111, 107]⟩) (mpW ⟨#[108, 111, 111, 107]⟩) mpK (fun x => pni_mp _ x) T.lk (pni_fold (mapP ⟨#[102, 111, 108, 100]⟩) (mpW ⟨#[102, 111, 108, 100]⟩) mpK (fun x => pni_mp _ x) T.fo (pni_fold pairP prW prK (fun x => pni_pr x) T.pr (pni_fold markP maW maK (fun x => pni_ma x) T.ma (pni_li ⟨#[99, 111, 109, 109, 111, 110]⟩ T.co (pni_fold scriptP scW scK (fun x => pni_sc x) T.sc h0)))))))
  rw [← liL_flat, ← liL_flat, ← liL_flat] at h
  unfold printP linesT okT
  simp only [List.flatMap_append]
  simp only [List.append_assoc, Bool.and_assoc, List.nil_append, Bool.true_and] at h
  exact h
theorem print_ok {T : TV} (hk : okT T = true) (hl : ((linesT T).flatMap lineB).length ≤ 262144) : printV T = (⟨((linesT T).flatMap lineB).toArray⟩, 0) := by
  obtain ⟨h1, h2⟩ := print_inv T
  obtain ⟨h3, _⟩ := (h2 hk).1 hl
  unfold printV
  rw [h1, hk, if_neg (by decide), h3, if_neg (by omega)]
theorem print_long {T : TV} (hk : okT T = true) (hl : 262144 < ((linesT T).flatMap lineB).length) : printV T = (⟨#[]⟩, 3) := by
  obtain ⟨h1, h2⟩ := print_inv T
  have h3 := (h2 hk).2 hl
  unfold printV
  rw [h1, hk, if_neg (by decide), if_pos h3]
theorem print_bad {T : TV} (hk : okT T = false) : printV T = (⟨#[]⟩, 5) := by
  obtain ⟨h1, h2⟩ := print_inv T
  unfold printV
  rw [h1, hk, if_pos (by decide)]
def qOf (v : WV) : Tq := ⟨(v.kind : Nat), v.S, (v.R : Nat), (v.N : Nat)⟩
def OneQ (w : ByteArray) (q : Tq) : Prop := ∃ v, One w v ∧ qOf v = q
def OnesQ : List ByteArray → List Tq → Prop
  | [], [] => True
  | w :: ws, q :: qs => OneQ w q ∧ OnesQ ws qs
  | _, _ => False
theorem onesQ_app : ∀ {l1 : List ByteArray} {v1 : List Tq} {l2 : List ByteArray} {v2 : List Tq}, OnesQ l1 v1 → OnesQ l2 v2 → OnesQ (l1 ++ l2) (v1 ++ v2)
  | [], [], l2, v2, _, h => h
  | x :: l1, v :: v1, l2, v2, h1, h => ⟨h1.1, onesQ_app h1.2 h⟩
  | [], v :: v1, l2, v2, h1, h => h1.elim
  | x :: l1, [], l2, v2, h1, h => h1.elim
theorem onesQ_flat {α : Type} (f : α → List ByteArray) (g : α → List Tq) : ∀ (l : List α), (∀ x ∈ l, OnesQ (f x) (g x)) → OnesQ (l.flatMap f) (l.flatMap g)
  | [], _ => trivial
  | x :: l, h => by
    rw [List.flatMap_cons, List.flatMap_cons]
    exact onesQ_app (h x (List.mem_cons_self ..)) (onesQ_flat f g l (fun y hy => h y (List.mem_cons_of_mem _ hy)))
theorem q_script : OneQ ⟨#[115, 99, 114, 105, 112, 116]⟩ (tqN ⟨#[115, 99, 114, 105, 112, 116]⟩) := ⟨⟨1, ⟨#[115, 99, 114, 105, 112, 116]⟩, 0, 0, 6, true⟩, ⟨by decide, by kernel_rfl, rfl, rfl⟩, rfl⟩
theorem q_common : OneQ ⟨#[99, 111, 109, 109, 111, 110]⟩ (tqN ⟨#[99, 111, 109, 109, 111, 110]⟩) := ⟨⟨1, ⟨#[99, 111, 109, 109, 111, 110]⟩, 0, 0, 6, true⟩, ⟨by decide, by kernel_rfl, rfl, rfl⟩, rfl⟩
theorem q_mark : OneQ ⟨#[109, 97, 114, 107]⟩ (tqN ⟨#[109, 97, 114, 107]⟩) := ⟨⟨1, ⟨#[109, 97, 114, 107]⟩, 0, 0, 4, true⟩, ⟨by decide, by kernel_rfl, rfl, rfl⟩, rfl⟩
theorem q_pair : OneQ ⟨#[112, 97, 105, 114]⟩ (tqN ⟨#[112, 97, 105, 114]⟩) := ⟨⟨1, ⟨#[112, 97, 105, 114]⟩, 0, 0, 4, true⟩, ⟨by decide, by kernel_rfl, rfl, rfl⟩, rfl⟩
theorem q_fold : OneQ ⟨#[102, 111, 108, 100]⟩ (tqN ⟨#[102, 111, 108, 100]⟩) := ⟨⟨1, ⟨#[102, 111, 108, 100]⟩, 0, 0, 4, true⟩, ⟨by decide, by kernel_rfl, rfl, rfl⟩, rfl⟩
theorem q_look : OneQ ⟨#[108, 111, 111, 107]⟩ (tqN ⟨#[108, 111, 111, 107]⟩) := ⟨⟨1, ⟨#[108, 111, 111, 107]⟩, 0, 0, 4, true⟩, ⟨by decide, by kernel_rfl, rfl, rfl⟩, rfl⟩
theorem q_drop : OneQ ⟨#[100, 114, 111, 112]⟩ (tqN ⟨#[100, 114, 111, 112]⟩) := ⟨⟨1, ⟨#[100, 114, 111, 112]⟩, 0, 0, 4, true⟩, ⟨by decide, by kernel_rfl, rfl, rfl⟩, rfl⟩
theorem q_allow : OneQ ⟨#[97, 108, 108, 111, 119]⟩ (tqN ⟨#[97, 108, 108, 111, 119]⟩) := ⟨⟨1, ⟨#[97, 108, 108, 111, 119]⟩, 0, 0, 5, true⟩, ⟨by decide, by kernel_rfl, rfl, rfl⟩, rfl⟩
theorem q_open : OneQ ⟨#[123]⟩ (tqS 4) := ⟨⟨4, ByteArray.empty, 0, 0, 1, true⟩, ⟨by decide, by kernel_rfl, rfl, rfl⟩, rfl⟩
theorem q_shut : OneQ ⟨#[125]⟩ (tqS 5) := ⟨⟨5, ByteArray.empty, 0, 0, 1, true⟩, ⟨by decide, by kernel_rfl, rfl, rfl⟩, rfl⟩
theorem q_semi : OneQ ⟨#[59]⟩ (tqS 6) := ⟨⟨6, ByteArray.empty, 0, 0, 1, true⟩, ⟨by decide, by kernel_rfl, rfl, rfl⟩, rfl⟩
theorem q_asg : OneQ ⟨#[61]⟩ (tqS 7) := ⟨⟨7, ByteArray.empty, 0, 0, 1, true⟩, ⟨by decide, by kernel_rfl, rfl, rfl⟩, rfl⟩
theorem q_plus : OneQ ⟨#[43]⟩ (tqS 8) := ⟨⟨8, ByteArray.empty, 0, 0, 1, true⟩, ⟨by decide, by kernel_rfl, rfl, rfl⟩, rfl⟩
theorem q_dots : OneQ ⟨#[46, 46]⟩ (tqS 9) := ⟨⟨9, ByteArray.empty, 0, 0, 2, true⟩, ⟨by decide, by kernel_rfl, rfl, rfl⟩, rfl⟩
theorem okR_width {r : Int} : okR r = true ↔ widthOf r ≠ 0 := by
  constructor
  · intro h e
    unfold okR textV at h
    rw [if_pos e] at h
    cases h
  · intro h
    unfold okR
    rw [(one_text h).2]
    rfl
theorem q_rune {r : Int} (h : okR r = true) : OneQ (rtB r) (tqR r) := by
  have hw := okR_width.1 h
  have hb := width_bound r hw
  have ho := (one_text hw).1
  have hp := (words_places (textV r).1).1 _ (by rw [ho.ws]; exact List.mem_singleton.2 rfl)
  have hv := hp.v
  rw [rst_zero] at hv
  exact ⟨_, ⟨ho.pos, hv.symm, rfl, rfl⟩, by show Tq.mk 3 _ ((r.toNat : Nat) : Int) 0 = _; rw [show ((r.toNat : Nat) : Int) = r by omega]; rfl⟩
theorem q_name {s : ByteArray} (h : legalB s = true) : OneQ s (tqN s) := by
  obtain ⟨h0, hn⟩ := of_decide_eq_true h
  have hs : smallB (bt s 0) = true := by
    cases q : smallB (bt s 0)
    · unfold nameLen at hn; rw [if_pos (.inr q)] at hn; omega
    · rfl
  refine ⟨_, ⟨h0, wordV_small hs, ?_, hn⟩, ?_⟩
  · show edgeB s (nameLen s) = true
    unfold edgeB
    rw [decide_eq_true hn]
    rfl
  · show Tq.mk 1 (s.extract 0 (nameLen s)) 0 0 = _
    rw [hn, ByteArray.extract_zero_size]
    rfl
theorem dec_small {u : Nat} (h : u < 10) : Lib.decDigits u = [UInt8.ofNat (48 + u)] := by unfold Lib.decDigits; rw [dif_pos h]
theorem dec_step {u : Nat} (h : ¬ u < 10) : Lib.decDigits u = Lib.decDigits (u / 10) ++ [UInt8.ofNat (48 + u % 10)] := by conv => lhs; unfold Lib.decDigits; rw [dif_neg h]
theorem u8_dig {d : Nat} (h : d < 10) : (UInt8.ofNat (48 + d)).toNat = 48 + d := by rw [UInt8.toNat_ofNat']; omega
theorem dec_pos (u : Nat) : 1 ≤ (Lib.decDigits u).length := by
  by_cases h : u < 10
  · rw [dec_small h]; exact Nat.le_refl _
  · rw [dec_step h, List.length_append]; show 1 ≤ _ + 1; omega
theorem num_dec (t : ByteArray) : ∀ f u, u < f → u ≤ 65535 → (∀ i b, (Lib.decDigits u)[i]? = some b → bt t i = b.toNat) → (Lib.decDigits u).length ≤ t.size → digB (bt t 0) = true ∧ numV t = numGo t u (Lib.decDigits u).length
  | 0, u, h, _, _, _ => by omega
  | f + 1, u, h, hu, hb, hl => by
    by_cases h10 : u < 10
    · have e := dec_small h10
      have h0 : bt t 0 = 48 + u := by rw [hb 0 _ (by rw [e]; rfl), u8_dig h10]
      refine ⟨digB_iff.2 (by omega), ?_⟩
      unfold numV
      rw [h0, e, Nat.add_sub_cancel_left]
      rfl
    · have e := dec_step h10
      have hz : (Lib.decDigits u).length = (Lib.decDigits (u / 10)).length + 1 := by rw [e, List.length_append]; rfl
      have ih := num_dec t f (u / 10) (by omega) (by omega) (fun i b hi => hb i b (by rw [e]; exact (List.getElem?_append_left (List.getElem?_eq_some_iff.1 hi).1).trans hi)) (by omega)
      have hd : bt t (Lib.decDigits (u / 10)).length = 48 + u % 10 := by rw [hb _ _ (by rw [e]; exact List.getElem?_concat_length), u8_dig (by omega)]
      refine ⟨ih.1, ?_⟩
      rw [ih.2, numGo_go (by omega) (by rw [hd]; exact digB_iff.2 (by omega)) (by omega) (by omega), hd, hz, show u / 10 * 10 + (48 + u % 10 - 48) = u by omega]
theorem q_num {n : Int} (h : clsB n = true) : OneQ (itoaB n) (tqC n) := by
  unfold clsB at h
  rw [Bool.and_eq_true] at h
  have h0 := of_decide_eq_true h.1
  have h1 := of_decide_eq_true h.2
  obtain ⟨u, rfl⟩ : ∃ u : Nat, n = u := ⟨n.toNat, by omega⟩
  have e : itoaB (u : Int) = ⟨(Lib.decDigits u).toArray⟩ := by
    unfold itoaB Lib.itoa
    rw [if_neg (by omega), Int.toNat_natCast]
  have hz : (itoaB (u : Int)).size = (Lib.decDigits u).length := by rw [e]; rfl
  have hp := dec_pos u
  have hd := num_dec (itoaB (u : Int)) (u + 1) u (Nat.lt_succ_self u) (by omega) (fun i b hi => by
    have hi2 := (List.getElem?_eq_some_iff.1 hi).1
    unfold bt
    rw [get_lt _ _ (by omega)]
    congr 1
    have h3 : (itoaB (u : Int)).data[i]? = some b := by rw [e]; rw [List.getElem?_toArray]; exact hi
    rw [Array.getElem?_eq_getElem (by show i < (itoaB (u : Int)).size; omega)] at h3
    exact Option.some.inj h3) (by omega)
  have hv : numV (itoaB (u : Int)) = (u, (itoaB (u : Int)).size) := by rw [hd.2, ← hz, numGo_stop (by omega)]
  have hs : ¬ smallB (bt (itoaB (u : Int)) 0) = true := by
    have := digB_iff.1 hd.1
    intro q
    have := smallB_iff.1 q
    omega
  refine ⟨⟨2, ByteArray.empty, 0, u, (itoaB (u : Int)).size, true⟩, ⟨by omega, ?_, rfl, rfl⟩, rfl⟩
  unfold wordV
  rw [if_neg hs, if_pos hd.1, hv]
  simp [edgeB]
theorem q_span {s : Int × Int} (h : spanK s = true) : OnesQ (spanW s) (spanQ s) := by
  unfold spanK at h
  rw [Bool.and_eq_true] at h
  unfold spanW spanQ
  split
  · exact ⟨q_rune h.1, trivial⟩
  · exact ⟨q_rune h.1, q_dots, q_rune h.2, trivial⟩
theorem q_spans {l : List (Int × Int)} (h : l.all spanK = true) : OnesQ (spansW l) (spansQ l) :=
  ⟨q_open, onesQ_app (onesQ_flat spanW spanQ l (fun x hx => q_span (List.all_eq_true.1 h x hx))) ⟨q_shut, trivial⟩⟩
theorem q_runes {l : List Int} (h : l.all okR = true) : OnesQ (l.map rtB) (l.map tqR) := by
  induction l with
  | nil => exact trivial
  | cons r l ih =>
    rw [List.all_cons, Bool.and_eq_true] at h
    exact ⟨q_rune h.1, ih h.2⟩
def runesX (x : Int × ByteArray) : Int × List Int := (x.1, runesL x.2)
theorem q_map {x : Int × ByteArray} {w : ByteArray} (hw : OneQ w (tqN w)) (h : mpK x = true) : OnesQ (mpW w x) (tqN w :: mapQ x.1 (runesL x.2)) := by
  unfold mpK at h
  rw [Bool.and_eq_true, Bool.and_eq_true] at h
  exact ⟨hw, q_rune h.2.1, q_asg, onesQ_app (q_runes h.2.2) ⟨q_semi, trivial⟩⟩
theorem valid_starts (s : ByteArray) : ∀ f i, Lib.validGoD f (s.data.toList.drop i) = true ↔ ∀ p ∈ startsFrom s f i, badB s p = false
  | 0, i => ⟨fun _ p hp => (by cases hp), fun _ => rfl⟩
  | f + 1, i => by
    have hl : (s.data.toList.drop i).length = s.size - i := by rw [List.length_drop, Array.length_toList]; rfl
    unfold Lib.validGoD
    by_cases hi : i < s.size
    · have hne : ¬ s.data.toList.drop i = [] := fun e => by rw [e] at hl; have : ([] : List UInt8).length = 0 := rfl; omega
      rw [if_neg hne, startsFrom_cons s f i hi, Lib.decodeL_drop, List.drop_drop]
      by_cases hb : rn s i = 65533 ∧ wd s i = 1
      · rw [if_pos hb]
        exact ⟨fun h => (by cases h), fun h => by have := h i (List.mem_cons_self ..); unfold badB at this; rw [decide_eq_true hb] at this; cases this⟩
      · rw [if_neg hb]
        have ih := valid_starts s f (i + wd s i)
        refine ih.trans ⟨fun h p hp => ?_, fun h p hp => h p (List.mem_cons_of_mem _ hp)⟩
        rcases List.mem_cons.1 hp with rfl | hp
        · unfold badB; exact decide_eq_false hb
        · exact h p hp
    · have hne : s.data.toList.drop i = [] := List.length_eq_zero_iff.1 (by omega)
      rw [if_pos hne, startsFrom_end s _ i hi]
      exact ⟨fun _ p hp => (by cases hp), fun _ => rfl⟩
theorem okTo_iff {s : ByteArray} : okTo s = true ↔ s.size ≠ 0 ∧ ∀ p ∈ starts s, badB s p = false := by
  unfold okTo
  rw [Bool.and_eq_true, decide_eq_true_iff]
  have h := valid_starts s s.size 0
  have e : Lib.validD s.data.toList = Lib.validGoD s.size (s.data.toList.drop 0) := rfl
  rw [e]
  exact ⟨fun q => ⟨q.1, h.1 q.2⟩, fun q => ⟨q.1, h.2 q.2⟩⟩
theorem okTo_back {s : ByteArray} (h : okTo s = true) : runesBytes (runesL s) = s := clean_valid s (okTo_iff.1 h).2
theorem okTo_some {s : ByteArray} (h : okTo s = true) : runesL s ≠ [] := by
  intro e
  have h1 := okTo_back h
  rw [e] at h1
  have h2 := (okTo_iff.1 h).1
  rw [← h1] at h2
  exact h2 rfl
def liS (l : List (Int × Int)) : List (List (Int × Int)) := if l.length = 0 then [] else [l]
def toksT (T : TV) : List Tq :=
  T.sc.flatMap scQ ++ ((liS T.co).flatMap coQ ++ (T.ma.flatMap maQ ++ (T.pr.flatMap prQ ++ ((T.fo.map runesX).flatMap foQ ++ ((T.lk.map runesX).flatMap lkQ ++ ((liS T.dr).flatMap drQ ++ (liS T.al).flatMap alQ))))))
theorem q_list {w : ByteArray} (hw : OneQ w (tqN w)) (g : List (Int × Int) → List Tq) (hg : ∀ l, g l = tqN w :: spansQ l) {l : List (Int × Int)} (h : l.all spanK = true) : OnesQ (liL w l).flatten ((liS l).flatMap g) := by
  unfold liL liS
  split
  · exact trivial
  · show OnesQ ([liW w l].flatten) ([l].flatMap g)
    rw [List.flatten_cons, List.flatten_nil, List.append_nil, List.flatMap_cons, List.flatMap_nil, List.append_nil, hg]
    exact ⟨hw, q_spans h⟩
theorem okT_parts {T : TV} (h : okT T = true) : T.sc.all scK = true ∧ T.co.all spanK = true ∧ T.ma.all maK = true ∧ T.pr.all prK = true ∧ T.fo.all mpK = true ∧ T.lk.all mpK = true ∧ T.dr.all spanK = true ∧ T.al.all spanK = true := by
  unfold okT at h
  simpa only [Bool.and_eq_true] using h
theorem q_table {T : TV} (h : okT T = true) : OnesQ (linesT T).flatten (toksT T) := by
  obtain ⟨h1, h2, h3, h4, h5, h6, h7, h8⟩ := okT_parts h
  unfold linesT toksT
  simp only [List.flatten_append, ← List.flatMap_def, List.flatMap_map]
  refine onesQ_app (onesQ_flat _ _ _ fun x hx => ?_) (onesQ_app (q_list q_common coQ (fun _ => rfl) h2) (onesQ_app (onesQ_flat _ _ _ fun x hx => ?_) (onesQ_app (onesQ_flat _ _ _ fun x hx => ?_) (onesQ_app (onesQ_flat _ _ _ fun x hx => ?_) (onesQ_app (onesQ_flat _ _ _ fun x hx => ?_) (onesQ_app (q_list q_drop drQ (fun _ => rfl) h7) (q_list q_allow alQ (fun _ => rfl) h8)))))))
  · have := List.all_eq_true.1 h1 x hx
    unfold scK at this
    rw [Bool.and_eq_true] at this
    exact ⟨q_script, q_name this.1, q_spans this.2⟩
  · have := List.all_eq_true.1 h3 x hx
    unfold maK at this
    rw [Bool.and_eq_true] at this
    exact ⟨q_mark, q_rune this.2, q_num this.1, q_semi, trivial⟩
  · have := List.all_eq_true.1 h4 x hx
    unfold prK at this
    rw [Bool.and_eq_true, Bool.and_eq_true] at this
    exact ⟨q_pair, q_rune this.1, q_asg, q_rune this.2.1, q_plus, q_rune this.2.2, q_semi, trivial⟩
  · exact q_map q_fold (List.all_eq_true.1 h5 x hx)
  · exact q_map q_look (List.all_eq_true.1 h6 x hx)
def lineP : List ByteArray → List (ByteArray × UInt8)
  | [] => []
  | [w] => [(w, 10)]
  | w :: u :: ws => (w, 32) :: lineP (u :: ws)
theorem lineP_fst : ∀ (ws : List ByteArray), (lineP ws).map Prod.fst = ws
  | [] => rfl
  | [w] => rfl
  | w :: u :: ws => by show w :: (lineP (u :: ws)).map Prod.fst = _; rw [lineP_fst (u :: ws)]
theorem lineP_blank : ∀ (ws : List ByteArray) (x : ByteArray × UInt8), x ∈ lineP ws → blankB x.2.toNat = true
  | [], x, h => by cases h
  | [w], x, h => by rw [List.mem_singleton.1 h]; rfl
  | w :: u :: ws, x, h => by
    rcases List.mem_cons.1 h with rfl | h
    · rfl
    · exact lineP_blank (u :: ws) x h
theorem lineP_text : ∀ (ws : List ByteArray) (w : ByteArray), w.data.toList ++ (wdL true ws ++ [10]) = (sepB (lineP (w :: ws))).data.toList
  | [], w => by
    show w.data.toList ++ [10] = (w ++ ((⟨#[10]⟩ : ByteArray) ++ ByteArray.empty)).data.toList
    simp
  | u :: ws, w => by
    show w.data.toList ++ ([32] ++ u.data.toList ++ wdL true ws ++ [10]) = (w ++ ((⟨#[32]⟩ : ByteArray) ++ sepB (lineP (u :: ws)))).data.toList
    have h := lineP_text ws u
    have e : (w ++ ((⟨#[32]⟩ : ByteArray) ++ sepB (lineP (u :: ws)))).data.toList = w.data.toList ++ ([32] ++ (sepB (lineP (u :: ws))).data.toList) := by simp
    rw [e, ← h]
    simp only [List.append_assoc]
theorem sepB_app : ∀ (a b : List (ByteArray × UInt8)), (sepB (a ++ b)).data.toList = (sepB a).data.toList ++ (sepB b).data.toList
  | [], b => by show (sepB b).data.toList = [] ++ _; rfl
  | x :: a, b => by
    show (x.1 ++ ((⟨#[x.2]⟩ : ByteArray) ++ sepB (a ++ b))).data.toList = (x.1 ++ ((⟨#[x.2]⟩ : ByteArray) ++ sepB a)).data.toList ++ _
    have := sepB_app a b
    simp only [ByteArray.data_append, Array.toList_append, this, List.append_assoc]
theorem lines_text : ∀ (ls : List (List ByteArray)), (∀ l ∈ ls, l ≠ []) → ls.flatMap lineB = (sepB (ls.flatMap lineP)).data.toList
  | [], _ => rfl
  | l :: ls, h => by
    rw [List.flatMap_cons, List.flatMap_cons, sepB_app, lines_text ls (fun x hx => h x (List.mem_cons_of_mem _ hx))]
    congr 1
    cases l with
    | nil => exact absurd rfl (h [] (List.mem_cons_self ..))
    | cons w ws =>
      rw [← lineP_text ws w]
      show [] ++ w.data.toList ++ wdL true ws ++ [10] = _
      simp only [List.nil_append, List.append_assoc]
theorem lines_some (T : TV) : ∀ l ∈ linesT T, l ≠ [] := by
  intro l h
  unfold linesT at h
  simp only [List.mem_append, List.mem_map] at h
  have hL : ∀ w x, l ∈ liL w x → l ≠ [] := by
    intro w x h
    unfold liL at h
    split at h
    · cases h
    · rw [List.mem_singleton.1 h]; exact List.cons_ne_nil _ _
  rcases h with ⟨x, _, rfl⟩ | h | ⟨x, _, rfl⟩ | ⟨x, _, rfl⟩ | ⟨x, _, rfl⟩ | ⟨x, _, rfl⟩ | h | h
  · exact List.cons_ne_nil _ _
  · exact hL _ _ h
  · exact List.cons_ne_nil _ _
  · exact List.cons_ne_nil _ _
  · exact List.cons_ne_nil _ _
  · exact List.cons_ne_nil _ _
  · exact hL _ _ h
  · exact hL _ _ h
def textT (T : TV) : ByteArray := sepB ((linesT T).flatMap lineP)
theorem textT_eq (T : TV) : (⟨((linesT T).flatMap lineB).toArray⟩ : ByteArray) = textT T := by
  unfold textT
  rw [lines_text _ (lines_some T)]
theorem textT_size (T : TV) : (textT T).size = ((linesT T).flatMap lineB).length := by rw [← textT_eq]; rfl
theorem ones_sep : ∀ (l : List (ByteArray × UInt8)) (qs : List Tq), (∀ x ∈ l, blankB x.2.toNat = true) → OnesQ (l.map Prod.fst) qs → ∃ vs, OnesL l vs ∧ vs.map qOf = qs
  | [], [], _, _ => ⟨[], trivial, rfl⟩
  | x :: l, q :: qs, hb, h => by
    obtain ⟨⟨v, h1, h2⟩, h3⟩ := h
    obtain ⟨vs, h4, h5⟩ := ones_sep l qs (fun y hy => hb y (List.mem_cons_of_mem _ hy)) h3
    exact ⟨v :: vs, ⟨h1, hb x (List.mem_cons_self ..), h4⟩, by rw [List.map_cons, h2, h5]⟩
  | [], q :: qs, _, h => h.elim
  | x :: l, [], _, h => h.elim
theorem has_self : ∀ (ws pre : List W8), Has (pre ++ ws) pre.length (ws.map stripW)
  | [], pre => trivial
  | x :: ws, pre => by
    refine ⟨⟨x, by rw [List.getElem?_append_right (Nat.le_refl _), Nat.sub_self]; rfl, rfl⟩, ?_⟩
    have := has_self ws (pre ++ [x])
    rw [List.append_assoc, List.length_append] at this
    exact this
theorem flat_fst : ∀ (ls : List (List ByteArray)), (ls.flatMap lineP).map Prod.fst = ls.flatten
  | [] => rfl
  | l :: ls => by rw [List.flatMap_cons, List.map_append, lineP_fst, flat_fst ls, List.flatten_cons]
theorem flat_ge {α : Type} (tk : α → List Tq) (h : ∀ x, 1 ≤ (tk x).length) : ∀ (l : List α), l.length ≤ (l.flatMap tk).length
  | [] => Nat.le_refl _
  | x :: l => by have := flat_ge tk h l; have := h x; rw [List.flatMap_cons, List.length_append, List.length_cons]; omega
theorem maps_back {l : List (Int × ByteArray)} (h : l.all mpK = true) : (l.map runesX).map (fun x => (x.1, runesBytes x.2)) = l ∧ ∀ x ∈ l.map runesX, x.2 ≠ [] := by
  have hm : ∀ x ∈ l, okTo x.2 = true := fun x hx => by
    have := List.all_eq_true.1 h x hx
    unfold mpK at this
    rw [Bool.and_eq_true] at this
    exact this.1
  constructor
  · rw [List.map_map]
    conv => rhs; rw [← List.map_id l]
    refine List.map_congr_left (fun x hx => ?_)
    show (x.1, runesBytes (runesL x.2)) = x
    rw [okTo_back (hm x hx)]
  · intro x hx
    obtain ⟨y, hy, rfl⟩ := List.mem_map.1 hx
    exact okTo_some (hm y hy)
theorem rules_end {ws : List W8} {eb el ec : Int} {T : TV} (f : Nat) : rulesGo ws eb el ec f ws.length none T = ⟨ws.length, none, T⟩ := by
  cases f with
  | zero => rfl
  | succ f =>
    unfold rulesGo
    rw [List.getElem?_eq_none (Nat.le_refl _)]
theorem print_text {T : TV} (h : okT T = true) (hl : (textT T).size ≤ 262144) : printV T = (textT T, 0) := by
  rw [print_ok h (by rw [← textT_size]; exact hl), textT_eq]
theorem print_three (T : TV) : (okT T = true ∧ (textT T).size ≤ 262144 ∧ printV T = (textT T, 0)) ∨ (okT T = true ∧ 262144 < (textT T).size ∧ printV T = (⟨#[]⟩, 3)) ∨ (okT T = false ∧ printV T = (⟨#[]⟩, 5)) := by
  cases h : okT T with
  | false => exact .inr (.inr ⟨rfl, print_bad h⟩)
  | true =>
    rcases Nat.lt_or_ge 262144 (textT T).size with q | q
    · exact .inr (.inl ⟨rfl, q, print_long h (by rw [← textT_size]; exact q)⟩)
    · exact .inl ⟨rfl, q, print_text h q⟩
end Go.Proofs.YtjgfmobmilgapaaGreatDoor
