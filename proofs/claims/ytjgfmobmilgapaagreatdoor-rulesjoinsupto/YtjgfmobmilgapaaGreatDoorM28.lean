/- Texts of this claim, one behind the other. -/
import Derived.Test.YtjgfmobmilgapaaGreatDoorM27
import Derived.Lib.ItoaLen
/- What was read can be printed. Plain mathematics. -/
namespace Go.Proofs.YtjgfmobmilgapaaGreatDoor
open Go.RowKit Go.Shelf
set_option linter.unusedVariables false
theorem wd_rune {t : ByteArray} (ho : (wordV t).ok = true) (hk : (wordV t).kind = 3) : widthOf ((wordV t).R : Int) ≠ 0 := by
  unfold wordV at ho hk ⊢
  split at hk
  · cases hk
  · rename_i hs
    rw [if_neg hs] at ho ⊢
    split at hk
    · cases hk
    · rename_i hd
      rw [if_neg hd] at ho ⊢
      split at hk
      · rename_i hu
        rw [if_pos hu] at ho ⊢
        have ho2 : (numdV t).2.2 = true := ((Bool.and_eq_true _ _).mp ho).1
        show widthOf (((numdV t).1 : Nat) : Int) ≠ 0
        unfold numdV at ho2 ⊢
        split at ho2
        · cases ho2
        · rename_i h1
          rw [if_neg h1]
          split at ho2
          · cases ho2
          · rename_i h6
            rw [if_neg h6]
            exact fun e => h6 (.inr e)
      · rename_i hu
        rw [if_neg hu] at ho ⊢
        split at hk
        · rename_i hq
          rw [if_pos hq] at ho ⊢
          have ho2 : (quoV t).2.2 = true := ho
          show widthOf (((quoV t).1 : Nat) : Int) ≠ 0
          unfold quoV at ho2 ⊢
          repeat' split at ho2
          all_goals first | (cases ho2; done) | skip
          rename_i h1 h2 h3 h4 h5
          rw [if_neg h1, if_neg h2, if_neg h3, if_neg h4, if_pos h5]
          exact rn_rune _ _
        · exfalso
          have : (sgnV t).1 = 3 := hk
          unfold sgnV at this
          repeat' split at this
          all_goals cases this
theorem wd_num {t : ByteArray} (h0 : 0 < t.size) (hk : (wordV t).kind = 2) : (wordV t).N ≤ 65535 := by
  unfold wordV at hk ⊢
  split at hk
  · cases hk
  · rename_i hs
    rw [if_neg hs]
    split at hk
    · rename_i hd
      rw [if_pos hd]
      have := digB_iff.1 hd
      exact (numGo_le t t.size (bt t 0 - 48) 1 (by omega) (by omega)).2.2 (by omega)
    · rename_i hd
      rw [if_neg hd]
      split at hk
      · cases hk
      · rename_i hu
        rw [if_neg hu]
        split at hk
        · cases hk
        · rename_i hq
          rw [if_neg hq]
          show 0 ≤ 65535
          omega
theorem wd_name {t : ByteArray} (h0 : 0 < t.size) (ho : (wordV t).ok = true) (hk : (wordV t).kind = 1) : legalB (wordV t).S = true := by
  have hs := wordV_one hk
  have hv := wordV_small hs
  have hle := wordV_le t h0
  have hn := hle.2 ho
  rw [hv] at hn hle
  have hn' : 1 ≤ nameLen t := hn
  have hle' : nameLen t ≤ t.size := hle.1
  have hsz : (t.extract 0 (nameLen t)).size = nameLen t := by rw [ByteArray.size_extract]; omega
  have hbt : ∀ i, i < nameLen t → bt (t.extract 0 (nameLen t)) i = bt t i := fun i hi => by unfold bt; rw [get_extract _ _ _ _ (by omega) hle', Nat.zero_add]
  have hl := word_local (u := t.extract 0 (nameLen t)) h0 ho (by rw [hv, hsz]; exact Nat.le_refl _) (fun i hi => by rw [hv] at hi; exact hbt i hi) (fun _ => .inl (by rw [hv, hsz]))
  have hs2 : smallB (bt (t.extract 0 (nameLen t)) 0) = true := by rw [hbt 0 hn']; exact hs
  rw [wordV_small hs2, hv] at hl
  have e : nameLen (t.extract 0 (nameLen t)) = nameLen t := (WV.mk.inj hl).2.2.2.2.1
  rw [hv]
  show legalB (t.extract 0 (nameLen t)) = true
  unfold legalB
  rw [decide_eq_true_iff, e, hsz]
  exact ⟨hn', rfl⟩
structure GoodW (x : W8) : Prop where
  r : x.k = 3 → okR x.r = true
  s : x.k = 1 → legalB x.S = true
  n : x.k = 2 → clsB x.n = true
theorem ws_good {s : ByteArray} (hok : (wordsV s).ok = true) : ∀ x ∈ wsOf s, GoodW x := by
  intro x hx
  cases hp : posV s with
  | none => rw [words_none hp] at hok; cases hok
  | some ps =>
    have hw := (words_pos hp).2
    unfold wsOf at hx
    rw [hw, List.map_map] at hx
    obtain ⟨q, hq, rfl⟩ := List.mem_map.1 hx
    have hm := cutP_mem s _ 0 ps (Nat.zero_le _) hp q hq
    have h0 : 0 < (rst s q).size := by rw [rst_size]; omega
    generalize hv : rst s q = t at *
    have e : (w8 ∘ mkW s) q = ⟨((wordV t).kind : Nat), (wordV t).S, ((wordV t).R : Nat), ((wordV t).N : Nat), (q : Nat), ((lcAt s q).1 : Nat), ((lcAt s q).2 : Nat), ((q + (wordV t).n : Nat) : Int)⟩ := by
      show w8 (mkW s q) = _
      unfold w8 mkW
      rw [hv]
    rw [e]
    refine ⟨fun h => ?_, fun h => ?_, fun h => ?_⟩
    · exact okR_width.2 (wd_rune hm.2 (by have : (((wordV t).kind : Nat) : Int) = 3 := h; omega))
    · exact wd_name h0 hm.2 (by have : (((wordV t).kind : Nat) : Int) = 1 := h; omega)
    · have := wd_num h0 (by have : (((wordV t).kind : Nat) : Int) = 2 := h; omega)
      show clsB (((wordV t).N : Nat) : Int) = true
      unfold clsB
      rw [decide_eq_true (by omega), decide_eq_true (by omega)]
      rfl
def wsz : List ByteArray → Nat
  | [] => 0
  | w :: l => w.size + 1 + wsz l
theorem wsz_app : ∀ (a b : List ByteArray), wsz (a ++ b) = wsz a + wsz b
  | [], b => by show wsz b = 0 + wsz b; omega
  | w :: a, b => by show w.size + 1 + wsz (a ++ b) = w.size + 1 + wsz a + wsz b; rw [wsz_app a b]; omega
theorem sepB_size : ∀ (l : List (ByteArray × UInt8)), (sepB l).size = wsz (l.map Prod.fst)
  | [] => rfl
  | x :: l => by
    show (x.1 ++ ((⟨#[x.2]⟩ : ByteArray) ++ sepB l)).size = x.1.size + 1 + wsz (l.map Prod.fst)
    rw [ByteArray.size_append, ByteArray.size_append, sepB_size l]
    show x.1.size + (1 + _) = _
    omega
theorem textT_wsz (T : TV) : (textT T).size = wsz (linesT T).flatten := by unfold textT; rw [sepB_size, flat_fst]
theorem rtB_size (r : Int) : (rtB r).size ≤ 14 := by
  unfold rtB textV
  split
  · show 0 ≤ 14; omega
  · rename_i hw
    have hb := width_bound r hw
    split
    · have := enc_size hw
      show (⟨#[39]⟩ ++ Utf8.encode r ++ ⟨#[39]⟩ : ByteArray).size ≤ 14
      rw [ByteArray.size_append, ByteArray.size_append]
      show 1 + _ + 1 ≤ 14
      omega
    · have h1 := upS_size r.toNat (by omega)
      have h2 := rep_size (4 - (upS r.toNat).size) (by omega)
      show (⟨#[85, 43]⟩ ++ ⟨(Lib.repeatL [48] (4 - (upS r.toNat).size)).toArray⟩ ++ upS r.toNat : ByteArray).size ≤ 14
      rw [ByteArray.size_append, ByteArray.size_append, h2]
      show 2 + _ + _ ≤ 14
      omega
theorem itoaB_cls {n : Int} (h : clsB n = true) : (itoaB n).size ≤ 21 := by
  unfold clsB at h
  rw [Bool.and_eq_true] at h
  have h0 := of_decide_eq_true h.1
  have h1 := of_decide_eq_true h.2
  exact Lib.itoa_length_le n (by omega) (by omega)
theorem legalB_small {s : ByteArray} (h : legalB s = true) : s.size ≤ 32 := by
  have h1 := of_decide_eq_true h
  have := nameLen_le s
  omega
theorem take_inv {ws : List W8} {k : Nat} {bad : Option Rf} {eb el ec kind : Int} (h : (takeV ws k bad eb el ec kind).bad = none) : bad = none ∧ ∃ x, ws[k]? = some x ∧ x.k = kind ∧ takeV ws k bad eb el ec kind = ⟨x, k + 1, none⟩ := by
  cases hs : seesB ws k bad kind with
  | false =>
    unfold takeV at h
    rw [hs] at h
    cases hw : ws[k]? <;> (rw [hw] at h; cases h)
  | true =>
    obtain ⟨x, hx, _, hb⟩ := seesB_some hs
    subst hb
    refine ⟨rfl, x, hx, ?_, ?_⟩
    · unfold seesB at hs; rw [hx] at hs; simpa using hs
    · unfold takeV; rw [hs, hx]
theorem span_inv {ws : List W8} {k : Nat} {bad : Option Rf} {eb el ec : Int} (hg : ∀ x ∈ ws, GoodW x) (h : (spanV ws k bad eb el ec).bad = none) :
    bad = none ∧ spanK ((spanV ws k bad eb el ec).lo, (spanV ws k bad eb el ec).hi) = true ∧ wsz (spanW ((spanV ws k bad eb el ec).lo, (spanV ws k bad eb el ec).hi)) + 15 * k ≤ 15 * (spanV ws k bad eb el ec).k := by
  unfold spanV at h ⊢
  dsimp only at h ⊢
  by_cases hs : seesB ws (takeV ws k bad eb el ec 3).k (takeV ws k bad eb el ec 3).bad 9 = true
  · rw [if_pos hs] at h ⊢
    dsimp only at h ⊢
    obtain ⟨h1, z, hz, zk, ez⟩ := take_inv h
    obtain ⟨h2, y, hy, yk, ey⟩ := take_inv h1
    obtain ⟨h3, x, hx, xk, ex⟩ := take_inv h2
    rw [ez, ey, ex]
    dsimp only
    rw [ey] at hz
    rw [ex] at hz
    dsimp only at hz
    have g1 := (hg x (List.mem_of_getElem? hx)).r xk
    have g2 := (hg z (List.mem_of_getElem? hz)).r zk
    refine ⟨h3, by unfold spanK; rw [g1, g2]; rfl, ?_⟩
    have s1 := rtB_size x.r
    have s2 := rtB_size z.r
    unfold spanW
    split
    · show (rtB x.r).size + 1 + 0 + _ ≤ _
      omega
    · show (rtB x.r).size + 1 + (2 + 1 + ((rtB z.r).size + 1 + 0)) + _ ≤ _
      omega
  · rw [if_neg hs] at h ⊢
    dsimp only at h ⊢
    obtain ⟨h3, x, hx, xk, ex⟩ := take_inv h
    rw [ex]
    dsimp only
    have g1 := (hg x (List.mem_of_getElem? hx)).r xk
    refine ⟨h3, by unfold spanK; rw [g1]; rfl, ?_⟩
    have s1 := rtB_size x.r
    unfold spanW
    rw [if_pos rfl]
    show (rtB x.r).size + 1 + 0 + _ ≤ _
    omega
theorem spansGo_inv {ws : List W8} {eb el ec : Int} (hg : ∀ x ∈ ws, GoodW x) : ∀ (f k : Nat) (bad : Option Rf), (spansGo ws eb el ec f k bad).bad = none → bad = none ∧ (spansGo ws eb el ec f k bad).ss.all spanK = true ∧ wsz ((spansGo ws eb el ec f k bad).ss.flatMap spanW) + 15 * k ≤ 15 * (spansGo ws eb el ec f k bad).k
  | 0, k, bad, h => ⟨h, rfl, by show 0 + _ ≤ _; exact Nat.le_of_eq (Nat.zero_add _)⟩
  | f + 1, k, bad, h => by
    unfold spansGo at h ⊢
    by_cases hs : seesB ws k bad 3 = true
    · rw [if_pos hs] at h ⊢
      dsimp only at h ⊢
      obtain ⟨h1, h2, h3⟩ := spansGo_inv hg f _ _ h
      obtain ⟨h4, h5, h6⟩ := span_inv hg h1
      refine ⟨h4, by rw [List.all_cons, h5, h2]; rfl, ?_⟩
      rw [List.flatMap_cons, wsz_app]
      omega
    · rw [if_neg hs] at h ⊢
      exact ⟨h, rfl, by show 0 + _ ≤ _; exact Nat.le_of_eq (Nat.zero_add _)⟩
theorem spansV_inv {ws : List W8} {k : Nat} {bad : Option Rf} {eb el ec : Int} (hg : ∀ x ∈ ws, GoodW x) (h : (spansV ws k bad eb el ec).bad = none) :
    bad = none ∧ (spansV ws k bad eb el ec).ss.all spanK = true ∧ wsz ((spansV ws k bad eb el ec).ss.flatMap spanW) + 15 * k + 30 ≤ 15 * (spansV ws k bad eb el ec).k := by
  unfold spansV at h ⊢
  dsimp only at h ⊢
  obtain ⟨h1, z, hz, zk, ez⟩ := take_inv h
  obtain ⟨h2, h3, h4⟩ := spansGo_inv hg _ _ _ h1
  obtain ⟨h5, x, hx, xk, ex⟩ := take_inv h2
  refine ⟨h5, h3, ?_⟩
  rw [ez]
  dsimp only
  have : (takeV ws k bad eb el ec 4).k = k + 1 := by rw [ex]
  omega
theorem mapGo_inv {ws : List W8} {eb el ec : Int} (hg : ∀ x ∈ ws, GoodW x) : ∀ (f k : Nat) (bad : Option Rf), (mapGo ws eb el ec f k bad).bad = none → bad = none ∧ (mapGo ws eb el ec f k bad).l.all okR = true ∧ (mapGo ws eb el ec f k bad).l.length + k = (mapGo ws eb el ec f k bad).k
  | 0, k, bad, h => ⟨h, rfl, by show 0 + k = k; omega⟩
  | f + 1, k, bad, h => by
    unfold mapGo at h ⊢
    by_cases hs : seesB ws k bad 3 = true
    · rw [if_pos hs] at h ⊢
      dsimp only at h ⊢
      obtain ⟨h1, h2, h3⟩ := mapGo_inv hg f _ _ h
      obtain ⟨h4, x, hx, xk, ex⟩ := take_inv h1
      have g1 := (hg x (List.mem_of_getElem? hx)).r xk
      have e1 : (takeV ws k bad eb el ec 3).k = k + 1 := by rw [ex]
      have e2 : (takeV ws k bad eb el ec 3).x = x := by rw [ex]
      refine ⟨h4, by rw [List.all_cons, e2, g1, h2]; rfl, ?_⟩
      rw [List.length_cons]
      omega
    · rw [if_neg hs] at h ⊢
      exact ⟨h, rfl, by show 0 + k = k; omega⟩
theorem mapV_inv {ws : List W8} {k : Nat} {bad : Option Rf} {eb el ec : Int} (hg : ∀ x ∈ ws, GoodW x) (h : (mapV ws k bad eb el ec).bad = none) :
    bad = none ∧ okR (mapV ws k bad eb el ec).fr = true ∧ (mapV ws k bad eb el ec).tw.all okR = true ∧ (mapV ws k bad eb el ec).tw ≠ [] ∧ (mapV ws k bad eb el ec).tw.length + 3 + k = (mapV ws k bad eb el ec).k := by
  unfold mapV at h ⊢
  dsimp only at h ⊢
  obtain ⟨h1, z, hz, zk, ez⟩ := take_inv h
  obtain ⟨h2, h3, h4⟩ := mapGo_inv hg _ _ _ h1
  obtain ⟨h5, y, hy, yk, ey⟩ := take_inv h2
  obtain ⟨h6, u, hu, uk, eu⟩ := take_inv h5
  obtain ⟨h7, x, hx, xk, ex⟩ := take_inv h6
  have e1 : (takeV ws k bad eb el ec 3).k = k + 1 := by rw [ex]
  have e2 : (takeV ws k bad eb el ec 3).x = x := by rw [ex]
  have e3 : (takeV ws (takeV ws k bad eb el ec 3).k (takeV ws k bad eb el ec 3).bad eb el ec 7).k = k + 1 + 1 := by rw [eu, e1]
  generalize takeV ws (takeV ws k bad eb el ec 3).k (takeV ws k bad eb el ec 3).bad eb el ec 7 = B at *
  have e4 : (takeV ws B.k B.bad eb el ec 3).k = B.k + 1 := by rw [ey]
  have e5 : (takeV ws B.k B.bad eb el ec 3).x = y := by rw [ey]
  have g1 := (hg x (List.mem_of_getElem? hx)).r xk
  have g2 := (hg y (List.mem_of_getElem? hy)).r yk
  refine ⟨h7, by rw [e2]; exact g1, by rw [List.all_cons, e5, g2, h3]; rfl, List.cons_ne_nil _ _, ?_⟩
  rw [List.length_cons, ez]
  dsimp only
  omega
theorem map_good {a : Int} {l : List Int} (ha : okR a = true) (hl : l.all okR = true) (hn : l ≠ []) : mpK (a, runesBytes l) = true ∧ ∀ w, wsz (mpW w (a, runesBytes l)) ≤ w.size + 20 + 15 * l.length := by
  have hw : ∀ z ∈ l, widthOf z ≠ 0 := fun z hz => okR_width.1 (List.all_eq_true.1 hl z hz)
  obtain ⟨h1, h2⟩ := runes_back l hw
  have h3 : okTo (runesBytes l) = true := okTo_iff.2 ⟨fun e => hn (by
    rw [← h1]
    have : runesBytes l = ByteArray.empty := toList_nil _ e
    rw [this]
    rfl), h2⟩
  refine ⟨by unfold mpK; rw [h3, ha, h1, hl]; rfl, fun w => ?_⟩
  unfold mpW
  rw [h1]
  have hr := rtB_size a
  have key : ∀ l : List Int, wsz (l.map rtB) ≤ 15 * l.length := fun l => by
    induction l with
    | nil => exact Nat.le_refl _
    | cons r l ih => have := rtB_size r; show (rtB r).size + 1 + wsz (l.map rtB) ≤ 15 * (l.length + 1); omega
  show w.size + 1 + ((rtB a).size + 1 + (1 + 1 + wsz (l.map rtB ++ [⟨#[59]⟩]))) ≤ _
  rw [wsz_app]
  have := key l
  show w.size + 1 + ((rtB a).size + 1 + (1 + 1 + (wsz (l.map rtB) + (1 + 1 + 0)))) ≤ _
  omega
def c0T (T : TV) : Nat := wsz (T.sc.flatMap scW) + wsz (T.co.flatMap spanW) + wsz (T.ma.flatMap maW) + wsz (T.pr.flatMap prW) + wsz (T.fo.flatMap (mpW ⟨#[102, 111, 108, 100]⟩)) + wsz (T.lk.flatMap (mpW ⟨#[108, 111, 111, 107]⟩)) + wsz (T.dr.flatMap spanW) + wsz (T.al.flatMap spanW)
theorem liL_wsz (w : ByteArray) (l : List (Int × Int)) : wsz (liL w l).flatten ≤ wsz (l.flatMap spanW) + w.size + 5 := by
  unfold liL
  split
  · show 0 ≤ _; omega
  · show wsz ([liW w l].flatten) ≤ _
    rw [List.flatten_cons, List.flatten_nil, List.append_nil]
    show w.size + 1 + (1 + 1 + wsz (l.flatMap spanW ++ [⟨#[125]⟩])) ≤ _
    rw [wsz_app]
    show w.size + 1 + (1 + 1 + (wsz (l.flatMap spanW) + (1 + 1 + 0))) ≤ _
    omega
theorem text_c0 (T : TV) : (textT T).size ≤ c0T T + 33 := by
  rw [textT_wsz]
  unfold linesT c0T
  simp only [List.flatten_append, ← List.flatMap_def, wsz_app]
  have h1 := liL_wsz ⟨#[99, 111, 109, 109, 111, 110]⟩ T.co
  have h2 := liL_wsz ⟨#[100, 114, 111, 112]⟩ T.dr
  have h3 := liL_wsz ⟨#[97, 108, 108, 111, 119]⟩ T.al
  have e1 : (⟨#[99, 111, 109, 109, 111, 110]⟩ : ByteArray).size = 6 := rfl
  have e2 : (⟨#[100, 114, 111, 112]⟩ : ByteArray).size = 4 := rfl
  have e3 : (⟨#[97, 108, 108, 111, 119]⟩ : ByteArray).size = 5 := rfl
  omega
theorem okT_of {T : TV} (h1 : T.sc.all scK = true) (h2 : T.co.all spanK = true) (h3 : T.ma.all maK = true) (h4 : T.pr.all prK = true) (h5 : T.fo.all mpK = true) (h6 : T.lk.all mpK = true) (h7 : T.dr.all spanK = true) (h8 : T.al.all spanK = true) : okT T = true := by
  unfold okT
  rw [h1, h2, h3, h4, h5, h6, h7, h8]
  rfl
theorem rule_inv {ws : List W8} {eb el ec : Int} {k : Nat} {x : W8} {T : TV} (hg : ∀ x ∈ ws, GoodW x) (hk : okT T = true) (hc : c0T T ≤ 15 * k) (h : (ruleV ws eb el ec k x T).bad = none) : okT (ruleV ws eb el ec k x T).T = true ∧ c0T (ruleV ws eb el ec k x T).T ≤ 15 * (ruleV ws eb el ec k x T).k := by
  obtain ⟨o1, o2, o3, o4, o5, o6, o7, o8⟩ := okT_parts hk
  unfold c0T at hc
  have h8 := ruleNo_le x.S
  unfold ruleV at h ⊢
  generalize ruleNo x.S = n at *
  rcases (by omega : n = 0 ∨ n = 1 ∨ n = 2 ∨ n = 3 ∨ n = 4 ∨ n = 5 ∨ n = 6 ∨ n = 7 ∨ n = 8) with rfl | rfl | rfl | rfl | rfl | rfl | rfl | rfl | rfl
  · cases h
  · simp only [ruleAt] at h ⊢
    unfold scriptV at h ⊢
    dsimp only at h ⊢
    obtain ⟨h1, h2, h3⟩ := spansV_inv hg h
    obtain ⟨h4, y, hy, yk, ey⟩ := take_inv h1
    have e1 : (takeV ws (k + 1) none eb el ec 1).k = k + 2 := by rw [ey]
    have e2 : (takeV ws (k + 1) none eb el ec 1).x = y := by rw [ey]
    have g1 := (hg y (List.mem_of_getElem? hy)).s yk
    have g2 := legalB_small g1
    generalize spansV ws (takeV ws (k + 1) none eb el ec 1).k (takeV ws (k + 1) none eb el ec 1).bad eb el ec = V at *
    rw [e2]
    refine ⟨okT_of (by rw [List.all_append, o1]; show (true && ((legalB y.S && V.ss.all spanK) && true)) = true; rw [g1, h2]; rfl) o2 o3 o4 o5 o6 o7 o8, ?_⟩
    unfold c0T
    dsimp only
    rw [List.flatMap_append, wsz_app]
    have : wsz ([(y.S, V.ss)].flatMap scW) ≤ 44 + wsz (V.ss.flatMap spanW) := by
      rw [List.flatMap_cons, List.flatMap_nil, List.append_nil]
      show 6 + 1 + (y.S.size + 1 + (1 + 1 + wsz (V.ss.flatMap spanW ++ [⟨#[125]⟩]))) ≤ _
      rw [wsz_app]
      show 6 + 1 + (y.S.size + 1 + (1 + 1 + (wsz (V.ss.flatMap spanW) + (1 + 1 + 0)))) ≤ _
      omega
    omega
  · simp only [ruleAt] at h ⊢
    obtain ⟨h1, h2, h3⟩ := spansV_inv hg h
    generalize spansV ws (k + 1) none eb el ec = V at *
    refine ⟨okT_of o1 (by rw [List.all_append, o2, h2]; rfl) o3 o4 o5 o6 o7 o8, ?_⟩
    unfold c0T
    dsimp only
    rw [List.flatMap_append, wsz_app]
    omega
  · simp only [ruleAt] at h ⊢
    unfold markV at h ⊢
    dsimp only at h ⊢
    obtain ⟨h1, z, hz, zk, ez⟩ := take_inv h
    obtain ⟨h2, u, hu, uk, eu⟩ := take_inv h1
    obtain ⟨h4, y, hy, yk, ey⟩ := take_inv h2
    have e1 : (takeV ws (k + 1) none eb el ec 3).k = k + 2 := by rw [ey]
    have e2 : (takeV ws (k + 1) none eb el ec 3).x = y := by rw [ey]
    generalize takeV ws (k + 1) none eb el ec 3 = A at *
    have e3 : (takeV ws A.k A.bad eb el ec 2).k = A.k + 1 := by rw [eu]
    have e4 : (takeV ws A.k A.bad eb el ec 2).x = u := by rw [eu]
    generalize takeV ws A.k A.bad eb el ec 2 = B at *
    have e5 : (takeV ws B.k B.bad eb el ec 6).k = B.k + 1 := by rw [ez]
    generalize takeV ws B.k B.bad eb el ec 6 = C at *
    have g1 := (hg y (List.mem_of_getElem? hy)).r yk
    have g2 := (hg u (List.mem_of_getElem? hu)).n uk
    have g3 := itoaB_cls g2
    have g4 := rtB_size y.r
    rw [e2, e4]
    refine ⟨okT_of o1 o2 (by rw [List.all_append, o3]; show (true && ((clsB u.n && okR y.r) && true)) = true; rw [g1, g2]; rfl) o4 o5 o6 o7 o8, ?_⟩
    unfold c0T
    dsimp only
    rw [List.flatMap_append, wsz_app]
    have : wsz ([(y.r, u.n)].flatMap maW) ≤ 44 := by
      show 4 + 1 + ((rtB y.r).size + 1 + ((itoaB u.n).size + 1 + (1 + 1 + 0))) ≤ _
      omega
    omega
  · simp only [ruleAt] at h ⊢
    unfold pairV at h ⊢
    dsimp only at h ⊢
    obtain ⟨h1, z, hz, zk, ez⟩ := take_inv h
    obtain ⟨h2, u, hu, uk, eu⟩ := take_inv h1
    obtain ⟨h3, v, hv, vk, ev⟩ := take_inv h2
    obtain ⟨h5, p, hp, pk, ep⟩ := take_inv h3
    obtain ⟨h6, q, hq, qk, eq⟩ := take_inv h5
    obtain ⟨h4, y, hy, yk, ey⟩ := take_inv h6
    have e1 : (takeV ws (k + 1) none eb el ec 3).k = k + 2 := by rw [ey]
    have e2 : (takeV ws (k + 1) none eb el ec 3).x = y := by rw [ey]
    generalize takeV ws (k + 1) none eb el ec 3 = A at *
    have e3 : (takeV ws A.k A.bad eb el ec 7).k = A.k + 1 := by rw [eq]
    generalize takeV ws A.k A.bad eb el ec 7 = B at *
    have e5 : (takeV ws B.k B.bad eb el ec 3).k = B.k + 1 := by rw [ep]
    have e6 : (takeV ws B.k B.bad eb el ec 3).x = p := by rw [ep]
    generalize takeV ws B.k B.bad eb el ec 3 = C at *
    have e7 : (takeV ws C.k C.bad eb el ec 8).k = C.k + 1 := by rw [ev]
    generalize takeV ws C.k C.bad eb el ec 8 = D at *
    have e8 : (takeV ws D.k D.bad eb el ec 3).k = D.k + 1 := by rw [eu]
    have e9 : (takeV ws D.k D.bad eb el ec 3).x = u := by rw [eu]
    generalize takeV ws D.k D.bad eb el ec 3 = E at *
    have e10 : (takeV ws E.k E.bad eb el ec 6).k = E.k + 1 := by rw [ez]
    generalize takeV ws E.k E.bad eb el ec 6 = F at *
    have g1 := (hg y (List.mem_of_getElem? hy)).r yk
    have g2 := (hg p (List.mem_of_getElem? hp)).r pk
    have g3 := (hg u (List.mem_of_getElem? hu)).r uk
    have g4 := rtB_size y.r
    have g5 := rtB_size p.r
    have g6 := rtB_size u.r
    rw [e2, e6, e9]
    refine ⟨okT_of o1 o2 o3 (by rw [List.all_append, o4]; show (true && ((okR y.r && (okR p.r && okR u.r)) && true)) = true; rw [g1, g2, g3]; rfl) o5 o6 o7 o8, ?_⟩
    unfold c0T
    dsimp only
    rw [List.flatMap_append, wsz_app]
    have : wsz ([(y.r, p.r, u.r)].flatMap prW) ≤ 90 := by
      show 4 + 1 + ((rtB y.r).size + 1 + (1 + 1 + ((rtB p.r).size + 1 + (1 + 1 + ((rtB u.r).size + 1 + (1 + 1 + 0)))))) ≤ _
      omega
    omega
  · simp only [ruleAt] at h ⊢
    obtain ⟨h1, h2, h3, h4, h5⟩ := mapV_inv hg h
    generalize mapV ws (k + 1) none eb el ec = V at *
    obtain ⟨m1, m2⟩ := map_good h2 h3 h4
    have m3 := m2 ⟨#[102, 111, 108, 100]⟩
    have e1 : (⟨#[102, 111, 108, 100]⟩ : ByteArray).size = 4 := rfl
    refine ⟨okT_of o1 o2 o3 o4 (by rw [List.all_append, o5]; show (true && (mpK (V.fr, runesBytes V.tw) && true)) = true; rw [m1]; rfl) o6 o7 o8, ?_⟩
    unfold c0T
    dsimp only
    rw [List.flatMap_append, wsz_app, List.flatMap_cons, List.flatMap_nil, List.append_nil]
    omega
  · simp only [ruleAt] at h ⊢
    obtain ⟨h1, h2, h3, h4, h5⟩ := mapV_inv hg h
    generalize mapV ws (k + 1) none eb el ec = V at *
    obtain ⟨m1, m2⟩ := map_good h2 h3 h4
    have m3 := m2 ⟨#[108, 111, 111, 107]⟩
    have e1 : (⟨#[108, 111, 111, 107]⟩ : ByteArray).size = 4 := rfl
    refine ⟨okT_of o1 o2 o3 o4 o5 (by rw [List.all_append, o6]; show (true && (mpK (V.fr, runesBytes V.tw) && true)) = true; rw [m1]; rfl) o7 o8, ?_⟩
    unfold c0T
    dsimp only
    rw [List.flatMap_append, wsz_app, List.flatMap_cons, List.flatMap_nil, List.append_nil]
    omega
  · simp only [ruleAt] at h ⊢
    obtain ⟨h1, h2, h3⟩ := spansV_inv hg h
    generalize spansV ws (k + 1) none eb el ec = V at *
    refine ⟨okT_of o1 o2 o3 o4 o5 o6 (by rw [List.all_append, o7, h2]; rfl) o8, ?_⟩
    unfold c0T
    dsimp only
    rw [List.flatMap_append, wsz_app]
    omega
  · simp only [ruleAt] at h ⊢
    obtain ⟨h1, h2, h3⟩ := spansV_inv hg h
    generalize spansV ws (k + 1) none eb el ec = V at *
    refine ⟨okT_of o1 o2 o3 o4 o5 o6 o7 (by rw [List.all_append, o8, h2]; rfl), ?_⟩
    unfold c0T
    dsimp only
    rw [List.flatMap_append, wsz_app]
    omega
theorem rulesGo_some (ws : List W8) (eb el ec : Int) (r : Rf) : ∀ f k T, (rulesGo ws eb el ec f k (some r) T).bad = some r
  | 0, k, T => rfl
  | f + 1, k, T => by unfold rulesGo; rfl
theorem le_mono {T : TV} {a b : Nat} (h : T.Le a) (hab : a ≤ b) : T.Le b := by
  obtain ⟨a1, a2, a3, a4, a5, a6, a7, a8, b1, b2, b3, b4, b5, b6, b7, b8⟩ := h
  exact ⟨by omega, by omega, by omega, by omega, by omega, by omega, by omega, by omega, by omega, by omega, by omega, by omega, by omega, by omega, by omega, by omega⟩
theorem rulesGo_inv {ws : List W8} {eb el ec : Int} (hg : ∀ x ∈ ws, GoodW x) : ∀ (f k : Nat) (bad : Option Rf) (T : TV), okT T = true → c0T T ≤ 15 * k → k ≤ ws.length → T.Le k → (rulesGo ws eb el ec f k bad T).bad = none → okT (rulesGo ws eb el ec f k bad T).T = true ∧ c0T (rulesGo ws eb el ec f k bad T).T ≤ 15 * ws.length ∧ (rulesGo ws eb el ec f k bad T).T.Le ws.length
  | 0, k, bad, T, h1, h2, h3, h4, h => ⟨h1, by show c0T T ≤ _; omega, le_mono h4 h3⟩
  | f + 1, k, bad, T, h1, h2, h3, h4, h => by
    cases bad with
    | some r => rw [rulesGo_some] at h; cases h
    | none =>
      cases hx : ws[k]? with
      | none =>
        unfold rulesGo
        rw [hx]
        exact ⟨h1, by show c0T T ≤ _; omega, le_mono h4 h3⟩
      | some x =>
        have e : rulesGo ws eb el ec (f + 1) k none T = rulesGo ws eb el ec f (ruleV ws eb el ec k x T).k (ruleV ws eb el ec k x T).bad (ruleV ws eb el ec k x T).T := by
          conv => lhs; unfold rulesGo
          rw [hx]
        rw [e] at h ⊢
        by_cases hr : ruleNo x.S = 0
        · have er : ruleV ws eb el ec k x T = ⟨k, some (refV ws k eb el ec), T⟩ := by unfold ruleV; rw [hr]; rfl
          rw [er] at h
          rw [rulesGo_some] at h
          cases h
        · have hl := ruleV_le ws eb el ec k x hx T h4 hr
          cases hb : (ruleV ws eb el ec k x T).bad with
          | some r => rw [hb, rulesGo_some] at h; cases h
          | none =>
            obtain ⟨q1, q2⟩ := rule_inv hg h1 h2 hb
            rw [hb] at h
            exact rulesGo_inv hg f _ _ _ q1 q2 hl.2.1 hl.2.2 h
theorem parse_good {s : ByteArray} (hs : s.size ≤ 262144) {k : Nat} {T : TV} (h : parseA s = ⟨k, none, T⟩) : okT T = true ∧ (textT T).size ≤ 15 * (wsOf s).length + 33 ∧ T.Le (wsOf s).length := by
  have hok : (wordsV s).ok = true := by
    cases hw : (wordsV s).ok with
    | true => rfl
    | false => unfold parseA at h; rw [hw, if_neg (by decide)] at h; cases h
  have hp : parseV s = ⟨k, none, T⟩ := by unfold parseA at h; rw [if_pos hok] at h; exact h
  unfold parseV rulesV at hp
  have := rulesGo_inv (ws_good hok) (eb := (s.size : Nat)) (el := endL s) (ec := endC s) ((wsOf s).length + 1) 0 none TV0 (by rfl) (by show 0 ≤ _; omega) (Nat.zero_le _) TV0_le (by rw [hp])
  rw [hp] at this
  have h2 := text_c0 T
  exact ⟨this.1, by have := this.2.1; dsimp only at this; omega, this.2.2⟩
theorem wsz_len : ∀ (l : List ByteArray), l.length ≤ wsz l
  | [] => Nat.le_refl _
  | w :: l => by have := wsz_len l; show l.length + 1 ≤ w.size + 1 + wsz l; omega
theorem wsz_flat {α : Type} (f : α → List ByteArray) : ∀ (l : List α) (x : α), x ∈ l → wsz (f x) ≤ wsz (l.flatMap f)
  | [], x, h => by cases h
  | y :: l, x, h => by
    rw [List.flatMap_cons, wsz_app]
    rcases List.mem_cons.1 h with rfl | h
    · omega
    · have := wsz_flat f l x h; omega
theorem flatW_le : ∀ (l : List (Int × Int)), l.length ≤ wsz (l.flatMap spanW)
  | [] => Nat.le_refl _
  | s :: l => by
    have h1 := flatW_le l
    have h2 : 1 ≤ wsz (spanW s) := by unfold spanW; split <;> (show 1 ≤ _ + 1 + _; omega)
    rw [List.flatMap_cons, wsz_app, List.length_cons]
    omega
theorem text_parts (T : TV) : wsz (T.sc.flatMap scW) ≤ (textT T).size ∧ wsz (T.fo.flatMap (mpW ⟨#[102, 111, 108, 100]⟩)) ≤ (textT T).size ∧ wsz (T.lk.flatMap (mpW ⟨#[108, 111, 111, 107]⟩)) ≤ (textT T).size := by
  rw [textT_wsz]
  unfold linesT
  simp only [List.flatten_append, ← List.flatMap_def, wsz_app]
  omega
theorem map_size {w : ByteArray} {x : Int × ByteArray} (h : mpK x = true) : x.2.size ≤ 4 * wsz (mpW w x) := by
  unfold mpK at h
  rw [Bool.and_eq_true] at h
  have h1 := runesBytes_size_le (runesL x.2)
  rw [okTo_back h.1] at h1
  have h2 : (runesL x.2).length ≤ wsz (mpW w x) := by
    have := wsz_len (mpW w x)
    unfold mpW at this ⊢
    simp only [List.length_cons, List.length_append, List.length_map, List.length_nil] at this
    omega
  omega
theorem tabOk_of {T : TV} (hk : okT T = true) (hs : (textT T).size ≤ 262144) (hl : T.Le 1000000) : TabOk T := by
  obtain ⟨o1, o2, o3, o4, o5, o6, o7, o8⟩ := okT_parts hk
  obtain ⟨t1, t2, t3⟩ := text_parts T
  refine ⟨hl.sc, hl.co, hl.ma, hl.pr, hl.fo, hl.lk, hl.dr, hl.al, fun x hx => ?_, fun x hx => ?_, fun x hx => ?_, fun x hx => ?_⟩
  · have h1 := List.all_eq_true.1 o1 x hx
    unfold scK at h1
    rw [Bool.and_eq_true] at h1
    have h2 := legalB_small h1.1
    have h3 := wsz_flat scW T.sc x hx
    have h4 := flatW_le x.2
    have h5 : wsz (x.2.flatMap spanW) ≤ wsz (scW x) := by
      show _ ≤ 6 + 1 + (x.1.size + 1 + (1 + 1 + wsz (x.2.flatMap spanW ++ [⟨#[125]⟩])))
      rw [wsz_app]
      omega
    exact ⟨by unfold maxLen; omega, by omega⟩
  · have h1 := List.all_eq_true.1 o3 x hx
    unfold maK clsB at h1
    rw [Bool.and_eq_true, Bool.and_eq_true] at h1
    have h2 := of_decide_eq_true h1.1.1
    have h3 := of_decide_eq_true h1.1.2
    exact ⟨by omega, by omega⟩
  · have h1 := map_size (w := ⟨#[102, 111, 108, 100]⟩) (List.all_eq_true.1 o5 x hx)
    have h2 := wsz_flat (mpW ⟨#[102, 111, 108, 100]⟩) T.fo x hx
    unfold maxLen
    omega
  · have h1 := map_size (w := ⟨#[108, 111, 111, 107]⟩) (List.all_eq_true.1 o6 x hx)
    have h2 := wsz_flat (mpW ⟨#[108, 111, 111, 107]⟩) T.lk x hx
    unfold maxLen
    omega
theorem wsOf_le (s : ByteArray) : (wsOf s).length ≤ s.size + 1 := by
  have := (cutGo_S s (s.size + 1) 0 (1, 1) [] (by simp)).2
  unfold wsOf
  rw [List.length_map]
  exact Nat.le_trans this (by rw [List.length_nil]; omega)
structure SpD where
  lo : Int
  hi : Int
  dots : Bool
def SpD.q (s : SpD) : List Tq := if s.dots then [tqR s.lo, tqS 9, tqR s.hi] else [tqR s.lo]
def SpD.v (s : SpD) : Int × Int := (s.lo, if s.dots then s.hi else s.lo)
structure RuD where
  n : Nat
  nm : ByteArray
  sp : List SpD
  a : Int
  b : Int
  c : Int
  tu : List Int
def spsQ (l : List SpD) : List Tq := tqS 4 :: (l.flatMap SpD.q ++ [tqS 5])
def RuD.q (r : RuD) : List Tq := match r.n with
  | 1 => tqN ⟨#[115, 99, 114, 105, 112, 116]⟩ :: tqN r.nm :: spsQ r.sp
  | 2 => tqN ⟨#[99, 111, 109, 109, 111, 110]⟩ :: spsQ r.sp
  | 3 => [tqN ⟨#[109, 97, 114, 107]⟩, tqR r.a, tqC r.b, tqS 6]
  | 4 => [tqN ⟨#[112, 97, 105, 114]⟩, tqR r.a, tqS 7, tqR r.b, tqS 8, tqR r.c, tqS 6]
  | 5 => tqN ⟨#[102, 111, 108, 100]⟩ :: mapQ r.a r.tu
  | 6 => tqN ⟨#[108, 111, 111, 107]⟩ :: mapQ r.a r.tu
  | 7 => tqN ⟨#[100, 114, 111, 112]⟩ :: spsQ r.sp
  | _ => tqN ⟨#[97, 108, 108, 111, 119]⟩ :: spsQ r.sp
def RuD.ok (r : RuD) : Prop := 1 ≤ r.n ∧ r.n ≤ 8 ∧ ((r.n = 5 ∨ r.n = 6) → r.tu ≠ [])
structure T8 where
  sc : List (ByteArray × List (Int × Int))
  co : List (Int × Int)
  ma : List (Int × Int)
  pr : List (Int × Int × Int)
  fo : List (Int × ByteArray)
  lk : List (Int × ByteArray)
  dr : List (Int × Int)
  al : List (Int × Int)
def T8.add (x y : T8) : T8 := ⟨x.sc ++ y.sc, x.co ++ y.co, x.ma ++ y.ma, x.pr ++ y.pr, x.fo ++ y.fo, x.lk ++ y.lk, x.dr ++ y.dr, x.al ++ y.al⟩
def T80 : T8 := ⟨[], [], [], [], [], [], [], []⟩
def TV.t8 (T : TV) : T8 := ⟨T.sc, T.co, T.ma, T.pr, T.fo, T.lk, T.dr, T.al⟩
def RuD.t (r : RuD) : T8 := match r.n with
  | 1 => { T80 with sc := [(r.nm, r.sp.map SpD.v)] }
  | 2 => { T80 with co := r.sp.map SpD.v }
  | 3 => { T80 with ma := [(r.a, r.b)] }
  | 4 => { T80 with pr := [(r.a, r.b, r.c)] }
  | 5 => { T80 with fo := [(r.a, runesBytes r.tu)] }
  | 6 => { T80 with lk := [(r.a, runesBytes r.tu)] }
  | 7 => { T80 with dr := r.sp.map SpD.v }
  | _ => { T80 with al := r.sp.map SpD.v }
def sumT : List RuD → T8
  | [] => T80
  | r :: l => r.t.add (sumT l)
theorem T8.add_assoc (x y z : T8) : (x.add y).add z = x.add (y.add z) := by simp only [T8.add, List.append_assoc]
theorem T8.add_zero (x : T8) : x.add T80 = x := by simp only [T8.add, T80, List.append_nil]
theorem T8.zero_add (x : T8) : T80.add x = x := by simp only [T8.add, T80, List.nil_append]
theorem sumT_app : ∀ (a b : List RuD), sumT (a ++ b) = (sumT a).add (sumT b)
  | [], b => (T8.zero_add _).symm
  | r :: a, b => by show r.t.add (sumT (a ++ b)) = (r.t.add (sumT a)).add (sumT b); rw [sumT_app a b, T8.add_assoc]
/-! From words to what is read. -/
theorem spD_head (s : SpD) : ∃ r, s.q = tqR s.lo :: r := by unfold SpD.q; split <;> exact ⟨_, rfl⟩
theorem spD_tok {ws : List W8} {k : Nat} {s : SpD} {v : Tq} (eb el ec : Int) (h : Has ws k (s.q ++ [v])) (hv : v.k ≠ 9) : spanV ws k none eb el ec = ⟨s.v.1, s.v.2, k + s.q.length, none⟩ := by
  obtain ⟨lo, hi, dots⟩ := s
  unfold SpD.q at h ⊢
  unfold SpD.v spanV
  cases dots with
  | false =>
    obtain ⟨⟨x, hx, ex⟩, ⟨y, hy, ey⟩, _⟩ := h
    rw [take_tok (kind := 3) eb el ec hx (strip_k ex)]
    dsimp only
    rw [if_neg (sees_no (kind := 9) hy (by rw [strip_k ey]; exact hv)), strip_r ex]
    rfl
  | true =>
    obtain ⟨⟨x, hx, ex⟩, ⟨y, hy, ey⟩, ⟨z, hz, ez⟩, _⟩ := h
    rw [take_tok (kind := 3) eb el ec hx (strip_k ex)]
    dsimp only
    rw [if_pos (sees_yes (kind := 9) hy (strip_k ey)), take_tok (kind := 9) eb el ec hy (strip_k ey)]
    dsimp only
    rw [take_tok (kind := 3) eb el ec hz (strip_k ez), strip_r ex]
    dsimp only
    rw [strip_r ez]
    rfl
theorem spD_next (l : List SpD) : ∃ v r, l.flatMap SpD.q ++ [tqS 5] = v :: r ∧ v.k ≠ 9 := by
  cases l with
  | nil => exact ⟨tqS 5, [], rfl, by decide⟩
  | cons s l =>
    obtain ⟨r, h⟩ := spD_head s
    exact ⟨tqR s.lo, _, by rw [List.flatMap_cons, h]; rfl, by show (3 : Int) ≠ 9; decide⟩
theorem spDs_tok {ws : List W8} (eb el ec : Int) : ∀ (l : List SpD) (k f : Nat), Has ws k (l.flatMap SpD.q ++ [tqS 5]) → l.length < f → (spansGo ws eb el ec f k none).ss = l.map SpD.v ∧ (spansGo ws eb el ec f k none).k = k + (l.flatMap SpD.q).length ∧ (spansGo ws eb el ec f k none).bad = none
  | [], k, 0, h, hf => by omega
  | [], k, f + 1, h, hf => by
    obtain ⟨⟨x, hx, ex⟩, _⟩ := h
    unfold spansGo
    rw [if_neg (sees_no (kind := 3) hx (by rw [strip_k ex]; show (5 : Int) ≠ 3; decide))]
    exact ⟨rfl, rfl, rfl⟩
  | s :: l, k, 0, h, hf => by omega
  | s :: l, k, f + 1, h, hf => by
    have hl : (s :: l).length = l.length + 1 := rfl
    rw [List.flatMap_cons, List.append_assoc] at h
    obtain ⟨v, r, hv, hk⟩ := spD_next l
    have h2 := has_app.1 h
    have h3 : Has ws k (s.q ++ [v]) := has_app.2 ⟨h2.1, by rw [hv] at h2; exact ⟨h2.2.1, trivial⟩⟩
    have hs : seesB ws k none 3 = true := by
      obtain ⟨r, e⟩ := spD_head s
      rw [e] at h2
      obtain ⟨x, hx, ex⟩ := h2.1.1
      exact sees_yes hx (strip_k ex)
    have ih := spDs_tok eb el ec l (k + s.q.length) f h2.2 (by omega)
    unfold spansGo
    rw [if_pos hs, spD_tok eb el ec h3 hk]
    dsimp only
    refine ⟨by rw [ih.1]; rfl, by rw [ih.2.1, List.flatMap_cons, List.length_append]; omega, ih.2.2⟩
theorem spsQ_len (l : List SpD) : (spsQ l).length = (l.flatMap SpD.q).length + 2 := by show (l.flatMap SpD.q ++ [tqS 5]).length + 1 = _; rw [List.length_append]; rfl
theorem flatD_le : ∀ (l : List SpD), l.length ≤ (l.flatMap SpD.q).length
  | [] => Nat.le_refl _
  | s :: l => by
    have := flatD_le l
    obtain ⟨r, e⟩ := spD_head s
    rw [List.flatMap_cons, List.length_append, e, List.length_cons, List.length_cons]
    omega
theorem spsV_tok {ws : List W8} {k : Nat} {l : List SpD} (eb el ec : Int) (h : Has ws k (spsQ l)) (hk : k ≤ ws.length) : (spansV ws k none eb el ec).ss = l.map SpD.v ∧ (spansV ws k none eb el ec).k = k + (spsQ l).length ∧ (spansV ws k none eb el ec).bad = none := by
  have hle := has_le h hk
  have hl := spsQ_len l
  have hf := flatD_le l
  obtain ⟨⟨x, hx, ex⟩, h2⟩ := h
  have h3 := has_app.1 h2
  obtain ⟨y, hy, ey⟩ := h3.2.1
  have hg := spDs_tok eb el ec l (k + 1) (ws.length + 1) h2 (by omega)
  unfold spansV
  rw [take_tok (kind := 4) eb el ec hx (strip_k ex)]
  dsimp only
  rw [hg.2.1, hg.2.2, take_tok (kind := 5) eb el ec hy (strip_k ey)]
  dsimp only
  exact ⟨hg.1, by omega, rfl⟩
theorem rule_tok {ws : List W8} {eb el ec : Int} (k : Nat) (r : RuD) (hr : r.ok) (T : TV) (h : Has ws k r.q) : ∃ y, ws[k]? = some y ∧ (ruleV ws eb el ec k y T).k = k + r.q.length ∧ (ruleV ws eb el ec k y T).bad = none ∧ (ruleV ws eb el ec k y T).T.t8 = T.t8.add r.t := by
  obtain ⟨n, nm, sp, a, b, c, tu⟩ := r
  obtain ⟨h1, h8, hto⟩ := hr
  dsimp only at h1 h8 hto
  rcases (by omega : n = 1 ∨ n = 2 ∨ n = 3 ∨ n = 4 ∨ n = 5 ∨ n = 6 ∨ n = 7 ∨ n = 8) with rfl | rfl | rfl | rfl | rfl | rfl | rfl | rfl
  · obtain ⟨⟨y, hy, ey⟩, ⟨z, hz, ez⟩, h2⟩ := h
    refine ⟨y, hy, ?_⟩
    have hle : k + 2 ≤ ws.length := (List.getElem?_eq_some_iff.1 hz).1
    have hV := spsV_tok (l := sp) eb el ec h2 hle
    rw [rule_go (n := 1) ey (by decide +kernel)]
    simp only [ruleAt]
    unfold scriptV
    rw [take_tok (kind := 1) eb el ec hz (strip_k ez)]
    dsimp only
    refine ⟨by rw [hV.2.1]; show _ = k + ((spsQ sp).length + 1 + 1); omega, hV.2.2, ?_⟩
    rw [hV.1, strip_S ez]
    simp only [TV.t8, T8.add, RuD.t, T80, List.append_nil]
    rfl
  · obtain ⟨⟨y, hy, ey⟩, h2⟩ := h
    refine ⟨y, hy, ?_⟩
    have hV := spsV_tok (l := sp) eb el ec h2 (List.getElem?_eq_some_iff.1 hy).1
    rw [rule_go (n := 2) ey (by decide +kernel)]
    simp only [ruleAt]
    refine ⟨by rw [hV.2.1]; show _ = k + ((spsQ sp).length + 1); omega, hV.2.2, ?_⟩
    rw [hV.1]
    simp only [TV.t8, T8.add, RuD.t, T80, List.append_nil]
  · obtain ⟨⟨y, hy, ey⟩, h2⟩ := h
    refine ⟨y, hy, ?_⟩
    rw [rule_go (n := 3) ey (by decide +kernel)]
    simp only [ruleAt]
    rw [markV_tok eb el ec h2]
    refine ⟨rfl, rfl, ?_⟩
    simp only [TV.t8, T8.add, RuD.t, T80, List.append_nil]
  · obtain ⟨⟨y, hy, ey⟩, h2⟩ := h
    refine ⟨y, hy, ?_⟩
    rw [rule_go (n := 4) ey (by decide +kernel)]
    simp only [ruleAt]
    rw [pairV_tok eb el ec h2]
    refine ⟨rfl, rfl, ?_⟩
    simp only [TV.t8, T8.add, RuD.t, T80, List.append_nil]
  · obtain ⟨⟨y, hy, ey⟩, h2⟩ := h
    refine ⟨y, hy, ?_⟩
    rw [rule_go (n := 5) ey (by decide +kernel)]
    simp only [ruleAt]
    cases tu with
    | nil => exact absurd rfl (hto (.inl rfl))
    | cons r l =>
      rw [mapV_tok eb el ec h2 (List.getElem?_eq_some_iff.1 hy).1]
      refine ⟨by show k + 1 + (mapQ a (r :: l)).length = k + ((mapQ a (r :: l)).length + 1); omega, rfl, ?_⟩
      simp only [TV.t8, T8.add, RuD.t, T80, List.append_nil]
  · obtain ⟨⟨y, hy, ey⟩, h2⟩ := h
    refine ⟨y, hy, ?_⟩
    rw [rule_go (n := 6) ey (by decide +kernel)]
    simp only [ruleAt]
    cases tu with
    | nil => exact absurd rfl (hto (.inr rfl))
    | cons r l =>
      rw [mapV_tok eb el ec h2 (List.getElem?_eq_some_iff.1 hy).1]
      refine ⟨by show k + 1 + (mapQ a (r :: l)).length = k + ((mapQ a (r :: l)).length + 1); omega, rfl, ?_⟩
      simp only [TV.t8, T8.add, RuD.t, T80, List.append_nil]
  · obtain ⟨⟨y, hy, ey⟩, h2⟩ := h
    refine ⟨y, hy, ?_⟩
    have hV := spsV_tok (l := sp) eb el ec h2 (List.getElem?_eq_some_iff.1 hy).1
    rw [rule_go (n := 7) ey (by decide +kernel)]
    simp only [ruleAt]
    refine ⟨by rw [hV.2.1]; show _ = k + ((spsQ sp).length + 1); omega, hV.2.2, ?_⟩
    rw [hV.1]
    simp only [TV.t8, T8.add, RuD.t, T80, List.append_nil]
  · obtain ⟨⟨y, hy, ey⟩, h2⟩ := h
    refine ⟨y, hy, ?_⟩
    have hV := spsV_tok (l := sp) eb el ec h2 (List.getElem?_eq_some_iff.1 hy).1
    rw [rule_go (n := 8) ey (by decide +kernel)]
    simp only [ruleAt]
    refine ⟨by rw [hV.2.1]; show _ = k + ((spsQ sp).length + 1); omega, hV.2.2, ?_⟩
    rw [hV.1]
    simp only [TV.t8, T8.add, RuD.t, T80, List.append_nil]
theorem ruD_pos (r : RuD) : 1 ≤ r.q.length := by
  unfold RuD.q
  split <;> (rw [List.length_cons]; omega)
theorem rules_tok {ws : List W8} {eb el ec : Int} : ∀ (l : List RuD) (f k : Nat) (T : TV), (∀ r ∈ l, r.ok) → Has ws k (l.flatMap RuD.q) → k + (l.flatMap RuD.q).length = ws.length → l.length ≤ f → (rulesGo ws eb el ec f k none T).bad = none ∧ (rulesGo ws eb el ec f k none T).T.t8 = T.t8.add (sumT l)
  | [], f, k, T, _, _, hk, _ => by
    obtain rfl : k = ws.length := hk
    rw [rules_end f]
    exact ⟨rfl, (T8.add_zero _).symm⟩
  | r :: l, 0, k, T, _, _, _, hf => by rw [List.length_cons] at hf; omega
  | r :: l, f + 1, k, T, hok, h, hk, hf => by
    rw [List.flatMap_cons] at h hk
    have h2 := has_app.1 h
    obtain ⟨y, hy, e1, e2, e3⟩ := rule_tok (eb := eb) (el := el) (ec := ec) k r (hok r (List.mem_cons_self ..)) T h2.1
    rw [List.length_append] at hk
    rw [List.length_cons] at hf
    have ih := rules_tok (eb := eb) (el := el) (ec := ec) l f (k + r.q.length) (ruleV ws eb el ec k y T).T (fun z hz => hok z (List.mem_cons_of_mem _ hz)) h2.2 (by omega) (by omega)
    have e : rulesGo ws eb el ec (f + 1) k none T = rulesGo ws eb el ec f (k + r.q.length) none (ruleV ws eb el ec k y T).T := by
      conv => lhs; unfold rulesGo
      rw [hy]
      dsimp only
      rw [e1, e2]
    rw [e, e3] at *
    refine ⟨ih.1, ?_⟩
    rw [ih.2]
    exact T8.add_assoc _ _ _
end Go.Proofs.YtjgfmobmilgapaaGreatDoor
