/- The reader of rules: one rule by its reader. -/
import Derived.Test.YtbbnppcpjpdpaaaGreatDoorM17
import Derived.Test.YtbbnppcpjpdpaaaGreatDoorM22
namespace Go.Proofs.YtbbnppcpjpdpaaaGreatDoor
open Go.RowKit Go.Shelf
set_option linter.unusedVariables false
/-- The reader with the lists that it has read. -/
def PsSt (W0 W : World) (R Tx g lo : Nat) (ws : List W8) (k : Nat) (bad : Option Rf) (eb el ec : Int) (T : TV) : Prop := ∃ vs, RuSt W0 W R Tx g lo ws k bad eb el ec vs (lsOf T (vs.drop 17))
theorem drop_set2 (vs : List Value) (i j : Nat) (a b : Value) (hi : i < 17) (hj : j < 17) : ((vs.set i a).set j b).drop 17 = vs.drop 17 := by
  rw [List.drop_set_of_lt hj, List.drop_set_of_lt hi]
theorem drop_snoc2 (vs : List Value) (u : Value) (i j : Nat) (a b : Value) (hi : i < 17) (hj : j < 17) (hl : 17 ≤ vs.length) : (((vs ++ [u]).set i a).set j b).drop 17 = vs.drop 17 ++ [u] := by
  rw [List.drop_set_of_lt hj, List.drop_set_of_lt hi, List.drop_append_of_le_length hl]
theorem lsOf_len (T : TV) (us : List Value) : (lsOf T us).length = T.sc.length + 17 := by
  unfold lsOf
  simp only [List.length_cons, List.length_map]
theorem ruleFn_no (S : ByteArray) : ruleFn S = none ↔ ruleNo S = 0 := by
  unfold ruleFn ruleNo
  repeat' (split; · simp)
  simp
theorem rule_cases (S : ByteArray) (f : Nat) (h : ruleFn S = some f) : (ruleNo S = 1 ∧ f = 83) ∨ (ruleNo S = 2 ∧ f = 84) ∨ (ruleNo S = 3 ∧ f = 85) ∨ (ruleNo S = 4 ∧ f = 86) ∨ (ruleNo S = 5 ∧ f = 87) ∨ (ruleNo S = 6 ∧ f = 88) ∨ (ruleNo S = 7 ∧ f = 89) ∨ (ruleNo S = 8 ∧ f = 90) := by
  by_cases h1 : S = ⟨#[115, 99, 114, 105, 112, 116]⟩
  · subst h1; injection h with h; exact .inl ⟨rfl, h.symm⟩
  by_cases h2 : S = ⟨#[99, 111, 109, 109, 111, 110]⟩
  · subst h2; injection h with h; exact .inr (.inl ⟨rfl, h.symm⟩)
  by_cases h3 : S = ⟨#[109, 97, 114, 107]⟩
  · subst h3; injection h with h; exact .inr (.inr (.inl ⟨rfl, h.symm⟩))
  by_cases h4 : S = ⟨#[112, 97, 105, 114]⟩
  · subst h4; injection h with h; exact .inr (.inr (.inr (.inl ⟨rfl, h.symm⟩)))
  by_cases h5 : S = ⟨#[102, 111, 108, 100]⟩
  · subst h5; injection h with h; exact .inr (.inr (.inr (.inr (.inl ⟨rfl, h.symm⟩))))
  by_cases h6 : S = ⟨#[108, 111, 111, 107]⟩
  · subst h6; injection h with h; exact .inr (.inr (.inr (.inr (.inr (.inl ⟨rfl, h.symm⟩)))))
  by_cases h7 : S = ⟨#[100, 114, 111, 112]⟩
  · subst h7; injection h with h; exact .inr (.inr (.inr (.inr (.inr (.inr (.inl ⟨rfl, h.symm⟩))))))
  by_cases h8 : S = ⟨#[97, 108, 108, 111, 119]⟩
  · subst h8; injection h with h; exact .inr (.inr (.inr (.inr (.inr (.inr (.inr (⟨rfl, h.symm⟩)))))))
  unfold ruleFn at h
  rw [if_neg h1, if_neg h2, if_neg h3, if_neg h4, if_neg h5, if_neg h6, if_neg h7, if_neg h8] at h
  cases h
theorem rule_script (R Tx g lo : Nat) (ws : List W8) (eb el ec : Int) (k : Nat) (x : W8) (T : TV) (hT : T.Le k) (hk : k ≤ 1000000) (hr : ruleNo x.S = 1) (hS : ∀ y ∈ ws, y.S.size ≤ 262144) (W0 W : World) (h : PsSt W0 W R Tx g lo ws (k + 1) none eb el ec T) :
    Calls Tryz.prog 83 #[.pointer (some ⟨R, 0, none⟩), .agg #[.int .i64 x.b, .int .i64 x.l, .int .i64 x.c]] W fun e w' => (∃ r, e = .returned r) ∧ PsSt W0 w' R Tx g lo ws (ruleV ws eb el ec k x T).k (ruleV ws eb el ec k x T).bad eb el ec (ruleV ws eb el ec k x T).T := by
  obtain ⟨vs, h⟩ := h
  have hlv := h.tb.lv
  have hll := h.tb.ll
  have hnm : (scriptV ws (k + 1) none eb el ec).nm.size ≤ 262144 := by
    show (takeV ws (k + 1) none eb el ec 1).x.S.size ≤ 262144
    unfold takeV
    split
    · rename_i y h1 h2; exact hS y (List.mem_of_getElem? h2)
    · show (⟨#[]⟩ : ByteArray).size ≤ 262144; decide
  refine (script_any R Tx g lo ws (k + 1) none eb el ec x.b x.l x.c vs _ T.sc.length T.r1.length (encSc T.sc (vs.drop 17)) (encA3 T.r1) rfl rfl (by have := hT.sc; omega) (by have := hT.r1; omega) hnm W0 W h).mono ?_
  rintro e w' ⟨h1, sv, va, vb, h2⟩
  unfold ruleV
  rw [hr]
  simp only [ruleAt]
  refine ⟨h1, ((vs ++ [sv]).set 0 va).set 9 vb, ?_⟩
  show RuSt W0 w' R Tx g lo ws (scriptV ws (k + 1) none eb el ec).sp.k (scriptV ws (k + 1) none eb el ec).sp.bad eb el ec (((vs ++ [sv]).set 0 va).set 9 vb) (lsOf _ ((((vs ++ [sv]).set 0 va).set 9 vb).drop 17))
  rw [drop_snoc2 vs sv 0 9 va vb (by omega) (by omega) hlv]
  have e1 : T.sc.length = (vs.drop 17).length := by
    rw [List.length_drop, ← hll, lsOf_len]
    omega
  unfold lsOf
  dsimp only
  rw [encSc_snoc _ _ _ _ e1, encA3_app, List.length_append, List.length_append, List.map_append]
  exact h2
theorem rule_common (R Tx g lo : Nat) (ws : List W8) (eb el ec : Int) (k : Nat) (x : W8) (T : TV) (hT : T.Le k) (hk : k ≤ 1000000) (hr : ruleNo x.S = 2) (hS : ∀ y ∈ ws, y.S.size ≤ 262144) (W0 W : World) (h : PsSt W0 W R Tx g lo ws (k + 1) none eb el ec T) :
    Calls Tryz.prog 84 #[.pointer (some ⟨R, 0, none⟩), .agg #[.int .i64 x.b, .int .i64 x.l, .int .i64 x.c]] W fun e w' => (∃ r, e = .returned r) ∧ PsSt W0 w' R Tx g lo ws (ruleV ws eb el ec k x T).k (ruleV ws eb el ec k x T).bad eb el ec (ruleV ws eb el ec k x T).T := by
  obtain ⟨vs, h⟩ := h
  have hlv := h.tb.lv
  have hll := h.tb.ll
  refine (common_any R Tx g lo ws (k + 1) none eb el ec (.bool true) vs _ T.co.length T.r2.length (encS2 T.co) (encA3 T.r2) rfl rfl (by have := hT.co; omega) (by have := hT.r2; omega) x.b x.l x.c W0 W h).mono ?_
  rintro e w' ⟨h1, va, vb, h2⟩
  unfold ruleV
  rw [hr]
  simp only [ruleAt]
  refine ⟨h1, (vs.set 1 va).set 10 vb, ?_⟩
  show RuSt W0 w' R Tx g lo ws (spansV ws (k + 1) none eb el ec).k (spansV ws (k + 1) none eb el ec).bad eb el ec ((vs.set 1 va).set 10 vb) (lsOf _ (((vs.set 1 va).set 10 vb).drop 17))
  rw [drop_set2 vs 1 10 va vb (by omega) (by omega)]
  unfold lsOf
  dsimp only
  rw [encS2_app, encA3_app, List.length_append, List.length_append]
  exact h2
theorem rule_mark (R Tx g lo : Nat) (ws : List W8) (eb el ec : Int) (k : Nat) (x : W8) (T : TV) (hT : T.Le k) (hk : k ≤ 1000000) (hr : ruleNo x.S = 3) (hS : ∀ y ∈ ws, y.S.size ≤ 262144) (W0 W : World) (h : PsSt W0 W R Tx g lo ws (k + 1) none eb el ec T) :
    Calls Tryz.prog 85 #[.pointer (some ⟨R, 0, none⟩), .agg #[.int .i64 x.b, .int .i64 x.l, .int .i64 x.c]] W fun e w' => (∃ r, e = .returned r) ∧ PsSt W0 w' R Tx g lo ws (ruleV ws eb el ec k x T).k (ruleV ws eb el ec k x T).bad eb el ec (ruleV ws eb el ec k x T).T := by
  obtain ⟨vs, h⟩ := h
  have hlv := h.tb.lv
  have hll := h.tb.ll
  refine (mark_any R Tx g lo ws (k + 1) none eb el ec x.b x.l x.c vs _ T.ma.length T.r3.length (encM2 T.ma) (encA3 T.r3) rfl rfl (by have := hT.ma; omega) (by have := hT.r3; omega) W0 W h).mono ?_
  rintro e w' ⟨h1, va, vb, h2⟩
  unfold ruleV
  rw [hr]
  simp only [ruleAt]
  refine ⟨h1, (vs.set 2 va).set 11 vb, ?_⟩
  show RuSt W0 w' R Tx g lo ws (markV ws (k + 1) none eb el ec).k (markV ws (k + 1) none eb el ec).bad eb el ec ((vs.set 2 va).set 11 vb) (lsOf _ (((vs.set 2 va).set 11 vb).drop 17))
  rw [drop_set2 vs 2 11 va vb (by omega) (by omega)]
  unfold lsOf
  dsimp only
  rw [encM2_app, encA3_app, List.length_append, List.length_append]
  exact h2
theorem rule_pair (R Tx g lo : Nat) (ws : List W8) (eb el ec : Int) (k : Nat) (x : W8) (T : TV) (hT : T.Le k) (hk : k ≤ 1000000) (hr : ruleNo x.S = 4) (hS : ∀ y ∈ ws, y.S.size ≤ 262144) (W0 W : World) (h : PsSt W0 W R Tx g lo ws (k + 1) none eb el ec T) :
    Calls Tryz.prog 86 #[.pointer (some ⟨R, 0, none⟩), .agg #[.int .i64 x.b, .int .i64 x.l, .int .i64 x.c]] W fun e w' => (∃ r, e = .returned r) ∧ PsSt W0 w' R Tx g lo ws (ruleV ws eb el ec k x T).k (ruleV ws eb el ec k x T).bad eb el ec (ruleV ws eb el ec k x T).T := by
  obtain ⟨vs, h⟩ := h
  have hlv := h.tb.lv
  have hll := h.tb.ll
  refine (pair_any R Tx g lo ws (k + 1) none eb el ec x.b x.l x.c vs _ T.pr.length T.r4.length (encP3 T.pr) (encA3 T.r4) rfl rfl (by have := hT.pr; omega) (by have := hT.r4; omega) W0 W h).mono ?_
  rintro e w' ⟨h1, va, vb, h2⟩
  unfold ruleV
  rw [hr]
  simp only [ruleAt]
  refine ⟨h1, (vs.set 3 va).set 12 vb, ?_⟩
  show RuSt W0 w' R Tx g lo ws (pairV ws (k + 1) none eb el ec).k (pairV ws (k + 1) none eb el ec).bad eb el ec ((vs.set 3 va).set 12 vb) (lsOf _ (((vs.set 3 va).set 12 vb).drop 17))
  rw [drop_set2 vs 3 12 va vb (by omega) (by omega)]
  unfold lsOf
  dsimp only
  rw [encP3_app, encA3_app, List.length_append, List.length_append]
  exact h2
theorem rule_fold (R Tx g lo : Nat) (ws : List W8) (eb el ec : Int) (k : Nat) (x : W8) (T : TV) (hT : T.Le k) (hk : k ≤ 1000000) (hr : ruleNo x.S = 5) (hS : ∀ y ∈ ws, y.S.size ≤ 262144) (W0 W : World) (h : PsSt W0 W R Tx g lo ws (k + 1) none eb el ec T) :
    Calls Tryz.prog 87 #[.pointer (some ⟨R, 0, none⟩), .agg #[.int .i64 x.b, .int .i64 x.l, .int .i64 x.c]] W fun e w' => (∃ r, e = .returned r) ∧ PsSt W0 w' R Tx g lo ws (ruleV ws eb el ec k x T).k (ruleV ws eb el ec k x T).bad eb el ec (ruleV ws eb el ec k x T).T := by
  obtain ⟨vs, h⟩ := h
  have hlv := h.tb.lv
  have hll := h.tb.ll
  refine (fold_any R Tx g lo ws (k + 1) none eb el ec x.b x.l x.c vs _ T.fo.length T.r5.length (encF2 T.fo) (encA3 T.r5) rfl rfl (by have := hT.fo; omega) (by have := hT.r5; omega) W0 W h).mono ?_
  rintro e w' ⟨h1, va, vb, h2⟩
  unfold ruleV
  rw [hr]
  simp only [ruleAt]
  refine ⟨h1, (vs.set 4 va).set 13 vb, ?_⟩
  show RuSt W0 w' R Tx g lo ws (mapV ws (k + 1) none eb el ec).k (mapV ws (k + 1) none eb el ec).bad eb el ec ((vs.set 4 va).set 13 vb) (lsOf _ (((vs.set 4 va).set 13 vb).drop 17))
  rw [drop_set2 vs 4 13 va vb (by omega) (by omega)]
  unfold lsOf
  dsimp only
  rw [encF2_app, encA3_app, List.length_append, List.length_append]
  exact h2
theorem rule_look (R Tx g lo : Nat) (ws : List W8) (eb el ec : Int) (k : Nat) (x : W8) (T : TV) (hT : T.Le k) (hk : k ≤ 1000000) (hr : ruleNo x.S = 6) (hS : ∀ y ∈ ws, y.S.size ≤ 262144) (W0 W : World) (h : PsSt W0 W R Tx g lo ws (k + 1) none eb el ec T) :
    Calls Tryz.prog 88 #[.pointer (some ⟨R, 0, none⟩), .agg #[.int .i64 x.b, .int .i64 x.l, .int .i64 x.c]] W fun e w' => (∃ r, e = .returned r) ∧ PsSt W0 w' R Tx g lo ws (ruleV ws eb el ec k x T).k (ruleV ws eb el ec k x T).bad eb el ec (ruleV ws eb el ec k x T).T := by
  obtain ⟨vs, h⟩ := h
  have hlv := h.tb.lv
  have hll := h.tb.ll
  refine (look_any R Tx g lo ws (k + 1) none eb el ec x.b x.l x.c vs _ T.lk.length T.r6.length (encF2 T.lk) (encA3 T.r6) rfl rfl (by have := hT.lk; omega) (by have := hT.r6; omega) W0 W h).mono ?_
  rintro e w' ⟨h1, va, vb, h2⟩
  unfold ruleV
  rw [hr]
  simp only [ruleAt]
  refine ⟨h1, (vs.set 5 va).set 14 vb, ?_⟩
  show RuSt W0 w' R Tx g lo ws (mapV ws (k + 1) none eb el ec).k (mapV ws (k + 1) none eb el ec).bad eb el ec ((vs.set 5 va).set 14 vb) (lsOf _ (((vs.set 5 va).set 14 vb).drop 17))
  rw [drop_set2 vs 5 14 va vb (by omega) (by omega)]
  unfold lsOf
  dsimp only
  rw [encF2_app, encA3_app, List.length_append, List.length_append]
  exact h2
theorem rule_drop (R Tx g lo : Nat) (ws : List W8) (eb el ec : Int) (k : Nat) (x : W8) (T : TV) (hT : T.Le k) (hk : k ≤ 1000000) (hr : ruleNo x.S = 7) (hS : ∀ y ∈ ws, y.S.size ≤ 262144) (W0 W : World) (h : PsSt W0 W R Tx g lo ws (k + 1) none eb el ec T) :
    Calls Tryz.prog 89 #[.pointer (some ⟨R, 0, none⟩), .agg #[.int .i64 x.b, .int .i64 x.l, .int .i64 x.c]] W fun e w' => (∃ r, e = .returned r) ∧ PsSt W0 w' R Tx g lo ws (ruleV ws eb el ec k x T).k (ruleV ws eb el ec k x T).bad eb el ec (ruleV ws eb el ec k x T).T := by
  obtain ⟨vs, h⟩ := h
  have hlv := h.tb.lv
  have hll := h.tb.ll
  refine (drop_any R Tx g lo ws (k + 1) none eb el ec (.bool true) vs _ T.dr.length T.r7.length (encS2 T.dr) (encA3 T.r7) rfl rfl (by have := hT.dr; omega) (by have := hT.r7; omega) x.b x.l x.c W0 W h).mono ?_
  rintro e w' ⟨h1, va, vb, h2⟩
  unfold ruleV
  rw [hr]
  simp only [ruleAt]
  refine ⟨h1, (vs.set 6 va).set 15 vb, ?_⟩
  show RuSt W0 w' R Tx g lo ws (spansV ws (k + 1) none eb el ec).k (spansV ws (k + 1) none eb el ec).bad eb el ec ((vs.set 6 va).set 15 vb) (lsOf _ (((vs.set 6 va).set 15 vb).drop 17))
  rw [drop_set2 vs 6 15 va vb (by omega) (by omega)]
  unfold lsOf
  dsimp only
  rw [encS2_app, encA3_app, List.length_append, List.length_append]
  exact h2
theorem rule_allow (R Tx g lo : Nat) (ws : List W8) (eb el ec : Int) (k : Nat) (x : W8) (T : TV) (hT : T.Le k) (hk : k ≤ 1000000) (hr : ruleNo x.S = 8) (hS : ∀ y ∈ ws, y.S.size ≤ 262144) (W0 W : World) (h : PsSt W0 W R Tx g lo ws (k + 1) none eb el ec T) :
    Calls Tryz.prog 90 #[.pointer (some ⟨R, 0, none⟩), .agg #[.int .i64 x.b, .int .i64 x.l, .int .i64 x.c]] W fun e w' => (∃ r, e = .returned r) ∧ PsSt W0 w' R Tx g lo ws (ruleV ws eb el ec k x T).k (ruleV ws eb el ec k x T).bad eb el ec (ruleV ws eb el ec k x T).T := by
  obtain ⟨vs, h⟩ := h
  have hlv := h.tb.lv
  have hll := h.tb.ll
  refine (allow_any R Tx g lo ws (k + 1) none eb el ec (.bool true) vs _ T.al.length T.r8.length (encS2 T.al) (encA3 T.r8) rfl rfl (by have := hT.al; omega) (by have := hT.r8; omega) x.b x.l x.c W0 W h).mono ?_
  rintro e w' ⟨h1, va, vb, h2⟩
  unfold ruleV
  rw [hr]
  simp only [ruleAt]
  refine ⟨h1, (vs.set 7 va).set 16 vb, ?_⟩
  show RuSt W0 w' R Tx g lo ws (spansV ws (k + 1) none eb el ec).k (spansV ws (k + 1) none eb el ec).bad eb el ec ((vs.set 7 va).set 16 vb) (lsOf _ (((vs.set 7 va).set 16 vb).drop 17))
  rw [drop_set2 vs 7 16 va vb (by omega) (by omega)]
  unfold lsOf
  dsimp only
  rw [encS2_app, encA3_app, List.length_append, List.length_append]
  exact h2
theorem rule_any (f : Nat) (R Tx g lo : Nat) (ws : List W8) (eb el ec : Int) (k : Nat) (x : W8) (T : TV) (hT : T.Le k) (hk : k ≤ 1000000) (hf : ruleFn x.S = some f) (hS : ∀ y ∈ ws, y.S.size ≤ 262144) (W0 W : World) (h : PsSt W0 W R Tx g lo ws (k + 1) none eb el ec T) :
    Calls Tryz.prog f #[.pointer (some ⟨R, 0, none⟩), .agg #[.int .i64 x.b, .int .i64 x.l, .int .i64 x.c]] W fun e w' => (∃ r, e = .returned r) ∧ PsSt W0 w' R Tx g lo ws (ruleV ws eb el ec k x T).k (ruleV ws eb el ec k x T).bad eb el ec (ruleV ws eb el ec k x T).T := by
  rcases rule_cases x.S f hf with ⟨hr, rfl⟩ | ⟨hr, rfl⟩ | ⟨hr, rfl⟩ | ⟨hr, rfl⟩ | ⟨hr, rfl⟩ | ⟨hr, rfl⟩ | ⟨hr, rfl⟩ | ⟨hr, rfl⟩
  · exact rule_script R Tx g lo ws eb el ec k x T hT hk hr hS W0 W h
  · exact rule_common R Tx g lo ws eb el ec k x T hT hk hr hS W0 W h
  · exact rule_mark R Tx g lo ws eb el ec k x T hT hk hr hS W0 W h
  · exact rule_pair R Tx g lo ws eb el ec k x T hT hk hr hS W0 W h
  · exact rule_fold R Tx g lo ws eb el ec k x T hT hk hr hS W0 W h
  · exact rule_look R Tx g lo ws eb el ec k x T hT hk hr hS W0 W h
  · exact rule_drop R Tx g lo ws eb el ec k x T hT hk hr hS W0 W h
  · exact rule_allow R Tx g lo ws eb el ec k x T hT hk hr hS W0 W h
end Go.Proofs.YtbbnppcpjpdpaaaGreatDoor
