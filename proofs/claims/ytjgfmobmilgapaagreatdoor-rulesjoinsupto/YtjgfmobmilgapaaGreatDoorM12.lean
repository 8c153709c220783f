/- Texts of this claim, one behind the other. -/
import Derived.Test.YtjgfmobmilgapaaGreatDoorM10
import Derived.Test.YtjgfmobmilgapaaGreatDoorM11
/- The reader of rules: what the rules say, mathematics. -/
namespace Go.Proofs.YtjgfmobmilgapaaGreatDoor
open Go.RowKit Go.Shelf
set_option linter.unusedVariables false
structure TV where
  sc : List (ByteArray × List (Int × Int))
  co : List (Int × Int)
  ma : List (Int × Int)
  pr : List (Int × Int × Int)
  fo : List (Int × ByteArray)
  lk : List (Int × ByteArray)
  dr : List (Int × Int)
  al : List (Int × Int)
  r1 : List (Int × Int × Int)
  r2 : List (Int × Int × Int)
  r3 : List (Int × Int × Int)
  r4 : List (Int × Int × Int)
  r5 : List (Int × Int × Int)
  r6 : List (Int × Int × Int)
  r7 : List (Int × Int × Int)
  r8 : List (Int × Int × Int)
def TV0 : TV := ⟨[], [], [], [], [], [], [], [], [], [], [], [], [], [], [], []⟩
structure TV.Le (T : TV) (n : Nat) : Prop where
  sc : T.sc.length ≤ n
  co : T.co.length ≤ n
  ma : T.ma.length ≤ n
  pr : T.pr.length ≤ n
  fo : T.fo.length ≤ n
  lk : T.lk.length ≤ n
  dr : T.dr.length ≤ n
  al : T.al.length ≤ n
  r1 : T.r1.length ≤ n
  r2 : T.r2.length ≤ n
  r3 : T.r3.length ≤ n
  r4 : T.r4.length ≤ n
  r5 : T.r5.length ≤ n
  r6 : T.r6.length ≤ n
  r7 : T.r7.length ≤ n
  r8 : T.r8.length ≤ n
structure Ps where
  k : Nat
  bad : Option Rf
  T : TV
def ruleNo (S : ByteArray) : Nat :=
  if S = ⟨#[115, 99, 114, 105, 112, 116]⟩ then 1 else
  if S = ⟨#[99, 111, 109, 109, 111, 110]⟩ then 2 else
  if S = ⟨#[109, 97, 114, 107]⟩ then 3 else
  if S = ⟨#[112, 97, 105, 114]⟩ then 4 else
  if S = ⟨#[102, 111, 108, 100]⟩ then 5 else
  if S = ⟨#[108, 111, 111, 107]⟩ then 6 else
  if S = ⟨#[100, 114, 111, 112]⟩ then 7 else
  if S = ⟨#[97, 108, 108, 111, 119]⟩ then 8 else
  0
def ruleAt (ws : List W8) (eb el ec : Int) (k : Nat) (x : W8) (T : TV) : Nat → Ps
  | 1 => ⟨(scriptV ws (k + 1) none eb el ec).sp.k, (scriptV ws (k + 1) none eb el ec).sp.bad, { T with sc := T.sc ++ [((scriptV ws (k + 1) none eb el ec).nm, (scriptV ws (k + 1) none eb el ec).sp.ss)], r1 := T.r1 ++ [(x.b, x.l, x.c)] }⟩
  | 2 => ⟨(spansV ws (k + 1) none eb el ec).k, (spansV ws (k + 1) none eb el ec).bad, { T with co := T.co ++ (spansV ws (k + 1) none eb el ec).ss, r2 := T.r2 ++ (spansV ws (k + 1) none eb el ec).ps }⟩
  | 3 => ⟨(markV ws (k + 1) none eb el ec).k, (markV ws (k + 1) none eb el ec).bad, { T with ma := T.ma ++ [((markV ws (k + 1) none eb el ec).on, (markV ws (k + 1) none eb el ec).cl)], r3 := T.r3 ++ [(x.b, x.l, x.c)] }⟩
  | 4 => ⟨(pairV ws (k + 1) none eb el ec).k, (pairV ws (k + 1) none eb el ec).bad, { T with pr := T.pr ++ [((pairV ws (k + 1) none eb el ec).wh, (pairV ws (k + 1) none eb el ec).ba, (pairV ws (k + 1) none eb el ec).ma)], r4 := T.r4 ++ [(x.b, x.l, x.c)] }⟩
  | 5 => ⟨(mapV ws (k + 1) none eb el ec).k, (mapV ws (k + 1) none eb el ec).bad, { T with fo := T.fo ++ [((mapV ws (k + 1) none eb el ec).fr, runesBytes (mapV ws (k + 1) none eb el ec).tw)], r5 := T.r5 ++ [(x.b, x.l, x.c)] }⟩
  | 6 => ⟨(mapV ws (k + 1) none eb el ec).k, (mapV ws (k + 1) none eb el ec).bad, { T with lk := T.lk ++ [((mapV ws (k + 1) none eb el ec).fr, runesBytes (mapV ws (k + 1) none eb el ec).tw)], r6 := T.r6 ++ [(x.b, x.l, x.c)] }⟩
  | 7 => ⟨(spansV ws (k + 1) none eb el ec).k, (spansV ws (k + 1) none eb el ec).bad, { T with dr := T.dr ++ (spansV ws (k + 1) none eb el ec).ss, r7 := T.r7 ++ (spansV ws (k + 1) none eb el ec).ps }⟩
  | 8 => ⟨(spansV ws (k + 1) none eb el ec).k, (spansV ws (k + 1) none eb el ec).bad, { T with al := T.al ++ (spansV ws (k + 1) none eb el ec).ss, r8 := T.r8 ++ (spansV ws (k + 1) none eb el ec).ps }⟩
  | _ => ⟨k, some (refV ws k eb el ec), T⟩
def ruleV (ws : List W8) (eb el ec : Int) (k : Nat) (x : W8) (T : TV) : Ps := ruleAt ws eb el ec k x T (ruleNo x.S)
theorem ruleNo_le (S : ByteArray) : ruleNo S ≤ 8 := by
  unfold ruleNo
  repeat' split
  all_goals omega
def rulesGo (ws : List W8) (eb el ec : Int) : Nat → Nat → Option Rf → TV → Ps
  | 0, k, bad, T => ⟨k, bad, T⟩
  | f + 1, k, bad, T => match bad, ws[k]? with
    | none, some x => rulesGo ws eb el ec f (ruleV ws eb el ec k x T).k (ruleV ws eb el ec k x T).bad (ruleV ws eb el ec k x T).T
    | _, _ => ⟨k, bad, T⟩
def rulesV (ws : List W8) (eb el ec : Int) : Ps := rulesGo ws eb el ec (ws.length + 1) 0 none TV0
theorem mapGo_le (ws : List W8) (eb el ec : Int) (f k : Nat) (bad : Option Rf) (hk : k ≤ ws.length) : k ≤ (mapGo ws eb el ec f k bad).k ∧ (mapGo ws eb el ec f k bad).k ≤ ws.length := by
  induction f generalizing k bad with
  | zero => exact ⟨Nat.le_refl k, hk⟩
  | succ f ih =>
    unfold mapGo
    by_cases hs : seesB ws k bad 3 = true
    · rw [if_pos hs]
      have h1 := takeV_le ws k bad eb el ec 3 hk
      have h2 := ih (takeV ws k bad eb el ec 3).k (takeV ws k bad eb el ec 3).bad h1.2
      dsimp only
      omega
    · rw [if_neg hs]
      exact ⟨Nat.le_refl k, hk⟩
theorem mapV_le (ws : List W8) (eb el ec : Int) (k : Nat) (bad : Option Rf) (hk : k ≤ ws.length) : k ≤ (mapV ws k bad eb el ec).k ∧ (mapV ws k bad eb el ec).k ≤ ws.length := by
  unfold mapV
  dsimp only
  have h1 := takeV_le ws k bad eb el ec 3 hk
  generalize takeV ws k bad eb el ec 3 = A at *
  have h2 := takeV_le ws A.k A.bad eb el ec 7 h1.2
  generalize takeV ws A.k A.bad eb el ec 7 = B at *
  have h3 := takeV_le ws B.k B.bad eb el ec 3 h2.2
  generalize takeV ws B.k B.bad eb el ec 3 = C at *
  have h4 := mapGo_le ws eb el ec (ws.length + 1) C.k C.bad h3.2
  generalize mapGo ws eb el ec (ws.length + 1) C.k C.bad = D at *
  have h5 := takeV_le ws D.k D.bad eb el ec 6 h4.2
  omega
theorem markV_le (ws : List W8) (eb el ec : Int) (k : Nat) (bad : Option Rf) (hk : k ≤ ws.length) : k ≤ (markV ws k bad eb el ec).k ∧ (markV ws k bad eb el ec).k ≤ ws.length := by
  unfold markV
  dsimp only
  have h1 := takeV_le ws k bad eb el ec 3 hk
  generalize takeV ws k bad eb el ec 3 = A at *
  have h2 := takeV_le ws A.k A.bad eb el ec 2 h1.2
  generalize takeV ws A.k A.bad eb el ec 2 = B at *
  have h3 := takeV_le ws B.k B.bad eb el ec 6 h2.2
  omega
theorem pairV_le (ws : List W8) (eb el ec : Int) (k : Nat) (bad : Option Rf) (hk : k ≤ ws.length) : k ≤ (pairV ws k bad eb el ec).k ∧ (pairV ws k bad eb el ec).k ≤ ws.length := by
  unfold pairV
  dsimp only
  have h1 := takeV_le ws k bad eb el ec 3 hk
  generalize takeV ws k bad eb el ec 3 = A at *
  have h2 := takeV_le ws A.k A.bad eb el ec 7 h1.2
  generalize takeV ws A.k A.bad eb el ec 7 = B at *
  have h3 := takeV_le ws B.k B.bad eb el ec 3 h2.2
  generalize takeV ws B.k B.bad eb el ec 3 = C at *
  have h4 := takeV_le ws C.k C.bad eb el ec 8 h3.2
  generalize takeV ws C.k C.bad eb el ec 8 = D at *
  have h5 := takeV_le ws D.k D.bad eb el ec 3 h4.2
  generalize takeV ws D.k D.bad eb el ec 3 = E at *
  have h6 := takeV_le ws E.k E.bad eb el ec 6 h5.2
  omega
theorem ruleV_le (ws : List W8) (eb el ec : Int) (k : Nat) (x : W8) (hx : ws[k]? = some x) (T : TV) (hT : T.Le k) (hr : ruleNo x.S ≠ 0) : k < (ruleV ws eb el ec k x T).k ∧ (ruleV ws eb el ec k x T).k ≤ ws.length ∧ (ruleV ws eb el ec k x T).T.Le (ruleV ws eb el ec k x T).k := by
  have hk := (List.getElem?_eq_some_iff.1 hx).1
  obtain ⟨a1, a2, a3, a4, a5, a6, a7, a8, b1, b2, b3, b4, b5, b6, b7, b8⟩ := hT
  have hs := spansV_len ws eb el ec (k + 1) none hk
  have hm := markV_le ws eb el ec (k + 1) none hk
  have hp := pairV_le ws eb el ec (k + 1) none hk
  have hf := mapV_le ws eb el ec (k + 1) none hk
  have ht := takeV_le ws (k + 1) none eb el ec 1 hk
  have hc := spansV_len ws eb el ec (takeV ws (k + 1) none eb el ec 1).k (takeV ws (k + 1) none eb el ec 1).bad ht.2
  have hc1 : k + 1 ≤ (scriptV ws (k + 1) none eb el ec).sp.k ∧ (scriptV ws (k + 1) none eb el ec).sp.k ≤ ws.length := by
    show k + 1 ≤ (spansV ws (takeV ws (k + 1) none eb el ec 1).k (takeV ws (k + 1) none eb el ec 1).bad eb el ec).k ∧ (spansV ws (takeV ws (k + 1) none eb el ec 1).k (takeV ws (k + 1) none eb el ec 1).bad eb el ec).k ≤ ws.length
    omega
  have h8 := ruleNo_le x.S
  unfold ruleV
  generalize ruleNo x.S = n at *
  rcases (by omega : n = 1 ∨ n = 2 ∨ n = 3 ∨ n = 4 ∨ n = 5 ∨ n = 6 ∨ n = 7 ∨ n = 8) with rfl | rfl | rfl | rfl | rfl | rfl | rfl | rfl
  all_goals
    simp only [ruleAt]
    generalize scriptV ws (k + 1) none eb el ec = V1 at *
    generalize spansV ws (k + 1) none eb el ec = V2 at *
    generalize markV ws (k + 1) none eb el ec = V3 at *
    generalize pairV ws (k + 1) none eb el ec = V4 at *
    generalize mapV ws (k + 1) none eb el ec = V5 at *
    refine ⟨?_, ?_, ⟨?_, ?_, ?_, ?_, ?_, ?_, ?_, ?_, ?_, ?_, ?_, ?_, ?_, ?_, ?_, ?_⟩⟩ <;> (try dsimp only) <;> (try rw [List.length_append]) <;> (try rw [List.length_singleton]) <;> omega
structure RgSt (ws : List W8) (eb el ec : Int) (F : Ps) (f k : Nat) (bad : Option Rf) (T : TV) : Prop where
  eq : F = rulesGo ws eb el ec f k bad T
  fu : ws.length - k < f
  le : k ≤ ws.length
  tl : T.Le k
theorem RgSt.stop {ws : List W8} {eb el ec : Int} {F : Ps} {f k : Nat} {bad : Option Rf} {T : TV} (h : RgSt ws eb el ec F f k bad T) (hs : bad ≠ none ∨ ws[k]? = none) : F = ⟨k, bad, T⟩ := by
  obtain ⟨g, rfl⟩ : ∃ g, f = g + 1 := ⟨f - 1, by have := h.fu; omega⟩
  rw [h.eq]
  unfold rulesGo
  cases bad with
  | some b => rfl
  | none =>
    rcases hs with h1 | h1
    · exact absurd rfl h1
    · rw [h1]
theorem RgSt.next {ws : List W8} {eb el ec : Int} {F : Ps} {f k : Nat} {x : W8} {T : TV} (h : RgSt ws eb el ec F f k none T) (hx : ws[k]? = some x) (hr : ruleNo x.S ≠ 0) : ∃ f', RgSt ws eb el ec F f' (ruleV ws eb el ec k x T).k (ruleV ws eb el ec k x T).bad (ruleV ws eb el ec k x T).T := by
  obtain ⟨g, rfl⟩ : ∃ g, f = g + 1 := ⟨f - 1, by have := h.fu; omega⟩
  have hk := (List.getElem?_eq_some_iff.1 hx).1
  have hl := ruleV_le ws eb el ec k x hx T h.tl hr
  refine ⟨g, ?_, by have := h.fu; omega, hl.2.1, hl.2.2⟩
  have e := h.eq
  unfold rulesGo at e
  rw [hx] at e
  exact e
theorem RgSt.no {ws : List W8} {eb el ec : Int} {F : Ps} {f k : Nat} {x : W8} {T : TV} (h : RgSt ws eb el ec F f k none T) (hx : ws[k]? = some x) (hr : ruleNo x.S = 0) : F = ⟨k, some (refV ws k eb el ec), T⟩ := by
  obtain ⟨g, rfl⟩ : ∃ g, f = g + 1 := ⟨f - 1, by have := h.fu; omega⟩
  have hk := (List.getElem?_eq_some_iff.1 hx).1
  obtain ⟨g, rfl⟩ : ∃ g', g = g' + 1 := ⟨g - 1, by have := h.fu; omega⟩
  have e := h.eq
  unfold rulesGo at e
  rw [hx] at e
  have er : ruleV ws eb el ec k x T = ⟨k, some (refV ws k eb el ec), T⟩ := by unfold ruleV; rw [hr]; rfl
  dsimp only at e
  rw [er] at e
  unfold rulesGo at e
  exact e
def encM2 : List (Int × Int) → List Value
  | [] => []
  | x :: t => .int .i32 x.1 :: .int .i64 x.2 :: encM2 t
def encP3 : List (Int × Int × Int) → List Value
  | [] => []
  | x :: t => .int .i32 x.1 :: .int .i32 x.2.1 :: .int .i32 x.2.2 :: encP3 t
def encF2 : List (Int × ByteArray) → List Value
  | [] => []
  | x :: t => .int .i32 x.1 :: .string x.2 :: encF2 t
def encSc : List (ByteArray × List (Int × Int)) → List Value → List Value
  | x :: t, u :: us => .string x.1 :: u :: encSc t us
  | _, _ => []
theorem encS2_app (s t : List (Int × Int)) : encS2 (s ++ t) = encS2 s ++ encS2 t := by
  induction s with
  | nil => rfl
  | cons x s ih => show _ :: _ :: encS2 (s ++ t) = _ :: _ :: _; rw [ih]; rfl
theorem encA3_app (s t : List (Int × Int × Int)) : encA3 (s ++ t) = encA3 s ++ encA3 t := by
  induction s with
  | nil => rfl
  | cons x s ih => show _ :: _ :: _ :: encA3 (s ++ t) = _ :: _ :: _ :: _; rw [ih]; rfl
theorem encM2_app (s t : List (Int × Int)) : encM2 (s ++ t) = encM2 s ++ encM2 t := by
  induction s with
  | nil => rfl
  | cons x s ih => show _ :: _ :: encM2 (s ++ t) = _ :: _ :: _; rw [ih]; rfl
theorem encP3_app (s t : List (Int × Int × Int)) : encP3 (s ++ t) = encP3 s ++ encP3 t := by
  induction s with
  | nil => rfl
  | cons x s ih => show _ :: _ :: _ :: encP3 (s ++ t) = _ :: _ :: _ :: _; rw [ih]; rfl
theorem encF2_app (s t : List (Int × ByteArray)) : encF2 (s ++ t) = encF2 s ++ encF2 t := by
  induction s with
  | nil => rfl
  | cons x s ih => show _ :: _ :: encF2 (s ++ t) = _ :: _ :: _; rw [ih]; rfl
theorem encSc_snoc (s : List (ByteArray × List (Int × Int))) (us : List Value) (x : ByteArray × List (Int × Int)) (u : Value) (h : s.length = us.length) : encSc (s ++ [x]) (us ++ [u]) = encSc s us ++ [.string x.1, u] := by
  induction s generalizing us with
  | nil => cases us with
    | nil => rfl
    | cons v us => cases h
  | cons y s ih => cases us with
    | nil => cases h
    | cons v us => show _ :: _ :: encSc (s ++ [x]) (us ++ [u]) = _ :: _ :: _; rw [ih us (by simpa using h)]; rfl
def lsOf (T : TV) (us : List Value) : List Ln :=
  Ln.mk 64 2 T.sc.length (encSc T.sc us) :: Ln.mk 68 2 T.co.length (encS2 T.co) :: Ln.mk 71 2 T.ma.length (encM2 T.ma) :: Ln.mk 74 3 T.pr.length (encP3 T.pr) :: Ln.mk 77 2 T.fo.length (encF2 T.fo) :: Ln.mk 77 2 T.lk.length (encF2 T.lk) :: Ln.mk 68 2 T.dr.length (encS2 T.dr) :: Ln.mk 68 2 T.al.length (encS2 T.al) ::
  Ln.mk 49 3 0 [] :: Ln.mk 49 3 T.r1.length (encA3 T.r1) :: Ln.mk 49 3 T.r2.length (encA3 T.r2) :: Ln.mk 49 3 T.r3.length (encA3 T.r3) :: Ln.mk 49 3 T.r4.length (encA3 T.r4) :: Ln.mk 49 3 T.r5.length (encA3 T.r5) :: Ln.mk 49 3 T.r6.length (encA3 T.r6) :: Ln.mk 49 3 T.r7.length (encA3 T.r7) :: Ln.mk 49 3 T.r8.length (encA3 T.r8) ::
  T.sc.map (fun s => Ln.mk 68 2 s.2.length (encS2 s.2))
theorem infoMap : (Tryz.prog.info? 77).map (fun i => (i.zero, i.size, i.bytes)) = some (some (.agg #[.int .i32 0, .string ⟨#[]⟩]), 2, 24) := by kernel_rfl
theorem mapping_e (R Tx g : Nat) (ws : List W8) (k : Nat) (bad : Option Rf) (eb el ec : Int) (V : Mp) (he : mapV ws k bad eb el ec = V) (W : World) (h : RdE W R Tx g ws k bad eb el ec) :
    Calls Tryz.prog 115 #[.pointer (some ⟨R, 0, none⟩)] W fun e w' => e = .returned (.agg #[.int .i32 V.fr, .string (runesBytes V.tw)]) ∧ RdE w' R Tx g ws V.k V.bad eb el ec ∧ W.grownBy w' (some R) := by
  subst he
  exact mapping_any R Tx g ws k bad eb el ec W h
theorem RdE.drew {W : World} {R Tx g : Nat} {ws : List W8} {k : Nat} {bad : Option Rf} {eb el ec : Int} (h : RdE W R Tx g ws k bad eb el ec) : RdE W.drew R Tx g ws k bad eb el ec := by
  obtain ⟨a, c, v, hb, ha, hc, hv⟩ := h.rd.blk
  have hg : ∀ row, W.grownBy W.drew row := fun row => ⟨rfl, rfl, rfl, Nat.le_refl _, fun _ _ _ => rfl⟩
  exact ⟨h.rd.upd (hg _) h.rd.kn a c v hb ha hc (hv.kept (hg Option.none) (fun F x _ => by simp)), h.en.kept (hg Option.none) (by simp), h.ne⟩
set_option maxRecDepth 100000 in
set_option maxHeartbeats 4000000 in
theorem fold_any (R Tx g lo : Nat) (ws : List W8) (k : Nat) (bad : Option Rf) (eb el ec fb fl fc : Int) (vs : List Value) (ls : List Ln) (n1 n2 : Nat) (xs1 xs2 : List Value) (hl1 : ls[4]? = some ⟨77, 2, n1, xs1⟩) (hl2 : ls[8 + 5]? = some ⟨49, 3, n2, xs2⟩) (hn1 : n1 ≤ 1000000) (hn2 : n2 ≤ 1000000) (W0 W : World) (h : RuSt W0 W R Tx g lo ws k bad eb el ec vs ls) :
    Calls Tryz.prog 84 #[.pointer (some ⟨R, 0, none⟩), .agg #[.int .i64 fb, .int .i64 fl, .int .i64 fc]] W fun e w' => (∃ r, e = .returned r) ∧ ∃ va vb, RuSt W0 w' R Tx g lo ws (mapV ws k bad eb el ec).k (mapV ws k bad eb el ec).bad eb el ec ((vs.set 4 va).set (8 + 5) vb) ((ls.set 4 ⟨77, 2, n1 + 1, xs1 ++ [.int .i32 (mapV ws k bad eb el ec).fr, .string (runesBytes (mapV ws k bad eb el ec).tw)]⟩).set (8 + 5) ⟨49, 3, n2 + 1, xs2 ++ [.int .i64 fb, .int .i64 fl, .int .i64 fc]⟩) := by
  have hNR : R < W.heap.size := Nat.lt_of_lt_of_le h.hR h.low
  have HLo := hide h.low
  have HM := hide (fun (w : World) => mapping_e R Tx g ws k bad eb el ec _ rfl w)
  generalize mapV ws k bad eb el ec = V at *
  obtain ⟨fr, tw, k2, bad2⟩ := V
  dsimp only at HM
  dsimp only
  generalize runesBytes tw = tob at *
  obtain ⟨im, him, hm0, hm1, hm2⟩ := info_parts infoMap
  have HIM := hide (And.intro him (And.intro hm0 (And.intro hm1 hm2)))
  clear him hm0 hm1 hm2
  have hmx : Tryz.prog.follows .mixedOrders = true := by kernel_rfl
  have H := hide (h.alloc (.cells #[.int .i64 fb, .int .i64 fl, .int .i64 fc] 49))
  have HX := hide (Blk.new W #[.int .i64 fb, .int .i64 fl, .int .i64 fc] 49)
  clear h
  go_enter Tryz.func84, Tryz.ntmps84
  go_wp2_with fail
  generalize W.alloc (.cells #[.int .i64 fb, .int .i64 fl, .int .i64 fc] 49) = WA at *
  generalize W.heap.size = N at *
  obtain ⟨v, hv⟩ : ∃ v, vs[4]? = some v := ⟨_, List.getElem?_eq_getElem (by have := (unhide H).tb.lv; omega)⟩
  have how := (unhide H).tb.own _ _ _ hv hl1
  obtain ⟨va, vc, rfl⟩ := own_slice how
  have hg0 : ∀ b, Value.ownBlock (.slice va n1 vc) = some b → lo ≤ b := rd_from how
  obtain ⟨ra, rc, rv, hrb, _, _, _⟩ := (unhide H).rd.rd.blk
  have c1 : WA.cell? ⟨R, 1, none⟩ = some (.pointer (some ⟨Tx, 0, none⟩)) := hrb.cell 1
  have t0 := (unhide H).tb.cell (by omega) hv
  have hTl := (unhide H).tb.lt
  have hRl := (unhide H).hR
  have hl3 := (unhide H).low
  have hltR : R < WA.heap.size := by omega
  have hltT : Tx < WA.heap.size := by omega
  clear hrb
  go_region_law (first
    | (refine step_append_lies _ (by rfl) _ _ _ (by rfl) lo 77 im (.agg #[.int .i32 0, .string ⟨#[]⟩]) 2 24 Tryz.underlying26 (unhide HIM).1 (unhide HIM).2.1 (unhide HIM).2.2.1 (unhide HIM).2.2.2 rfl (by omega) _ n1 xs1 (by rfl) (((unhide H2).tb.own _ _ _ hv hl1).alloc _) ⟨w2.heap.size, 0, none⟩ 1 1 [.int .i32 fr, .string tob] (by rfl) (by rfl) (World.news_of_block (cs := #[.int .i32 fr, .string tob]) (t := 77) (fr := (0, 0)) (heap_alloc_new w2 _)) (by simp [Value.oneCell']) (by omega) (by unfold maxLen; omega) (by omega) (by simp; omega) (w2.heap.size + 1) (by simp) ?_; intro gg cap w4 hown1 hgrow hatt hlt; have q1 : w4.cell? ⟨Tx, 4, none⟩ = some (.slice va n1 vc) := hgrow.cell (a := ⟨Tx, 4, none⟩) t2 (by show some Tx ≠ Value.ownBlock (.slice va n1 vc); intro e; have := hg0 Tx e.symm; omega); have q2 : w4.frozen? ⟨Tx, 4, none⟩ = false := (Blk.kept ((unhide H2).alloc (.cells #[.int .i32 fr, .string tob] 77)).tb.blk hgrow (fun e => by have := hg0 Tx e.symm; omega)).frozen 4; have q3 : w4.cell? ⟨R, 1, none⟩ = some (.pointer (some ⟨Tx, 0, none⟩)) := hgrow.cell (a := ⟨R, 1, none⟩) ca2 (by show some R ≠ Value.ownBlock (.slice va n1 vc); intro e; have := hg0 R e.symm; omega))
    | (go_simp; refine (unhide HM _ (unhide H).rd.drew).mono ?_; rintro e w2 ⟨rfl, hR2, hg2⟩; have H2 := hide ((unhide H).call hR2 ⟨hg2.os, hg2.tape, hg2.output, hg2.size, hg2.block⟩); have HX2 := hide ((unhide HX).kept (W' := w2) ⟨hg2.os, hg2.tape, hg2.output, hg2.size, hg2.block⟩ (fun e => by have := Option.some.inj e; omega)); have hb2 := (unhide H2).rd.rd.blk; obtain ⟨ra2, rc2, rv2, hrb2, _, _, _⟩ := hb2; have c2 : w2.cell? ⟨R, 1, none⟩ = some (.pointer (some ⟨Tx, 0, none⟩)) := hrb2.cell 1; have ca2 := (hrb2.alloc (.cells #[.int .i32 fr, .string tob] 77)).cell 1; have t1 := (unhide H2).tb.cell (by omega) hv; have t2 := ((unhide H2).alloc (.cells #[.int .i32 fr, .string tob] 77)).tb.cell (by omega) hv; have hl2' := (unhide H2).low; have hltR2 : R < w2.heap.size := (by omega); have hltT2 : Tx < w2.heap.size := (by omega); clear hrb2 hR2 hg2))
  all_goals
    have hNx : some N ≠ Value.ownBlock (.slice va n1 vc) := blk_row (unhide HX2) ((unhide H2).tb.own _ _ _ hv hl1) (show (77 : Nat) ≠ 49 by decide)
    have H4 := hide (((unhide H2).alloc (.cells #[.int .i32 fr, .string tob] 77)).put (W1 := w4) (by omega) hv hl1 (show (77 : Nat) ≠ 54 by decide) hown1 ⟨hgrow.os, hgrow.tape, hgrow.output, hgrow.size, hgrow.block⟩ (by rcases hatt with e | e; exact .inl e.symm; exact .inr (by rw [e]; simp [Value.ownBlock])))
    have hx5 := (Blk.kept (W := (w2.alloc (.cells #[.int .i32 fr, .string tob] 77))) ((unhide HX2).alloc _) hgrow hNx).kept (grown_set' w4 Tx 4 (.slice (some ⟨gg, 0, none⟩) (n1 + 1) cap)) (fun e => by have := Option.some.inj e; have := unhide HLo; omega)
    clear hgrow hown1 hatt hlt q1 q2 q3 H2 HX2 how c1 t0 ca2 t1 t2 c2
    generalize w4.setCell ⟨Tx, 4, none⟩ (.slice (some ⟨gg, 0, none⟩) (n1 + 1) cap) = w5 at *
    have x0 := hx5.cell 0
    have x1 := hx5.cell 1
    have x2 := hx5.cell 2
    clear hx5
    have HP := hide (Blk.new w5 #[.int .i64 fb, .int .i64 fl, .int .i64 fc] 49)
    go_wp2_with fail
    refine (rows_ru W0 R Tx g lo ws k2 bad2 eb el ec _ _ 5 (by omega) n2 xs2 (by rw [List.getElem?_set_ne (by decide)]; exact hl2) _ 1 1 [.int .i64 fb, .int .i64 fl, .int .i64 fc] (by omega) _ ((unhide H4).alloc _) (.inr ⟨_, rfl, by decide, rfl, World.news_of_block (cs := #[.int .i64 fb, .int .i64 fl, .int .i64 fc]) (t := 49) (fr := (0, 0)) (heap_alloc_new w5 _), by simp [Value.oneCell']⟩)).mono ?_
    rintro e w6 ⟨⟨r, rfl⟩, vb, hfin⟩
    go_wp2_with fail
    go_end0
    exact ⟨⟨_, rfl⟩, _, vb, hfin⟩
end Go.Proofs.YtjgfmobmilgapaaGreatDoor
