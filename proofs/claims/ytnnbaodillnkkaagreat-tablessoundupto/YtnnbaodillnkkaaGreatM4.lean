/- Texts of this claim, one behind the other. -/
import Derived.Test.YtnnbaodillnkkaaGreatM2
import Derived.Test.YtnnbaodillnkkaaGreatM3
import Derived.Deep.RegionHeld3
/- Which tables are right: mathematics. -/
namespace Go.Proofs.YtnnbaodillnkkaaGreat
open Go.RowKit Go.Shelf
set_option linter.unusedVariables false
def rowsW (list : Int) (n : Nat) (f : Nat → Int) : Int × Int × Int :=
  match (List.range n).find? (fun j => f j != 0) with
  | some k => (f k, list, (k : Int))
  | none => (0, 0, 0)
theorem rowsW_bad {list : Int} {n : Nat} {f : Nat → Int} (k : Nat) (hk : k < n) (h0 : ∀ i, i < k → f i = 0) (h1 : f k ≠ 0) : rowsW list n f = (f k, list, (k : Int)) := by
  have : (List.range n).find? (fun j => f j != 0) = some k := by
    rw [List.find?_range_eq_some]
    exact ⟨by simpa using h1, by simpa using hk, fun j hj => by simp [h0 j hj]⟩
  unfold rowsW
  rw [this]
theorem rowsW_ok {list : Int} {n : Nat} {f : Nat → Int} (h0 : ∀ i, i < n → f i = 0) : rowsW list n f = (0, 0, 0) := by
  have : (List.range n).find? (fun j => f j != 0) = none := by
    rw [List.find?_eq_none]
    intro j hj
    simp [h0 j (by simpa using hj)]
  unfold rowsW
  rw [this]
theorem rowsW_cases (list : Int) (n : Nat) (f : Nat → Int) : (∃ k, k < n ∧ (∀ i, i < k → f i = 0) ∧ f k ≠ 0 ∧ rowsW list n f = (f k, list, (k : Int))) ∨ ((∀ i, i < n → f i = 0) ∧ rowsW list n f = (0, 0, 0)) := by
  cases h : (List.range n).find? (fun j => f j != 0) with
  | none =>
    refine .inr ⟨fun i hi => ?_, by unfold rowsW; rw [h]⟩
    have := List.find?_eq_none.1 h i (List.mem_range.2 hi)
    simpa using this
  | some k =>
    rw [List.find?_range_eq_some] at h
    obtain ⟨h1, h2, h3⟩ := h
    refine .inl ⟨k, by simpa using h2, fun i hi => by simpa using h3 i hi, by simpa using h1, rowsW_bad k (by simpa using h2) (fun i hi => by simpa using h3 i hi) (by simpa using h1)⟩
def OkW (x : Int × Int × Int) : Prop := x.1 = 0 → x = (0, 0, 0)
theorem rowsW_okW (list : Int) (n : Nat) (f : Nat → Int) : OkW (rowsW list n f) := by
  rcases rowsW_cases list n f with ⟨k, h1, h2, h3, e⟩ | ⟨h1, e⟩
  · rw [e]; intro h; exact absurd h h3
  · rw [e]; intro _; rfl
def orW : List (Int × Int × Int) → Int × Int × Int
  | [] => (0, 0, 0)
  | x :: r => if x.1 = 0 then orW r else x
theorem orW_okW : ∀ (l : List (Int × Int × Int)), OkW (orW l)
  | [] => fun _ => rfl
  | x :: r => by
    show OkW (if x.1 = 0 then orW r else x)
    by_cases h : x.1 = 0
    · rw [if_pos h]; exact orW_okW r
    · rw [if_neg h]; intro h'; exact absurd h' h
theorem orW_cons0 {x : Int × Int × Int} {r : List (Int × Int × Int)} (h : x.1 = 0) : orW (x :: r) = orW r := by
  show (if x.1 = 0 then orW r else x) = orW r
  rw [if_pos h]
theorem orW_cons1 {x : Int × Int × Int} {r : List (Int × Int × Int)} (h : x.1 ≠ 0) : orW (x :: r) = x := by
  show (if x.1 = 0 then orW r else x) = x
  rw [if_neg h]
theorem orW_zero {l : List (Int × Int × Int)} (h : (orW l).1 = 0) : ∀ x ∈ l, x.1 = 0 := by
  induction l with
  | nil => intro x hx; cases hx
  | cons y r ih =>
    by_cases hy : y.1 = 0
    · rw [orW_cons0 hy] at h
      intro x hx
      rcases List.mem_cons.1 hx with rfl | hx
      · exact hy
      · exact ih h x hx
    · rw [orW_cons1 hy] at h; exact absurd h hy
theorem orW_append (l m : List (Int × Int × Int)) : orW (l ++ m) = if (orW l).1 = 0 then orW m else orW l := by
  induction l with
  | nil => simp [orW]
  | cons y r ih =>
    by_cases hy : y.1 = 0
    · rw [List.cons_append, orW_cons0 hy, orW_cons0 hy, ih]
    · rw [List.cons_append, orW_cons1 hy, orW_cons1 hy, if_neg hy]
def lenW (list : Int) (n m : Nat) : Int × Int × Int := if n ≤ m then (0, 0, 0) else (4, list, (m : Int))
def longV (T : TV) : Int × Int × Int := orW [lenW 1 T.sc.length 64, rowsW 1 T.sc.length (fun i => if 1024 < (T.sc.getD i (ByteArray.empty, [])).2.length then 4 else 0), lenW 2 T.co.length 1024, lenW 3 T.ma.length 512, lenW 4 T.pr.length 4096, lenW 5 T.fo.length 4096, lenW 6 T.lk.length 4096, lenW 7 T.dr.length 1024, lenW 8 T.al.length 1024]
def smallC (c : Nat) : Bool := decide (97 ≤ c ∧ c ≤ 122)
def nameB (s : ByteArray) : Bool := decide (1 ≤ s.size ∧ s.size ≤ 32) && (smallC (bt s 0) && (List.range s.size).all (fun i => smallC (bt s i) || decide (bt s i = 45 ∨ (48 ≤ bt s i ∧ bt s i ≤ 57))))
def spW (list : Int) (l : List (Int × Int)) : Int × Int × Int := rowsW list l.length (badRow l)
def scF (x : ByteArray × List (Int × Int)) : Int := if nameB x.1 then (spW 1 x.2).1 else 38
def maF (x : Int × Int) : Int := if runeB x.1 then (if x.2 < 1 ∨ 254 < x.2 then 30 else 0) else 12
def prF (x : Int × Int × Int) : Int := if runeB x.1 && (runeB x.2.1 && runeB x.2.2) then 0 else 12
def toB (s : ByteArray) : Bool := okU s && decide (1 ≤ (runesL s).length ∧ (runesL s).length ≤ 4)
def mpF (x : Int × ByteArray) : Int := if runeB x.1 then (if toB x.2 then 0 else 35) else 12
def sc0 : ByteArray × List (Int × Int) := (ByteArray.empty, [])
def ma0 : Int × Int := (0, 0)
def pr0 : Int × Int × Int := (0, 0, 0)
def mp0 : Int × ByteArray := (0, ByteArray.empty)
def eachW {α : Type} (list : Int) (l : List α) (d : α) (f : α → Int) : Int × Int × Int := rowsW list l.length (fun i => f (l.getD i d))
def formsV (T : TV) : Int × Int × Int := orW [eachW 1 T.sc sc0 scF, spW 2 T.co, eachW 3 T.ma ma0 maF, eachW 4 T.pr pr0 prF, eachW 5 T.fo mp0 mpF, eachW 6 T.lk mp0 mpF, spW 7 T.dr, spW 8 T.al]
def twF {α β : Type} [BEq β] (l : List α) (d : α) (key : α → β) (i : Nat) : Int := if (l.take i).any (fun y => key y == key (l.getD i d)) then 14 else 0
def twP (l : List (Int × Int × Int)) (i : Nat) : Int := if (l.take i).any (fun y => decide (y.1 = (l.getD i pr0).1 ∨ (y.2.1 = (l.getD i pr0).2.1 ∧ y.2.2 = (l.getD i pr0).2.2))) then 14 else 0
def twiceV (T : TV) : Int × Int × Int := orW [rowsW 1 T.sc.length (twF T.sc sc0 (fun x => x.1.data.toList)), rowsW 3 T.ma.length (twF T.ma ma0 (fun x => x.1)), rowsW 4 T.pr.length (twP T.pr), rowsW 5 T.fo.length (twF T.fo mp0 (fun x => x.1)), rowsW 6 T.lk.length (twF T.lk mp0 (fun x => x.1))]
def markB (T : TV) (r : Int) : Bool := T.ma.any (fun x => x.1 == r)
def wholP (T : TV) (r : Int) : Option (Int × Int × Int) := T.pr.find? (fun x => x.1 == r)
def wholB (T : TV) (r : Int) : Bool := T.pr.any (fun x => x.1 == r)
def fromB (l : List (Int × ByteArray)) (r : Int) : Bool := l.any (fun x => x.1 == r)
def classOf (T : TV) (r : Int) : Int := match T.ma.find? (fun x => x.1 == r) with
  | some x => x.2
  | none => 0
def prE (T : TV) (x : Int × Int × Int) : Int := if markB T x.1 || (markB T x.2.1 || !markB T x.2.2) then 32 else 0
def chainF (T : TV) : Nat → Int → Nat → Option Nat
  | 0, _, _ => none
  | f + 1, b, n => match wholP T b with
    | none => some n
    | some q => chainF T f q.2.1 (n + 1)
def prR (T : TV) (x : Int × Int × Int) : Int := match chainF T T.pr.length x.2.1 1 with
  | none => 33
  | some n => if 4 < n then 34 else 0
def drB (T : TV) (r : Int) : Bool := memB T.dr r
def plainB (T : TV) (r : Int) : Bool := runeB r && (!markB T r && (!wholB T r && (!drB T r && !fromB T.fo r)))
def dropsV (T : TV) : Int × Int × Int := orW [eachW 3 T.ma ma0 (fun x => if drB T x.1 then 37 else 0), eachW 4 T.pr pr0 (fun x => if drB T x.1 || (drB T x.2.1 || drB T x.2.2) then 37 else 0), eachW 5 T.fo mp0 (fun x => if drB T x.1 then 37 else 0), eachW 6 T.lk mp0 (fun x => if drB T x.1 then 37 else 0)]
def plainV (T : TV) : Int × Int × Int := orW [eachW 5 T.fo mp0 (fun x => if markB T x.1 || wholB T x.1 then 31 else 0), eachW 6 T.lk mp0 (fun x => if markB T x.1 || wholB T x.1 then 31 else 0)]
def tosV (T : TV) : Int × Int × Int := orW [eachW 5 T.fo mp0 (fun x => if (runesL x.2).any (fun r => !plainB T r) then 35 else 0), eachW 6 T.lk mp0 (fun x => if (runesL x.2).any (fun r => !plainB T r || fromB T.lk r) then 36 else 0)]
def setR (r : Int) : Bool := decide (r < 32 ∨ r = 45 ∨ r = 46 ∨ r = 65533)
def lowR (r : Int) : Bool := decide (r < 128 ∨ r = 65533)
def setsB (s : ByteArray) : Bool := (runesL s).any setR
def labR (r : Int) : Bool := decide (r = 45 ∨ (48 ≤ r ∧ r ≤ 57) ∨ (97 ≤ r ∧ r ≤ 122))
def lackW (list : Int) (l : List (Int × Int)) (must : List Int) : Int × Int × Int := if must.all (fun r => memB l r) then (0, 0, 0) else (5, list, 0)
def comL : List Int := [45, 46, 48, 49, 50, 51, 52, 53, 54, 55, 56, 57]
def labL : List Int := [45, 48, 49, 50, 51, 52, 53, 54, 55, 56, 57] ++ (List.range 26).map (fun k => ((97 + k : Nat) : Int))
def drF (x : Int × Int) : Int := if x.1 < 128 ∨ (x.1 ≤ 65533 ∧ 65533 ≤ x.2) then 5 else 0
def alF (x : Int × Int) : Int := if (List.range 128).any (fun k => decide (x.1 ≤ (k : Int) ∧ (k : Int) ≤ x.2) && !labR k) then 5 else 0
def houseV (T : TV) : Int × Int × Int := orW [lackW 2 T.co comL, eachW 3 T.ma ma0 (fun x => if lowR x.1 then 5 else 0), eachW 4 T.pr pr0 (fun x => if lowR x.1 then 5 else 0), eachW 5 T.fo mp0 (fun x => if (lowR x.1 && decide (x.1 < 65 ∨ 90 < x.1)) || setsB x.2 then 5 else 0), eachW 6 T.lk mp0 (fun x => if setR x.1 || setsB x.2 then 5 else 0), eachW 7 T.dr ma0 drF, eachW 8 T.al ma0 alF, lackW 8 T.al labL]
def pairsV (T : TV) : Int × Int × Int := eachW 4 T.pr pr0 (prE T)
def ringV (T : TV) : Int × Int × Int := eachW 4 T.pr pr0 (prR T)
def checkV (T : TV) : Int × Int × Int := orW [longV T, formsV T, twiceV T, pairsV T, ringV T, dropsV T, plainV T, tosV T, houseV T]
theorem checkV_okW (T : TV) : OkW (checkV T) := orW_okW _
def wrV (x : Int × Int × Int) : Value := .agg #[.int .i64 x.1, .int .i64 x.2.1, .int .i64 x.2.2]
set_option maxRecDepth 100000 in
theorem when_any (b : Bool) (y : Int) (w : World) : Calls Tryz.prog 73 #[.bool b, .int .i64 y] w fun e w' => e = .returned (.int .i64 (if b = true then y else 0)) ∧ w' = w := by
  go_enter Tryz.func73, Tryz.ntmps73
  cases b <;> go_wp2 <;> go_ret <;> exact ⟨rfl, rfl⟩
set_option maxRecDepth 100000 in
set_option maxHeartbeats 2000000 in
theorem longer_any (list : Int) (n m : Nat) (w : World) : Calls Tryz.prog 70 #[.int .i64 list, .int .i64 n, .int .i64 m] w fun e w' => e = .returned (wrV (lenW list n m)) ∧ Below w.heap.size w w' := by
  have hB : Below w.heap.size w (w.alloc (.cells #[.int .i64 0, .int .i64 0, .int .i64 0] 37)) := (Below.refl _ w).alloc (Nat.le_refl _) _
  by_cases h : n ≤ m
  · have h' : (n : Int) ≤ (m : Int) := by omega
    have e : lenW list n m = (0, 0, 0) := if_pos h
    rw [e]
    go_enter Tryz.func70, Tryz.ntmps70
    go_wp2
    exact bodyPost_ret (v := wrV (0, 0, 0)) (by simp [results, Tryz.results70, go_sem, wrV]) rfl ⟨rfl, hB⟩
  · have h' : ¬ (n : Int) ≤ (m : Int) := by omega
    have e : lenW list n m = (4, list, (m : Int)) := if_neg h
    rw [e]
    go_enter Tryz.func70, Tryz.ntmps70
    go_wp2
    exact bodyPost_ret (v := wrV (4, list, (m : Int))) (by simp [results, Tryz.results70, go_sem, wrV]) rfl ⟨rfl, (Below.refl _ w).alloc (Nat.le_refl _) _⟩
theorem blk3 {w : World} {R : Nat} {t : TypeId} {v0 v1 v2 : Value} (hb : Blk w R #[v0, v1, v2] t) (x y z : Value) : Blk (((w.setCell ⟨R, 0, none⟩ x).setCell ⟨R, 1, none⟩ y).setCell ⟨R, 2, none⟩ z) R #[x, y, z] t := ((hb.set 0 x).set 1 y).set 2 z
theorem ret3 {fn : Func} {p : Tmp} {tmps : Array Value} {w : World} {R : Nat} {cs : Array Value} (h : fn.results = #[.cell p 37]) (hp : tmps.getD p undef = .pointer (some ⟨R, 0, none⟩)) (hb : Blk w R cs 37) (hc : cs.size = 3) : (results fn tmps).run Tryz.prog w = .ok (.agg cs) w :=
  results_cell_row h tmps w R _ cs _ _ hp hb Tryz.underlying37 rfl (by rw [hc]; kernel_rfl)
theorem below3 {lo R : Nat} {W w : World} (h : Below lo W w) (hl : lo ≤ R) (hs : lo ≤ w.heap.size) (x y z : Value) : Below lo W (((w.setCell ⟨R, 0, none⟩ x).setCell ⟨R, 1, none⟩ y).setCell ⟨R, 2, none⟩ z) := by
  have g1 := grown_set' w R 0 x
  have g2 := grown_set' (w.setCell ⟨R, 0, none⟩ x) R 1 y
  have g3 := grown_set' ((w.setCell ⟨R, 0, none⟩ x).setCell ⟨R, 1, none⟩ y) R 2 z
  exact ((h.grown g1 hs (fun k hk => by have := Option.some.inj hk; omega)).grown g2 (Nat.le_trans hs g1.size) (fun k hk => by have := Option.some.inj hk; omega)).grown g3 (Nat.le_trans hs (Nat.le_trans g1.size g2.size)) (fun k hk => by have := Option.some.inj hk; omega)
def RwW (w : World) (g o : Nat) (l : List (Int × Int × Int)) : Prop := ∀ j x, l[j]? = some x → w.cell? ⟨g, o + j * 3, none⟩ = some (.int .i64 x.1) ∧ w.cell? ⟨g, o + j * 3 + 1, none⟩ = some (.int .i64 x.2.1) ∧ w.cell? ⟨g, o + j * 3 + 2, none⟩ = some (.int .i64 x.2.2)
structure OrS (W w : World) : Prop where
  bl : Below W.heap.size W w
  r : Blk w W.heap.size #[.int .i64 0, .int .i64 0, .int .i64 0] 37
  z : Blk w (W.heap.size + 1) #[.int .i64 0, .int .i64 0, .int .i64 0] 37
theorem OrS.alloc {W w : World} (h : OrS W w) (o : Obj) : OrS W (w.alloc o) := ⟨h.bl.alloc h.bl.size o, h.r.alloc o, h.z.alloc o⟩
set_option maxRecDepth 100000 in
set_option maxHeartbeats 2000000 in
theorem orWrong_any (l : List (Int × Int × Int)) (hl : l.length ≤ 100) (hk : ∀ x ∈ l, OkW x) (g o c : Nat) (w : World) (hg : g < w.heap.size) (hc : RwW w g o l) :
    Calls Tryz.prog 69 #[.slice (some ⟨g, o, none⟩) l.length c] w fun e w' => e = .returned (wrV (orW l)) ∧ Below w.heap.size w w' := by
  have hB0 : Below w.heap.size w ((w.alloc (.cells #[.int .i64 0, .int .i64 0, .int .i64 0] 37)).alloc (.cells #[.int .i64 0, .int .i64 0, .int .i64 0] 37)) := ((Below.refl _ w).alloc (Nat.le_refl _) _).alloc (by simp) _
  have bR := (Blk.new w #[.int .i64 0, .int .i64 0, .int .i64 0] 37).alloc (.cells #[.int .i64 0, .int .i64 0, .int .i64 0] 37)
  have bZ := Blk.new (w.alloc (.cells #[.int .i64 0, .int .i64 0, .int .i64 0] 37)) #[.int .i64 0, .int .i64 0, .int .i64 0] 37
  rw [World.size_alloc] at bZ
  have HS0 : Hz (OrS w _) := hide ⟨hB0, bR, bZ⟩
  have HC := hide hc
  have HK := hide hk
  clear hB0 bR bZ hc hk
  go_enter Tryz.func69, Tryz.ntmps69
  go_wp2
  generalize (w.alloc (.cells #[.int .i64 0, .int .i64 0, .int .i64 0] 37)).alloc (.cells #[.int .i64 0, .int .i64 0, .int .i64 0] 37) = w1 at *
  go_loopw [5, 8] (fun _ s8 wr => ∃ k : Nat, k ≤ l.length ∧ s8 = .int .i64 k ∧ Hz (orW l = orW (l.drop k)) ∧ Hz (OrS w wr)) (fun _ s8 _ => l.length - (intOf s8).toNat)
  case atStart => exact ⟨0, by omega, rfl, hide (by rw [List.drop_zero]), HS0⟩
  case round =>
    obtain ⟨k, hkl, rfl, HO, HS⟩ := hrel
    clear HS0
    by_cases hkn : k < l.length
    · obtain ⟨x, hx⟩ : ∃ x, l[k]? = some x := ⟨_, List.getElem?_eq_getElem hkn⟩
      have hd : l.drop k = x :: l.drop (k + 1) := by
        rw [List.drop_eq_getElem_cons hkn]
        congr 1
        exact Option.some.inj ((List.getElem?_eq_getElem hkn).symm.trans hx)
      obtain ⟨e0, e1, e2⟩ := unhide HC k x hx
      have c0 : wr.cell? ⟨g, o + k * 3, none⟩ = some (.int .i64 x.1) := ((unhide HS).bl.cell (p := ⟨g, o + k * 3, none⟩) hg).trans e0
      have c1 : wr.cell? ⟨g, o + k * 3 + 1, none⟩ = some (.int .i64 x.2.1) := ((unhide HS).bl.cell (p := ⟨g, o + k * 3 + 1, none⟩) hg).trans e1
      have c2 : wr.cell? ⟨g, o + k * 3 + 2, none⟩ = some (.int .i64 x.2.2) := ((unhide HS).bl.cell (p := ⟨g, o + k * 3 + 2, none⟩) hg).trans e2
      have hk1 : (k : Int) < (l.length : Int) := by omega
      have hk2 : ((k : Nat) : Int).toNat = k := by omega
      clear e0 e1 e2
      by_cases hx0 : x.1 = 0
      · have HO2 : Hz (orW l = orW (l.drop (k + 1))) := hide (by rw [unhide HO, hd, orW_cons0 hx0])
        obtain rfl := unhide HK x (List.mem_of_getElem? hx) hx0
        dsimp only at c0 c1 c2
        have HS2 := hide ((unhide HS).alloc (.cells #[.int .i64 0, .int .i64 0, .int .i64 0] 37))
        have z0 := (unhide HS2).z.cell 0
        have z1 := (unhide HS2).z.cell 1
        have z2 := (unhide HS2).z.cell 2
        clear hx hd hx0 HO HS
        go_wp2_with fail
        exact ⟨⟨k + 1, by omega, by go_num, HO2, HS2⟩, by simp [intOf]; omega⟩
      · have HO2 : Hz (orW l = x) := hide (by rw [unhide HO, hd, orW_cons1 hx0])
        obtain ⟨x0, x1, x2⟩ := x
        dsimp only at c0 c1 c2 hx0
        have HS2 := hide ((unhide HS).alloc (.cells #[.int .i64 x0, .int .i64 x1, .int .i64 x2] 37))
        have z0 := (unhide HS2).z.cell 0
        have z1 := (unhide HS2).z.cell 1
        have z2 := (unhide HS2).z.cell 2
        have r0 := (unhide HS2).r.cell 0
        have r1 := (unhide HS2).r.cell 1
        have r2 := (unhide HS2).r.cell 2
        have f0 := (unhide HS2).r.frozen 0
        have f1 := (unhide HS2).r.frozen 1
        have f2 := (unhide HS2).r.frozen 2
        have q0 : (x0 == 0) = false := by simpa using hx0
        clear hx hd hx0 HO HS
        go_wp2_with fail
        rw [unhide HO2]
        exact bodyPost_ret (v := wrV (x0, x1, x2)) (ret3 Tryz.results69 rfl (blk3 (unhide HS2).r _ _ _) rfl) rfl ⟨rfl, below3 (unhide HS2).bl (Nat.le_refl _) (unhide HS2).bl.size _ _ _⟩
    · have hk1 : ¬ (k : Int) < (l.length : Int) := by omega
      have HO2 : Hz (orW l = (0, 0, 0)) := hide (by rw [unhide HO, List.drop_of_length_le (by omega)]; rfl)
      have z0 := (unhide HS).z.cell 0
      have z1 := (unhide HS).z.cell 1
      have z2 := (unhide HS).z.cell 2
      have r0 := (unhide HS).r.cell 0
      have r1 := (unhide HS).r.cell 1
      have r2 := (unhide HS).r.cell 2
      have f0 := (unhide HS).r.frozen 0
      have f1 := (unhide HS).r.frozen 1
      have f2 := (unhide HS).r.frozen 2
      go_wp2_with fail
      rw [unhide HO2]
      exact bodyPost_ret (v := wrV (0, 0, 0)) (ret3 Tryz.results69 rfl (blk3 (unhide HS).r _ _ _) rfl) rfl ⟨rfl, below3 (unhide HS).bl (Nat.le_refl _) (unhide HS).bl.size _ _ _⟩
end Go.Proofs.YtnnbaodillnkkaaGreat
