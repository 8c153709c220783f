/- The reference's Print (guiseref5). -/
import Derived.Test.YtgchlilpjkndlaaGreatDoorM31
import Derived.Test.YtgchlilpjkndlaaGreatDoorPeC
import Derived.Test.YtgchlilpjkndlaaGreatDoorM22
import Derived.Deep.RegionHeld3
namespace Go.Proofs.YtgchlilpjkndlaaGreatDoor
open Go.RowKit Go.Shelf
set_option linter.unusedVariables false
def pnSc (q : ByteArray × Bool) (x : ByteArray × List (Int × Int)) : ByteArray × Bool := pnSpans (q.1, q.2 || !legalB x.1) (⟨#[115, 99, 114, 105, 112, 116, 32]⟩ ++ x.1) x.2
def pnLi (q : ByteArray × Bool) (word : ByteArray) (l : List (Int × Int)) : ByteArray × Bool := if l.length = 0 then q else pnSpans q word l
def pnMa (q : ByteArray × Bool) (x : Int × Int) : ByteArray × Bool := ((((pn1 (pnS q ⟨#[109, 97, 114, 107, 32]⟩) x.1).1 ++ ⟨#[32]⟩) ++ decB (if clsB x.2 = true then x.2.toNat else 0)) ++ ⟨#[32, 59, 10]⟩, (pn1 (pnS q ⟨#[109, 97, 114, 107, 32]⟩) x.1).2 || !clsB x.2)
def pnPr (q : ByteArray × Bool) (x : Int × Int × Int) : ByteArray × Bool := pnS (pn1 (pnS (pn1 (pnS (pn1 (pnS q ⟨#[112, 97, 105, 114, 32]⟩) x.1) ⟨#[32, 61, 32]⟩) x.2.1) ⟨#[32, 43, 32]⟩) x.2.2) ⟨#[32, 59, 10]⟩
theorem pnSpans_size (q : ByteArray × Bool) (word : ByteArray) (l : List (Int × Int)) : (pnSpans q word l).1.size ≤ q.1.size + word.size + 5 + 2005 * l.length := by
  have key : ∀ (l : List (Int × Int)) (q : ByteArray × Bool), (l.foldl pnSpan q).1.size ≤ q.1.size + 2005 * l.length := by
    intro l
    induction l with
    | nil => intro q; simp
    | cons x l ih =>
      intro q
      have a := ih (pnSpan q x)
      have b := pnSpan_size q x
      rw [List.foldl_cons, List.length_cons]
      omega
  have e1 : (⟨#[32, 123]⟩ : ByteArray).size = 2 := rfl
  have e2 : (⟨#[32, 125, 10]⟩ : ByteArray).size = 3 := rfl
  have a := key l (pnS (pnS q word) ⟨#[32, 123]⟩)
  unfold pnSpans
  rw [pnS_size]
  rw [pnS_size, pnS_size] at a
  omega
theorem pnSc_size (q : ByteArray × Bool) (x : ByteArray × List (Int × Int)) : (pnSc q x).1.size ≤ q.1.size + x.1.size + 12 + 2005 * x.2.length := by
  have a := pnSpans_size (q.1, q.2 || !legalB x.1) (⟨#[115, 99, 114, 105, 112, 116, 32]⟩ ++ x.1) x.2
  rw [ByteArray.size_append] at a
  have e1 : (⟨#[115, 99, 114, 105, 112, 116, 32]⟩ : ByteArray).size = 7 := rfl
  unfold pnSc
  dsimp only at a
  omega
theorem clsB_iff {n : Int} : clsB n = true ↔ 0 ≤ n ∧ n ≤ 65535 := by unfold clsB; rw [Bool.and_eq_true, decide_eq_true_iff, decide_eq_true_iff]
theorem pnMa_size (q : ByteArray × Bool) (x : Int × Int) : (pnMa q x).1.size ≤ q.1.size + 66546 := by
  have e1 : (⟨#[32]⟩ : ByteArray).size = 1 := rfl
  have e2 : (⟨#[109, 97, 114, 107, 32]⟩ : ByteArray).size = 5 := rfl
  have e3 : (⟨#[32, 59, 10]⟩ : ByteArray).size = 3 := rfl
  have a := pn1_size (pnS q ⟨#[109, 97, 114, 107, 32]⟩) x.1
  rw [pnS_size] at a
  have b := nd_le (if clsB x.2 = true then x.2.toNat else 0)
  have c : (if clsB x.2 = true then x.2.toNat else 0) ≤ 65535 := by
    split
    · rename_i h; have := clsB_iff.1 h; omega
    · omega
  unfold pnMa
  dsimp only
  rw [ByteArray.size_append, ByteArray.size_append, ByteArray.size_append]
  omega
theorem pnPr_size (q : ByteArray × Bool) (x : Int × Int × Int) : (pnPr q x).1.size ≤ q.1.size + 3014 := by
  have e1 : (⟨#[112, 97, 105, 114, 32]⟩ : ByteArray).size = 5 := rfl
  have e2 : (⟨#[32, 61, 32]⟩ : ByteArray).size = 3 := rfl
  have e3 : (⟨#[32, 43, 32]⟩ : ByteArray).size = 3 := rfl
  have e4 : (⟨#[32, 59, 10]⟩ : ByteArray).size = 3 := rfl
  have a := pn1_size (pnS q ⟨#[112, 97, 105, 114, 32]⟩) x.1
  have b := pn1_size (pnS (pn1 (pnS q ⟨#[112, 97, 105, 114, 32]⟩) x.1) ⟨#[32, 61, 32]⟩) x.2.1
  have c := pn1_size (pnS (pn1 (pnS (pn1 (pnS q ⟨#[112, 97, 105, 114, 32]⟩) x.1) ⟨#[32, 61, 32]⟩) x.2.1) ⟨#[32, 43, 32]⟩) x.2.2
  rw [pnS_size] at a b c
  unfold pnPr
  rw [pnS_size]
  omega
theorem pnMaps_size (word : ByteArray) (hw : word.size ≤ 1000) : ∀ (l : List (Int × ByteArray)) (q : ByteArray × Bool), (∀ x ∈ l, I32 x.1 ∧ x.2.size ≤ 1048576) → (l.foldl (pnMap word) q).1.size ≤ q.1.size + 1050000000 * l.length
  | [], q, _ => by simp
  | x :: l, q, h => by
    have a := pnMaps_size word hw l (pnMap word q x) (fun y hy => h y (List.mem_cons_of_mem _ hy))
    have b := pnMap_size word q x (runesL_le _)
    have c := (h x (List.mem_cons_self ..)).2
    rw [List.foldl_cons, List.length_cons]
    omega
def refP (T : TV) : ByteArray × Bool := pnLi (pnLi (T.lk.foldl (pnMap ⟨#[108, 111, 111, 107]⟩) (T.fo.foldl (pnMap ⟨#[102, 111, 108, 100]⟩) (T.pr.foldl pnPr (T.ma.foldl pnMa (pnLi (T.sc.foldl pnSc (⟨#[]⟩, false)) ⟨#[99, 111, 109, 109, 111, 110]⟩ T.co))))) ⟨#[100, 114, 111, 112]⟩ T.dr) ⟨#[97, 108, 108, 111, 119]⟩ T.al
def refPV (T : TV) : ByteArray × Int := if (refP T).2 = true then (⟨#[]⟩, 5) else if 262144 < (refP T).1.size then (⟨#[]⟩, 3) else ((refP T).1, 0)
/-- What the walk of the reference's Print wants of a table. -/
structure TabR (T : TV) : Prop where
  o : TabOk T
  s : ∀ x ∈ T.sc, x.1.size ≤ 1048576 ∧ ∀ y ∈ x.2, I32 y.1 ∧ I32 y.2
  co : ∀ y ∈ T.co, I32 y.1 ∧ I32 y.2
  dr : ∀ y ∈ T.dr, I32 y.1 ∧ I32 y.2
  al : ∀ y ∈ T.al, I32 y.1 ∧ I32 y.2
  ma : ∀ y ∈ T.ma, I32 y.1
  pr : ∀ y ∈ T.pr, I32 y.1 ∧ I32 y.2.1 ∧ I32 y.2.2
  fo : ∀ y ∈ T.fo, I32 y.1 ∧ y.2.size ≤ 1048576
  lk : ∀ y ∈ T.lk, I32 y.1 ∧ y.2.size ≤ 1048576
set_option maxRecDepth 100000 in
set_option maxHeartbeats 8000000 in
theorem refPrint_any (hLg : ∀ (s : ByteArray), s.size ≤ 1048576 → ∀ w : World, Calls Tryz.prog 32 #[.string s] w fun e w' => e = .returned (.bool (legalB s)) ∧ Below w.heap.size w w')
    (T : TV) (hT : TabR T) (a0 a1 a2 a3 a4 a5 a6 a7 : Option Addr) (c0 c1 c2 c3 c4 c5 c6 c7 : Nat) (us : List Value) (W : World) (hI : TabIn W T a0 a1 a2 a3 a4 a5 a6 a7 us) :
    Calls Tryz.prog 13 #[.agg (tabV T a0 a1 a2 a3 a4 a5 a6 a7 c0 c1 c2 c3 c4 c5 c6 c7)] W fun e w' => e = .returned (.tuple #[.string (refPV T).1, .int .i64 (refPV T).2]) ∧ Below W.heap.size W w' := by
  have hmx : Tryz.prog.follows .mixedOrders = true := by kernel_rfl
  have hB0 : Below W.heap.size W ((W.alloc (.cells #[.slice a0 T.sc.length c0, .slice a1 T.co.length c1, .slice a2 T.ma.length c2, .slice a3 T.pr.length c3, .slice a4 T.fo.length c4, .slice a5 T.lk.length c5, .slice a6 T.dr.length c6, .slice a7 T.al.length c7] 33)).alloc (.cells #[.string ⟨#[]⟩, .bool false] 90)) := ((Below.refl W.heap.size W).alloc (Nat.le_refl _) _).alloc (by simp) _
  have hZ : ((W.alloc (.cells #[.slice a0 T.sc.length c0, .slice a1 T.co.length c1, .slice a2 T.ma.length c2, .slice a3 T.pr.length c3, .slice a4 T.fo.length c4, .slice a5 T.lk.length c5, .slice a6 T.dr.length c6, .slice a7 T.al.length c7] 33)).alloc (.cells #[.string ⟨#[]⟩, .bool false] 90)).heap.size = W.heap.size + 2 := by simp
  have hX : Blk ((W.alloc (.cells #[.slice a0 T.sc.length c0, .slice a1 T.co.length c1, .slice a2 T.ma.length c2, .slice a3 T.pr.length c3, .slice a4 T.fo.length c4, .slice a5 T.lk.length c5, .slice a6 T.dr.length c6, .slice a7 T.al.length c7] 33)).alloc (.cells #[.string ⟨#[]⟩, .bool false] 90)) W.heap.size #[.slice a0 T.sc.length c0, .slice a1 T.co.length c1, .slice a2 T.ma.length c2, .slice a3 T.pr.length c3, .slice a4 T.fo.length c4, .slice a5 T.lk.length c5, .slice a6 T.dr.length c6, .slice a7 T.al.length c7] 33 := (Blk.new W #[.slice a0 T.sc.length c0, .slice a1 T.co.length c1, .slice a2 T.ma.length c2, .slice a3 T.pr.length c3, .slice a4 T.fo.length c4, .slice a5 T.lk.length c5, .slice a6 T.dr.length c6, .slice a7 T.al.length c7] 33).alloc _
  have hP : Pe ((W.alloc (.cells #[.slice a0 T.sc.length c0, .slice a1 T.co.length c1, .slice a2 T.ma.length c2, .slice a3 T.pr.length c3, .slice a4 T.fo.length c4, .slice a5 T.lk.length c5, .slice a6 T.dr.length c6, .slice a7 T.al.length c7] 33)).alloc (.cells #[.string ⟨#[]⟩, .bool false] 90)) ((W.alloc (.cells #[.slice a0 T.sc.length c0, .slice a1 T.co.length c1, .slice a2 T.ma.length c2, .slice a3 T.pr.length c3, .slice a4 T.fo.length c4, .slice a5 T.lk.length c5, .slice a6 T.dr.length c6, .slice a7 T.al.length c7] 33)).alloc (.cells #[.string ⟨#[]⟩, .bool false] 90)) (W.heap.size + 1) ⟨#[]⟩ false := ⟨by have := Blk.new (W.alloc (.cells #[.slice a0 T.sc.length c0, .slice a1 T.co.length c1, .slice a2 T.ma.length c2, .slice a3 T.pr.length c3, .slice a4 T.fo.length c4, .slice a5 T.lk.length c5, .slice a6 T.dr.length c6, .slice a7 T.al.length c7] 33)) #[.string ⟨#[]⟩, .bool false] 90; rw [World.size_alloc] at this; exact this, ⟨rfl, rfl, rfl, Nat.le_refl _, fun _ _ _ => rfl⟩⟩
  have hI2 : ∀ {a : Option Addr} {xs : List Value}, RowC W W.heap.size a xs → RowC ((W.alloc (.cells #[.slice a0 T.sc.length c0, .slice a1 T.co.length c1, .slice a2 T.ma.length c2, .slice a3 T.pr.length c3, .slice a4 T.fo.length c4, .slice a5 T.lk.length c5, .slice a6 T.dr.length c6, .slice a7 T.al.length c7] 33)).alloc (.cells #[.string ⟨#[]⟩, .bool false] 90)) (W.heap.size + 1) a xs := fun h => h.below hB0 (by omega)
  have HBX : Hz (∀ w', ((W.alloc (.cells #[.slice a0 T.sc.length c0, .slice a1 T.co.length c1, .slice a2 T.ma.length c2, .slice a3 T.pr.length c3, .slice a4 T.fo.length c4, .slice a5 T.lk.length c5, .slice a6 T.dr.length c6, .slice a7 T.al.length c7] 33)).alloc (.cells #[.string ⟨#[]⟩, .bool false] 90)).grownBy w' (some (W.heap.size + 1)) → w'.cell? ⟨W.heap.size, 0, none⟩ = some (.slice a0 T.sc.length c0) ∧ w'.cell? ⟨W.heap.size, 1, none⟩ = some (.slice a1 T.co.length c1) ∧ w'.cell? ⟨W.heap.size, 2, none⟩ = some (.slice a2 T.ma.length c2) ∧ w'.cell? ⟨W.heap.size, 3, none⟩ = some (.slice a3 T.pr.length c3) ∧ w'.cell? ⟨W.heap.size, 4, none⟩ = some (.slice a4 T.fo.length c4) ∧ w'.cell? ⟨W.heap.size, 5, none⟩ = some (.slice a5 T.lk.length c5) ∧ w'.cell? ⟨W.heap.size, 6, none⟩ = some (.slice a6 T.dr.length c6) ∧ w'.cell? ⟨W.heap.size, 7, none⟩ = some (.slice a7 T.al.length c7)) := hide (fun w' hw => by
    have b := hX.kept hw (by intro e; have := Option.some.inj e; omega)
    exact ⟨b.cell 0, b.cell 1, b.cell 2, b.cell 3, b.cell 4, b.cell 5, b.cell 6, b.cell 7⟩)
  have HI : Hz (RowC ((W.alloc (.cells #[.slice a0 T.sc.length c0, .slice a1 T.co.length c1, .slice a2 T.ma.length c2, .slice a3 T.pr.length c3, .slice a4 T.fo.length c4, .slice a5 T.lk.length c5, .slice a6 T.dr.length c6, .slice a7 T.al.length c7] 33)).alloc (.cells #[.string ⟨#[]⟩, .bool false] 90)) (W.heap.size + 1) a0 (encSc T.sc us) ∧ RowC ((W.alloc (.cells #[.slice a0 T.sc.length c0, .slice a1 T.co.length c1, .slice a2 T.ma.length c2, .slice a3 T.pr.length c3, .slice a4 T.fo.length c4, .slice a5 T.lk.length c5, .slice a6 T.dr.length c6, .slice a7 T.al.length c7] 33)).alloc (.cells #[.string ⟨#[]⟩, .bool false] 90)) (W.heap.size + 1) a1 (encS2 T.co) ∧ RowC ((W.alloc (.cells #[.slice a0 T.sc.length c0, .slice a1 T.co.length c1, .slice a2 T.ma.length c2, .slice a3 T.pr.length c3, .slice a4 T.fo.length c4, .slice a5 T.lk.length c5, .slice a6 T.dr.length c6, .slice a7 T.al.length c7] 33)).alloc (.cells #[.string ⟨#[]⟩, .bool false] 90)) (W.heap.size + 1) a2 (encM2 T.ma) ∧ RowC ((W.alloc (.cells #[.slice a0 T.sc.length c0, .slice a1 T.co.length c1, .slice a2 T.ma.length c2, .slice a3 T.pr.length c3, .slice a4 T.fo.length c4, .slice a5 T.lk.length c5, .slice a6 T.dr.length c6, .slice a7 T.al.length c7] 33)).alloc (.cells #[.string ⟨#[]⟩, .bool false] 90)) (W.heap.size + 1) a3 (encP3 T.pr) ∧ RowC ((W.alloc (.cells #[.slice a0 T.sc.length c0, .slice a1 T.co.length c1, .slice a2 T.ma.length c2, .slice a3 T.pr.length c3, .slice a4 T.fo.length c4, .slice a5 T.lk.length c5, .slice a6 T.dr.length c6, .slice a7 T.al.length c7] 33)).alloc (.cells #[.string ⟨#[]⟩, .bool false] 90)) (W.heap.size + 1) a4 (encF2 T.fo) ∧ RowC ((W.alloc (.cells #[.slice a0 T.sc.length c0, .slice a1 T.co.length c1, .slice a2 T.ma.length c2, .slice a3 T.pr.length c3, .slice a4 T.fo.length c4, .slice a5 T.lk.length c5, .slice a6 T.dr.length c6, .slice a7 T.al.length c7] 33)).alloc (.cells #[.string ⟨#[]⟩, .bool false] 90)) (W.heap.size + 1) a5 (encF2 T.lk) ∧ RowC ((W.alloc (.cells #[.slice a0 T.sc.length c0, .slice a1 T.co.length c1, .slice a2 T.ma.length c2, .slice a3 T.pr.length c3, .slice a4 T.fo.length c4, .slice a5 T.lk.length c5, .slice a6 T.dr.length c6, .slice a7 T.al.length c7] 33)).alloc (.cells #[.string ⟨#[]⟩, .bool false] 90)) (W.heap.size + 1) a6 (encS2 T.dr) ∧ RowC ((W.alloc (.cells #[.slice a0 T.sc.length c0, .slice a1 T.co.length c1, .slice a2 T.ma.length c2, .slice a3 T.pr.length c3, .slice a4 T.fo.length c4, .slice a5 T.lk.length c5, .slice a6 T.dr.length c6, .slice a7 T.al.length c7] 33)).alloc (.cells #[.string ⟨#[]⟩, .bool false] 90)) (W.heap.size + 1) a7 (encS2 T.al) ∧ (∀ (j : Nat) (x : ByteArray × List (Int × Int)) (u : Value), T.sc[j]? = some x → us[j]? = some u → ∃ b d, u = .slice b x.2.length d ∧ RowC ((W.alloc (.cells #[.slice a0 T.sc.length c0, .slice a1 T.co.length c1, .slice a2 T.ma.length c2, .slice a3 T.pr.length c3, .slice a4 T.fo.length c4, .slice a5 T.lk.length c5, .slice a6 T.dr.length c6, .slice a7 T.al.length c7] 33)).alloc (.cells #[.string ⟨#[]⟩, .bool false] 90)) (W.heap.size + 1) b (encS2 x.2))) := hide ⟨hI2 hI.r0, hI2 hI.r1, hI2 hI.r2, hI2 hI.r3, hI2 hI.r4, hI2 hI.r5, hI2 hI.r6, hI2 hI.r7, fun j x u hx hu => by
    obtain ⟨b, d, e, hr⟩ := hI.rs j x u hx hu
    exact ⟨b, d, e, hI2 hr⟩⟩
  have HX : Hz (refP T = pnLi (pnLi (T.lk.foldl (pnMap ⟨#[108, 111, 111, 107]⟩) (T.fo.foldl (pnMap ⟨#[102, 111, 108, 100]⟩) (T.pr.foldl pnPr (T.ma.foldl pnMa (pnLi (T.sc.foldl pnSc (⟨#[]⟩, false)) ⟨#[99, 111, 109, 109, 111, 110]⟩ T.co))))) ⟨#[100, 114, 111, 112]⟩ T.dr) ⟨#[97, 108, 108, 111, 119]⟩ T.al) := hide rfl
  have HXV : Hz (refPV T = if (refP T).2 = true then (⟨#[]⟩, 5) else if 262144 < (refP T).1.size then (⟨#[]⟩, 3) else ((refP T).1, 0)) := hide rfl
  generalize refPV T = XV at *
  have HLU := hide hI.lu
  have HT := hide hT
  have HP0 := hide hP
  have HLg := hide hLg
  have HB0 := hide hB0
  clear hI hI2 hX hP hT hLg hB0 hZ
  unfold tabV
  go_enter Tryz.func13, Tryz.ntmps13
  go_wp2_with fail
  generalize (W.alloc (.cells #[.slice a0 T.sc.length c0, .slice a1 T.co.length c1, .slice a2 T.ma.length c2, .slice a3 T.pr.length c3, .slice a4 T.fo.length c4, .slice a5 T.lk.length c5, .slice a6 T.dr.length c6, .slice a7 T.al.length c7] 33)).alloc (.cells #[.string ⟨#[]⟩, .bool false] 90) = W0 at *
  have HST : Hz (∀ k, k ≤ T.sc.length → ((T.sc.take k).foldl pnSc (⟨#[]⟩, false)).1.size ≤ 2010000000 * k) := hide (by
    intro k
    induction k with
    | zero => intro _; show 0 ≤ _; omega
    | succ k ih =>
      intro hk
      obtain ⟨x, hx⟩ : ∃ x, T.sc[k]? = some x := ⟨_, List.getElem?_eq_getElem (by omega)⟩
      rw [fold_take _ _ _ _ _ hx]
      have := pnSc_size ((T.sc.take k).foldl pnSc (⟨#[]⟩, false)) x
      have := ((unhide HT).s x (List.mem_of_getElem? hx)).1
      have := ((unhide HT).o.z0 x (List.mem_of_getElem? hx)).2
      have := ih (by omega)
      omega)
  go_loopw [5] (fun iv wr => ∃ k : Nat, k ≤ T.sc.length ∧ iv = .int .i64 k ∧ Hz (Pe W0 wr (W.heap.size + 1) ((T.sc.take k).foldl pnSc (⟨#[]⟩, false)).1 ((T.sc.take k).foldl pnSc (⟨#[]⟩, false)).2)) (fun iv _ => T.sc.length - (intOf iv).toNat)
  case atStart => exact ⟨0, Nat.zero_le _, rfl, HP0⟩
  case round =>
    obtain ⟨k, hk, rfl, HP⟩ := hrel
    clear HP0
    have hz := unhide HST k hk
    have hn0 := (unhide HT).o.n0
    obtain ⟨t0, t1, t2, t3, t4, t5, t6, t7⟩ := unhide HBX _ (unhide HP).f
    by_cases hkn : k < T.sc.length
    · obtain ⟨x, hx⟩ : ∃ x, T.sc[k]? = some x := ⟨_, List.getElem?_eq_getElem hkn⟩
      obtain ⟨u, hu⟩ : ∃ u, us[k]? = some u := ⟨_, List.getElem?_eq_getElem (by have := unhide HLU; omega)⟩
      have HF := hide (fold_take pnSc (⟨#[]⟩, false) T.sc k x hx)
      generalize (T.sc.take k).foldl pnSc (⟨#[]⟩, false) = st at *
      obtain ⟨s, b⟩ := st
      dsimp only at hz HP
      have hxs0 := encSc_at0 T.sc us (unhide HLU) k x hx
      have hxs1 : (encSc T.sc us)[2 * k + 1]? = some u := by rw [encSc_at _ _ (unhide HLU)]; exact hu
      obtain ⟨g, o, e0, hgP, hc⟩ := (unhide HI).1 (by have := (List.getElem?_eq_some_iff.1 hxs1).1; omega)
      subst e0
      obtain ⟨ub, ud, e1, hur⟩ := (unhide HI).2.2.2.2.2.2.2.2 k x u hx hu
      subst e1
      obtain ⟨hxn, hx32⟩ := (unhide HT).s x (List.mem_of_getElem? hx)
      have hxl := ((unhide HT).o.z0 x (List.mem_of_getElem? hx)).2
      obtain ⟨nm, sp⟩ := x
      dsimp only at hxs0 hxs1 hur hxn hx32 hxl
      have HCL : Hz (∀ w', W0.grownBy w' (some (W.heap.size + 1)) → w'.cell? ⟨g, o + k * 2, none⟩ = some (.string nm) ∧ w'.cell? ⟨g, o + k * 2 + 1, none⟩ = some (.slice ub sp.length ud)) := hide (fun w' hw => ⟨hw.cell (a := ⟨g, o + k * 2, none⟩) (hc _ _ hxs0) (by show some g ≠ some _; intro e; have := Option.some.inj e; omega), hw.cell (a := ⟨g, o + k * 2 + 1, none⟩) (by have := hc _ _ hxs1; rw [show o + (2 * k + 1) = o + k * 2 + 1 by omega] at this; exact this) (by show some g ≠ some _; intro e; have := Option.some.inj e; omega)⟩)
      have k1 : ((k : Nat) : Int) < ((T.sc.length : Nat) : Int) := by omega
      have k2 : ((k : Nat) : Int).toNat = k := by omega
      obtain ⟨d0, d1⟩ := unhide HCL _ (unhide HP).f
      have HL := hide (unhide HLg nm hxn)
      have HSP := hide (And.intro hx32 hur)
      have s1 : ¬ 9223372036854775807 < 7 + nm.size := by omega
      clear hc hxs0 hxs1 hx hu hx32 hur
      go_wp2_with fail
      refine (unhide HL _).mono ?_
      rintro e w2 ⟨rfl, hb2⟩
      have HP2 := hide ((unhide HP).call hb2)
      clear hb2 HP d0 d1 t0 t1 t2 t3 t4 t5 t6 t7
      cases hlg : legalB nm with
      | true =>
        have HV : Hz (pnSc (s, b) (nm, sp) = pnSpans (s, b) (⟨#[115, 99, 114, 105, 112, 116, 32]⟩ ++ nm) sp) := hide (by show pnSpans (s, b || !legalB nm) _ _ = _; rw [hlg]; simp)
        have HRN := hide (fun w' (h : Pe W0 w' (W.heap.size + 1) s b) => pe_spans (W.heap.size + 1) (s, b) (⟨#[115, 99, 114, 105, 112, 116, 32]⟩ ++ nm) ub ud sp hxl (unhide HSP).1 (by rw [ByteArray.size_append]; show 7 + nm.size ≤ _; omega) (by show s.size ≤ _; omega) W0 w' h (unhide HSP).2)
        have HKP : Hz (∀ w', W0.grownBy w' (some (W.heap.size + 1)) → w'.cell? ⟨W.heap.size, 0, none⟩ = some (.slice (some ⟨g, o, none⟩) T.sc.length c0) ∧ w'.cell? ⟨g, o + k * 2, none⟩ = some (.string nm) ∧ w'.cell? ⟨g, o + k * 2 + 1, none⟩ = some (.slice ub sp.length ud)) := hide (fun w' hw => ⟨(unhide HBX w' hw).1, (unhide HCL w' hw).1, (unhide HCL w' hw).2⟩)
        have HD := hide ((unhide HP2).call (w' := w2.drew) ⟨rfl, rfl, rfl, Nat.le_refl _, fun _ _ => rfl⟩)
        obtain ⟨t0, d0, d1⟩ := unhide HKP _ (unhide HD).f
        go_wp2_with fail
        go_region_held3 (fun w' => w'.cell? ⟨W.heap.size, 0, none⟩ = some (.slice (some ⟨g, o, none⟩) T.sc.length c0) ∧ w'.cell? ⟨g, o + k * 2, none⟩ = some (.string nm) ∧ w'.cell? ⟨g, o + k * 2 + 1, none⟩ = some (.slice ub sp.length ud)) (first | with_reducible exact unhide HKP _ (unhide HP3).f | with_reducible exact unhide HKP _ (unhide HD).f)
          (first
          | (go_at_call 33; refine (unhide HRN w2.drew (unhide HD)).mono ?_; rintro e w3 ⟨⟨v3, rfl⟩, hp3⟩; have HP3 := hide hp3; clear hp3))
        all_goals
          go_wp2_with fail
          go_roundw
          case rel => exact ⟨k + 1, by omega, by go_num, hide (by rw [unhide HF, unhide HV]; exact unhide HP3)⟩
          case measure => simp [intOf]; omega
      | false =>
        have HV : Hz (pnSc (s, b) (nm, sp) = pnSpans (s, true) (⟨#[115, 99, 114, 105, 112, 116, 32]⟩ ++ nm) sp) := hide (by show pnSpans (s, b || !legalB nm) _ _ = _; rw [hlg]; simp)
        have HRN := hide (fun w' (h : Pe W0 w' (W.heap.size + 1) s true) => pe_spans (W.heap.size + 1) (s, true) (⟨#[115, 99, 114, 105, 112, 116, 32]⟩ ++ nm) ub ud sp hxl (unhide HSP).1 (by rw [ByteArray.size_append]; show 7 + nm.size ≤ _; omega) (by show s.size ≤ _; omega) W0 w' h (unhide HSP).2)
        have HKP : Hz (∀ w', W0.grownBy w' (some (W.heap.size + 1)) → w'.cell? ⟨W.heap.size, 0, none⟩ = some (.slice (some ⟨g, o, none⟩) T.sc.length c0) ∧ w'.cell? ⟨g, o + k * 2, none⟩ = some (.string nm) ∧ w'.cell? ⟨g, o + k * 2 + 1, none⟩ = some (.slice ub sp.length ud)) := hide (fun w' hw => ⟨(unhide HBX w' hw).1, (unhide HCL w' hw).1, (unhide HCL w' hw).2⟩)
        have c1 := (unhide HP2).blk.cell 1
        have f1 := (unhide HP2).blk.frozen 1
        have HP2 := hide ((unhide HP2).bad true)
        have HD := hide ((unhide HP2).call (w' := (w2.setCell ⟨W.heap.size + 1, 1, none⟩ (.bool true)).drew) ⟨rfl, rfl, rfl, Nat.le_refl _, fun _ _ => rfl⟩)
        obtain ⟨t0, d0, d1⟩ := unhide HKP _ (unhide HD).f
        go_wp2_with fail
        go_region_held3 (fun w' => w'.cell? ⟨W.heap.size, 0, none⟩ = some (.slice (some ⟨g, o, none⟩) T.sc.length c0) ∧ w'.cell? ⟨g, o + k * 2, none⟩ = some (.string nm) ∧ w'.cell? ⟨g, o + k * 2 + 1, none⟩ = some (.slice ub sp.length ud)) (first | with_reducible exact unhide HKP _ (unhide HP3).f | with_reducible exact unhide HKP _ (unhide HD).f)
          (first
          | (go_at_call 33; refine (unhide HRN (w2.setCell ⟨W.heap.size + 1, 1, none⟩ (.bool true)).drew (unhide HD)).mono ?_; rintro e w3 ⟨⟨v3, rfl⟩, hp3⟩; have HP3 := hide hp3; clear hp3))
        all_goals
          go_wp2_with fail
          go_roundw
          case rel => exact ⟨k + 1, by omega, by go_num, hide (by rw [unhide HF, unhide HV]; exact unhide HP3)⟩
          case measure => simp [intOf]; omega
    · have k1 : ¬ ((k : Nat) : Int) < ((T.sc.length : Nat) : Int) := by omega
      obtain rfl : k = T.sc.length := by omega
      rw [List.take_length] at HP hz
      generalize T.sc.foldl pnSc (⟨#[]⟩, false) = st at *
      have hz1 : st.1.size ≤ 2010000000000000 := by omega
      clear HST hz
      by_cases h1 : T.co.length = 0
      · have l1 : ¬ (0 : Int) < ((T.co.length : Nat) : Int) := by omega
        have HP1 : Hz (Pe W0 wr (W.heap.size + 1) (pnLi st ⟨#[99, 111, 109, 109, 111, 110]⟩ T.co).1 (pnLi st ⟨#[99, 111, 109, 109, 111, 110]⟩ T.co).2) := hide (by unfold pnLi; rw [if_pos h1]; exact unhide HP)
        go_wp2_with fail
        have hz2 : (pnLi st ⟨#[99, 111, 109, 109, 111, 110]⟩ T.co).1.size ≤ 2020000000000000 := by
          have := (unhide HT).o.n1
          have := pnSpans_size st ⟨#[99, 111, 109, 109, 111, 110]⟩ T.co
          have e : (⟨#[99, 111, 109, 109, 111, 110]⟩ : ByteArray).size = 6 := rfl
          unfold pnLi
          split <;> omega
        generalize pnLi st ⟨#[99, 111, 109, 109, 111, 110]⟩ T.co = st1 at *
        have HST : Hz (∀ k, k ≤ T.ma.length → ((T.ma.take k).foldl pnMa st1).1.size ≤ 2020000000000000 + 66546 * k) := hide (by
          intro k
          induction k with
          | zero =>
            intro _
            show st1.1.size ≤ _
            omega
          | succ k ih =>
            intro hk
            obtain ⟨x, hx⟩ : ∃ x, T.ma[k]? = some x := ⟨_, List.getElem?_eq_getElem (by omega)⟩
            rw [fold_take _ _ _ _ _ hx]
            have z1 := pnMa_size ((T.ma.take k).foldl pnMa st1) x
            have z2 := ih (by omega)
            rw [Nat.mul_succ, ← Nat.add_assoc]
            exact Nat.le_trans z1 (Nat.add_le_add_right z2 _))
        have HPb := HP1
        clear HP HP1
        go_loopw [6] (fun iv wm => ∃ k : Nat, k ≤ T.ma.length ∧ iv = .int .i64 k ∧ Hz (Pe W0 wm (W.heap.size + 1) ((T.ma.take k).foldl pnMa st1).1 ((T.ma.take k).foldl pnMa st1).2)) (fun iv _ => T.ma.length - (intOf iv).toNat)
        case atStart => exact ⟨0, Nat.zero_le _, rfl, HPb⟩
        case round =>
          obtain ⟨k, hk, rfl, HP⟩ := hrel
          clear HPb
          have hz := unhide HST k hk
          have hn2 := (unhide HT).o.n2
          obtain ⟨t0, t1, t2, t3, t4, t5, t6, t7⟩ := unhide HBX _ (unhide HP).f
          by_cases hkn : k < T.ma.length
          · obtain ⟨x, hx⟩ : ∃ x, T.ma[k]? = some x := ⟨_, List.getElem?_eq_getElem hkn⟩
            have HF := hide (fold_take pnMa st1 T.ma k x hx)
            generalize (T.ma.take k).foldl pnMa st1 = stm at *
            obtain ⟨s, b⟩ := stm
            dsimp only at hz HP
            have hxs := encM2_at T.ma k x hx
            have hlen := encM2_length T.ma
            obtain ⟨g, o, e0, hgP, hc⟩ := (unhide HI).2.2.1 (by omega)
            subst e0
            have H33 := hide ((unhide HT).ma x (List.mem_of_getElem? hx))
            have H34 := hide ((unhide HT).o.z2 x (List.mem_of_getElem? hx))
            obtain ⟨r, n⟩ := x
            dsimp only at hxs H33 H34
            have HCL : Hz (∀ w', W0.grownBy w' (some (W.heap.size + 1)) → w'.cell? ⟨g, o + k * 2, none⟩ = some (.int .i32 r) ∧ w'.cell? ⟨g, o + k * 2 + 1, none⟩ = some (.int .i64 n) ∧ w'.cell? ⟨W.heap.size, 2, none⟩ = some (.slice (some ⟨g, o, none⟩) T.ma.length c2)) := hide (fun w' hw => ⟨hw.cell (a := ⟨g, o + k * 2, none⟩) (hc _ _ hxs.1) (by show some g ≠ some _; intro e; have := Option.some.inj e; omega), hw.cell (a := ⟨g, o + k * 2 + 1, none⟩) (by have := hc _ _ hxs.2; rw [← Nat.add_assoc] at this; exact this) (by show some g ≠ some _; intro e; have := Option.some.inj e; omega), (unhide HBX w' hw).2.2.1⟩)
            have k1 : ((k : Nat) : Int) < ((T.ma.length : Nat) : Int) := by omega
            have k2 : ((k : Nat) : Int).toNat = k := by omega
            have s1 : ¬ 9223372036854775807 < s.size + 5 := by omega
            have q0 := (unhide HP).blk.cell 0
            have f0 := (unhide HP).blk.frozen 0
            have HP2 := hide ((unhide HP).str (s ++ ⟨#[109, 97, 114, 107, 32]⟩))
            obtain ⟨d0, d1, d2⟩ := unhide HCL _ (unhide HP2).f
            have hz2 : (s ++ ⟨#[109, 97, 114, 107, 32]⟩).size = s.size + 5 := by rw [ByteArray.size_append]; rfl
            have HRN := hide (pe_rune (W.heap.size + 1) (s ++ ⟨#[109, 97, 114, 107, 32]⟩) b r (unhide H33) (by omega) W0 _ (unhide HP2))
            clear hc hxs hx HP t0 t1 t3 t4 t5 t6 t7
            go_wp2_with fail
            refine (unhide HRN).mono ?_
            rintro e w2 ⟨⟨v2, rfl⟩, hp3⟩
            have HP3 : Hz (Pe W0 w2 (W.heap.size + 1) (pn1 (pnS (s, b) ⟨#[109, 97, 114, 107, 32]⟩) r).1 (pn1 (pnS (s, b) ⟨#[109, 97, 114, 107, 32]⟩) r).2) := hide hp3
            have HV : Hz (pnMa (s, b) (r, n) = ((((pn1 (pnS (s, b) ⟨#[109, 97, 114, 107, 32]⟩) r).1 ++ ⟨#[32]⟩) ++ decB (if clsB n = true then n.toNat else 0)) ++ ⟨#[32, 59, 10]⟩, (pn1 (pnS (s, b) ⟨#[109, 97, 114, 107, 32]⟩) r).2 || !clsB n)) := hide rfl
            have hz3 : (pn1 (pnS (s, b) ⟨#[109, 97, 114, 107, 32]⟩) r).1.size ≤ s.size + 5 + 1000 := by
              have := pn1_size (pnS (s, b) ⟨#[109, 97, 114, 107, 32]⟩) r
              rw [pnS_size] at this
              exact this
            generalize pn1 (pnS (s, b) ⟨#[109, 97, 114, 107, 32]⟩) r = st3 at *
            obtain ⟨s3, b3⟩ := st3
            dsimp only at hz3 HP3 HV
            clear hp3 HRN HP2 q0 f0 d0 d1 d2 t2 hz2
            obtain ⟨d0, d1, d2⟩ := unhide HCL _ (unhide HP3).f
            by_cases hcl : clsB n = true
            · obtain ⟨n0, n1⟩ := clsB_iff.1 hcl
              obtain ⟨u, rfl⟩ : ∃ u : Nat, n = u := ⟨n.toNat, by omega⟩
              have m0 : ¬ ((u : Nat) : Int) < 0 := by omega
              have m1 : ¬ (65535 : Int) < ((u : Nat) : Int) := by omega
              rw [if_pos hcl, hcl, Int.toNat_natCast] at HV
              have HPx := HP3
              have HDC := hide (dec_any u (by omega))
              have hds := nd_le u
              have HD := hide ((unhide HPx).call (w' := (w2).drew) ⟨rfl, rfl, rfl, Nat.le_refl _, fun _ _ => rfl⟩)
              have q0 : (w2).drew.cell? ⟨W.heap.size + 1, 0, none⟩ = some (.string s3) := (unhide HD).blk.cell 0
              generalize decB u = D at *
              have HV2 : Hz (pnMa (s, b) (r, (u : Int)) = (s3 ++ ⟨#[32]⟩ ++ D ++ ⟨#[32, 59, 10]⟩, b3)) := hide (by rw [unhide HV]; simp)
              clear HV
              have s3a : ¬ 9223372036854775807 < s3.size + 1 := by omega
              have s3b : ¬ 9223372036854775807 < s3.size + 1 + D.size := by omega
              have s3c : ¬ 9223372036854775807 < s3.size + 1 + D.size + 3 := by omega
              go_wp2_with fail
              go_region_law (first
                | (go_simp; refine (unhide HDC (w2).drew).mono ?_; rintro e w4 ⟨rfl, hb4⟩; have HP4 := hide ((unhide HD).call hb4); have e0 : w4.cell? ⟨W.heap.size + 1, 0, none⟩ = some (.string s3) := (unhide HP4).blk.cell 0; have f0 := (unhide HP4).blk.frozen 0; clear hb4))
              all_goals
                have HP5 := hide ((unhide HP4).str (s3 ++ ⟨#[32]⟩ ++ D ++ ⟨#[32, 59, 10]⟩))
                go_wp2_with fail
                go_roundw
                case rel => exact ⟨k + 1, by omega, by go_num, hide (by rw [unhide HF, unhide HV2]; exact unhide HP5)⟩
                case measure => simp [intOf]; omega
            · have hcl0 : clsB n = false := by cases q : clsB n with
                | false => rfl
                | true => exact absurd q hcl
              rw [if_neg hcl, hcl0] at HV
              have q1 := (unhide HP3).blk.cell 1
              have f1 := (unhide HP3).blk.frozen 1
              have HPx := hide ((unhide HP3).bad true)
              by_cases hneg : n < 0
              · have hneg2 : n < 0 := hneg
                have HDC := hide (dec_any 0 (by omega))
                have hds := nd_le 0
                have HD := hide ((unhide HPx).call (w' := (w2.setCell ⟨W.heap.size + 1, 1, none⟩ (.bool true)).drew) ⟨rfl, rfl, rfl, Nat.le_refl _, fun _ _ => rfl⟩)
                have q0 : (w2.setCell ⟨W.heap.size + 1, 1, none⟩ (.bool true)).drew.cell? ⟨W.heap.size + 1, 0, none⟩ = some (.string s3) := (unhide HD).blk.cell 0
                generalize decB 0 = D at *
                have HV2 : Hz (pnMa (s, b) (r, (n : Int)) = (s3 ++ ⟨#[32]⟩ ++ D ++ ⟨#[32, 59, 10]⟩, true)) := hide (by rw [unhide HV]; simp)
                clear HV
                have s3a : ¬ 9223372036854775807 < s3.size + 1 := by omega
                have s3b : ¬ 9223372036854775807 < s3.size + 1 + D.size := by omega
                have s3c : ¬ 9223372036854775807 < s3.size + 1 + D.size + 3 := by omega
                go_wp2_with fail
                go_region_law (first
                  | (go_simp; refine (unhide HDC (w2.setCell ⟨W.heap.size + 1, 1, none⟩ (.bool true)).drew).mono ?_; rintro e w4 ⟨rfl, hb4⟩; have HP4 := hide ((unhide HD).call hb4); have e0 : w4.cell? ⟨W.heap.size + 1, 0, none⟩ = some (.string s3) := (unhide HP4).blk.cell 0; have f0 := (unhide HP4).blk.frozen 0; clear hb4))
                all_goals
                  have HP5 := hide ((unhide HP4).str (s3 ++ ⟨#[32]⟩ ++ D ++ ⟨#[32, 59, 10]⟩))
                  go_wp2_with fail
                  go_roundw
                  case rel => exact ⟨k + 1, by omega, by go_num, hide (by rw [unhide HF, unhide HV2]; exact unhide HP5)⟩
                  case measure => simp [intOf]; omega
              · have hbig : 65535 < n := by
                  rcases Int.lt_or_le 65535 n with h | h
                  · exact h
                  · exact absurd (clsB_iff.2 ⟨by omega, h⟩) hcl
                have HDC := hide (dec_any 0 (by omega))
                have hds := nd_le 0
                have HD := hide ((unhide HPx).call (w' := (w2.setCell ⟨W.heap.size + 1, 1, none⟩ (.bool true)).drew) ⟨rfl, rfl, rfl, Nat.le_refl _, fun _ _ => rfl⟩)
                have q0 : (w2.setCell ⟨W.heap.size + 1, 1, none⟩ (.bool true)).drew.cell? ⟨W.heap.size + 1, 0, none⟩ = some (.string s3) := (unhide HD).blk.cell 0
                generalize decB 0 = D at *
                have HV2 : Hz (pnMa (s, b) (r, (n : Int)) = (s3 ++ ⟨#[32]⟩ ++ D ++ ⟨#[32, 59, 10]⟩, true)) := hide (by rw [unhide HV]; simp)
                clear HV
                have s3a : ¬ 9223372036854775807 < s3.size + 1 := by omega
                have s3b : ¬ 9223372036854775807 < s3.size + 1 + D.size := by omega
                have s3c : ¬ 9223372036854775807 < s3.size + 1 + D.size + 3 := by omega
                go_wp2_with fail
                go_region_law (first
                  | (go_simp; refine (unhide HDC (w2.setCell ⟨W.heap.size + 1, 1, none⟩ (.bool true)).drew).mono ?_; rintro e w4 ⟨rfl, hb4⟩; have HP4 := hide ((unhide HD).call hb4); have e0 : w4.cell? ⟨W.heap.size + 1, 0, none⟩ = some (.string s3) := (unhide HP4).blk.cell 0; have f0 := (unhide HP4).blk.frozen 0; clear hb4))
                all_goals
                  have HP5 := hide ((unhide HP4).str (s3 ++ ⟨#[32]⟩ ++ D ++ ⟨#[32, 59, 10]⟩))
                  go_wp2_with fail
                  go_roundw
                  case rel => exact ⟨k + 1, by omega, by go_num, hide (by rw [unhide HF, unhide HV2]; exact unhide HP5)⟩
                  case measure => simp [intOf]; omega
          · have k1 : ¬ ((k : Nat) : Int) < ((T.ma.length : Nat) : Int) := by omega
            obtain rfl : k = T.ma.length := by omega
            rw [List.take_length] at HP hz
            have hz3 : (T.ma.foldl pnMa st1).1.size ≤ 2100000000000000 := Nat.le_trans hz (by omega)
            generalize T.ma.foldl pnMa st1 = st2 at *
            clear HST hz
            have HST : Hz (∀ k, k ≤ T.pr.length → ((T.pr.take k).foldl pnPr st2).1.size ≤ 2100000000000000 + 3014 * k) := hide (by
              intro k
              induction k with
              | zero =>
                intro _
                show st2.1.size ≤ _
                omega
              | succ k ih =>
                intro hk
                obtain ⟨x, hx⟩ : ∃ x, T.pr[k]? = some x := ⟨_, List.getElem?_eq_getElem (by omega)⟩
                rw [fold_take _ _ _ _ _ hx]
                have z1 := pnPr_size ((T.pr.take k).foldl pnPr st2) x
                have z2 := ih (by omega)
                rw [Nat.mul_succ, ← Nat.add_assoc]
                exact Nat.le_trans z1 (Nat.add_le_add_right z2 _))
            have HPb := HP
            clear HP
            go_wp2_with fail
            go_loopw [8] (fun iv wm => ∃ k : Nat, k ≤ T.pr.length ∧ iv = .int .i64 k ∧ Hz (Pe W0 wm (W.heap.size + 1) ((T.pr.take k).foldl pnPr st2).1 ((T.pr.take k).foldl pnPr st2).2)) (fun iv _ => T.pr.length - (intOf iv).toNat)
            case atStart => exact ⟨0, Nat.zero_le _, rfl, HPb⟩
            case round =>
              obtain ⟨k, hk, rfl, HP⟩ := hrel
              clear HPb
              have hz := unhide HST k hk
              have hn3 := (unhide HT).o.n3
              obtain ⟨t0, t1, t2, t3, t4, t5, t6, t7⟩ := unhide HBX _ (unhide HP).f
              by_cases hkn : k < T.pr.length
              · obtain ⟨x, hx⟩ : ∃ x, T.pr[k]? = some x := ⟨_, List.getElem?_eq_getElem hkn⟩
                have HF := hide (fold_take pnPr st2 T.pr k x hx)
                generalize (T.pr.take k).foldl pnPr st2 = stm at *
                have hxs := encP3_at T.pr k x hx
                have hlen := encP3_length T.pr
                obtain ⟨g, o, e0, hgP, hc⟩ := (unhide HI).2.2.2.1 (by omega)
                subst e0
                have H33 := hide ((unhide HT).pr x (List.mem_of_getElem? hx))
                obtain ⟨x0, x1, x2⟩ := x
                dsimp only at hxs H33
                have HCL : Hz (∀ w', W0.grownBy w' (some (W.heap.size + 1)) → w'.cell? ⟨g, o + k * 3, none⟩ = some (.int .i32 x0) ∧ w'.cell? ⟨g, o + k * 3 + 1, none⟩ = some (.int .i32 x1) ∧ w'.cell? ⟨g, o + k * 3 + 2, none⟩ = some (.int .i32 x2) ∧ w'.cell? ⟨W.heap.size, 3, none⟩ = some (.slice (some ⟨g, o, none⟩) T.pr.length c3)) := hide (fun w' hw => by
                  have hne : ∀ i, some (⟨g, i, none⟩ : Addr).block ≠ some (W.heap.size + 1) := fun i e => by have : g = W.heap.size + 1 := Option.some.inj e; omega
                  refine ⟨hw.cell (a := ⟨g, o + k * 3, none⟩) (hc _ _ hxs.1) (hne _), hw.cell (a := ⟨g, o + k * 3 + 1, none⟩) (by have := hc _ _ hxs.2.1; rw [← Nat.add_assoc] at this; exact this) (hne _), hw.cell (a := ⟨g, o + k * 3 + 2, none⟩) (by have := hc _ _ hxs.2.2; rw [← Nat.add_assoc] at this; exact this) (hne _), (unhide HBX w' hw).2.2.2.1⟩)
                have k1 : ((k : Nat) : Int) < ((T.pr.length : Nat) : Int) := by omega
                have k2 : ((k : Nat) : Int).toNat = k := by omega
                have HV : Hz (pnPr stm (x0, x1, x2) = pnS (pn1 (pnS (pn1 (pnS (pn1 (pnS stm ⟨#[112, 97, 105, 114, 32]⟩) x0) ⟨#[32, 61, 32]⟩) x1) ⟨#[32, 43, 32]⟩) x2) ⟨#[32, 59, 10]⟩) := hide rfl
                clear hc hxs hx t0 t1 t2 t4 t5 t6 t7
                have hza := hz
                obtain ⟨s0, b0⟩ := stm
                dsimp only at hza HP
                have y0 : ¬ 9223372036854775807 < s0.size + 5 := by omega
                have q0 := (unhide HP).blk.cell 0
                have f0 := (unhide HP).blk.frozen 0
                have HPs := hide ((unhide HP).str (s0 ++ ⟨#[112, 97, 105, 114, 32]⟩))
                obtain ⟨d0, d1, d2, d3⟩ := unhide HCL _ (unhide HPs).f
                have hzs : (s0 ++ ⟨#[112, 97, 105, 114, 32]⟩).size = s0.size + 5 := by rw [ByteArray.size_append]; rfl
                have HRN := hide (pe_rune (W.heap.size + 1) (s0 ++ ⟨#[112, 97, 105, 114, 32]⟩) b0 x0 (unhide H33).1 (by omega) W0 _ (unhide HPs))
                clear HP hzs
                go_wp2_with fail
                refine (unhide HRN).mono ?_
                rintro e v0 ⟨⟨z0, rfl⟩, hp3⟩
                have HP : Hz (Pe W0 v0 (W.heap.size + 1) (pn1 (pnS (s0, b0) ⟨#[112, 97, 105, 114, 32]⟩) x0).1 (pn1 (pnS (s0, b0) ⟨#[112, 97, 105, 114, 32]⟩) x0).2) := hide hp3
                have hzb : (pn1 (pnS (s0, b0) ⟨#[112, 97, 105, 114, 32]⟩) x0).1.size ≤ s0.size + 5 + 1000 := by
                  have := pn1_size (pnS (s0, b0) ⟨#[112, 97, 105, 114, 32]⟩) x0
                  rw [pnS_size] at this
                  exact this
                generalize pn1 (pnS (s0, b0) ⟨#[112, 97, 105, 114, 32]⟩) x0 = tt0 at *
                have hzc : tt0.1.size ≤ 2200000000000000 := by omega
                clear hp3 HRN HPs q0 f0 d0 d1 d2 d3 hza hzb y0
                have hza := hzc
                clear hzc
                obtain ⟨d0, d1, d2, d3⟩ := unhide HCL _ (unhide HP).f
                obtain ⟨s1, b1⟩ := tt0
                dsimp only at hza HP
                have y1 : ¬ 9223372036854775807 < s1.size + 3 := by omega
                have q1 := (unhide HP).blk.cell 0
                have f1 := (unhide HP).blk.frozen 0
                have HPs := hide ((unhide HP).str (s1 ++ ⟨#[32, 61, 32]⟩))
                obtain ⟨d0, d1, d2, d3⟩ := unhide HCL _ (unhide HPs).f
                have hzs : (s1 ++ ⟨#[32, 61, 32]⟩).size = s1.size + 3 := by rw [ByteArray.size_append]; rfl
                have HRN := hide (pe_rune (W.heap.size + 1) (s1 ++ ⟨#[32, 61, 32]⟩) b1 x1 (unhide H33).2.1 (by omega) W0 _ (unhide HPs))
                clear HP hzs
                go_wp2_with fail
                refine (unhide HRN).mono ?_
                rintro e v1 ⟨⟨z1, rfl⟩, hp3⟩
                have HP : Hz (Pe W0 v1 (W.heap.size + 1) (pn1 (pnS (s1, b1) ⟨#[32, 61, 32]⟩) x1).1 (pn1 (pnS (s1, b1) ⟨#[32, 61, 32]⟩) x1).2) := hide hp3
                have hzb : (pn1 (pnS (s1, b1) ⟨#[32, 61, 32]⟩) x1).1.size ≤ s1.size + 3 + 1000 := by
                  have := pn1_size (pnS (s1, b1) ⟨#[32, 61, 32]⟩) x1
                  rw [pnS_size] at this
                  exact this
                generalize pn1 (pnS (s1, b1) ⟨#[32, 61, 32]⟩) x1 = tt1 at *
                have hzc : tt1.1.size ≤ 2200000000002000 := by omega
                clear hp3 HRN HPs q1 f1 d0 d1 d2 d3 hza hzb y1
                have hza := hzc
                clear hzc
                obtain ⟨d0, d1, d2, d3⟩ := unhide HCL _ (unhide HP).f
                obtain ⟨s2, b2⟩ := tt1
                dsimp only at hza HP
                have y2 : ¬ 9223372036854775807 < s2.size + 3 := by omega
                have q2 := (unhide HP).blk.cell 0
                have f2 := (unhide HP).blk.frozen 0
                have HPs := hide ((unhide HP).str (s2 ++ ⟨#[32, 43, 32]⟩))
                obtain ⟨d0, d1, d2, d3⟩ := unhide HCL _ (unhide HPs).f
                have hzs : (s2 ++ ⟨#[32, 43, 32]⟩).size = s2.size + 3 := by rw [ByteArray.size_append]; rfl
                have HRN := hide (pe_rune (W.heap.size + 1) (s2 ++ ⟨#[32, 43, 32]⟩) b2 x2 (unhide H33).2.2 (by omega) W0 _ (unhide HPs))
                clear HP hzs
                go_wp2_with fail
                refine (unhide HRN).mono ?_
                rintro e v2 ⟨⟨z2, rfl⟩, hp3⟩
                have HP : Hz (Pe W0 v2 (W.heap.size + 1) (pn1 (pnS (s2, b2) ⟨#[32, 43, 32]⟩) x2).1 (pn1 (pnS (s2, b2) ⟨#[32, 43, 32]⟩) x2).2) := hide hp3
                have hzb : (pn1 (pnS (s2, b2) ⟨#[32, 43, 32]⟩) x2).1.size ≤ s2.size + 3 + 1000 := by
                  have := pn1_size (pnS (s2, b2) ⟨#[32, 43, 32]⟩) x2
                  rw [pnS_size] at this
                  exact this
                generalize pn1 (pnS (s2, b2) ⟨#[32, 43, 32]⟩) x2 = tt2 at *
                have hzc : tt2.1.size ≤ 2200000000004000 := by omega
                clear hp3 HRN HPs q2 f2 d0 d1 d2 d3 hza hzb y2
                have hza := hzc
                clear hzc
                obtain ⟨d0, d1, d2, d3⟩ := unhide HCL _ (unhide HP).f
                obtain ⟨s3, b3⟩ := tt2
                dsimp only at hza HP
                have y3 : ¬ 9223372036854775807 < s3.size + 3 := by omega
                have q3 := (unhide HP).blk.cell 0
                have f3 := (unhide HP).blk.frozen 0
                have HPs := hide ((unhide HP).str (s3 ++ ⟨#[32, 59, 10]⟩))
                go_wp2_with fail
                exact ⟨⟨k + 1, by omega, rfl, hide (by rw [unhide HF, unhide HV]; exact unhide HPs)⟩, by simp [intOf]; omega⟩
              · have k1 : ¬ ((k : Nat) : Int) < ((T.pr.length : Nat) : Int) := by omega
                obtain rfl : k = T.pr.length := by omega
                rw [List.take_length] at HP hz
                have hz4 : (T.pr.foldl pnPr st2).1.size ≤ 2200000000000000 := Nat.le_trans hz (by omega)
                generalize T.pr.foldl pnPr st2 = st3 at *
                clear HST hz
                have HRN := hide (pe_maps (W.heap.size + 1) st3 ⟨#[102, 111, 108, 100]⟩ a4 c4 T.fo (unhide HT).o.n4 (unhide HT).fo (by decide) (by omega) W0 wr (unhide HP) (unhide HI).2.2.2.2.1)
                have hzn := pnMaps_size ⟨#[102, 111, 108, 100]⟩ (by decide) T.fo st3 (unhide HT).fo
                have hn4 := (unhide HT).o.n4
                clear HP
                go_wp2_with fail
                refine (unhide HRN).mono ?_
                rintro e wf ⟨⟨z4, rfl⟩, hp3⟩
                have HP := hide hp3
                generalize T.fo.foldl (pnMap ⟨#[102, 111, 108, 100]⟩) st3 = st4 at *
                have hzst4 : st4.1.size ≤ 3300000000000000 := by omega
                clear hp3 HRN hzn
                obtain ⟨t0, t1, t2, t3, t4, t5, t6, t7⟩ := unhide HBX _ (unhide HP).f
                have HRN := hide (pe_maps (W.heap.size + 1) st4 ⟨#[108, 111, 111, 107]⟩ a5 c5 T.lk (unhide HT).o.n5 (unhide HT).lk (by decide) (by omega) W0 wf (unhide HP) (unhide HI).2.2.2.2.2.1)
                have hzn := pnMaps_size ⟨#[108, 111, 111, 107]⟩ (by decide) T.lk st4 (unhide HT).lk
                have hn5 := (unhide HT).o.n5
                clear HP
                go_wp2_with fail
                refine (unhide HRN).mono ?_
                rintro e wk ⟨⟨z5, rfl⟩, hp3⟩
                have HP := hide hp3
                generalize T.lk.foldl (pnMap ⟨#[108, 111, 111, 107]⟩) st4 = st5 at *
                have hzst5 : st5.1.size ≤ 4400000000000000 := by omega
                clear hp3 HRN hzn
                obtain ⟨t0, t1, t2, t3, t4, t5, t6, t7⟩ := unhide HBX _ (unhide HP).f
                by_cases h6 : T.dr.length = 0
                · have l6 : ¬ (0 : Int) < ((T.dr.length : Nat) : Int) := by omega
                  have e6 : pnLi st5 ⟨#[100, 114, 111, 112]⟩ T.dr = st5 := by unfold pnLi; rw [if_pos h6]
                  rw [e6] at HX
                  clear e6
                  by_cases h7 : T.al.length = 0
                  · have l7 : ¬ (0 : Int) < ((T.al.length : Nat) : Int) := by omega
                    have e7 : pnLi st5 ⟨#[97, 108, 108, 111, 119]⟩ T.al = st5 := by unfold pnLi; rw [if_pos h7]
                    rw [e7] at HX
                    clear e7
                    obtain ⟨sf, bf⟩ := st5
                    have q0 : wk.cell? ⟨W.heap.size + 1, 0, none⟩ = some (.string sf) := (unhide HP).blk.cell 0
                    have q1 : wk.cell? ⟨W.heap.size + 1, 1, none⟩ = some (.bool bf) := (unhide HP).blk.cell 1
                    have HBF := hide ((unhide HB0).grown (unhide HP).f (by have := (unhide HB0).size; omega) (fun q hq => by cases hq; omega))
                    rw [unhide HX] at HXV
                    cases bf with
                    | true =>
                      have HY : Hz (XV = (⟨#[]⟩, 5)) := hide (by rw [unhide HXV]; rfl)
                      go_wp2_with fail
                      go_ret2
                      exact ⟨by rw [unhide HY]; rfl, unhide HBF⟩
                    | false =>
                      by_cases hlong : 262144 < sf.size
                      · have hl2 : (262144 : Int) < ((sf.size : Nat) : Int) := by omega
                        have HY : Hz (XV = (⟨#[]⟩, 3)) := hide (by rw [unhide HXV, if_neg (by simp), if_pos hlong])
                        go_wp2_with fail
                        go_ret2
                        exact ⟨by rw [unhide HY]; rfl, unhide HBF⟩
                      · have hl2 : ¬ (262144 : Int) < ((sf.size : Nat) : Int) := by omega
                        have HY : Hz (XV = (sf, 0)) := hide (by rw [unhide HXV, if_neg (by simp), if_neg hlong])
                        go_wp2_with fail
                        go_ret2
                        exact ⟨by rw [unhide HY]; rfl, unhide HBF⟩
                  · have l7 : (0 : Int) < ((T.al.length : Nat) : Int) := by omega
                    have e7 : pnLi st5 ⟨#[97, 108, 108, 111, 119]⟩ T.al = pnSpans st5 ⟨#[97, 108, 108, 111, 119]⟩ T.al := by unfold pnLi; rw [if_neg h7]
                    rw [e7] at HX
                    have HRN := hide (pe_spans (W.heap.size + 1) st5 ⟨#[97, 108, 108, 111, 119]⟩ a7 c7 T.al (unhide HT).o.n7 (unhide HT).al (by decide) (by omega) W0 wk (unhide HP) (unhide HI).2.2.2.2.2.2.2.1)
                    have hzn := pnSpans_size st5 ⟨#[97, 108, 108, 111, 119]⟩ T.al
                    have hnn := (unhide HT).o.n7
                    have hww : (⟨#[97, 108, 108, 111, 119]⟩ : ByteArray).size ≤ 10 := by decide
                    clear HP e7
                    go_wp2_with fail
                    refine (unhide HRN).mono ?_
                    rintro e wa ⟨⟨z7, rfl⟩, hp3⟩
                    have HP := hide hp3
                    generalize pnSpans st5 ⟨#[97, 108, 108, 111, 119]⟩ T.al = st7 at *
                    have hzst7 : st7.1.size ≤ 4600000000000000 := by omega
                    clear hp3 HRN hzn
                    obtain ⟨t0, t1, t2, t3, t4, t5, t6, t7⟩ := unhide HBX _ (unhide HP).f
                    obtain ⟨sf, bf⟩ := st7
                    have q0 : wa.cell? ⟨W.heap.size + 1, 0, none⟩ = some (.string sf) := (unhide HP).blk.cell 0
                    have q1 : wa.cell? ⟨W.heap.size + 1, 1, none⟩ = some (.bool bf) := (unhide HP).blk.cell 1
                    have HBF := hide ((unhide HB0).grown (unhide HP).f (by have := (unhide HB0).size; omega) (fun q hq => by cases hq; omega))
                    rw [unhide HX] at HXV
                    cases bf with
                    | true =>
                      have HY : Hz (XV = (⟨#[]⟩, 5)) := hide (by rw [unhide HXV]; rfl)
                      go_wp2_with fail
                      go_ret2
                      exact ⟨by rw [unhide HY]; rfl, unhide HBF⟩
                    | false =>
                      by_cases hlong : 262144 < sf.size
                      · have hl2 : (262144 : Int) < ((sf.size : Nat) : Int) := by omega
                        have HY : Hz (XV = (⟨#[]⟩, 3)) := hide (by rw [unhide HXV, if_neg (by simp), if_pos hlong])
                        go_wp2_with fail
                        go_ret2
                        exact ⟨by rw [unhide HY]; rfl, unhide HBF⟩
                      · have hl2 : ¬ (262144 : Int) < ((sf.size : Nat) : Int) := by omega
                        have HY : Hz (XV = (sf, 0)) := hide (by rw [unhide HXV, if_neg (by simp), if_neg hlong])
                        go_wp2_with fail
                        go_ret2
                        exact ⟨by rw [unhide HY]; rfl, unhide HBF⟩
                · have l6 : (0 : Int) < ((T.dr.length : Nat) : Int) := by omega
                  have e6 : pnLi st5 ⟨#[100, 114, 111, 112]⟩ T.dr = pnSpans st5 ⟨#[100, 114, 111, 112]⟩ T.dr := by unfold pnLi; rw [if_neg h6]
                  rw [e6] at HX
                  have HRN := hide (pe_spans (W.heap.size + 1) st5 ⟨#[100, 114, 111, 112]⟩ a6 c6 T.dr (unhide HT).o.n6 (unhide HT).dr (by decide) (by omega) W0 wk (unhide HP) (unhide HI).2.2.2.2.2.2.1)
                  have hzn := pnSpans_size st5 ⟨#[100, 114, 111, 112]⟩ T.dr
                  have hnn := (unhide HT).o.n6
                  have hww : (⟨#[100, 114, 111, 112]⟩ : ByteArray).size ≤ 10 := by decide
                  clear HP e6
                  go_wp2_with fail
                  refine (unhide HRN).mono ?_
                  rintro e wd ⟨⟨z6, rfl⟩, hp3⟩
                  have HP := hide hp3
                  generalize pnSpans st5 ⟨#[100, 114, 111, 112]⟩ T.dr = st6 at *
                  have hzst6 : st6.1.size ≤ 4500000000000000 := by omega
                  clear hp3 HRN hzn
                  obtain ⟨t0, t1, t2, t3, t4, t5, t6, t7⟩ := unhide HBX _ (unhide HP).f
                  by_cases h7 : T.al.length = 0
                  · have l7 : ¬ (0 : Int) < ((T.al.length : Nat) : Int) := by omega
                    have e7 : pnLi st6 ⟨#[97, 108, 108, 111, 119]⟩ T.al = st6 := by unfold pnLi; rw [if_pos h7]
                    rw [e7] at HX
                    clear e7
                    obtain ⟨sf, bf⟩ := st6
                    have q0 : wd.cell? ⟨W.heap.size + 1, 0, none⟩ = some (.string sf) := (unhide HP).blk.cell 0
                    have q1 : wd.cell? ⟨W.heap.size + 1, 1, none⟩ = some (.bool bf) := (unhide HP).blk.cell 1
                    have HBF := hide ((unhide HB0).grown (unhide HP).f (by have := (unhide HB0).size; omega) (fun q hq => by cases hq; omega))
                    rw [unhide HX] at HXV
                    cases bf with
                    | true =>
                      have HY : Hz (XV = (⟨#[]⟩, 5)) := hide (by rw [unhide HXV]; rfl)
                      go_wp2_with fail
                      go_ret2
                      exact ⟨by rw [unhide HY]; rfl, unhide HBF⟩
                    | false =>
                      by_cases hlong : 262144 < sf.size
                      · have hl2 : (262144 : Int) < ((sf.size : Nat) : Int) := by omega
                        have HY : Hz (XV = (⟨#[]⟩, 3)) := hide (by rw [unhide HXV, if_neg (by simp), if_pos hlong])
                        go_wp2_with fail
                        go_ret2
                        exact ⟨by rw [unhide HY]; rfl, unhide HBF⟩
                      · have hl2 : ¬ (262144 : Int) < ((sf.size : Nat) : Int) := by omega
                        have HY : Hz (XV = (sf, 0)) := hide (by rw [unhide HXV, if_neg (by simp), if_neg hlong])
                        go_wp2_with fail
                        go_ret2
                        exact ⟨by rw [unhide HY]; rfl, unhide HBF⟩
                  · have l7 : (0 : Int) < ((T.al.length : Nat) : Int) := by omega
                    have e7 : pnLi st6 ⟨#[97, 108, 108, 111, 119]⟩ T.al = pnSpans st6 ⟨#[97, 108, 108, 111, 119]⟩ T.al := by unfold pnLi; rw [if_neg h7]
                    rw [e7] at HX
                    have HRN := hide (pe_spans (W.heap.size + 1) st6 ⟨#[97, 108, 108, 111, 119]⟩ a7 c7 T.al (unhide HT).o.n7 (unhide HT).al (by decide) (by omega) W0 wd (unhide HP) (unhide HI).2.2.2.2.2.2.2.1)
                    have hzn := pnSpans_size st6 ⟨#[97, 108, 108, 111, 119]⟩ T.al
                    have hnn := (unhide HT).o.n7
                    have hww : (⟨#[97, 108, 108, 111, 119]⟩ : ByteArray).size ≤ 10 := by decide
                    clear HP e7
                    go_wp2_with fail
                    refine (unhide HRN).mono ?_
                    rintro e wa ⟨⟨z7, rfl⟩, hp3⟩
                    have HP := hide hp3
                    generalize pnSpans st6 ⟨#[97, 108, 108, 111, 119]⟩ T.al = st7 at *
                    have hzst7 : st7.1.size ≤ 4600000000000000 := by omega
                    clear hp3 HRN hzn
                    obtain ⟨t0, t1, t2, t3, t4, t5, t6, t7⟩ := unhide HBX _ (unhide HP).f
                    obtain ⟨sf, bf⟩ := st7
                    have q0 : wa.cell? ⟨W.heap.size + 1, 0, none⟩ = some (.string sf) := (unhide HP).blk.cell 0
                    have q1 : wa.cell? ⟨W.heap.size + 1, 1, none⟩ = some (.bool bf) := (unhide HP).blk.cell 1
                    have HBF := hide ((unhide HB0).grown (unhide HP).f (by have := (unhide HB0).size; omega) (fun q hq => by cases hq; omega))
                    rw [unhide HX] at HXV
                    cases bf with
                    | true =>
                      have HY : Hz (XV = (⟨#[]⟩, 5)) := hide (by rw [unhide HXV]; rfl)
                      go_wp2_with fail
                      go_ret2
                      exact ⟨by rw [unhide HY]; rfl, unhide HBF⟩
                    | false =>
                      by_cases hlong : 262144 < sf.size
                      · have hl2 : (262144 : Int) < ((sf.size : Nat) : Int) := by omega
                        have HY : Hz (XV = (⟨#[]⟩, 3)) := hide (by rw [unhide HXV, if_neg (by simp), if_pos hlong])
                        go_wp2_with fail
                        go_ret2
                        exact ⟨by rw [unhide HY]; rfl, unhide HBF⟩
                      · have hl2 : ¬ (262144 : Int) < ((sf.size : Nat) : Int) := by omega
                        have HY : Hz (XV = (sf, 0)) := hide (by rw [unhide HXV, if_neg (by simp), if_neg hlong])
                        go_wp2_with fail
                        go_ret2
                        exact ⟨by rw [unhide HY]; rfl, unhide HBF⟩
      · have l1 : (0 : Int) < ((T.co.length : Nat) : Int) := by omega
        have HRN := hide (pe_spans (W.heap.size + 1) st ⟨#[99, 111, 109, 109, 111, 110]⟩ a1 c1 T.co (unhide HT).o.n1 (unhide HT).co (by decide) (by omega) W0 wr (unhide HP) (unhide HI).2.1)
        go_wp2_with fail
        refine (unhide HRN).mono ?_
        rintro e w1 ⟨⟨v1, rfl⟩, hp1⟩
        have HP1 : Hz (Pe W0 w1 (W.heap.size + 1) (pnLi st ⟨#[99, 111, 109, 109, 111, 110]⟩ T.co).1 (pnLi st ⟨#[99, 111, 109, 109, 111, 110]⟩ T.co).2) := hide (by unfold pnLi; rw [if_neg h1]; exact hp1)
        obtain ⟨t0, t1, t2, t3, t4, t5, t6, t7⟩ := unhide HBX _ hp1.f
        clear hp1 HRN
        go_wp2_with fail
        have hz2 : (pnLi st ⟨#[99, 111, 109, 109, 111, 110]⟩ T.co).1.size ≤ 2020000000000000 := by
          have := (unhide HT).o.n1
          have := pnSpans_size st ⟨#[99, 111, 109, 109, 111, 110]⟩ T.co
          have e : (⟨#[99, 111, 109, 109, 111, 110]⟩ : ByteArray).size = 6 := rfl
          unfold pnLi
          split <;> omega
        generalize pnLi st ⟨#[99, 111, 109, 109, 111, 110]⟩ T.co = st1 at *
        have HST : Hz (∀ k, k ≤ T.ma.length → ((T.ma.take k).foldl pnMa st1).1.size ≤ 2020000000000000 + 66546 * k) := hide (by
          intro k
          induction k with
          | zero =>
            intro _
            show st1.1.size ≤ _
            omega
          | succ k ih =>
            intro hk
            obtain ⟨x, hx⟩ : ∃ x, T.ma[k]? = some x := ⟨_, List.getElem?_eq_getElem (by omega)⟩
            rw [fold_take _ _ _ _ _ hx]
            have z1 := pnMa_size ((T.ma.take k).foldl pnMa st1) x
            have z2 := ih (by omega)
            rw [Nat.mul_succ, ← Nat.add_assoc]
            exact Nat.le_trans z1 (Nat.add_le_add_right z2 _))
        have HPb := HP1
        clear HP HP1
        go_loopw [6] (fun iv wm => ∃ k : Nat, k ≤ T.ma.length ∧ iv = .int .i64 k ∧ Hz (Pe W0 wm (W.heap.size + 1) ((T.ma.take k).foldl pnMa st1).1 ((T.ma.take k).foldl pnMa st1).2)) (fun iv _ => T.ma.length - (intOf iv).toNat)
        case atStart => exact ⟨0, Nat.zero_le _, rfl, HPb⟩
        case round =>
          obtain ⟨k, hk, rfl, HP⟩ := hrel
          clear HPb
          have hz := unhide HST k hk
          have hn2 := (unhide HT).o.n2
          obtain ⟨t0, t1, t2, t3, t4, t5, t6, t7⟩ := unhide HBX _ (unhide HP).f
          by_cases hkn : k < T.ma.length
          · obtain ⟨x, hx⟩ : ∃ x, T.ma[k]? = some x := ⟨_, List.getElem?_eq_getElem hkn⟩
            have HF := hide (fold_take pnMa st1 T.ma k x hx)
            generalize (T.ma.take k).foldl pnMa st1 = stm at *
            obtain ⟨s, b⟩ := stm
            dsimp only at hz HP
            have hxs := encM2_at T.ma k x hx
            have hlen := encM2_length T.ma
            obtain ⟨g, o, e0, hgP, hc⟩ := (unhide HI).2.2.1 (by omega)
            subst e0
            have H33 := hide ((unhide HT).ma x (List.mem_of_getElem? hx))
            have H34 := hide ((unhide HT).o.z2 x (List.mem_of_getElem? hx))
            obtain ⟨r, n⟩ := x
            dsimp only at hxs H33 H34
            have HCL : Hz (∀ w', W0.grownBy w' (some (W.heap.size + 1)) → w'.cell? ⟨g, o + k * 2, none⟩ = some (.int .i32 r) ∧ w'.cell? ⟨g, o + k * 2 + 1, none⟩ = some (.int .i64 n) ∧ w'.cell? ⟨W.heap.size, 2, none⟩ = some (.slice (some ⟨g, o, none⟩) T.ma.length c2)) := hide (fun w' hw => ⟨hw.cell (a := ⟨g, o + k * 2, none⟩) (hc _ _ hxs.1) (by show some g ≠ some _; intro e; have := Option.some.inj e; omega), hw.cell (a := ⟨g, o + k * 2 + 1, none⟩) (by have := hc _ _ hxs.2; rw [← Nat.add_assoc] at this; exact this) (by show some g ≠ some _; intro e; have := Option.some.inj e; omega), (unhide HBX w' hw).2.2.1⟩)
            have k1 : ((k : Nat) : Int) < ((T.ma.length : Nat) : Int) := by omega
            have k2 : ((k : Nat) : Int).toNat = k := by omega
            have s1 : ¬ 9223372036854775807 < s.size + 5 := by omega
            have q0 := (unhide HP).blk.cell 0
            have f0 := (unhide HP).blk.frozen 0
            have HP2 := hide ((unhide HP).str (s ++ ⟨#[109, 97, 114, 107, 32]⟩))
            obtain ⟨d0, d1, d2⟩ := unhide HCL _ (unhide HP2).f
            have hz2 : (s ++ ⟨#[109, 97, 114, 107, 32]⟩).size = s.size + 5 := by rw [ByteArray.size_append]; rfl
            have HRN := hide (pe_rune (W.heap.size + 1) (s ++ ⟨#[109, 97, 114, 107, 32]⟩) b r (unhide H33) (by omega) W0 _ (unhide HP2))
            clear hc hxs hx HP t0 t1 t3 t4 t5 t6 t7
            go_wp2_with fail
            refine (unhide HRN).mono ?_
            rintro e w2 ⟨⟨v2, rfl⟩, hp3⟩
            have HP3 : Hz (Pe W0 w2 (W.heap.size + 1) (pn1 (pnS (s, b) ⟨#[109, 97, 114, 107, 32]⟩) r).1 (pn1 (pnS (s, b) ⟨#[109, 97, 114, 107, 32]⟩) r).2) := hide hp3
            have HV : Hz (pnMa (s, b) (r, n) = ((((pn1 (pnS (s, b) ⟨#[109, 97, 114, 107, 32]⟩) r).1 ++ ⟨#[32]⟩) ++ decB (if clsB n = true then n.toNat else 0)) ++ ⟨#[32, 59, 10]⟩, (pn1 (pnS (s, b) ⟨#[109, 97, 114, 107, 32]⟩) r).2 || !clsB n)) := hide rfl
            have hz3 : (pn1 (pnS (s, b) ⟨#[109, 97, 114, 107, 32]⟩) r).1.size ≤ s.size + 5 + 1000 := by
              have := pn1_size (pnS (s, b) ⟨#[109, 97, 114, 107, 32]⟩) r
              rw [pnS_size] at this
              exact this
            generalize pn1 (pnS (s, b) ⟨#[109, 97, 114, 107, 32]⟩) r = st3 at *
            obtain ⟨s3, b3⟩ := st3
            dsimp only at hz3 HP3 HV
            clear hp3 HRN HP2 q0 f0 d0 d1 d2 t2 hz2
            obtain ⟨d0, d1, d2⟩ := unhide HCL _ (unhide HP3).f
            by_cases hcl : clsB n = true
            · obtain ⟨n0, n1⟩ := clsB_iff.1 hcl
              obtain ⟨u, rfl⟩ : ∃ u : Nat, n = u := ⟨n.toNat, by omega⟩
              have m0 : ¬ ((u : Nat) : Int) < 0 := by omega
              have m1 : ¬ (65535 : Int) < ((u : Nat) : Int) := by omega
              rw [if_pos hcl, hcl, Int.toNat_natCast] at HV
              have HPx := HP3
              have HDC := hide (dec_any u (by omega))
              have hds := nd_le u
              have HD := hide ((unhide HPx).call (w' := (w2).drew) ⟨rfl, rfl, rfl, Nat.le_refl _, fun _ _ => rfl⟩)
              have q0 : (w2).drew.cell? ⟨W.heap.size + 1, 0, none⟩ = some (.string s3) := (unhide HD).blk.cell 0
              generalize decB u = D at *
              have HV2 : Hz (pnMa (s, b) (r, (u : Int)) = (s3 ++ ⟨#[32]⟩ ++ D ++ ⟨#[32, 59, 10]⟩, b3)) := hide (by rw [unhide HV]; simp)
              clear HV
              have s3a : ¬ 9223372036854775807 < s3.size + 1 := by omega
              have s3b : ¬ 9223372036854775807 < s3.size + 1 + D.size := by omega
              have s3c : ¬ 9223372036854775807 < s3.size + 1 + D.size + 3 := by omega
              go_wp2_with fail
              go_region_law (first
                | (go_simp; refine (unhide HDC (w2).drew).mono ?_; rintro e w4 ⟨rfl, hb4⟩; have HP4 := hide ((unhide HD).call hb4); have e0 : w4.cell? ⟨W.heap.size + 1, 0, none⟩ = some (.string s3) := (unhide HP4).blk.cell 0; have f0 := (unhide HP4).blk.frozen 0; clear hb4))
              all_goals
                have HP5 := hide ((unhide HP4).str (s3 ++ ⟨#[32]⟩ ++ D ++ ⟨#[32, 59, 10]⟩))
                go_wp2_with fail
                go_roundw
                case rel => exact ⟨k + 1, by omega, by go_num, hide (by rw [unhide HF, unhide HV2]; exact unhide HP5)⟩
                case measure => simp [intOf]; omega
            · have hcl0 : clsB n = false := by cases q : clsB n with
                | false => rfl
                | true => exact absurd q hcl
              rw [if_neg hcl, hcl0] at HV
              have q1 := (unhide HP3).blk.cell 1
              have f1 := (unhide HP3).blk.frozen 1
              have HPx := hide ((unhide HP3).bad true)
              by_cases hneg : n < 0
              · have hneg2 : n < 0 := hneg
                have HDC := hide (dec_any 0 (by omega))
                have hds := nd_le 0
                have HD := hide ((unhide HPx).call (w' := (w2.setCell ⟨W.heap.size + 1, 1, none⟩ (.bool true)).drew) ⟨rfl, rfl, rfl, Nat.le_refl _, fun _ _ => rfl⟩)
                have q0 : (w2.setCell ⟨W.heap.size + 1, 1, none⟩ (.bool true)).drew.cell? ⟨W.heap.size + 1, 0, none⟩ = some (.string s3) := (unhide HD).blk.cell 0
                generalize decB 0 = D at *
                have HV2 : Hz (pnMa (s, b) (r, (n : Int)) = (s3 ++ ⟨#[32]⟩ ++ D ++ ⟨#[32, 59, 10]⟩, true)) := hide (by rw [unhide HV]; simp)
                clear HV
                have s3a : ¬ 9223372036854775807 < s3.size + 1 := by omega
                have s3b : ¬ 9223372036854775807 < s3.size + 1 + D.size := by omega
                have s3c : ¬ 9223372036854775807 < s3.size + 1 + D.size + 3 := by omega
                go_wp2_with fail
                go_region_law (first
                  | (go_simp; refine (unhide HDC (w2.setCell ⟨W.heap.size + 1, 1, none⟩ (.bool true)).drew).mono ?_; rintro e w4 ⟨rfl, hb4⟩; have HP4 := hide ((unhide HD).call hb4); have e0 : w4.cell? ⟨W.heap.size + 1, 0, none⟩ = some (.string s3) := (unhide HP4).blk.cell 0; have f0 := (unhide HP4).blk.frozen 0; clear hb4))
                all_goals
                  have HP5 := hide ((unhide HP4).str (s3 ++ ⟨#[32]⟩ ++ D ++ ⟨#[32, 59, 10]⟩))
                  go_wp2_with fail
                  go_roundw
                  case rel => exact ⟨k + 1, by omega, by go_num, hide (by rw [unhide HF, unhide HV2]; exact unhide HP5)⟩
                  case measure => simp [intOf]; omega
              · have hbig : 65535 < n := by
                  rcases Int.lt_or_le 65535 n with h | h
                  · exact h
                  · exact absurd (clsB_iff.2 ⟨by omega, h⟩) hcl
                have HDC := hide (dec_any 0 (by omega))
                have hds := nd_le 0
                have HD := hide ((unhide HPx).call (w' := (w2.setCell ⟨W.heap.size + 1, 1, none⟩ (.bool true)).drew) ⟨rfl, rfl, rfl, Nat.le_refl _, fun _ _ => rfl⟩)
                have q0 : (w2.setCell ⟨W.heap.size + 1, 1, none⟩ (.bool true)).drew.cell? ⟨W.heap.size + 1, 0, none⟩ = some (.string s3) := (unhide HD).blk.cell 0
                generalize decB 0 = D at *
                have HV2 : Hz (pnMa (s, b) (r, (n : Int)) = (s3 ++ ⟨#[32]⟩ ++ D ++ ⟨#[32, 59, 10]⟩, true)) := hide (by rw [unhide HV]; simp)
                clear HV
                have s3a : ¬ 9223372036854775807 < s3.size + 1 := by omega
                have s3b : ¬ 9223372036854775807 < s3.size + 1 + D.size := by omega
                have s3c : ¬ 9223372036854775807 < s3.size + 1 + D.size + 3 := by omega
                go_wp2_with fail
                go_region_law (first
                  | (go_simp; refine (unhide HDC (w2.setCell ⟨W.heap.size + 1, 1, none⟩ (.bool true)).drew).mono ?_; rintro e w4 ⟨rfl, hb4⟩; have HP4 := hide ((unhide HD).call hb4); have e0 : w4.cell? ⟨W.heap.size + 1, 0, none⟩ = some (.string s3) := (unhide HP4).blk.cell 0; have f0 := (unhide HP4).blk.frozen 0; clear hb4))
                all_goals
                  have HP5 := hide ((unhide HP4).str (s3 ++ ⟨#[32]⟩ ++ D ++ ⟨#[32, 59, 10]⟩))
                  go_wp2_with fail
                  go_roundw
                  case rel => exact ⟨k + 1, by omega, by go_num, hide (by rw [unhide HF, unhide HV2]; exact unhide HP5)⟩
                  case measure => simp [intOf]; omega
          · have k1 : ¬ ((k : Nat) : Int) < ((T.ma.length : Nat) : Int) := by omega
            obtain rfl : k = T.ma.length := by omega
            rw [List.take_length] at HP hz
            have hz3 : (T.ma.foldl pnMa st1).1.size ≤ 2100000000000000 := Nat.le_trans hz (by omega)
            generalize T.ma.foldl pnMa st1 = st2 at *
            clear HST hz
            have HST : Hz (∀ k, k ≤ T.pr.length → ((T.pr.take k).foldl pnPr st2).1.size ≤ 2100000000000000 + 3014 * k) := hide (by
              intro k
              induction k with
              | zero =>
                intro _
                show st2.1.size ≤ _
                omega
              | succ k ih =>
                intro hk
                obtain ⟨x, hx⟩ : ∃ x, T.pr[k]? = some x := ⟨_, List.getElem?_eq_getElem (by omega)⟩
                rw [fold_take _ _ _ _ _ hx]
                have z1 := pnPr_size ((T.pr.take k).foldl pnPr st2) x
                have z2 := ih (by omega)
                rw [Nat.mul_succ, ← Nat.add_assoc]
                exact Nat.le_trans z1 (Nat.add_le_add_right z2 _))
            have HPb := HP
            clear HP
            go_wp2_with fail
            go_loopw [8] (fun iv wm => ∃ k : Nat, k ≤ T.pr.length ∧ iv = .int .i64 k ∧ Hz (Pe W0 wm (W.heap.size + 1) ((T.pr.take k).foldl pnPr st2).1 ((T.pr.take k).foldl pnPr st2).2)) (fun iv _ => T.pr.length - (intOf iv).toNat)
            case atStart => exact ⟨0, Nat.zero_le _, rfl, HPb⟩
            case round =>
              obtain ⟨k, hk, rfl, HP⟩ := hrel
              clear HPb
              have hz := unhide HST k hk
              have hn3 := (unhide HT).o.n3
              obtain ⟨t0, t1, t2, t3, t4, t5, t6, t7⟩ := unhide HBX _ (unhide HP).f
              by_cases hkn : k < T.pr.length
              · obtain ⟨x, hx⟩ : ∃ x, T.pr[k]? = some x := ⟨_, List.getElem?_eq_getElem hkn⟩
                have HF := hide (fold_take pnPr st2 T.pr k x hx)
                generalize (T.pr.take k).foldl pnPr st2 = stm at *
                have hxs := encP3_at T.pr k x hx
                have hlen := encP3_length T.pr
                obtain ⟨g, o, e0, hgP, hc⟩ := (unhide HI).2.2.2.1 (by omega)
                subst e0
                have H33 := hide ((unhide HT).pr x (List.mem_of_getElem? hx))
                obtain ⟨x0, x1, x2⟩ := x
                dsimp only at hxs H33
                have HCL : Hz (∀ w', W0.grownBy w' (some (W.heap.size + 1)) → w'.cell? ⟨g, o + k * 3, none⟩ = some (.int .i32 x0) ∧ w'.cell? ⟨g, o + k * 3 + 1, none⟩ = some (.int .i32 x1) ∧ w'.cell? ⟨g, o + k * 3 + 2, none⟩ = some (.int .i32 x2) ∧ w'.cell? ⟨W.heap.size, 3, none⟩ = some (.slice (some ⟨g, o, none⟩) T.pr.length c3)) := hide (fun w' hw => by
                  have hne : ∀ i, some (⟨g, i, none⟩ : Addr).block ≠ some (W.heap.size + 1) := fun i e => by have : g = W.heap.size + 1 := Option.some.inj e; omega
                  refine ⟨hw.cell (a := ⟨g, o + k * 3, none⟩) (hc _ _ hxs.1) (hne _), hw.cell (a := ⟨g, o + k * 3 + 1, none⟩) (by have := hc _ _ hxs.2.1; rw [← Nat.add_assoc] at this; exact this) (hne _), hw.cell (a := ⟨g, o + k * 3 + 2, none⟩) (by have := hc _ _ hxs.2.2; rw [← Nat.add_assoc] at this; exact this) (hne _), (unhide HBX w' hw).2.2.2.1⟩)
                have k1 : ((k : Nat) : Int) < ((T.pr.length : Nat) : Int) := by omega
                have k2 : ((k : Nat) : Int).toNat = k := by omega
                have HV : Hz (pnPr stm (x0, x1, x2) = pnS (pn1 (pnS (pn1 (pnS (pn1 (pnS stm ⟨#[112, 97, 105, 114, 32]⟩) x0) ⟨#[32, 61, 32]⟩) x1) ⟨#[32, 43, 32]⟩) x2) ⟨#[32, 59, 10]⟩) := hide rfl
                clear hc hxs hx t0 t1 t2 t4 t5 t6 t7
                have hza := hz
                obtain ⟨s0, b0⟩ := stm
                dsimp only at hza HP
                have y0 : ¬ 9223372036854775807 < s0.size + 5 := by omega
                have q0 := (unhide HP).blk.cell 0
                have f0 := (unhide HP).blk.frozen 0
                have HPs := hide ((unhide HP).str (s0 ++ ⟨#[112, 97, 105, 114, 32]⟩))
                obtain ⟨d0, d1, d2, d3⟩ := unhide HCL _ (unhide HPs).f
                have hzs : (s0 ++ ⟨#[112, 97, 105, 114, 32]⟩).size = s0.size + 5 := by rw [ByteArray.size_append]; rfl
                have HRN := hide (pe_rune (W.heap.size + 1) (s0 ++ ⟨#[112, 97, 105, 114, 32]⟩) b0 x0 (unhide H33).1 (by omega) W0 _ (unhide HPs))
                clear HP hzs
                go_wp2_with fail
                refine (unhide HRN).mono ?_
                rintro e v0 ⟨⟨z0, rfl⟩, hp3⟩
                have HP : Hz (Pe W0 v0 (W.heap.size + 1) (pn1 (pnS (s0, b0) ⟨#[112, 97, 105, 114, 32]⟩) x0).1 (pn1 (pnS (s0, b0) ⟨#[112, 97, 105, 114, 32]⟩) x0).2) := hide hp3
                have hzb : (pn1 (pnS (s0, b0) ⟨#[112, 97, 105, 114, 32]⟩) x0).1.size ≤ s0.size + 5 + 1000 := by
                  have := pn1_size (pnS (s0, b0) ⟨#[112, 97, 105, 114, 32]⟩) x0
                  rw [pnS_size] at this
                  exact this
                generalize pn1 (pnS (s0, b0) ⟨#[112, 97, 105, 114, 32]⟩) x0 = tt0 at *
                have hzc : tt0.1.size ≤ 2200000000000000 := by omega
                clear hp3 HRN HPs q0 f0 d0 d1 d2 d3 hza hzb y0
                have hza := hzc
                clear hzc
                obtain ⟨d0, d1, d2, d3⟩ := unhide HCL _ (unhide HP).f
                obtain ⟨s1, b1⟩ := tt0
                dsimp only at hza HP
                have y1 : ¬ 9223372036854775807 < s1.size + 3 := by omega
                have q1 := (unhide HP).blk.cell 0
                have f1 := (unhide HP).blk.frozen 0
                have HPs := hide ((unhide HP).str (s1 ++ ⟨#[32, 61, 32]⟩))
                obtain ⟨d0, d1, d2, d3⟩ := unhide HCL _ (unhide HPs).f
                have hzs : (s1 ++ ⟨#[32, 61, 32]⟩).size = s1.size + 3 := by rw [ByteArray.size_append]; rfl
                have HRN := hide (pe_rune (W.heap.size + 1) (s1 ++ ⟨#[32, 61, 32]⟩) b1 x1 (unhide H33).2.1 (by omega) W0 _ (unhide HPs))
                clear HP hzs
                go_wp2_with fail
                refine (unhide HRN).mono ?_
                rintro e v1 ⟨⟨z1, rfl⟩, hp3⟩
                have HP : Hz (Pe W0 v1 (W.heap.size + 1) (pn1 (pnS (s1, b1) ⟨#[32, 61, 32]⟩) x1).1 (pn1 (pnS (s1, b1) ⟨#[32, 61, 32]⟩) x1).2) := hide hp3
                have hzb : (pn1 (pnS (s1, b1) ⟨#[32, 61, 32]⟩) x1).1.size ≤ s1.size + 3 + 1000 := by
                  have := pn1_size (pnS (s1, b1) ⟨#[32, 61, 32]⟩) x1
                  rw [pnS_size] at this
                  exact this
                generalize pn1 (pnS (s1, b1) ⟨#[32, 61, 32]⟩) x1 = tt1 at *
                have hzc : tt1.1.size ≤ 2200000000002000 := by omega
                clear hp3 HRN HPs q1 f1 d0 d1 d2 d3 hza hzb y1
                have hza := hzc
                clear hzc
                obtain ⟨d0, d1, d2, d3⟩ := unhide HCL _ (unhide HP).f
                obtain ⟨s2, b2⟩ := tt1
                dsimp only at hza HP
                have y2 : ¬ 9223372036854775807 < s2.size + 3 := by omega
                have q2 := (unhide HP).blk.cell 0
                have f2 := (unhide HP).blk.frozen 0
                have HPs := hide ((unhide HP).str (s2 ++ ⟨#[32, 43, 32]⟩))
                obtain ⟨d0, d1, d2, d3⟩ := unhide HCL _ (unhide HPs).f
                have hzs : (s2 ++ ⟨#[32, 43, 32]⟩).size = s2.size + 3 := by rw [ByteArray.size_append]; rfl
                have HRN := hide (pe_rune (W.heap.size + 1) (s2 ++ ⟨#[32, 43, 32]⟩) b2 x2 (unhide H33).2.2 (by omega) W0 _ (unhide HPs))
                clear HP hzs
                go_wp2_with fail
                refine (unhide HRN).mono ?_
                rintro e v2 ⟨⟨z2, rfl⟩, hp3⟩
                have HP : Hz (Pe W0 v2 (W.heap.size + 1) (pn1 (pnS (s2, b2) ⟨#[32, 43, 32]⟩) x2).1 (pn1 (pnS (s2, b2) ⟨#[32, 43, 32]⟩) x2).2) := hide hp3
                have hzb : (pn1 (pnS (s2, b2) ⟨#[32, 43, 32]⟩) x2).1.size ≤ s2.size + 3 + 1000 := by
                  have := pn1_size (pnS (s2, b2) ⟨#[32, 43, 32]⟩) x2
                  rw [pnS_size] at this
                  exact this
                generalize pn1 (pnS (s2, b2) ⟨#[32, 43, 32]⟩) x2 = tt2 at *
                have hzc : tt2.1.size ≤ 2200000000004000 := by omega
                clear hp3 HRN HPs q2 f2 d0 d1 d2 d3 hza hzb y2
                have hza := hzc
                clear hzc
                obtain ⟨d0, d1, d2, d3⟩ := unhide HCL _ (unhide HP).f
                obtain ⟨s3, b3⟩ := tt2
                dsimp only at hza HP
                have y3 : ¬ 9223372036854775807 < s3.size + 3 := by omega
                have q3 := (unhide HP).blk.cell 0
                have f3 := (unhide HP).blk.frozen 0
                have HPs := hide ((unhide HP).str (s3 ++ ⟨#[32, 59, 10]⟩))
                go_wp2_with fail
                exact ⟨⟨k + 1, by omega, rfl, hide (by rw [unhide HF, unhide HV]; exact unhide HPs)⟩, by simp [intOf]; omega⟩
              · have k1 : ¬ ((k : Nat) : Int) < ((T.pr.length : Nat) : Int) := by omega
                obtain rfl : k = T.pr.length := by omega
                rw [List.take_length] at HP hz
                have hz4 : (T.pr.foldl pnPr st2).1.size ≤ 2200000000000000 := Nat.le_trans hz (by omega)
                generalize T.pr.foldl pnPr st2 = st3 at *
                clear HST hz
                have HRN := hide (pe_maps (W.heap.size + 1) st3 ⟨#[102, 111, 108, 100]⟩ a4 c4 T.fo (unhide HT).o.n4 (unhide HT).fo (by decide) (by omega) W0 wr (unhide HP) (unhide HI).2.2.2.2.1)
                have hzn := pnMaps_size ⟨#[102, 111, 108, 100]⟩ (by decide) T.fo st3 (unhide HT).fo
                have hn4 := (unhide HT).o.n4
                clear HP
                go_wp2_with fail
                refine (unhide HRN).mono ?_
                rintro e wf ⟨⟨z4, rfl⟩, hp3⟩
                have HP := hide hp3
                generalize T.fo.foldl (pnMap ⟨#[102, 111, 108, 100]⟩) st3 = st4 at *
                have hzst4 : st4.1.size ≤ 3300000000000000 := by omega
                clear hp3 HRN hzn
                obtain ⟨t0, t1, t2, t3, t4, t5, t6, t7⟩ := unhide HBX _ (unhide HP).f
                have HRN := hide (pe_maps (W.heap.size + 1) st4 ⟨#[108, 111, 111, 107]⟩ a5 c5 T.lk (unhide HT).o.n5 (unhide HT).lk (by decide) (by omega) W0 wf (unhide HP) (unhide HI).2.2.2.2.2.1)
                have hzn := pnMaps_size ⟨#[108, 111, 111, 107]⟩ (by decide) T.lk st4 (unhide HT).lk
                have hn5 := (unhide HT).o.n5
                clear HP
                go_wp2_with fail
                refine (unhide HRN).mono ?_
                rintro e wk ⟨⟨z5, rfl⟩, hp3⟩
                have HP := hide hp3
                generalize T.lk.foldl (pnMap ⟨#[108, 111, 111, 107]⟩) st4 = st5 at *
                have hzst5 : st5.1.size ≤ 4400000000000000 := by omega
                clear hp3 HRN hzn
                obtain ⟨t0, t1, t2, t3, t4, t5, t6, t7⟩ := unhide HBX _ (unhide HP).f
                by_cases h6 : T.dr.length = 0
                · have l6 : ¬ (0 : Int) < ((T.dr.length : Nat) : Int) := by omega
                  have e6 : pnLi st5 ⟨#[100, 114, 111, 112]⟩ T.dr = st5 := by unfold pnLi; rw [if_pos h6]
                  rw [e6] at HX
                  clear e6
                  by_cases h7 : T.al.length = 0
                  · have l7 : ¬ (0 : Int) < ((T.al.length : Nat) : Int) := by omega
                    have e7 : pnLi st5 ⟨#[97, 108, 108, 111, 119]⟩ T.al = st5 := by unfold pnLi; rw [if_pos h7]
                    rw [e7] at HX
                    clear e7
                    obtain ⟨sf, bf⟩ := st5
                    have q0 : wk.cell? ⟨W.heap.size + 1, 0, none⟩ = some (.string sf) := (unhide HP).blk.cell 0
                    have q1 : wk.cell? ⟨W.heap.size + 1, 1, none⟩ = some (.bool bf) := (unhide HP).blk.cell 1
                    have HBF := hide ((unhide HB0).grown (unhide HP).f (by have := (unhide HB0).size; omega) (fun q hq => by cases hq; omega))
                    rw [unhide HX] at HXV
                    cases bf with
                    | true =>
                      have HY : Hz (XV = (⟨#[]⟩, 5)) := hide (by rw [unhide HXV]; rfl)
                      go_wp2_with fail
                      go_ret2
                      exact ⟨by rw [unhide HY]; rfl, unhide HBF⟩
                    | false =>
                      by_cases hlong : 262144 < sf.size
                      · have hl2 : (262144 : Int) < ((sf.size : Nat) : Int) := by omega
                        have HY : Hz (XV = (⟨#[]⟩, 3)) := hide (by rw [unhide HXV, if_neg (by simp), if_pos hlong])
                        go_wp2_with fail
                        go_ret2
                        exact ⟨by rw [unhide HY]; rfl, unhide HBF⟩
                      · have hl2 : ¬ (262144 : Int) < ((sf.size : Nat) : Int) := by omega
                        have HY : Hz (XV = (sf, 0)) := hide (by rw [unhide HXV, if_neg (by simp), if_neg hlong])
                        go_wp2_with fail
                        go_ret2
                        exact ⟨by rw [unhide HY]; rfl, unhide HBF⟩
                  · have l7 : (0 : Int) < ((T.al.length : Nat) : Int) := by omega
                    have e7 : pnLi st5 ⟨#[97, 108, 108, 111, 119]⟩ T.al = pnSpans st5 ⟨#[97, 108, 108, 111, 119]⟩ T.al := by unfold pnLi; rw [if_neg h7]
                    rw [e7] at HX
                    have HRN := hide (pe_spans (W.heap.size + 1) st5 ⟨#[97, 108, 108, 111, 119]⟩ a7 c7 T.al (unhide HT).o.n7 (unhide HT).al (by decide) (by omega) W0 wk (unhide HP) (unhide HI).2.2.2.2.2.2.2.1)
                    have hzn := pnSpans_size st5 ⟨#[97, 108, 108, 111, 119]⟩ T.al
                    have hnn := (unhide HT).o.n7
                    have hww : (⟨#[97, 108, 108, 111, 119]⟩ : ByteArray).size ≤ 10 := by decide
                    clear HP e7
                    go_wp2_with fail
                    refine (unhide HRN).mono ?_
                    rintro e wa ⟨⟨z7, rfl⟩, hp3⟩
                    have HP := hide hp3
                    generalize pnSpans st5 ⟨#[97, 108, 108, 111, 119]⟩ T.al = st7 at *
                    have hzst7 : st7.1.size ≤ 4600000000000000 := by omega
                    clear hp3 HRN hzn
                    obtain ⟨t0, t1, t2, t3, t4, t5, t6, t7⟩ := unhide HBX _ (unhide HP).f
                    obtain ⟨sf, bf⟩ := st7
                    have q0 : wa.cell? ⟨W.heap.size + 1, 0, none⟩ = some (.string sf) := (unhide HP).blk.cell 0
                    have q1 : wa.cell? ⟨W.heap.size + 1, 1, none⟩ = some (.bool bf) := (unhide HP).blk.cell 1
                    have HBF := hide ((unhide HB0).grown (unhide HP).f (by have := (unhide HB0).size; omega) (fun q hq => by cases hq; omega))
                    rw [unhide HX] at HXV
                    cases bf with
                    | true =>
                      have HY : Hz (XV = (⟨#[]⟩, 5)) := hide (by rw [unhide HXV]; rfl)
                      go_wp2_with fail
                      go_ret2
                      exact ⟨by rw [unhide HY]; rfl, unhide HBF⟩
                    | false =>
                      by_cases hlong : 262144 < sf.size
                      · have hl2 : (262144 : Int) < ((sf.size : Nat) : Int) := by omega
                        have HY : Hz (XV = (⟨#[]⟩, 3)) := hide (by rw [unhide HXV, if_neg (by simp), if_pos hlong])
                        go_wp2_with fail
                        go_ret2
                        exact ⟨by rw [unhide HY]; rfl, unhide HBF⟩
                      · have hl2 : ¬ (262144 : Int) < ((sf.size : Nat) : Int) := by omega
                        have HY : Hz (XV = (sf, 0)) := hide (by rw [unhide HXV, if_neg (by simp), if_neg hlong])
                        go_wp2_with fail
                        go_ret2
                        exact ⟨by rw [unhide HY]; rfl, unhide HBF⟩
                · have l6 : (0 : Int) < ((T.dr.length : Nat) : Int) := by omega
                  have e6 : pnLi st5 ⟨#[100, 114, 111, 112]⟩ T.dr = pnSpans st5 ⟨#[100, 114, 111, 112]⟩ T.dr := by unfold pnLi; rw [if_neg h6]
                  rw [e6] at HX
                  have HRN := hide (pe_spans (W.heap.size + 1) st5 ⟨#[100, 114, 111, 112]⟩ a6 c6 T.dr (unhide HT).o.n6 (unhide HT).dr (by decide) (by omega) W0 wk (unhide HP) (unhide HI).2.2.2.2.2.2.1)
                  have hzn := pnSpans_size st5 ⟨#[100, 114, 111, 112]⟩ T.dr
                  have hnn := (unhide HT).o.n6
                  have hww : (⟨#[100, 114, 111, 112]⟩ : ByteArray).size ≤ 10 := by decide
                  clear HP e6
                  go_wp2_with fail
                  refine (unhide HRN).mono ?_
                  rintro e wd ⟨⟨z6, rfl⟩, hp3⟩
                  have HP := hide hp3
                  generalize pnSpans st5 ⟨#[100, 114, 111, 112]⟩ T.dr = st6 at *
                  have hzst6 : st6.1.size ≤ 4500000000000000 := by omega
                  clear hp3 HRN hzn
                  obtain ⟨t0, t1, t2, t3, t4, t5, t6, t7⟩ := unhide HBX _ (unhide HP).f
                  by_cases h7 : T.al.length = 0
                  · have l7 : ¬ (0 : Int) < ((T.al.length : Nat) : Int) := by omega
                    have e7 : pnLi st6 ⟨#[97, 108, 108, 111, 119]⟩ T.al = st6 := by unfold pnLi; rw [if_pos h7]
                    rw [e7] at HX
                    clear e7
                    obtain ⟨sf, bf⟩ := st6
                    have q0 : wd.cell? ⟨W.heap.size + 1, 0, none⟩ = some (.string sf) := (unhide HP).blk.cell 0
                    have q1 : wd.cell? ⟨W.heap.size + 1, 1, none⟩ = some (.bool bf) := (unhide HP).blk.cell 1
                    have HBF := hide ((unhide HB0).grown (unhide HP).f (by have := (unhide HB0).size; omega) (fun q hq => by cases hq; omega))
                    rw [unhide HX] at HXV
                    cases bf with
                    | true =>
                      have HY : Hz (XV = (⟨#[]⟩, 5)) := hide (by rw [unhide HXV]; rfl)
                      go_wp2_with fail
                      go_ret2
                      exact ⟨by rw [unhide HY]; rfl, unhide HBF⟩
                    | false =>
                      by_cases hlong : 262144 < sf.size
                      · have hl2 : (262144 : Int) < ((sf.size : Nat) : Int) := by omega
                        have HY : Hz (XV = (⟨#[]⟩, 3)) := hide (by rw [unhide HXV, if_neg (by simp), if_pos hlong])
                        go_wp2_with fail
                        go_ret2
                        exact ⟨by rw [unhide HY]; rfl, unhide HBF⟩
                      · have hl2 : ¬ (262144 : Int) < ((sf.size : Nat) : Int) := by omega
                        have HY : Hz (XV = (sf, 0)) := hide (by rw [unhide HXV, if_neg (by simp), if_neg hlong])
                        go_wp2_with fail
                        go_ret2
                        exact ⟨by rw [unhide HY]; rfl, unhide HBF⟩
                  · have l7 : (0 : Int) < ((T.al.length : Nat) : Int) := by omega
                    have e7 : pnLi st6 ⟨#[97, 108, 108, 111, 119]⟩ T.al = pnSpans st6 ⟨#[97, 108, 108, 111, 119]⟩ T.al := by unfold pnLi; rw [if_neg h7]
                    rw [e7] at HX
                    have HRN := hide (pe_spans (W.heap.size + 1) st6 ⟨#[97, 108, 108, 111, 119]⟩ a7 c7 T.al (unhide HT).o.n7 (unhide HT).al (by decide) (by omega) W0 wd (unhide HP) (unhide HI).2.2.2.2.2.2.2.1)
                    have hzn := pnSpans_size st6 ⟨#[97, 108, 108, 111, 119]⟩ T.al
                    have hnn := (unhide HT).o.n7
                    have hww : (⟨#[97, 108, 108, 111, 119]⟩ : ByteArray).size ≤ 10 := by decide
                    clear HP e7
                    go_wp2_with fail
                    refine (unhide HRN).mono ?_
                    rintro e wa ⟨⟨z7, rfl⟩, hp3⟩
                    have HP := hide hp3
                    generalize pnSpans st6 ⟨#[97, 108, 108, 111, 119]⟩ T.al = st7 at *
                    have hzst7 : st7.1.size ≤ 4600000000000000 := by omega
                    clear hp3 HRN hzn
                    obtain ⟨t0, t1, t2, t3, t4, t5, t6, t7⟩ := unhide HBX _ (unhide HP).f
                    obtain ⟨sf, bf⟩ := st7
                    have q0 : wa.cell? ⟨W.heap.size + 1, 0, none⟩ = some (.string sf) := (unhide HP).blk.cell 0
                    have q1 : wa.cell? ⟨W.heap.size + 1, 1, none⟩ = some (.bool bf) := (unhide HP).blk.cell 1
                    have HBF := hide ((unhide HB0).grown (unhide HP).f (by have := (unhide HB0).size; omega) (fun q hq => by cases hq; omega))
                    rw [unhide HX] at HXV
                    cases bf with
                    | true =>
                      have HY : Hz (XV = (⟨#[]⟩, 5)) := hide (by rw [unhide HXV]; rfl)
                      go_wp2_with fail
                      go_ret2
                      exact ⟨by rw [unhide HY]; rfl, unhide HBF⟩
                    | false =>
                      by_cases hlong : 262144 < sf.size
                      · have hl2 : (262144 : Int) < ((sf.size : Nat) : Int) := by omega
                        have HY : Hz (XV = (⟨#[]⟩, 3)) := hide (by rw [unhide HXV, if_neg (by simp), if_pos hlong])
                        go_wp2_with fail
                        go_ret2
                        exact ⟨by rw [unhide HY]; rfl, unhide HBF⟩
                      · have hl2 : ¬ (262144 : Int) < ((sf.size : Nat) : Int) := by omega
                        have HY : Hz (XV = (sf, 0)) := hide (by rw [unhide HXV, if_neg (by simp), if_neg hlong])
                        go_wp2_with fail
                        go_ret2
                        exact ⟨by rw [unhide HY]; rfl, unhide HBF⟩
end Go.Proofs.YtgchlilpjkndlaaGreatDoor
