/- A Book of tables: how rows don't stand together: one row. -/
import Derived.Test.YtnnbaodillnkkaaGreatM18
import Derived.Test.YtnnbaodillnkkaaGreatM7
import Derived.Test.YtnnbaodillnkkaaGreatM8
namespace Go.Proofs.YtnnbaodillnkkaaGreat
open Go.RowKit Go.Shelf Go.Maps
set_option linter.unusedVariables false
/-- A Book, and the box in which its pointer lies. -/
structure BkP (w : World) (BB B : Nat) (T : TV) : Prop where
  bb : Blk w BB #[.pointer (some ⟨B, 0, none⟩)] 35
  bk : BookAt w B T
theorem BkP.below {w w' : World} {BB B : Nat} {T : TV} (h : BkP w BB B T) (hb : Below w.heap.size w w') : BkP w' BB B T := ⟨h.bb.below hb h.bb.lt, h.bk.below hb⟩
theorem rune32 {r : Int} (h : runeB r = true) : R32 r := by
  have := runeB_iff h
  unfold R32
  omega
set_option maxRecDepth 100000 in
theorem bkAnyDropped_any {T : TV} (hO : RowsOk T) (B : Nat) (zs : List Int) (hn : zs.length ≤ 1000000) (a : Option Addr) (c : Nat) (W : World) (h : BookAt W B T) (hr : RnC W W.heap.size a zs) :
    Calls Tryz.prog 105 #[.pointer (some ⟨B, 0, none⟩), .slice a zs.length c] W fun e w' => e = .returned (.int .i64 (if zs.any (drB T) then 37 else 0)) ∧ Below W.heap.size W w' := by
  have HI := hide (containsF_any zs hn a c 14 #[.pointer (some ⟨B, 0, none⟩)] #[] (enters_of Tryz.func14 (by kernel_rfl) rfl) (drB T) W hr (fun x _ w hb => (bkDropped_any hO B x w (h.below hb)).mono (fun e w' ⟨he, hw⟩ => ⟨he, hb.trans (hw.mono hb.size)⟩)))
  clear hr h hO
  generalize zs.any (drB T) = b at *
  go_enter Tryz.func105, Tryz.ntmps105
  go_wp2_with fail
  refine (unhide HI).mono ?_
  rintro e w' ⟨rfl, hb⟩
  have HB := hide hb
  clear hb HI
  go_wp2_with fail
  refine (when_any b 37 w').mono ?_
  rintro e w2 ⟨rfl, rfl⟩
  cases b
  all_goals
    go_wp2_with fail
    go_ret
    exact ⟨rfl, unhide HB⟩
set_option maxRecDepth 100000 in
theorem anyOf_any {l : List (Int × Int)} (hl : l.length ≤ 1000000) (C : Nat) (zs : List Int) (hn : zs.length ≤ 1000000) (a : Option Addr) (c : Nat) (W : World) (h : SetV W l C) (hr : RnC W W.heap.size a zs) :
    Calls Tryz.prog 118 #[.pointer (some ⟨C, 0, none⟩), .slice a zs.length c] W fun e w' => e = .returned (.int .i64 (if zs.any (memB l) then 5 else 0)) ∧ Below W.heap.size W w' := by
  have HI := hide (containsF_any zs hn a c 33 #[.pointer (some ⟨C, 0, none⟩)] #[] (enters_of Tryz.func33 (by kernel_rfl) rfl) (memB l) W hr (fun x _ w hb => (setIn_any hl (h.below hb) x).mono (fun e w' ⟨he, hw⟩ => ⟨he, hb.trans (hw.mono hb.size)⟩)))
  clear hr h
  generalize zs.any (memB l) = b at *
  go_enter Tryz.func118, Tryz.ntmps118
  go_wp2_with fail
  refine (unhide HI).mono ?_
  rintro e w' ⟨rfl, hb⟩
  have HB := hide hb
  clear hb HI
  go_wp2_with fail
  refine (when_any b 5 w').mono ?_
  rintro e w2 ⟨rfl, rfl⟩
  cases b
  all_goals
    go_wp2_with fail
    go_ret
    exact ⟨rfl, unhide HB⟩
set_option maxRecDepth 100000 in
set_option maxHeartbeats 4000000 in
theorem bkMis1_any {T : TV} (hO : RowsOk T) (BB B : Nat) (x1 x2 x3 : Int) (h1 : R32 x1) (h2 : R32 x2) (h3 : R32 x3) (w : World) (h : BkP w BB B T) :
    Calls Tryz.prog 102 #[.agg #[.int .i32 x1, .int .i32 x2, .int .i32 x3], .pointer (some ⟨BB, 0, none⟩)] w fun e w' => e = .returned (.int .i64 (prE T (x1, x2, x3))) ∧ Below w.heap.size w w' := by
  have hB : Below w.heap.size w (w.alloc (.cells #[.int .i32 x1, .int .i32 x2, .int .i32 x3] 56)) := (Below.refl _ w).alloc (Nat.le_refl _) _
  have hP := h.below hB
  have b0 := hP.bb.cell 0
  have HC1 := hide (bkClass_any hO B x1 h1 _ hP.bk)
  have HC2 := hide (bkClass_any hO B x2 h2 _ hP.bk)
  have HC3 := hide (bkClass_any hO B x3 h3 _ hP.bk)
  have m1 := class_mark hO x1
  have m2 := class_mark hO x2
  have m3 := class_mark hO x3
  have HB := hide hB
  unfold prE
  dsimp only
  clear hB hP h hO h1 h2 h3
  generalize classOf T x1 = k1 at *
  generalize classOf T x2 = k2 at *
  generalize classOf T x3 = k3 at *
  generalize markB T x1 = b1 at *
  generalize markB T x2 = b2 at *
  generalize markB T x3 = b3 at *
  cases b1 with
  | true =>
    have n1 : ¬ k1 = 0 := by simpa using m1
    have q1 : (k1 == 0) = false := m1
    have p1 : (k1 != 0) = true := by simpa using m1
    clear m1
    go_enter Tryz.func102, Tryz.ntmps102
    go_wp2_with fail
    refine (unhide HC1).mono ?_
    rintro e w1 ⟨rfl, hw⟩
    rw [hw]
    clear hw HC1
    go_wp2_with fail
    refine (when_any true 32 _).mono ?_
    rintro e w1 ⟨rfl, hw⟩
    rw [hw]
    clear hw
    go_wp2_with fail
    go_ret
    exact ⟨rfl, unhide HB⟩
  | false =>
    obtain rfl : k1 = 0 := by simpa using m1
    clear m1
    cases b2 with
    | true =>
      have n2 : ¬ k2 = 0 := by simpa using m2
      have q2 : (k2 == 0) = false := m2
      have p2 : (k2 != 0) = true := by simpa using m2
      clear m2
      go_enter Tryz.func102, Tryz.ntmps102
      go_wp2_with fail
      refine (unhide HC1).mono ?_
      rintro e w1 ⟨rfl, hw⟩
      rw [hw]
      clear hw HC1
      go_wp2_with fail
      refine (unhide HC2).mono ?_
      rintro e w1 ⟨rfl, hw⟩
      rw [hw]
      clear hw HC2
      go_wp2_with fail
      refine (when_any true 32 _).mono ?_
      rintro e w1 ⟨rfl, hw⟩
      rw [hw]
      clear hw
      go_wp2_with fail
      go_ret
      exact ⟨rfl, unhide HB⟩
    | false =>
      obtain rfl : k2 = 0 := by simpa using m2
      clear m2
      cases b3 with
      | true =>
        have n3 : ¬ k3 = 0 := by simpa using m3
        have q3 : (k3 == 0) = false := m3
        have p3 : (k3 != 0) = true := by simpa using m3
        clear m3
        go_enter Tryz.func102, Tryz.ntmps102
        go_wp2_with fail
        refine (unhide HC1).mono ?_
        rintro e w1 ⟨rfl, hw⟩
        rw [hw]
        clear hw HC1
        go_wp2_with fail
        refine (unhide HC2).mono ?_
        rintro e w1 ⟨rfl, hw⟩
        rw [hw]
        clear hw HC2
        go_wp2_with fail
        refine (unhide HC3).mono ?_
        rintro e w1 ⟨rfl, hw⟩
        rw [hw]
        clear hw HC3
        go_wp2_with fail
        refine (when_any false 32 _).mono ?_
        rintro e w1 ⟨rfl, hw⟩
        rw [hw]
        clear hw
        go_wp2_with fail
        go_ret
        exact ⟨rfl, unhide HB⟩
      | false =>
        obtain rfl : k3 = 0 := by simpa using m3
        clear m3
        go_enter Tryz.func102, Tryz.ntmps102
        go_wp2_with fail
        refine (unhide HC1).mono ?_
        rintro e w1 ⟨rfl, hw⟩
        rw [hw]
        clear hw HC1
        go_wp2_with fail
        refine (unhide HC2).mono ?_
        rintro e w1 ⟨rfl, hw⟩
        rw [hw]
        clear hw HC2
        go_wp2_with fail
        refine (unhide HC3).mono ?_
        rintro e w1 ⟨rfl, hw⟩
        rw [hw]
        clear hw HC3
        go_wp2_with fail
        refine (when_any true 32 _).mono ?_
        rintro e w1 ⟨rfl, hw⟩
        rw [hw]
        clear hw
        go_wp2_with fail
        go_ret
        exact ⟨rfl, unhide HB⟩
set_option maxRecDepth 100000 in
theorem bkUns1_any {T : TV} (hO : RowsOk T) (BB B : Nat) (x1 : Int) (x2 : ByteArray) (w : World) (h : BkP w BB B T) :
    Calls Tryz.prog 104 #[.agg #[.int .i32 x1, .string x2], .pointer (some ⟨BB, 0, none⟩)] w fun e w' => e = .returned (.int .i64 (if drB T x1 then 37 else 0)) ∧ Below w.heap.size w w' := by
  have hB1 : Below w.heap.size w (w.alloc (.cells #[.int .i32 x1, .string x2] 59)) := (Below.refl _ w).alloc (Nat.le_refl _) _
  have b0 := (h.below hB1).bb.cell 0
  have hB2 : Below w.heap.size w ((w.alloc (.cells #[.int .i32 x1, .string x2] 59)).alloc (.cells #[.int .i32 x1] 21)) := hB1.alloc (by simp) _
  have hP := h.below hB2
  have hv : [x1].any (drB T) = (drB T x1) := by simp
  have HD := hide (bkAnyDropped_any hO B [x1] (by simp) (some ⟨w.heap.size + 1, 0, none⟩) 1 ((w.alloc (.cells #[.int .i32 x1, .string x2] 59)).alloc (.cells #[.int .i32 x1] 21)) hP.bk (one_rn (w.alloc (.cells #[.int .i32 x1, .string x2] 59)) (w.heap.size + 1) x1 21 (by simp)))
  rw [hv] at HD
  have HB := hide hB2
  clear hB1 hB2 hP h hO hv
  generalize (drB T x1) = bb at *
  go_enter Tryz.func104, Tryz.ntmps104
  go_wp2_with fail
  refine (unhide HD).mono ?_
  rintro e w2 ⟨rfl, hb⟩
  have HB2 := hide ((unhide HB).trans (hb.mono (unhide HB).size))
  clear hb HB HD
  cases bb
  all_goals
    go_wp2_with fail
    go_ret
    exact ⟨rfl, unhide HB2⟩
set_option maxRecDepth 100000 in
theorem bkUns2_any {T : TV} (hO : RowsOk T) (BB B : Nat) (x1 x2 : Int) (w : World) (h : BkP w BB B T) :
    Calls Tryz.prog 106 #[.agg #[.int .i32 x1, .int .i64 x2], .pointer (some ⟨BB, 0, none⟩)] w fun e w' => e = .returned (.int .i64 (if drB T x1 then 37 else 0)) ∧ Below w.heap.size w w' := by
  have hB1 : Below w.heap.size w (w.alloc (.cells #[.int .i32 x1, .int .i64 x2] 53)) := (Below.refl _ w).alloc (Nat.le_refl _) _
  have b0 := (h.below hB1).bb.cell 0
  have hB2 : Below w.heap.size w ((w.alloc (.cells #[.int .i32 x1, .int .i64 x2] 53)).alloc (.cells #[.int .i32 x1] 21)) := hB1.alloc (by simp) _
  have hP := h.below hB2
  have hv : [x1].any (drB T) = (drB T x1) := by simp
  have HD := hide (bkAnyDropped_any hO B [x1] (by simp) (some ⟨w.heap.size + 1, 0, none⟩) 1 ((w.alloc (.cells #[.int .i32 x1, .int .i64 x2] 53)).alloc (.cells #[.int .i32 x1] 21)) hP.bk (one_rn (w.alloc (.cells #[.int .i32 x1, .int .i64 x2] 53)) (w.heap.size + 1) x1 21 (by simp)))
  rw [hv] at HD
  have HB := hide hB2
  clear hB1 hB2 hP h hO hv
  generalize (drB T x1) = bb at *
  go_enter Tryz.func106, Tryz.ntmps106
  go_wp2_with fail
  refine (unhide HD).mono ?_
  rintro e w2 ⟨rfl, hb⟩
  have HB2 := hide ((unhide HB).trans (hb.mono (unhide HB).size))
  clear hb HB HD
  cases bb
  all_goals
    go_wp2_with fail
    go_ret
    exact ⟨rfl, unhide HB2⟩
set_option maxRecDepth 100000 in
theorem bkUns3_any {T : TV} (hO : RowsOk T) (BB B : Nat) (x1 x2 x3 : Int) (w : World) (h : BkP w BB B T) :
    Calls Tryz.prog 107 #[.agg #[.int .i32 x1, .int .i32 x2, .int .i32 x3], .pointer (some ⟨BB, 0, none⟩)] w fun e w' => e = .returned (.int .i64 (if drB T x1 || (drB T x2 || drB T x3) then 37 else 0)) ∧ Below w.heap.size w w' := by
  have hB1 : Below w.heap.size w (w.alloc (.cells #[.int .i32 x1, .int .i32 x2, .int .i32 x3] 56)) := (Below.refl _ w).alloc (Nat.le_refl _) _
  have b0 := (h.below hB1).bb.cell 0
  have hB2 : Below w.heap.size w ((w.alloc (.cells #[.int .i32 x1, .int .i32 x2, .int .i32 x3] 56)).alloc (.cells #[.int .i32 x1, .int .i32 x2, .int .i32 x3] 21)) := hB1.alloc (by simp) _
  have hP := h.below hB2
  have hv : [x1, x2, x3].any (drB T) = (drB T x1 || (drB T x2 || drB T x3)) := by simp
  have HD := hide (bkAnyDropped_any hO B [x1, x2, x3] (by simp) (some ⟨w.heap.size + 1, 0, none⟩) 3 ((w.alloc (.cells #[.int .i32 x1, .int .i32 x2, .int .i32 x3] 56)).alloc (.cells #[.int .i32 x1, .int .i32 x2, .int .i32 x3] 21)) hP.bk (three_rn (w.alloc (.cells #[.int .i32 x1, .int .i32 x2, .int .i32 x3] 56)) (w.heap.size + 1) x1 x2 x3 21 (by simp)))
  rw [hv] at HD
  have HB := hide hB2
  clear hB1 hB2 hP h hO hv
  generalize (drB T x1 || (drB T x2 || drB T x3)) = bb at *
  go_enter Tryz.func107, Tryz.ntmps107
  go_wp2_with fail
  refine (unhide HD).mono ?_
  rintro e w2 ⟨rfl, hb⟩
  have HB2 := hide ((unhide HB).trans (hb.mono (unhide HB).size))
  clear hb HB HD
  cases bb
  all_goals
    go_wp2_with fail
    go_ret
    exact ⟨rfl, unhide HB2⟩
set_option maxRecDepth 100000 in
theorem bkPlf1_any {T : TV} (hO : RowsOk T) (BB B : Nat) (x1 : Int) (x2 : ByteArray) (h1 : R32 x1) (w : World) (h : BkP w BB B T) :
    Calls Tryz.prog 108 #[.agg #[.int .i32 x1, .string x2], .pointer (some ⟨BB, 0, none⟩)] w fun e w' => e = .returned (.int .i64 (if markB T x1 || wholB T x1 then 31 else 0)) ∧ Below w.heap.size w w' := by
  have hB1 : Below w.heap.size w (w.alloc (.cells #[.int .i32 x1, .string x2] 59)) := (Below.refl _ w).alloc (Nat.le_refl _) _
  have b0 := (h.below hB1).bb.cell 0
  have HD := hide (bkMarkOrWhole_any hO B x1 h1 (w.alloc (.cells #[.int .i32 x1, .string x2] 59)) (h.below hB1).bk)
  have HB := hide hB1
  clear hB1 h hO h1
  generalize (markB T x1 || wholB T x1) = bb at *
  go_enter Tryz.func108, Tryz.ntmps108
  go_wp2_with fail
  refine (unhide HD).mono ?_
  rintro e w2 ⟨rfl, hb⟩
  have HB2 := hide ((unhide HB).trans (hb.mono (unhide HB).size))
  clear hb HB HD b0
  go_wp2_with fail
  refine (when_any bb 31 w2).mono ?_
  rintro e w3 ⟨rfl, rfl⟩
  cases bb
  all_goals
    go_wp2_with fail
    go_ret
    exact ⟨rfl, unhide HB2⟩
set_option maxRecDepth 100000 in
theorem bkTos1_any {T : TV} (hO : RowsOk T) (BB B : Nat) (r : Int) (h1 : R32 r) (w : World) (h : BkP w BB B T) :
    Calls Tryz.prog 109 #[.int .i32 r, .pointer (some ⟨BB, 0, none⟩)] w fun e w' => e = .returned (.bool (!plainB T r)) ∧ Below w.heap.size w w' := by
  have b0 := h.bb.cell 0
  have HD := hide (bkPlain_any hO B r h1 w h.bk)
  clear h hO h1
  generalize plainB T r = bb at *
  go_enter Tryz.func109, Tryz.ntmps109
  go_wp2_with fail
  refine (unhide HD).mono ?_
  rintro e w2 ⟨rfl, hb⟩
  have HB2 := hide hb
  clear hb HD b0
  go_wp2_with fail
  go_ret
  exact ⟨rfl, unhide HB2⟩
/-- A Book, its pointer's box, and the box of what asks for plain runes. -/
structure BkU (w : World) (BB BU B : Nat) (T : TV) : Prop where
  bp : BkP w BB B T
  bu : Blk w BU #[.func (.func 109) #[] #[.pointer (some ⟨BB, 0, none⟩)]] 47
theorem BkU.below {w w' : World} {BB BU B : Nat} {T : TV} (h : BkU w BB BU B T) (hb : Below w.heap.size w w') : BkU w' BB BU B T := ⟨h.bp.below hb, h.bu.below hb h.bu.lt⟩
set_option maxRecDepth 100000 in
theorem bkTos2_any {T : TV} (hO : RowsOk T) (BB BU B : Nat) (r : Int) (h1 : R32 r) (w : World) (h : BkU w BB BU B T) :
    Calls Tryz.prog 110 #[.int .i32 r, .pointer (some ⟨BB, 0, none⟩), .pointer (some ⟨BU, 0, none⟩)] w fun e w' => e = .returned (.bool (!plainB T r || fromB T.lk r)) ∧ Below w.heap.size w w' := by
  have b0 := h.bp.bb.cell 0
  have b1 := h.bu.cell 0
  obtain ⟨M, n, c0, hs⟩ := h.bp.bk.lks
  obtain ⟨a, c, hl, _⟩ := toLook (T := T) hO.t5 hs h1
  rw [to_some] at hl
  generalize (((toP T.lk r).map (fun x => runesL x.2)).getD []).length = ln at *
  have HD := hide (bkTos1_any hO BB B r h1 w h.bp)
  have eg : ∀ args w, (callFunc 109 args).run Tryz.prog w = .ok (.enter 109 args) w := enters_of Tryz.func109 (by kernel_rfl) rfl
  clear h hO h1 hs
  generalize plainB T r = bb at *
  generalize fromB T.lk r = bf at *
  cases bf with
  | true =>
    go_enter Tryz.func110, Tryz.ntmps110
    go_wp2_with fail
    go_ret
    exact ⟨by rw [Bool.or_true]; rfl, Below.refl _ _⟩
  | false =>
    go_enter Tryz.func110, Tryz.ntmps110
    go_wp2_with (go_at_fn 109; refine (unhide HD).mono ?_; rintro e w2 ⟨rfl, hb⟩)
    go_ret
    exact ⟨by rw [Bool.or_false]; rfl, hb⟩
theorem rnC_of {w : World} {g : Nat} {l : List Int} (h : RnG w g l) : RnC w w.heap.size (some ⟨g, 0, none⟩) l := fun _ => ⟨g, 0, rfl, h.1, fun j x hx => by rw [Nat.zero_add]; exact h.2 j x hx⟩
/-- .. and the box of what asks for steady ones. -/
structure BkV (w : World) (BB BU BV B : Nat) (T : TV) : Prop where
  bu : BkU w BB BU B T
  bv : Blk w BV #[.func (.func 110) #[] #[.pointer (some ⟨BB, 0, none⟩), .pointer (some ⟨BU, 0, none⟩)]] 47
theorem BkV.below {w w' : World} {BB BU BV B : Nat} {T : TV} (h : BkV w BB BU BV B T) (hb : Below w.heap.size w w') : BkV w' BB BU BV B T := ⟨h.bu.below hb, h.bv.below hb h.bv.lt⟩
def to3D (P : Nat) (x2 : ByteArray) (fv : Value) (bb : Bool) (z : Int) : Nat → Value → World → Prop
  | 0, v, w => v = .pointer (some ⟨P, 1, none⟩)
  | 1, v, w => v = .string x2
  | 2, v, w => ∃ g c, v = .slice (some ⟨g, 0, none⟩) (runesL x2).length c ∧ RnG w g (runesL x2)
  | 3, v, w => v = fv
  | 4, v, w => v = .bool bb
  | 5, v, w => v = .int .i64 z
  | _, v, w => True
def to3DM (j : Nat) : Bool := false
theorem to3D_st {P : Nat} {x2 : ByteArray} {fv : Value} {bb : Bool} {z : Int} {w w' : World} (hb : Below w.heap.size w w') : ∀ (j : Nat) (v : Value), to3D P x2 fv bb z j v w → to3D P x2 fv bb z j v w'
  | 0, v, h => h
  | 1, v, h => h
  | 2, v, h => let ⟨g, c, e, h2⟩ := h; ⟨g, c, e, h2.below hb⟩
  | 3, v, h => h
  | 4, v, h => h
  | 5, v, h => h
  | _ + 6, v, h => h
theorem to3D_lt {P : Nat} {x2 : ByteArray} {fv : Value} {bb : Bool} {z : Int} {w : World} (j : Nat) (v : Value) (hm : to3DM j = true) (h : to3D P x2 fv bb z j v w) : ∀ b, v.ownBlock = some b → b < w.heap.size := by
  cases hm
set_option maxRecDepth 100000 in
set_option maxHeartbeats 4000000 in
theorem bkTos3_any {T : TV} (hO : RowsOk T) (BB BU B : Nat) (x1 : Int) (x2 : ByteArray) (hz : x2.size ≤ 1048576) (hn : (runesL x2).length ≤ 1000000) (h32 : ∀ r ∈ runesL x2, R32 r) (w0 : World) (h : BkU w0 BB BU B T) :
    Calls Tryz.prog 111 #[.agg #[.int .i32 x1, .string x2], .pointer (some ⟨BU, 0, none⟩)] w0 fun e w' => e = .returned (.int .i64 (if (runesL x2).any (fun r => !plainB T r) then 35 else 0)) ∧ Below w0.heap.size w0 w' := by
  have hmx : Tryz.prog.follows .mixedOrders = true := by kernel_rfl
  have eg : ∀ args w, (callFunc 109 args).run Tryz.prog w = .ok (.enter 109 args) w := enters_of Tryz.func109 (by kernel_rfl) rfl
  have hB0 : Below w0.heap.size w0 (w0.alloc (.cells #[.int .i32 x1, .string x2] 59)).drew := ((Below.refl _ w0).alloc (Nat.le_refl _) _).trans ⟨rfl, rfl, rfl, Nat.le_refl _, fun _ _ => rfl⟩
  have bX : Blk (w0.alloc (.cells #[.int .i32 x1, .string x2] 59)).drew w0.heap.size #[.int .i32 x1, .string x2] 59 := Blk.new w0 _ _
  have hU := h.below hB0
  have HF : Hz (∀ w1, Below (w0.alloc (.cells #[.int .i32 x1, .string x2] 59)).drew.heap.size (w0.alloc (.cells #[.int .i32 x1, .string x2] 59)).drew w1 → Blk w1 w0.heap.size #[.int .i32 x1, .string x2] 59 ∧ BkU w1 BB BU B T) := hide (fun w1 h1 => ⟨bX.below h1 bX.lt, hU.below h1⟩)
  have HB := hide hB0
  have HO := hide hO
  have HZ := hide hz
  have HN := hide hn
  have H32 := hide h32
  obtain ⟨bb, hbb⟩ : ∃ bb, (runesL x2).any (fun r => !plainB T r) = bb := ⟨_, rfl⟩
  rw [hbb]
  obtain ⟨z, hzz⟩ : ∃ z : Int, (if bb = true then 35 else 0) = z := ⟨_, rfl⟩
  rw [hzz]
  have HV := hide hbb
  have HZZ := hide hzz
  clear hB0 bX hU h hO hz hn h32 hbb hzz
  go_enter Tryz.func111, Tryz.ntmps111
  go_wp2_with fail
  generalize (w0.alloc (.cells #[.int .i32 x1, .string x2] 59)) = wz at *
  refine wp_region_inv hmx 6 (by decide) (by kernel_rfl) (by kernel_rfl) (fun l a w => ∃ U : Nat → Value, a = { tmps := #[.agg #[.int .i32 x1, .string x2], .pointer (some ⟨BU, 0, none⟩), .pointer (some ⟨w0.heap.size, 0, none⟩), .int .i64 0, U 0, U 1, U 2, U 3, U 4, U 5], defers := [] } ∧ RgJ (wz.drew) (wz.drew.heap.size) (to3D w0.heap.size x2 (.func (.func 109) #[] #[.pointer (some ⟨BB, 0, none⟩)]) bb z) to3DM l U w) ⟨fun _ => undef, rfl, RgJ.start _ _ (Nat.le_refl _)⟩ ?_ ?_
  · rintro l a w i ⟨U, rfl, hJ⟩ hl hi hif
    have h0 := (mem_ready.1 hi).1
    have hlt := rg_lt hl h0
    have HJ := hide hJ
    clear hJ hl
    replace hlt : i < 7 := hlt
    obtain rfl | rfl | rfl | rfl | rfl | rfl : i = 0 ∨ i = 1 ∨ i = 2 ∨ i = 3 ∨ i = 4 ∨ i = 5 := by omega
    · refine wpOp_step rfl (fun K hK => ?_)
      clear hlt hif
      go_simp
      exact hK _ _ ⟨slotPut U 0 _, rfl, (unhide HJ).put 0 _ h0 (Below.refl _ _) (to3D_st (Below.refl _ _)) rfl to3D_lt (fun h => absurd h (by decide))⟩
    · refine wpOp_step rfl (fun K hK => ?_)
      clear hlt hif
      have d0 : U 0 = .pointer (some ⟨w0.heap.size, 1, none⟩) := (unhide HJ).val 0 (rg_dep hi 0 (by kernel_rfl))
      have q1 := (unhide HF w (unhide HJ).bel).1.cell 1
      go_simp
      exact hK _ _ ⟨slotPut U 1 _, (by rw [slotEq d0]; rfl), (unhide HJ).put 1 _ h0 (Below.refl _ _) (to3D_st (Below.refl _ _)) rfl to3D_lt (fun h => absurd h (by decide))⟩
    · refine wpOp_step rfl (fun K hK => ?_)
      clear hlt hif
      have d1 : U 1 = .string x2 := (unhide HJ).val 1 (rg_dep hi 1 (by kernel_rfl))
      go_simp
      refine (runesG x2 (unhide HZ) _).mono ?_
      rintro e w' ⟨g2, c2, rfl, hg2, hrn, hb⟩
      exact hK _ _ ⟨slotPut U 2 _, (by rw [slotEq d1]; rfl), (unhide HJ).put 2 _ h0 hb (to3D_st hb) ⟨g2, c2, rfl, hrn⟩ to3D_lt (fun h => absurd h (by decide))⟩
    · refine wpOp_step rfl (fun K hK => ?_)
      clear hlt hif
      have q2 := (unhide HF w (unhide HJ).bel).2.bu.cell 0
      go_simp
      exact hK _ _ ⟨slotPut U 3 _, rfl, (unhide HJ).put 3 _ h0 (Below.refl _ _) (to3D_st (Below.refl _ _)) rfl to3D_lt (fun h => absurd h (by decide))⟩
    · refine wpOp_step rfl (fun K hK => ?_)
      clear hlt hif
      obtain ⟨g2, c2, d2, h2⟩ := (unhide HJ).val 2 (rg_dep hi 2 (by kernel_rfl))
      have d3 : U 3 = .func (.func 109) #[] #[.pointer (some ⟨BB, 0, none⟩)] := (unhide HJ).val 3 (rg_dep hi 3 (by kernel_rfl))
      go_simp
      refine (containsF_any (runesL x2) (unhide HN) _ _ 109 #[] #[.pointer (some ⟨BB, 0, none⟩)] eg (fun r => !plainB T r) w (rnC_of h2) (fun x hx w1 hb1 => (bkTos1_any (unhide HO) BB B x (unhide H32 x hx) w1 ((unhide HF w (unhide HJ).bel).2.bp.below hb1)).mono (fun e w2 ⟨he, hw⟩ => ⟨he, hb1.trans (hw.mono hb1.size)⟩))).mono ?_
      rintro e w' ⟨he, hb⟩
      rw [unhide HV] at he
      subst he
      exact hK _ _ ⟨slotPut U 4 _, (by rw [slotEq d2, slotEq d3]; rfl), (unhide HJ).put 4 _ h0 hb (to3D_st hb) rfl to3D_lt (fun h => absurd h (by decide))⟩
    · refine wpOp_step rfl (fun K hK => ?_)
      clear hlt hif
      have d4 : U 4 = .bool bb := (unhide HJ).val 4 (rg_dep hi 4 (by kernel_rfl))
      go_simp
      refine (when_any bb 35 w).mono ?_
      rw [unhide HZZ]
      rintro e w' ⟨rfl, rfl⟩
      exact hK _ _ ⟨slotPut U 5 _, (by rw [slotEq d4]; rfl), (unhide HJ).put 5 _ h0 (Below.refl _ _) (to3D_st (Below.refl _ _)) rfl to3D_lt (fun h => absurd h (by decide))⟩
  · rintro l a w ⟨U, rfl, hJ⟩ hall
    have d5 : U 5 = .int .i64 z := hJ.val 5 (hall 5 (by decide) (by decide))
    have HBJ := hide ((unhide HB).trans (hJ.bel.mono (unhide HB).size))
    clear hJ hall
    refine wpOp_step rfl (fun K hK => ?_)
    go_simp
    refine hK _ _ ?_
    clear hK
    go_wp2_with fail
    go_ret
    exact ⟨rfl, unhide HBJ⟩
def to4D (P : Nat) (x2 : ByteArray) (fv : Value) (bb : Bool) (z : Int) : Nat → Value → World → Prop
  | 0, v, w => v = .pointer (some ⟨P, 1, none⟩)
  | 1, v, w => v = .string x2
  | 2, v, w => ∃ g c, v = .slice (some ⟨g, 0, none⟩) (runesL x2).length c ∧ RnG w g (runesL x2)
  | 3, v, w => v = fv
  | 4, v, w => v = .bool bb
  | 5, v, w => v = .int .i64 z
  | _, v, w => True
def to4DM (j : Nat) : Bool := false
theorem to4D_st {P : Nat} {x2 : ByteArray} {fv : Value} {bb : Bool} {z : Int} {w w' : World} (hb : Below w.heap.size w w') : ∀ (j : Nat) (v : Value), to4D P x2 fv bb z j v w → to4D P x2 fv bb z j v w'
  | 0, v, h => h
  | 1, v, h => h
  | 2, v, h => let ⟨g, c, e, h2⟩ := h; ⟨g, c, e, h2.below hb⟩
  | 3, v, h => h
  | 4, v, h => h
  | 5, v, h => h
  | _ + 6, v, h => h
theorem to4D_lt {P : Nat} {x2 : ByteArray} {fv : Value} {bb : Bool} {z : Int} {w : World} (j : Nat) (v : Value) (hm : to4DM j = true) (h : to4D P x2 fv bb z j v w) : ∀ b, v.ownBlock = some b → b < w.heap.size := by
  cases hm
set_option maxRecDepth 100000 in
set_option maxHeartbeats 4000000 in
theorem bkTos4_any {T : TV} (hO : RowsOk T) (BB BU BV B : Nat) (x1 : Int) (x2 : ByteArray) (hz : x2.size ≤ 1048576) (hn : (runesL x2).length ≤ 1000000) (h32 : ∀ r ∈ runesL x2, R32 r) (w0 : World) (h : BkV w0 BB BU BV B T) :
    Calls Tryz.prog 113 #[.agg #[.int .i32 x1, .string x2], .pointer (some ⟨BV, 0, none⟩)] w0 fun e w' => e = .returned (.int .i64 (if (runesL x2).any (fun r => !plainB T r || fromB T.lk r) then 36 else 0)) ∧ Below w0.heap.size w0 w' := by
  have hmx : Tryz.prog.follows .mixedOrders = true := by kernel_rfl
  have eg : ∀ args w, (callFunc 110 args).run Tryz.prog w = .ok (.enter 110 args) w := enters_of Tryz.func110 (by kernel_rfl) rfl
  have hB0 : Below w0.heap.size w0 (w0.alloc (.cells #[.int .i32 x1, .string x2] 59)).drew := ((Below.refl _ w0).alloc (Nat.le_refl _) _).trans ⟨rfl, rfl, rfl, Nat.le_refl _, fun _ _ => rfl⟩
  have bX : Blk (w0.alloc (.cells #[.int .i32 x1, .string x2] 59)).drew w0.heap.size #[.int .i32 x1, .string x2] 59 := Blk.new w0 _ _
  have hU := h.below hB0
  have HF : Hz (∀ w1, Below (w0.alloc (.cells #[.int .i32 x1, .string x2] 59)).drew.heap.size (w0.alloc (.cells #[.int .i32 x1, .string x2] 59)).drew w1 → Blk w1 w0.heap.size #[.int .i32 x1, .string x2] 59 ∧ BkV w1 BB BU BV B T) := hide (fun w1 h1 => ⟨bX.below h1 bX.lt, hU.below h1⟩)
  have HB := hide hB0
  have HO := hide hO
  have HZ := hide hz
  have HN := hide hn
  have H32 := hide h32
  obtain ⟨bb, hbb⟩ : ∃ bb, (runesL x2).any (fun r => !plainB T r || fromB T.lk r) = bb := ⟨_, rfl⟩
  rw [hbb]
  obtain ⟨z, hzz⟩ : ∃ z : Int, (if bb = true then 36 else 0) = z := ⟨_, rfl⟩
  rw [hzz]
  have HV := hide hbb
  have HZZ := hide hzz
  clear hB0 bX hU h hO hz hn h32 hbb hzz
  go_enter Tryz.func113, Tryz.ntmps113
  go_wp2_with fail
  generalize (w0.alloc (.cells #[.int .i32 x1, .string x2] 59)) = wz at *
  refine wp_region_inv hmx 6 (by decide) (by kernel_rfl) (by kernel_rfl) (fun l a w => ∃ U : Nat → Value, a = { tmps := #[.agg #[.int .i32 x1, .string x2], .pointer (some ⟨BV, 0, none⟩), .pointer (some ⟨w0.heap.size, 0, none⟩), .int .i64 0, U 0, U 1, U 2, U 3, U 4, U 5], defers := [] } ∧ RgJ (wz.drew) (wz.drew.heap.size) (to4D w0.heap.size x2 (.func (.func 110) #[] #[.pointer (some ⟨BB, 0, none⟩), .pointer (some ⟨BU, 0, none⟩)]) bb z) to4DM l U w) ⟨fun _ => undef, rfl, RgJ.start _ _ (Nat.le_refl _)⟩ ?_ ?_
  · rintro l a w i ⟨U, rfl, hJ⟩ hl hi hif
    have h0 := (mem_ready.1 hi).1
    have hlt := rg_lt hl h0
    have HJ := hide hJ
    clear hJ hl
    replace hlt : i < 7 := hlt
    obtain rfl | rfl | rfl | rfl | rfl | rfl : i = 0 ∨ i = 1 ∨ i = 2 ∨ i = 3 ∨ i = 4 ∨ i = 5 := by omega
    · refine wpOp_step rfl (fun K hK => ?_)
      clear hlt hif
      go_simp
      exact hK _ _ ⟨slotPut U 0 _, rfl, (unhide HJ).put 0 _ h0 (Below.refl _ _) (to4D_st (Below.refl _ _)) rfl to4D_lt (fun h => absurd h (by decide))⟩
    · refine wpOp_step rfl (fun K hK => ?_)
      clear hlt hif
      have d0 : U 0 = .pointer (some ⟨w0.heap.size, 1, none⟩) := (unhide HJ).val 0 (rg_dep hi 0 (by kernel_rfl))
      have q1 := (unhide HF w (unhide HJ).bel).1.cell 1
      go_simp
      exact hK _ _ ⟨slotPut U 1 _, (by rw [slotEq d0]; rfl), (unhide HJ).put 1 _ h0 (Below.refl _ _) (to4D_st (Below.refl _ _)) rfl to4D_lt (fun h => absurd h (by decide))⟩
    · refine wpOp_step rfl (fun K hK => ?_)
      clear hlt hif
      have d1 : U 1 = .string x2 := (unhide HJ).val 1 (rg_dep hi 1 (by kernel_rfl))
      go_simp
      refine (runesG x2 (unhide HZ) _).mono ?_
      rintro e w' ⟨g2, c2, rfl, hg2, hrn, hb⟩
      exact hK _ _ ⟨slotPut U 2 _, (by rw [slotEq d1]; rfl), (unhide HJ).put 2 _ h0 hb (to4D_st hb) ⟨g2, c2, rfl, hrn⟩ to4D_lt (fun h => absurd h (by decide))⟩
    · refine wpOp_step rfl (fun K hK => ?_)
      clear hlt hif
      have q2 := (unhide HF w (unhide HJ).bel).2.bv.cell 0
      go_simp
      exact hK _ _ ⟨slotPut U 3 _, rfl, (unhide HJ).put 3 _ h0 (Below.refl _ _) (to4D_st (Below.refl _ _)) rfl to4D_lt (fun h => absurd h (by decide))⟩
    · refine wpOp_step rfl (fun K hK => ?_)
      clear hlt hif
      obtain ⟨g2, c2, d2, h2⟩ := (unhide HJ).val 2 (rg_dep hi 2 (by kernel_rfl))
      have d3 : U 3 = .func (.func 110) #[] #[.pointer (some ⟨BB, 0, none⟩), .pointer (some ⟨BU, 0, none⟩)] := (unhide HJ).val 3 (rg_dep hi 3 (by kernel_rfl))
      go_simp
      refine (containsF_any (runesL x2) (unhide HN) _ _ 110 #[] #[.pointer (some ⟨BB, 0, none⟩), .pointer (some ⟨BU, 0, none⟩)] eg (fun r => !plainB T r || fromB T.lk r) w (rnC_of h2) (fun x hx w1 hb1 => (bkTos2_any (unhide HO) BB BU B x (unhide H32 x hx) w1 ((unhide HF w (unhide HJ).bel).2.bu.below hb1)).mono (fun e w2 ⟨he, hw⟩ => ⟨he, hb1.trans (hw.mono hb1.size)⟩))).mono ?_
      rintro e w' ⟨he, hb⟩
      rw [unhide HV] at he
      subst he
      exact hK _ _ ⟨slotPut U 4 _, (by rw [slotEq d2, slotEq d3]; rfl), (unhide HJ).put 4 _ h0 hb (to4D_st hb) rfl to4D_lt (fun h => absurd h (by decide))⟩
    · refine wpOp_step rfl (fun K hK => ?_)
      clear hlt hif
      have d4 : U 4 = .bool bb := (unhide HJ).val 4 (rg_dep hi 4 (by kernel_rfl))
      go_simp
      refine (when_any bb 36 w).mono ?_
      rw [unhide HZZ]
      rintro e w' ⟨rfl, rfl⟩
      exact hK _ _ ⟨slotPut U 5 _, (by rw [slotEq d4]; rfl), (unhide HJ).put 5 _ h0 (Below.refl _ _) (to4D_st (Below.refl _ _)) rfl to4D_lt (fun h => absurd h (by decide))⟩
  · rintro l a w ⟨U, rfl, hJ⟩ hall
    have d5 : U 5 = .int .i64 z := hJ.val 5 (hall 5 (by decide) (by decide))
    have HBJ := hide ((unhide HB).trans (hJ.bel.mono (unhide HB).size))
    clear hJ hall
    refine wpOp_step rfl (fun K hK => ?_)
    go_simp
    refine hK _ _ ?_
    clear hK
    go_wp2_with fail
    go_ret
    exact ⟨rfl, unhide HBJ⟩
end Go.Proofs.YtnnbaodillnkkaaGreat
