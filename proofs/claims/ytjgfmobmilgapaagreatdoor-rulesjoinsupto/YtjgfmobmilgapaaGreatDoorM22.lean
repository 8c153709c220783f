/- Texts of this claim, one behind the other. -/
import Derived.Test.YtjgfmobmilgapaaGreatDoorM21
import Derived.Test.YtjgfmobmilgapaaGreatDoorM19
import Derived.RegionTactic
import Derived.Below
/- Same of two tables: scripts. -/
namespace Go.Proofs.YtjgfmobmilgapaaGreatDoor
open Go.RowKit Go.Shelf
set_option linter.unusedVariables false
set_option maxRecDepth 100000 in
set_option maxHeartbeats 2000000 in
theorem sameScript_row (nm : ByteArray) (sp : List (Int × Int)) (hz : sp.length ≤ 1000000) (p q : Option Addr) (cp cq : Nat) (w : World) (ha : RowC w w.heap.size p (encS2 sp)) (hb : RowC w w.heap.size q (encS2 sp)) :
    Calls Tryz.prog 17 #[.agg #[.string nm, .slice p sp.length cp], .agg #[.string nm, .slice q sp.length cq]] w fun e w' => e = .returned (.bool true) ∧ Below w.heap.size w w' := by
  have hB0 : Below w.heap.size w ((w.alloc (.cells #[.string nm, .slice p sp.length cp] 64)).alloc (.cells #[.string nm, .slice q sp.length cq] 64)) := ((Below.refl _ w).alloc (Nat.le_refl _) _).alloc (by simp) _
  have bA := (Blk.new w #[.string nm, .slice p sp.length cp] 64).alloc (.cells #[.string nm, .slice q sp.length cq] 64)
  have bB := Blk.new (w.alloc (.cells #[.string nm, .slice p sp.length cp] 64)) #[.string nm, .slice q sp.length cq] 64
  rw [World.size_alloc] at bB
  have HS := hide (sameSpan_row p q cp cq sp hz _ _ (ha.below hB0 hB0.size) (hb.below hB0 hB0.size))
  have HB0 := hide hB0
  have a0 := bA.cell 0
  have a1 := bA.cell 1
  have b0 := bB.cell 0
  have b1 := bB.cell 1
  have e1 : (nm.toList == nm.toList) = true := by simp
  clear hB0 bA bB ha hb
  go_enter Tryz.func17, Tryz.ntmps17
  go_wp2_with fail
  generalize (w.alloc (.cells #[.string nm, .slice p sp.length cp] 64)).alloc (.cells #[.string nm, .slice q sp.length cq] 64) = w1 at *
  refine (unhide HS).mono ?_
  rintro e w2 ⟨rfl, hb2⟩
  have HB2 := hide ((unhide HB0).trans (hb2.mono (unhide HB0).size))
  clear hb2 HS
  go_wp2_with fail
  go_ret
  exact ⟨rfl, unhide HB2⟩
set_option maxRecDepth 100000 in
set_option maxHeartbeats 2000000 in
theorem alike_row (a b : Option Addr) (ca cb : Nat) (sc : List (ByteArray × List (Int × Int))) (us vs : List Value) (hu : us.length = sc.length) (hv : vs.length = sc.length) (hn : sc.length ≤ 1000000) (hz : ∀ x ∈ sc, x.2.length ≤ 1000000) (w : World)
    (ha : RowC w w.heap.size a (encSc sc us)) (hb : RowC w w.heap.size b (encSc sc vs))
    (hra : ∀ (j : Nat) (x : ByteArray × List (Int × Int)) (u : Value), sc[j]? = some x → us[j]? = some u → ∃ b d, u = .slice b x.2.length d ∧ RowC w w.heap.size b (encS2 x.2))
    (hrb : ∀ (j : Nat) (x : ByteArray × List (Int × Int)) (u : Value), sc[j]? = some x → vs[j]? = some u → ∃ b d, u = .slice b x.2.length d ∧ RowC w w.heap.size b (encS2 x.2)) :
    Calls Tryz.prog 16 #[.slice a sc.length ca, .slice b sc.length cb, .func (.func 17) #[] #[]] w fun e w' => e = .returned (.bool true) ∧ Below w.heap.size w w' := by
  have HA := hide (And.intro ha hra)
  have HB := hide (And.intro hb hrb)
  have HU := hide (And.intro hu (And.intro hv (And.intro hz (And.intro (encSc_length sc us hu) (encSc_length sc vs hv)))))
  clear ha hb hra hrb hu hv hz
  have hne : (((sc.length : Nat) : Int) != ((sc.length : Nat) : Int)) = false := by simp
  go_enter Tryz.func16, Tryz.ntmps16
  go_wp2
  go_loopw [7] (fun i wr => ∃ k : Nat, k ≤ sc.length ∧ i = .int .i64 k ∧ Hz (Below w.heap.size w wr)) (fun i _ => sc.length - (intOf i).toNat)
  case atStart => exact ⟨0, by omega, rfl, hide (Below.refl _ _)⟩
  case round =>
    obtain ⟨k, hk, rfl, HW⟩ := hrel
    by_cases hkn : k < sc.length
    · obtain ⟨x, hx⟩ : ∃ x, sc[k]? = some x := ⟨_, List.getElem?_eq_getElem hkn⟩
      obtain ⟨u, hu⟩ : ∃ u, us[k]? = some u := ⟨_, List.getElem?_eq_getElem (by rw [(unhide HU).1]; exact hkn)⟩
      obtain ⟨v, hv⟩ : ∃ v, vs[k]? = some v := ⟨_, List.getElem?_eq_getElem (by rw [(unhide HU).2.1]; exact hkn)⟩
      obtain ⟨g, o, rfl, hg, hc⟩ := (unhide HA).1 (by rw [(unhide HU).2.2.2.1]; omega)
      obtain ⟨h, p, rfl, hh, hd⟩ := (unhide HB).1 (by rw [(unhide HU).2.2.2.2]; omega)
      obtain ⟨q1, d1, rfl, r1⟩ := (unhide HA).2 k x u hx hu
      obtain ⟨q2, d2, rfl, r2⟩ := (unhide HB).2 k x v hx hv
      have hwr := unhide HW
      have c0 : wr.cell? ⟨g, o + k * 2, none⟩ = some (.string x.1) := (hwr.cell (p := ⟨g, o + k * 2, none⟩) hg).trans (hc _ _ (encSc_at0 sc us (unhide HU).1 k x hx))
      have c1 : wr.cell? ⟨g, o + k * 2 + 1, none⟩ = some (.slice q1 x.2.length d1) := by
        have h1 := hc (2 * k + 1) _ ((encSc_at sc us (unhide HU).1 k).trans hu)
        rw [show o + (2 * k + 1) = o + k * 2 + 1 by omega] at h1
        exact (hwr.cell (p := ⟨g, o + k * 2 + 1, none⟩) hg).trans h1
      have f0 : wr.cell? ⟨h, p + k * 2, none⟩ = some (.string x.1) := (hwr.cell (p := ⟨h, p + k * 2, none⟩) hh).trans (hd _ _ (encSc_at0 sc vs (unhide HU).2.1 k x hx))
      have f1 : wr.cell? ⟨h, p + k * 2 + 1, none⟩ = some (.slice q2 x.2.length d2) := by
        have h1 := hd (2 * k + 1) _ ((encSc_at sc vs (unhide HU).2.1 k).trans hv)
        rw [show p + (2 * k + 1) = p + k * 2 + 1 by omega] at h1
        exact (hwr.cell (p := ⟨h, p + k * 2 + 1, none⟩) hh).trans h1
      have HS := hide (fun (W' : World) (hb : Below wr.heap.size wr W') => sameScript_row x.1 x.2 ((unhide HU).2.2.1 x (List.mem_of_getElem? hx)) q1 q2 d1 d2 W' ((r1.below hwr hwr.size).below hb hb.size) ((r2.below hwr hwr.size).below hb hb.size))
      have hk1 : (k : Int) < (sc.length : Int) := by omega
      have hk2 : ((k : Nat) : Int).toNat = k := by omega
      obtain ⟨x1, x2⟩ := x
      dsimp only at c0 c1 f0 f1 HS
      clear hc hd hx hu hv r1 r2 hwr
      go_wp2_with fail
      go_region_with ((go_at_call 17; refine (unhide HS wr.drew (show Below wr.heap.size wr wr.drew from ⟨rfl, rfl, rfl, Nat.le_refl _, fun _ _ => rfl⟩)).mono ?_; rintro e w' ⟨rfl, hb⟩))
      all_goals
        have HN := hide ((unhide HW).trans ((show Below wr.heap.size wr w' from ⟨hb.os, hb.tape, hb.output, hb.size, hb.block⟩).mono (unhide HW).size))
        clear hb
        go_wp2_with fail
        go_roundw
        case rel => exact ⟨k + 1, by omega, by go_num, HN⟩
        case measure => simp [intOf]; omega
    · have hk1 : ¬ (k : Int) < (sc.length : Int) := by omega
      go_wp2
      go_ret
      exact ⟨rfl, unhide HW⟩
def tabV (T : TV) (a0 a1 a2 a3 a4 a5 a6 a7 : Option Addr) (c0 c1 c2 c3 c4 c5 c6 c7 : Nat) : Array Value := #[.slice a0 T.sc.length c0, .slice a1 T.co.length c1, .slice a2 T.ma.length c2, .slice a3 T.pr.length c3, .slice a4 T.fo.length c4, .slice a5 T.lk.length c5, .slice a6 T.dr.length c6, .slice a7 T.al.length c7]
theorem TabIn.lower {W W' : World} {T : TV} {a0 a1 a2 a3 a4 a5 a6 a7 : Option Addr} {us : List Value} (h : TabIn W T a0 a1 a2 a3 a4 a5 a6 a7 us) (hb : Below W.heap.size W W') : TabIn W' T a0 a1 a2 a3 a4 a5 a6 a7 us :=
  ⟨h.lu, h.r0.below hb hb.size, h.r1.below hb hb.size, h.r2.below hb hb.size, h.r3.below hb hb.size, h.r4.below hb hb.size, h.r5.below hb hb.size, h.r6.below hb hb.size, h.r7.below hb hb.size, fun j x u hx hu => by
    obtain ⟨b, d, e, hr⟩ := h.rs j x u hx hu
    exact ⟨b, d, e, hr.below hb hb.size⟩⟩
set_option maxRecDepth 100000 in
set_option maxHeartbeats 4000000 in
theorem keepSame_row (T : TV) (hO : TabOk T) (a0 a1 a2 a3 a4 a5 a6 a7 b0 b1 b2 b3 b4 b5 b6 b7 : Option Addr) (c0 c1 c2 c3 c4 c5 c6 c7 d0 d1 d2 d3 d4 d5 d6 d7 : Nat) (us vs : List Value) (W : World) (hA : TabIn W T a0 a1 a2 a3 a4 a5 a6 a7 us) (hB : TabIn W T b0 b1 b2 b3 b4 b5 b6 b7 vs) :
    Calls Tryz.prog 6 #[.agg (tabV T a0 a1 a2 a3 a4 a5 a6 a7 c0 c1 c2 c3 c4 c5 c6 c7), .agg (tabV T b0 b1 b2 b3 b4 b5 b6 b7 d0 d1 d2 d3 d4 d5 d6 d7)] W fun e w' => e = .returned (.bool true) ∧ Below W.heap.size W w' := by
  have hB0 : Below W.heap.size W ((W.alloc (.cells (tabV T a0 a1 a2 a3 a4 a5 a6 a7 c0 c1 c2 c3 c4 c5 c6 c7) 28)).alloc (.cells (tabV T b0 b1 b2 b3 b4 b5 b6 b7 d0 d1 d2 d3 d4 d5 d6 d7) 28)) := ((Below.refl _ W).alloc (Nat.le_refl _) _).alloc (by simp) _
  have bA := (Blk.new W (tabV T a0 a1 a2 a3 a4 a5 a6 a7 c0 c1 c2 c3 c4 c5 c6 c7) 28).alloc (.cells (tabV T b0 b1 b2 b3 b4 b5 b6 b7 d0 d1 d2 d3 d4 d5 d6 d7) 28)
  have bB := Blk.new (W.alloc (.cells (tabV T a0 a1 a2 a3 a4 a5 a6 a7 c0 c1 c2 c3 c4 c5 c6 c7) 28)) (tabV T b0 b1 b2 b3 b4 b5 b6 b7 d0 d1 d2 d3 d4 d5 d6 d7) 28
  rw [World.size_alloc] at bB
  have HH := hide (And.intro (hA.lower hB0) (And.intro (hB.lower hB0) (And.intro hB0 (And.intro bA bB))))
  have HO := hide hO
  clear hA hB hB0 bA bB hO
  unfold tabV at HH ⊢
  have za := (unhide HH).2.2.2.1.cell 0
  have zb := (unhide HH).2.2.2.2.cell 0
  go_enter Tryz.func6, Tryz.ntmps6
  go_wp2_with fail
  generalize (W.alloc (.cells #[.slice a0 T.sc.length c0, .slice a1 T.co.length c1, .slice a2 T.ma.length c2, .slice a3 T.pr.length c3, .slice a4 T.fo.length c4, .slice a5 T.lk.length c5, .slice a6 T.dr.length c6, .slice a7 T.al.length c7] 28)).alloc (.cells #[.slice b0 T.sc.length d0, .slice b1 T.co.length d1, .slice b2 T.ma.length d2, .slice b3 T.pr.length d3, .slice b4 T.fo.length d4, .slice b5 T.lk.length d5, .slice b6 T.dr.length d6, .slice b7 T.al.length d7] 28) = w0 at *
  refine (alike_row a0 b0 c0 d0 T.sc us vs (unhide HH).1.lu (unhide HH).2.1.lu (unhide HO).n0 (fun x hx => ((unhide HO).z0 x hx).2) w0 (unhide HH).1.r0 (unhide HH).2.1.r0 (unhide HH).1.rs (unhide HH).2.1.rs).mono ?_
  rintro e w1 ⟨rfl, hb⟩
  have HH := hide (And.intro ((unhide HH).1.lower hb) (And.intro ((unhide HH).2.1.lower hb) (And.intro ((unhide HH).2.2.1.trans (hb.mono (unhide HH).2.2.1.size)) (And.intro ((unhide HH).2.2.2.1.below hb (unhide HH).2.2.2.1.lt) ((unhide HH).2.2.2.2.below hb (unhide HH).2.2.2.2.lt)))))
  clear hb za zb
  have za := (unhide HH).2.2.2.1.cell 1
  have zb := (unhide HH).2.2.2.2.cell 1
  go_wp2_with fail
  refine (sameSpan_row a1 b1 c1 d1 T.co (unhide HO).n1 _ w1 (unhide HH).1.r1 (unhide HH).2.1.r1).mono ?_
  rintro e w2 ⟨rfl, hb⟩
  have HH := hide (And.intro ((unhide HH).1.lower hb) (And.intro ((unhide HH).2.1.lower hb) (And.intro ((unhide HH).2.2.1.trans (hb.mono (unhide HH).2.2.1.size)) (And.intro ((unhide HH).2.2.2.1.below hb (unhide HH).2.2.2.1.lt) ((unhide HH).2.2.2.2.below hb (unhide HH).2.2.2.2.lt)))))
  clear hb za zb
  have za := (unhide HH).2.2.2.1.cell 2
  have zb := (unhide HH).2.2.2.2.cell 2
  go_wp2_with fail
  refine (sameMark_row a2 b2 c2 d2 T.ma (unhide HO).n2 _ w2 (unhide HH).1.r2 (unhide HH).2.1.r2).mono ?_
  rintro e w3 ⟨rfl, hb⟩
  have HH := hide (And.intro ((unhide HH).1.lower hb) (And.intro ((unhide HH).2.1.lower hb) (And.intro ((unhide HH).2.2.1.trans (hb.mono (unhide HH).2.2.1.size)) (And.intro ((unhide HH).2.2.2.1.below hb (unhide HH).2.2.2.1.lt) ((unhide HH).2.2.2.2.below hb (unhide HH).2.2.2.2.lt)))))
  clear hb za zb
  have za := (unhide HH).2.2.2.1.cell 3
  have zb := (unhide HH).2.2.2.2.cell 3
  go_wp2_with fail
  refine (samePair_row a3 b3 c3 d3 T.pr (unhide HO).n3 _ w3 (unhide HH).1.r3 (unhide HH).2.1.r3).mono ?_
  rintro e w4 ⟨rfl, hb⟩
  have HH := hide (And.intro ((unhide HH).1.lower hb) (And.intro ((unhide HH).2.1.lower hb) (And.intro ((unhide HH).2.2.1.trans (hb.mono (unhide HH).2.2.1.size)) (And.intro ((unhide HH).2.2.2.1.below hb (unhide HH).2.2.2.1.lt) ((unhide HH).2.2.2.2.below hb (unhide HH).2.2.2.2.lt)))))
  clear hb za zb
  have za := (unhide HH).2.2.2.1.cell 4
  have zb := (unhide HH).2.2.2.2.cell 4
  go_wp2_with fail
  refine (sameMap_row a4 b4 c4 d4 T.fo (unhide HO).n4 _ w4 (unhide HH).1.r4 (unhide HH).2.1.r4).mono ?_
  rintro e w5 ⟨rfl, hb⟩
  have HH := hide (And.intro ((unhide HH).1.lower hb) (And.intro ((unhide HH).2.1.lower hb) (And.intro ((unhide HH).2.2.1.trans (hb.mono (unhide HH).2.2.1.size)) (And.intro ((unhide HH).2.2.2.1.below hb (unhide HH).2.2.2.1.lt) ((unhide HH).2.2.2.2.below hb (unhide HH).2.2.2.2.lt)))))
  clear hb za zb
  have za := (unhide HH).2.2.2.1.cell 5
  have zb := (unhide HH).2.2.2.2.cell 5
  go_wp2_with fail
  refine (sameMap_row a5 b5 c5 d5 T.lk (unhide HO).n5 _ w5 (unhide HH).1.r5 (unhide HH).2.1.r5).mono ?_
  rintro e w6 ⟨rfl, hb⟩
  have HH := hide (And.intro ((unhide HH).1.lower hb) (And.intro ((unhide HH).2.1.lower hb) (And.intro ((unhide HH).2.2.1.trans (hb.mono (unhide HH).2.2.1.size)) (And.intro ((unhide HH).2.2.2.1.below hb (unhide HH).2.2.2.1.lt) ((unhide HH).2.2.2.2.below hb (unhide HH).2.2.2.2.lt)))))
  clear hb za zb
  have za := (unhide HH).2.2.2.1.cell 6
  have zb := (unhide HH).2.2.2.2.cell 6
  go_wp2_with fail
  refine (sameSpan_row a6 b6 c6 d6 T.dr (unhide HO).n6 _ w6 (unhide HH).1.r6 (unhide HH).2.1.r6).mono ?_
  rintro e w7 ⟨rfl, hb⟩
  have HH := hide (And.intro ((unhide HH).1.lower hb) (And.intro ((unhide HH).2.1.lower hb) (And.intro ((unhide HH).2.2.1.trans (hb.mono (unhide HH).2.2.1.size)) (And.intro ((unhide HH).2.2.2.1.below hb (unhide HH).2.2.2.1.lt) ((unhide HH).2.2.2.2.below hb (unhide HH).2.2.2.2.lt)))))
  clear hb za zb
  have za := (unhide HH).2.2.2.1.cell 7
  have zb := (unhide HH).2.2.2.2.cell 7
  go_wp2_with fail
  refine (sameSpan_row a7 b7 c7 d7 T.al (unhide HO).n7 _ w7 (unhide HH).1.r7 (unhide HH).2.1.r7).mono ?_
  rintro e w8 ⟨rfl, hb⟩
  have HH := hide (And.intro ((unhide HH).1.lower hb) (And.intro ((unhide HH).2.1.lower hb) (And.intro ((unhide HH).2.2.1.trans (hb.mono (unhide HH).2.2.1.size)) (And.intro ((unhide HH).2.2.2.1.below hb (unhide HH).2.2.2.1.lt) ((unhide HH).2.2.2.2.below hb (unhide HH).2.2.2.2.lt)))))
  clear hb za zb
  go_wp2_with fail
  go_ret
  exact ⟨rfl, (unhide HH).2.2.1⟩
end Go.Proofs.YtjgfmobmilgapaaGreatDoor
namespace Go.Proofs.YtjgfmobmilgapaaGreatDoor
open Go.RowKit
set_option linter.unusedVariables false
def RgClosed (md : Region.Mode) (ops : Array Oper) (l : Array Bool) : Prop :=
  ∀ (j : Nat) (o : Oper), ops[j]? = some o → l.getD j false = true → ∀ e ∈ o.after, Region.binds md e = true → l.getD e.on false = true
def rgTopo (md : Region.Mode) (ops : Array Oper) : Bool :=
  (List.range ops.size).all fun j => ((ops[j]?).map fun o => o.after.all fun e => !Region.binds md e || decide (e.on < j)).getD true
def rgDeps (md : Region.Mode) (ops : Array Oper) (j : Nat) : List Nat :=
  ((ops[j]?).map fun o => (o.after.toList.filter fun e => Region.binds md e).map fun e => e.on).getD []
def rgMark (md : Region.Mode) (ops : Array Oper) : List Nat → List Nat → List Nat
  | [], s => s
  | j :: js, s => rgMark md ops js (if s.contains j then rgDeps md ops j ++ s else s)
def rgAll (md : Region.Mode) (ops : Array Oper) (f : Nat) : Bool :=
  (List.range ops.size).all fun j => (rgMark md ops (List.range ops.size).reverse [f]).contains j
theorem rgDeps_mem {md : Region.Mode} {ops : Array Oper} {j k : Nat} (h : k ∈ rgDeps md ops j) : ∃ o, ops[j]? = some o ∧ ∃ e ∈ o.after, Region.binds md e = true ∧ e.on = k := by
  unfold rgDeps at h
  cases ho : ops[j]? with
  | none => rw [ho] at h; cases h
  | some o =>
    rw [ho] at h
    obtain ⟨e, he, rfl⟩ := List.mem_map.1 h
    obtain ⟨h1, h2⟩ := List.mem_filter.1 he
    exact ⟨o, rfl, e, Array.mem_toList_iff.1 h1, h2, rfl⟩
theorem rgMark_listed {md : Region.Mode} {ops : Array Oper} {l : Array Bool} (hc : RgClosed md ops l) (f : Nat) (hf : ∀ k ∈ rgDeps md ops f, l.getD k false = true) :
    ∀ (js s : List Nat), (∀ j ∈ s, j = f ∨ l.getD j false = true) → ∀ j ∈ rgMark md ops js s, j = f ∨ l.getD j false = true
  | [], s, hs => hs
  | x :: js, s, hs => by
    refine rgMark_listed hc f hf js _ ?_
    by_cases hx : s.contains x = true
    · rw [if_pos hx]
      intro j hj
      rcases List.mem_append.1 hj with h | h
      · rcases hs x (List.contains_iff_mem.1 hx) with rfl | h2
        · exact .inr (hf j h)
        · obtain ⟨o, ho, e, he, hb, rfl⟩ := rgDeps_mem h
          exact .inr (hc x o ho h2 e he hb)
      · exact hs j h
    · rw [if_neg hx]
      exact hs
theorem rgAll_listed {md : Region.Mode} {ops : Array Oper} {l : Array Bool} {f : Nat} (ha : rgAll md ops f = true) (hc : RgClosed md ops l) (hr : f ∈ Region.ready md ops l) (j : Nat) (hj : j ≠ f) (hlt : j < ops.size) : l.getD j false = true := by
  obtain ⟨_, o, ho, hall⟩ := mem_ready.1 hr
  have h1 := List.all_eq_true.1 ha j (List.mem_range.2 hlt)
  rcases rgMark_listed hc f (fun k hk => by
    obtain ⟨o', ho', e, he, hb, rfl⟩ := rgDeps_mem hk
    obtain rfl := Option.some.inj (ho.symm.trans ho')
    exact hall e he hb) _ _ (fun x hx => .inl (List.mem_singleton.1 hx)) j (List.contains_iff_mem.1 h1) with h | h
  · exact absurd h hj
  · exact h
theorem getD_flip {l : Array Bool} {j : Nat} (h : j < l.size) : l.getD j true = l.getD j false := by simp [h]
theorem rg_ready {md : Region.Mode} {ops : Array Oper} {l : Array Bool} (ht : rgTopo md ops = true) (hl : l.size = ops.size) (f : Nat) (hf : l.getD f true = false) : Region.ready md ops l ≠ [] := by
  have key : ∀ n f, f ≤ n → l.getD f true = false → ∃ i, i ∈ Region.ready md ops l := by
    intro n
    induction n with
    | zero =>
      intro f h0 hf
      obtain rfl : f = 0 := by omega
      have hlt : 0 < l.size := by
        rcases Nat.lt_or_ge 0 l.size with h | h
        · exact h
        · simp [Array.getElem?_eq_none h] at hf
      obtain ⟨o, ho⟩ : ∃ o, ops[0]? = some o := ⟨_, Array.getElem?_eq_getElem (by omega)⟩
      refine ⟨0, mem_ready.2 ⟨hf, o, ho, fun e he hb => ?_⟩⟩
      have h1 := List.all_eq_true.1 ht 0 (List.mem_range.2 (by omega))
      rw [ho] at h1
      have h2 := Array.all_eq_true_iff_forall_mem.1 h1 e he
      rw [hb] at h2
      simp at h2
    | succ n ih =>
      intro f hn hf
      have hlt : f < l.size := by
        rcases Nat.lt_or_ge f l.size with h | h
        · exact h
        · simp [Array.getElem?_eq_none h] at hf
      obtain ⟨o, ho⟩ : ∃ o, ops[f]? = some o := ⟨_, Array.getElem?_eq_getElem (by omega)⟩
      by_cases hx : ∃ e ∈ o.after, Region.binds md e = true ∧ l.getD e.on false = false
      · obtain ⟨e, he, hb, hz⟩ := hx
        have h1 := List.all_eq_true.1 ht f (List.mem_range.2 (by omega))
        rw [ho] at h1
        have h2 := Array.all_eq_true_iff_forall_mem.1 h1 e he
        rw [hb] at h2
        have h3 : e.on < f := by simpa using h2
        exact ih e.on (by omega) (by rw [getD_flip (by omega)]; exact hz)
      · refine ⟨f, mem_ready.2 ⟨hf, o, ho, fun e he hb => ?_⟩⟩
        cases hq : l.getD e.on false with
        | true => rfl
        | false => exact absurd ⟨e, he, hb, hq⟩ hx
  obtain ⟨i, hi⟩ := key f f (Nat.le_refl _) hf
  intro h
  rw [h] at hi
  cases hi
theorem count_list (l : List Bool) (i : Nat) (h : l[i]? = some false) : (l.set i true).count false + 1 = l.count false := by
  induction l generalizing i with
  | nil => simp at h
  | cons x l ih =>
    cases i with
    | zero =>
      have : x = false := by simpa using h
      subst this
      simp
    | succ i =>
      have := ih i (by simpa using h)
      rw [List.set_cons_succ, List.count_cons, List.count_cons]
      omega
theorem count_put (l : Array Bool) (i : Nat) (h : l.getD i true = false) : (l.setIfInBounds i true).toList.count false + 1 = l.toList.count false := by
  rw [Array.toList_setIfInBounds]
  refine count_list _ _ ?_
  rw [Array.getElem?_toList]
  rcases Nat.lt_or_ge i l.size with h' | h'
  · rw [Array.getElem?_eq_getElem h']
    simp [h'] at h
    rw [h]
  · simp [Array.getElem?_eq_none h'] at h
theorem rgClosed_put {md : Region.Mode} {ops : Array Oper} {l : Array Bool} {i : Nat} (hc : RgClosed md ops l) (hr : i ∈ Region.ready md ops l) : RgClosed md ops (l.setIfInBounds i true) := by
  intro j o ho hj e he hb
  by_cases hij : i = j
  · subst hij
    obtain ⟨_, o', ho', hall⟩ := mem_ready.1 hr
    obtain rfl := Option.some.inj (ho.symm.trans ho')
    exact getD_set_true (hall e he hb)
  · rw [getD_set_ne false hij] at hj
    exact getD_set_true (hc j o ho hj e he hb)
theorem ready_all {md : Region.Mode} {ops : Array Oper} {l : Array Bool} (h : ∀ j, j < ops.size → l.getD j false = true) : Region.ready md ops l = [] := by
  rw [List.eq_nil_iff_forall_not_mem]
  intro j hj
  obtain ⟨h0, o, ho, _⟩ := mem_ready.1 hj
  have h1 := h j (Array.getElem?_eq_some_iff.1 ho).1
  rcases Nat.lt_or_ge j l.size with h' | h'
  · rw [getD_flip h', h1] at h0
    cases h0
  · simp [Array.getElem?_eq_none h'] at h1
theorem wpAny_inv {P : Program} {md : Region.Mode} {ops : Array Oper} {Q : Exit → Act → World → Prop} (f : Nat) (ht : rgTopo md ops = true) (ha : rgAll md ops f = true) (J : Array Bool → Act → World → Prop)
    (hstep : ∀ l a w i, J l a w → l.size = ops.size → i ∈ Region.ready md ops l → i ≠ f → wpOp P ops Q i (J (l.setIfInBounds i true)) a w)
    (hfin : ∀ l a w, J l a w → (∀ j, j ≠ f → j < ops.size → l.getD j false = true) → wpOp P ops Q f (fun a' w' => Q .normal a' w') a w) :
    ∀ (fuel : Nat) (l : Array Bool) (a : Act) (w : World), l.toList.count false ≤ fuel → l.size = ops.size → l.getD f true = false → RgClosed md ops l → J l a w → wpAny P md ops Q fuel l a w := by
  intro fuel
  induction fuel with
  | zero =>
    intro l a w hn hl hf
    have := count_put l f hf
    omega
  | succ fuel ih =>
    intro l a w hn hl hf hc hJ
    refine ⟨fun h => absurd h (rg_ready ht hl f hf), fun i hi => ?_⟩
    have hi0 := (mem_ready.1 hi).1
    have hn2 := count_put l i hi0
    by_cases hif : i = f
    · subst hif
      have hall := fun j hj hlt => rgAll_listed ha hc hi j hj hlt
      refine wpOp_mono (fun a' w' hq => wpAny_done (ready_all fun j hj => ?_) hq fuel) (hfin l a w hJ hall)
      by_cases hji : j = i
      · subst hji
        simp [show j < l.size by omega]
      · rw [getD_set_ne false (Ne.symm hji)]
        exact hall j hji hj
    · exact wpOp_mono (fun a' w' hq => ih _ a' w' (by omega) (by simpa using hl) (by rw [getD_set_ne true hif]; exact hf) (rgClosed_put hc hi) hq) (hstep l a w i hJ hl hi hif)
theorem wp_region_inv {P : Program} {ops : Array Oper} {Q : Exit → Act → World → Prop} {id : Nat} {a : Act} {w : World} (hm : P.follows .mixedOrders = true) (f : Nat) (hf : f < ops.size) (ht : rgTopo .any ops = true) (ha : rgAll .any ops f = true) (J : Array Bool → Act → World → Prop)
    (h0 : J (Array.replicate ops.size false) a w.drew)
    (hstep : ∀ l a w i, J l a w → l.size = ops.size → i ∈ Region.ready .any ops l → i ≠ f → wpOp P ops Q i (J (l.setIfInBounds i true)) a w)
    (hfin : ∀ l a w, J l a w → (∀ j, j ≠ f → j < ops.size → l.getD j false = true) → wpOp P ops Q f (fun a' w' => Q .normal a' w') a w) :
    (Code.region id ops true).wp P Q a w := by
  refine wp_region_any hm (wpAny_inv f ht ha J hstep hfin _ _ _ _ (by simp) (by simp) (by simp [hf]) ?_ h0)
  intro j o ho hj
  exfalso
  rcases Nat.lt_or_ge j ops.size with h' | h'
  · simp [h'] at hj
  · simp [h'] at hj
theorem rg_dep {md : Region.Mode} {ops : Array Oper} {l : Array Bool} {i : Nat} (hi : i ∈ Region.ready md ops l) (k : Nat) (hk : (rgDeps md ops i).contains k = true) : l.getD k false = true := by
  obtain ⟨_, o, ho, hall⟩ := mem_ready.1 hi
  obtain ⟨o', ho', e, he, hb, rfl⟩ := rgDeps_mem (List.contains_iff_mem.1 hk)
  obtain rfl := Option.some.inj (ho.symm.trans ho')
  exact hall e he hb
theorem rg_lt {ops : Array Oper} {l : Array Bool} {i : Nat} (hl : l.size = ops.size) (h0 : l.getD i true = false) : i < ops.size := by
  rw [← hl]
  rcases Nat.lt_or_ge i l.size with h | h
  · exact h
  · simp [Array.getElem?_eq_none h] at h0
structure RgJ (W0 : World) (lo : Nat) (D : Nat → Value → World → Prop) (m : Nat → Bool) (l : Array Bool) (U : Nat → Value) (w : World) : Prop where
  bel : Below lo W0 w
  sz : lo ≤ w.heap.size
  val : ∀ i, l.getD i false = true → D i (U i) w
  ap : ∀ i j, m i = true → m j = true → i ≠ j → l.getD i false = true → l.getD j false = true → (U i).ownBlock = none ∨ (U i).ownBlock ≠ (U j).ownBlock
def slotPut (U : Nat → Value) (k : Nat) (v : Value) : Nat → Value := fun x => if x = k then v else U x
theorem slotPut_self (U : Nat → Value) (k : Nat) (v : Value) : slotPut U k v k = v := if_pos rfl
theorem slotPut_ne (U : Nat → Value) {k x : Nat} (v : Value) (h : x ≠ k) : slotPut U k v x = U x := if_neg h
theorem slotEq {U : Nat → Value} {k : Nat} {v : Value} (h : U k = v) : U = slotPut U k v := by
  funext x
  by_cases hx : x = k
  · subst hx; rw [slotPut_self, h]
  · rw [slotPut_ne _ _ hx]
theorem RgJ.start {W0 : World} {lo : Nat} {D : Nat → Value → World → Prop} {m : Nat → Bool} (U : Nat → Value) (n : Nat) (h : lo ≤ W0.heap.size) : RgJ W0 lo D m (Array.replicate n false) U W0 := by
  have h0 : ∀ i, (Array.replicate n false).getD i false = false := fun i => by
    rcases Nat.lt_or_ge i n with h' | h' <;> simp [h']
  exact ⟨Below.refl _ _, h, fun i hi => by (rw [h0] at hi; cases hi), fun i j _ _ _ hi => by (rw [h0] at hi; cases hi)⟩
theorem RgJ.put {W0 : World} {lo : Nat} {D : Nat → Value → World → Prop} {m : Nat → Bool} {l : Array Bool} {U : Nat → Value} {w w' : World} (h : RgJ W0 lo D m l U w) (i : Nat) (v : Value)
    (hi : l.getD i true = false) (hb : Below w.heap.size w w') (hst : ∀ j u, D j u w → D j u w') (hD : D i v w')
    (hlt : ∀ j u, m j = true → D j u w → ∀ b, u.ownBlock = some b → b < w.heap.size) (hm : m i = true → ∀ b, v.ownBlock = some b → w.heap.size ≤ b) :
    RgJ W0 lo D m (l.setIfInBounds i true) (slotPut U i v) w' := by
  have hcase : ∀ j, (l.setIfInBounds i true).getD j false = true → j = i ∨ (j ≠ i ∧ l.getD j false = true) := fun j hj => by
    by_cases hji : j = i
    · exact .inl hji
    · rw [getD_set_ne false (Ne.symm hji)] at hj
      exact .inr ⟨hji, hj⟩
  refine ⟨h.bel.trans (hb.mono h.sz), Nat.le_trans h.sz hb.size, fun j hj => ?_, fun j k mj mk hjk hj hk => ?_⟩
  · rcases hcase j hj with rfl | ⟨hji, h1⟩
    · rw [slotPut_self]; exact hD
    · rw [slotPut_ne _ _ hji]; exact hst j _ (h.val j h1)
  · rcases hcase j hj with rfl | ⟨hji, h1⟩
    · rcases hcase k hk with rfl | ⟨hki, h2⟩
      · exact absurd rfl hjk
      · rw [slotPut_self, slotPut_ne _ _ hki]
        cases hb : v.ownBlock with
        | none => exact .inl rfl
        | some b =>
          refine .inr fun e => ?_
          have h3 := hm mj b hb
          have h4 := hlt k _ mk (h.val k h2) b e.symm
          omega
    · rcases hcase k hk with rfl | ⟨hki, h2⟩
      · rw [slotPut_self, slotPut_ne _ _ hji]
        cases hb : (U j).ownBlock with
        | none => exact .inl rfl
        | some b =>
          refine .inr fun e => ?_
          have h3 := hm mk b e.symm
          have h4 := hlt j _ mj (h.val j h1) b hb
          omega
      · rw [slotPut_ne _ _ hji, slotPut_ne _ _ hki]
        exact h.ap j k mj mk hjk h1 h2
end Go.Proofs.YtjgfmobmilgapaaGreatDoor
