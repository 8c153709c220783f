/- A Book of tables: how rows don't stand together, list by list. -/
import Derived.Test.YtnnbaodillnkkaaGreatTlI
import Derived.Test.YtnnbaodillnkkaaGreatM11
namespace Go.Proofs.YtnnbaodillnkkaaGreat
open Go.RowKit Go.Shelf Go.Maps
set_option linter.unusedVariables false
theorem frJ_Mark (zs : List (Int × Int)) (hn : zs.length ≤ 1000000) (list : Int) (F : (Int × Int) → Int) (G : Nat) (lb : Array Value) (eg : ∀ args w, (callFunc G args).run Tryz.prog w = .ok (.enter G args) w) (J : World → Prop) (hst : ∀ w w', J w → Below w.heap.size w w' → J w')
    (hcall : ∀ x ∈ zs, ∀ w, J w → Calls Tryz.prog G (#[.agg #[.int .i32 x.1, .int .i64 x.2]] ++ lb) w fun e w' => e = .returned (.int .i64 (F x)) ∧ Below w.heap.size w w') (a : Option Addr) (c : Nat) (W : World) (hJ : J W) (hr : RowC W W.heap.size a (encM2 zs)) :
    Calls Tryz.prog 76 #[.int .i64 list, .slice a zs.length c, .func (.func G) #[] lb] W fun e w' => e = .returned (wrV (eachW list zs ma0 F)) ∧ Below W.heap.size W w' :=
  (firstRow_Mark list zs hn a c G lb eg (fun i => F (zs.getD i ma0)) noX (fun _ w => J w) W.heap.size W (Nat.le_refl _) (fun b h => h.elim) hr hJ (fun _ w w' h hb => hst w w' h hb) (fun i x w hx hk hw => by
    show Calls Tryz.prog _ _ w fun e w' => e = .returned (.int .i64 (F (zs.getD i ma0))) ∧ _
    rw [getD_of ma0 hx]
    exact (hcall x (List.mem_of_getElem? hx) w hw).mono (fun e w' ⟨he, hb⟩ => ⟨he, hst _ _ hw hb, keptX_of hb noX⟩))).mono (fun e w' ⟨he, hk⟩ => ⟨he, hk.below⟩)
theorem frJ_Pair (zs : List (Int × Int × Int)) (hn : zs.length ≤ 1000000) (list : Int) (F : (Int × Int × Int) → Int) (G : Nat) (lb : Array Value) (eg : ∀ args w, (callFunc G args).run Tryz.prog w = .ok (.enter G args) w) (J : World → Prop) (hst : ∀ w w', J w → Below w.heap.size w w' → J w')
    (hcall : ∀ x ∈ zs, ∀ w, J w → Calls Tryz.prog G (#[.agg #[.int .i32 x.1, .int .i32 x.2.1, .int .i32 x.2.2]] ++ lb) w fun e w' => e = .returned (.int .i64 (F x)) ∧ Below w.heap.size w w') (a : Option Addr) (c : Nat) (W : World) (hJ : J W) (hr : RowC W W.heap.size a (encP3 zs)) :
    Calls Tryz.prog 78 #[.int .i64 list, .slice a zs.length c, .func (.func G) #[] lb] W fun e w' => e = .returned (wrV (eachW list zs pr0 F)) ∧ Below W.heap.size W w' :=
  (firstRow_Pair list zs hn a c G lb eg (fun i => F (zs.getD i pr0)) noX (fun _ w => J w) W.heap.size W (Nat.le_refl _) (fun b h => h.elim) hr hJ (fun _ w w' h hb => hst w w' h hb) (fun i x w hx hk hw => by
    show Calls Tryz.prog _ _ w fun e w' => e = .returned (.int .i64 (F (zs.getD i pr0))) ∧ _
    rw [getD_of pr0 hx]
    exact (hcall x (List.mem_of_getElem? hx) w hw).mono (fun e w' ⟨he, hb⟩ => ⟨he, hst _ _ hw hb, keptX_of hb noX⟩))).mono (fun e w' ⟨he, hk⟩ => ⟨he, hk.below⟩)
theorem frJ_Map (zs : List (Int × ByteArray)) (hn : zs.length ≤ 1000000) (list : Int) (F : (Int × ByteArray) → Int) (G : Nat) (lb : Array Value) (eg : ∀ args w, (callFunc G args).run Tryz.prog w = .ok (.enter G args) w) (J : World → Prop) (hst : ∀ w w', J w → Below w.heap.size w w' → J w')
    (hcall : ∀ x ∈ zs, ∀ w, J w → Calls Tryz.prog G (#[.agg #[.int .i32 x.1, .string x.2]] ++ lb) w fun e w' => e = .returned (.int .i64 (F x)) ∧ Below w.heap.size w w') (a : Option Addr) (c : Nat) (W : World) (hJ : J W) (hr : RowC W W.heap.size a (encF2 zs)) :
    Calls Tryz.prog 80 #[.int .i64 list, .slice a zs.length c, .func (.func G) #[] lb] W fun e w' => e = .returned (wrV (eachW list zs mp0 F)) ∧ Below W.heap.size W w' :=
  (firstRow_Map list zs hn a c G lb eg (fun i => F (zs.getD i mp0)) noX (fun _ w => J w) W.heap.size W (Nat.le_refl _) (fun b h => h.elim) hr hJ (fun _ w w' h hb => hst w w' h hb) (fun i x w hx hk hw => by
    show Calls Tryz.prog _ _ w fun e w' => e = .returned (.int .i64 (F (zs.getD i mp0))) ∧ _
    rw [getD_of mp0 hx]
    exact (hcall x (List.mem_of_getElem? hx) w hw).mono (fun e w' ⟨he, hb⟩ => ⟨he, hst _ _ hw hb, keptX_of hb noX⟩))).mono (fun e w' ⟨he, hk⟩ => ⟨he, hk.below⟩)
theorem frJ_Span (zs : List (Int × Int)) (hn : zs.length ≤ 1000000) (list : Int) (F : (Int × Int) → Int) (G : Nat) (lb : Array Value) (eg : ∀ args w, (callFunc G args).run Tryz.prog w = .ok (.enter G args) w) (J : World → Prop) (hst : ∀ w w', J w → Below w.heap.size w w' → J w')
    (hcall : ∀ x ∈ zs, ∀ w, J w → Calls Tryz.prog G (#[.agg #[.int .i32 x.1, .int .i32 x.2]] ++ lb) w fun e w' => e = .returned (.int .i64 (F x)) ∧ Below w.heap.size w w') (a : Option Addr) (c : Nat) (W : World) (hJ : J W) (hr : RowC W W.heap.size a (encS2 zs)) :
    Calls Tryz.prog 122 #[.int .i64 list, .slice a zs.length c, .func (.func G) #[] lb] W fun e w' => e = .returned (wrV (eachW list zs ma0 F)) ∧ Below W.heap.size W w' :=
  (firstRow_Span list zs hn a c G lb eg (fun i => F (zs.getD i ma0)) noX (fun _ w => J w) W.heap.size W (Nat.le_refl _) (fun b h => h.elim) hr hJ (fun _ w w' h hb => hst w w' h hb) (fun i x w hx hk hw => by
    show Calls Tryz.prog _ _ w fun e w' => e = .returned (.int .i64 (F (zs.getD i ma0))) ∧ _
    rw [getD_of ma0 hx]
    exact (hcall x (List.mem_of_getElem? hx) w hw).mono (fun e w' ⟨he, hb⟩ => ⟨he, hst _ _ hw hb, keptX_of hb noX⟩))).mono (fun e w' ⟨he, hk⟩ => ⟨he, hk.below⟩)
theorem frJ_PairF (zs : List (Int × Int × Int)) (hn : zs.length ≤ 1000000) (list : Int) (F : (Int × Int × Int) → Int) (G : Nat) (fs lb : Array Value) (eg : ∀ args w, (callFunc G args).run Tryz.prog w = .ok (.enter G args) w) (J : World → Prop) (hst : ∀ w w', J w → Below w.heap.size w w' → J w')
    (hcall : ∀ x ∈ zs, ∀ w, J w → Calls Tryz.prog G (fs ++ #[.agg #[.int .i32 x.1, .int .i32 x.2.1, .int .i32 x.2.2]] ++ lb) w fun e w' => e = .returned (.int .i64 (F x)) ∧ Below w.heap.size w w') (a : Option Addr) (c : Nat) (W : World) (hJ : J W) (hr : RowC W W.heap.size a (encP3 zs)) :
    Calls Tryz.prog 78 #[.int .i64 list, .slice a zs.length c, .func (.func G) fs lb] W fun e w' => e = .returned (wrV (eachW list zs pr0 F)) ∧ Below W.heap.size W w' :=
  (firstRow_PairF list zs hn a c G fs lb eg (fun i => F (zs.getD i pr0)) noX (fun _ w => J w) W.heap.size W (Nat.le_refl _) (fun b h => h.elim) hr hJ (fun _ w w' h hb => hst w w' h hb) (fun i x w hx hk hw => by
    show Calls Tryz.prog _ _ w fun e w' => e = .returned (.int .i64 (F (zs.getD i pr0))) ∧ _
    rw [getD_of pr0 hx]
    exact (hcall x (List.mem_of_getElem? hx) w hw).mono (fun e w' ⟨he, hb⟩ => ⟨he, hst _ _ hw hb, keptX_of hb noX⟩))).mono (fun e w' ⟨he, hk⟩ => ⟨he, hk.below⟩)
/-- What a step reads: the Book, its pointer's box, the result's box, the Book's lists. -/
structure StF (w : World) (BB R B : Nat) (T : TV) (a0 a1 a2 a3 a4 a5 a6 a7 : Option Addr) (c0 c1 c2 c3 c4 c5 c6 c7 : Nat) (us : List Value) : Prop where
  bp : BkP w BB B T
  rs : Blk w R #[.int .i64 0, .int .i64 0, .int .i64 0] 37
  tb : BkT w B T a0 a1 a2 a3 a4 a5 a6 a7 c0 c1 c2 c3 c4 c5 c6 c7 us
theorem StF.below {w w' : World} {BB R B : Nat} {T : TV} {a0 a1 a2 a3 a4 a5 a6 a7 : Option Addr} {c0 c1 c2 c3 c4 c5 c6 c7 : Nat} {us : List Value} (h : StF w BB R B T a0 a1 a2 a3 a4 a5 a6 a7 c0 c1 c2 c3 c4 c5 c6 c7 us) (hb : Below w.heap.size w w') : StF w' BB R B T a0 a1 a2 a3 a4 a5 a6 a7 c0 c1 c2 c3 c4 c5 c6 c7 us :=
  ⟨h.bp.below hb, h.rs.below hb h.rs.lt, h.tb.below hb⟩
/-- Without the box. -/
structure StG (w : World) (R B : Nat) (T : TV) (a0 a1 a2 a3 a4 a5 a6 a7 : Option Addr) (c0 c1 c2 c3 c4 c5 c6 c7 : Nat) (us : List Value) : Prop where
  bk : BookAt w B T
  rs : Blk w R #[.int .i64 0, .int .i64 0, .int .i64 0] 37
  tb : BkT w B T a0 a1 a2 a3 a4 a5 a6 a7 c0 c1 c2 c3 c4 c5 c6 c7 us
theorem StG.below {w w' : World} {R B : Nat} {T : TV} {a0 a1 a2 a3 a4 a5 a6 a7 : Option Addr} {c0 c1 c2 c3 c4 c5 c6 c7 : Nat} {us : List Value} (h : StG w R B T a0 a1 a2 a3 a4 a5 a6 a7 c0 c1 c2 c3 c4 c5 c6 c7 us) (hb : Below w.heap.size w w') : StG w' R B T a0 a1 a2 a3 a4 a5 a6 a7 c0 c1 c2 c3 c4 c5 c6 c7 us :=
  ⟨h.bk.below hb, h.rs.below hb h.rs.lt, h.tb.below hb⟩
theorem runes_rune {t : ByteArray} {r : Int} (hr : r ∈ runesL t) : runeB r = true := by
  unfold runesL at hr
  obtain ⟨i, _, rfl⟩ := List.mem_map.1 hr
  have h1 := rn_rune t i
  have h2 := width_rune ((rn t i : Nat) : Int)
  cases h3 : runeB ((rn t i : Nat) : Int) with
  | true => rfl
  | false =>
    rw [h3] at h2
    exact absurd (by simpa using h2) h1
theorem runes_32 {t : ByteArray} (r : Int) (hr : r ∈ runesL t) : R32 r := rune32 (runes_rune hr)
theorem toB_size {s : ByteArray} (h : toB s = true) : (runesL s).length ≤ 1000000 := by
  have := toB_iff h
  omega
set_option maxRecDepth 100000 in
set_option maxHeartbeats 4000000 in
theorem bkMispaired_any {T : TV} (hO : RowsOk T) (B : Nat) (W : World) (h : BookAt W B T) : Calls Tryz.prog 55 #[.pointer (some ⟨B, 0, none⟩)] W fun e w' => e = .returned (wrV (pairsV T)) ∧ Below W.heap.size W w' := by
  have hmf : ∀ (fn : Fn) (first cap : Array Value) (w : World), (Instr.makeFunc fn first cap).run Tryz.prog w = .ok (.func fn first cap) w := fun _ _ _ _ => rfl
  have hB0 : Below W.heap.size W ((W.alloc (.cells #[.pointer (some ⟨B, 0, none⟩)] 35)).alloc (.cells #[.int .i64 0, .int .i64 0, .int .i64 0] 37)) := ((Below.refl _ W).alloc (Nat.le_refl _) _).alloc (by simp) _
  have bB : Blk ((W.alloc (.cells #[.pointer (some ⟨B, 0, none⟩)] 35)).alloc (.cells #[.int .i64 0, .int .i64 0, .int .i64 0] 37)) W.heap.size #[.pointer (some ⟨B, 0, none⟩)] 35 := (Blk.new W _ _).alloc _
  have bR : Blk ((W.alloc (.cells #[.pointer (some ⟨B, 0, none⟩)] 35)).alloc (.cells #[.int .i64 0, .int .i64 0, .int .i64 0] 37)) (W.heap.size + 1) #[.int .i64 0, .int .i64 0, .int .i64 0] 37 := by
    have h := Blk.new (W.alloc (.cells #[.pointer (some ⟨B, 0, none⟩)] 35)) #[.int .i64 0, .int .i64 0, .int .i64 0] 37
    rw [World.size_alloc] at h
    exact h
  obtain ⟨a0, a1, a2, a3, a4, a5, a6, a7, c0, c1, c2, c3, c4, c5, c6, c7, us, tb⟩ := h.tabs
  have hS : StF ((W.alloc (.cells #[.pointer (some ⟨B, 0, none⟩)] 35)).alloc (.cells #[.int .i64 0, .int .i64 0, .int .i64 0] 37)) W.heap.size (W.heap.size + 1) B T a0 a1 a2 a3 a4 a5 a6 a7 c0 c1 c2 c3 c4 c5 c6 c7 us := ⟨⟨bB, h.below hB0⟩, bR, tb.below hB0⟩
  have b0 := bB.cell 0
  have k3 := hS.tb.k3
  have HC := hide (frJ_Pair T.pr (by have := hO.l3; omega) 4 (prE T) 102 #[.pointer (some ⟨W.heap.size, 0, none⟩)] (enters_of Tryz.func102 (by kernel_rfl) rfl) (fun w => BkP w W.heap.size B T) (fun _ _ h hb => h.below hb) (fun x hx w hw => bkMis1_any hO W.heap.size B x.1 x.2.1 x.2.2 (rune32 (hO.f3 x hx).1) (rune32 (hO.f3 x hx).2.1) (rune32 (hO.f3 x hx).2.2) w hw) a3 c3 _ hS.bp hS.tb.ti.r3)
  rw [show eachW 4 T.pr pr0 (prE T) = pairsV T from rfl] at HC
  have HS := hide (And.intro hB0 hS)
  clear hB0 bB bR h tb hS hO
  generalize pairsV T = y at *
  obtain ⟨y0, y1, y2⟩ := y
  unfold wrV at HC
  dsimp only at HC
  go_enter Tryz.func55, Tryz.ntmps55
  go_wp2_with fail
  refine (unhide HC).mono ?_
  rintro e w' ⟨rfl, hb⟩
  have HS2 := hide (And.intro ((unhide HS).1.trans (hb.mono (unhide HS).1.size)) ((unhide HS).2.below hb).rs)
  clear hb HC HS b0 k3
  have r0 := (unhide HS2).2.cell 0
  have r1 := (unhide HS2).2.cell 1
  have r2 := (unhide HS2).2.cell 2
  have f0 := (unhide HS2).2.frozen 0
  have f1 := (unhide HS2).2.frozen 1
  have f2 := (unhide HS2).2.frozen 2
  go_wp2_with fail
  exact bodyPost_ret (v := wrV (y0, y1, y2)) (ret3 Tryz.results55 rfl (blk3 (unhide HS2).2 _ _ _) rfl) rfl ⟨rfl, below3 (unhide HS2).1 (by omega) (unhide HS2).1.size _ _ _⟩
set_option maxRecDepth 100000 in
set_option maxHeartbeats 4000000 in
theorem bkEndless_any {T : TV} (hO : RowsOk T) (B : Nat) (W : World) (h : BookAt W B T) : Calls Tryz.prog 56 #[.pointer (some ⟨B, 0, none⟩)] W fun e w' => e = .returned (wrV (ringV T)) ∧ Below W.heap.size W w' := by
  have hmf : ∀ (fn : Fn) (first cap : Array Value) (w : World), (Instr.makeFunc fn first cap).run Tryz.prog w = .ok (.func fn first cap) w := fun _ _ _ _ => rfl
  have hB0 : Below W.heap.size W (W.alloc (.cells #[.int .i64 0, .int .i64 0, .int .i64 0] 37)) := (Below.refl _ W).alloc (Nat.le_refl _) _
  have bR : Blk (W.alloc (.cells #[.int .i64 0, .int .i64 0, .int .i64 0] 37)) W.heap.size #[.int .i64 0, .int .i64 0, .int .i64 0] 37 := Blk.new W _ _
  obtain ⟨a0, a1, a2, a3, a4, a5, a6, a7, c0, c1, c2, c3, c4, c5, c6, c7, us, tb⟩ := h.tabs
  have hS : StG (W.alloc (.cells #[.int .i64 0, .int .i64 0, .int .i64 0] 37)) W.heap.size B T a0 a1 a2 a3 a4 a5 a6 a7 c0 c1 c2 c3 c4 c5 c6 c7 us := ⟨h.below hB0, bR, tb.below hB0⟩
  have k3 := hS.tb.k3
  have HC := hide (frJ_PairF T.pr (by have := hO.l3; omega) 4 (prR T) 103 #[.pointer (some ⟨B, 0, none⟩)] #[] (enters_of Tryz.func103 (by kernel_rfl) rfl) (fun w => BookAt w B T) (fun _ _ h hb => h.below hb) (fun x hx w hw => bkChain_any hO B x hx w hw) a3 c3 _ hS.bk hS.tb.ti.r3)
  rw [show eachW 4 T.pr pr0 (prR T) = ringV T from rfl] at HC
  have HS := hide (And.intro hB0 hS)
  clear hB0 bR h tb hS hO
  generalize ringV T = y at *
  obtain ⟨y0, y1, y2⟩ := y
  unfold wrV at HC
  dsimp only at HC
  go_enter Tryz.func56, Tryz.ntmps56
  go_wp2_with fail
  refine (unhide HC).mono ?_
  rintro e w' ⟨rfl, hb⟩
  have HS2 := hide (And.intro ((unhide HS).1.trans (hb.mono (unhide HS).1.size)) ((unhide HS).2.below hb).rs)
  clear hb HC HS k3
  have r0 := (unhide HS2).2.cell 0
  have r1 := (unhide HS2).2.cell 1
  have r2 := (unhide HS2).2.cell 2
  have f0 := (unhide HS2).2.frozen 0
  have f1 := (unhide HS2).2.frozen 1
  have f2 := (unhide HS2).2.frozen 2
  go_wp2_with fail
  exact bodyPost_ret (v := wrV (y0, y1, y2)) (ret3 Tryz.results56 rfl (blk3 (unhide HS2).2 _ _ _) rfl) rfl ⟨rfl, below3 (unhide HS2).1 (Nat.le_refl _) (unhide HS2).1.size _ _ _⟩
def unD (W0s : Nat) (B : Nat) (T : TV) (a0 : Option Addr) (a1 : Option Addr) (a2 : Option Addr) (a3 : Option Addr) (a4 : Option Addr) (a5 : Option Addr) (a6 : Option Addr) (a7 : Option Addr) (c0 : Nat) (c1 : Nat) (c2 : Nat) (c3 : Nat) (c4 : Nat) (c5 : Nat) (c6 : Nat) (c7 : Nat) (x0 : Int × Int × Int) (x1 : Int × Int × Int) (x2 : Int × Int × Int) (x3 : Int × Int × Int) : Nat → Value → World → Prop
  | 0, v, w => v = .pointer (some ⟨B, 0, none⟩)
  | 1, v, w => v = .pointer (some ⟨B, 0, none⟩)
  | 2, v, w => v = .pointer (some ⟨B, 0, none⟩)
  | 3, v, w => v = .pointer (some ⟨B, 2, none⟩)
  | 4, v, w => v = .slice a2 T.ma.length c2
  | 5, v, w => v = .func (.func 106) #[] #[.pointer (some ⟨W0s, 0, none⟩)]
  | 6, v, w => v = wrV x0
  | 7, v, w => v = .pointer (some ⟨B, 0, none⟩)
  | 8, v, w => v = .pointer (some ⟨B, 0, none⟩)
  | 9, v, w => v = .pointer (some ⟨B, 0, none⟩)
  | 10, v, w => v = .pointer (some ⟨B, 3, none⟩)
  | 11, v, w => v = .slice a3 T.pr.length c3
  | 12, v, w => v = .func (.func 107) #[] #[.pointer (some ⟨W0s, 0, none⟩)]
  | 13, v, w => v = wrV x1
  | 14, v, w => v = .pointer (some ⟨B, 0, none⟩)
  | 15, v, w => v = .pointer (some ⟨B, 0, none⟩)
  | 16, v, w => v = .pointer (some ⟨B, 0, none⟩)
  | 17, v, w => v = .pointer (some ⟨B, 4, none⟩)
  | 18, v, w => v = .slice a4 T.fo.length c4
  | 19, v, w => v = .func (.func 104) #[] #[.pointer (some ⟨W0s, 0, none⟩)]
  | 20, v, w => v = wrV x2
  | 21, v, w => v = .pointer (some ⟨B, 0, none⟩)
  | 22, v, w => v = .pointer (some ⟨B, 0, none⟩)
  | 23, v, w => v = .pointer (some ⟨B, 0, none⟩)
  | 24, v, w => v = .pointer (some ⟨B, 5, none⟩)
  | 25, v, w => v = .slice a5 T.lk.length c5
  | 26, v, w => v = .func (.func 104) #[] #[.pointer (some ⟨W0s, 0, none⟩)]
  | 27, v, w => v = wrV x3
  | 28, v, w => ∃ g, v = .slice (some ⟨g, 0, none⟩) 4 4 ∧ g < w.heap.size ∧ RwW w g 0 [x0, x1, x2, x3]
  | 29, v, w => v = wrV (orW [x0, x1, x2, x3])
  | _, v, w => True
def unDM (j : Nat) : Bool := false
theorem unD_st {W0s : Nat} {B : Nat} {T : TV} {a0 : Option Addr} {a1 : Option Addr} {a2 : Option Addr} {a3 : Option Addr} {a4 : Option Addr} {a5 : Option Addr} {a6 : Option Addr} {a7 : Option Addr} {c0 : Nat} {c1 : Nat} {c2 : Nat} {c3 : Nat} {c4 : Nat} {c5 : Nat} {c6 : Nat} {c7 : Nat} {x0 : Int × Int × Int} {x1 : Int × Int × Int} {x2 : Int × Int × Int} {x3 : Int × Int × Int} {w w' : World} (hb : Below w.heap.size w w') : ∀ (j : Nat) (v : Value), unD W0s B T a0 a1 a2 a3 a4 a5 a6 a7 c0 c1 c2 c3 c4 c5 c6 c7 x0 x1 x2 x3 j v w → unD W0s B T a0 a1 a2 a3 a4 a5 a6 a7 c0 c1 c2 c3 c4 c5 c6 c7 x0 x1 x2 x3 j v w'
  | 0, v, h => h
  | 1, v, h => h
  | 2, v, h => h
  | 3, v, h => h
  | 4, v, h => h
  | 5, v, h => h
  | 6, v, h => h
  | 7, v, h => h
  | 8, v, h => h
  | 9, v, h => h
  | 10, v, h => h
  | 11, v, h => h
  | 12, v, h => h
  | 13, v, h => h
  | 14, v, h => h
  | 15, v, h => h
  | 16, v, h => h
  | 17, v, h => h
  | 18, v, h => h
  | 19, v, h => h
  | 20, v, h => h
  | 21, v, h => h
  | 22, v, h => h
  | 23, v, h => h
  | 24, v, h => h
  | 25, v, h => h
  | 26, v, h => h
  | 27, v, h => h
  | 28, v, h => let ⟨g, e, h1, h2⟩ := h; ⟨g, e, Nat.lt_of_lt_of_le h1 hb.size, h2.below h1 hb⟩
  | 29, v, h => h
  | _ + 30, v, h => h
theorem unD_lt {W0s : Nat} {B : Nat} {T : TV} {a0 : Option Addr} {a1 : Option Addr} {a2 : Option Addr} {a3 : Option Addr} {a4 : Option Addr} {a5 : Option Addr} {a6 : Option Addr} {a7 : Option Addr} {c0 : Nat} {c1 : Nat} {c2 : Nat} {c3 : Nat} {c4 : Nat} {c5 : Nat} {c6 : Nat} {c7 : Nat} {x0 : Int × Int × Int} {x1 : Int × Int × Int} {x2 : Int × Int × Int} {x3 : Int × Int × Int} {w : World} (j : Nat) (v : Value) (hm : unDM j = true) (h : unD W0s B T a0 a1 a2 a3 a4 a5 a6 a7 c0 c1 c2 c3 c4 c5 c6 c7 x0 x1 x2 x3 j v w) : ∀ b, v.ownBlock = some b → b < w.heap.size := by
  cases hm
set_option maxRecDepth 100000 in
set_option maxHeartbeats 8000000 in
theorem bkUnseen_any {T : TV} (hO : RowsOk T) (B : Nat) (W : World) (h : BookAt W B T) : Calls Tryz.prog 57 #[.pointer (some ⟨B, 0, none⟩)] W fun e w' => e = .returned (wrV (dropsV T)) ∧ Below W.heap.size W w' := by
  have hmx : Tryz.prog.follows .mixedOrders = true := by kernel_rfl
  have hmf : ∀ (fn : Fn) (first cap : Array Value) (w : World), (Instr.makeFunc fn first cap).run Tryz.prog w = .ok (.func fn first cap) w := fun _ _ _ _ => rfl
  have HMF := hide hmf
  have hB0 : Below W.heap.size W ((W.alloc (.cells #[.pointer (some ⟨B, 0, none⟩)] 35)).alloc (.cells #[.int .i64 0, .int .i64 0, .int .i64 0] 37)).drew := (((Below.refl _ W).alloc (Nat.le_refl _) _).alloc (by simp) _).trans ⟨rfl, rfl, rfl, Nat.le_refl _, fun _ _ => rfl⟩
  have bB : Blk ((W.alloc (.cells #[.pointer (some ⟨B, 0, none⟩)] 35)).alloc (.cells #[.int .i64 0, .int .i64 0, .int .i64 0] 37)).drew W.heap.size #[.pointer (some ⟨B, 0, none⟩)] 35 := (Blk.new W _ _).alloc _
  have bR : Blk ((W.alloc (.cells #[.pointer (some ⟨B, 0, none⟩)] 35)).alloc (.cells #[.int .i64 0, .int .i64 0, .int .i64 0] 37)).drew (W.heap.size + 1) #[.int .i64 0, .int .i64 0, .int .i64 0] 37 := by
    have h := Blk.new (W.alloc (.cells #[.pointer (some ⟨B, 0, none⟩)] 35)) #[.int .i64 0, .int .i64 0, .int .i64 0] 37
    rw [World.size_alloc] at h
    exact h
  obtain ⟨a0, a1, a2, a3, a4, a5, a6, a7, c0, c1, c2, c3, c4, c5, c6, c7, us, tb⟩ := h.tabs
  have b0 : ((W.alloc (.cells #[.pointer (some ⟨B, 0, none⟩)] 35)).alloc (.cells #[.int .i64 0, .int .i64 0, .int .i64 0] 37)).cell? ⟨W.heap.size, 0, none⟩ = some (.pointer (some ⟨B, 0, none⟩)) := bB.cell 0
  have hS : StF ((W.alloc (.cells #[.pointer (some ⟨B, 0, none⟩)] 35)).alloc (.cells #[.int .i64 0, .int .i64 0, .int .i64 0] 37)).drew W.heap.size (W.heap.size + 1) B T a0 a1 a2 a3 a4 a5 a6 a7 c0 c1 c2 c3 c4 c5 c6 c7 us := ⟨⟨bB, h.below hB0⟩, bR, tb.below hB0⟩
  have HF : Hz (∀ w1, Below ((W.alloc (.cells #[.pointer (some ⟨B, 0, none⟩)] 35)).alloc (.cells #[.int .i64 0, .int .i64 0, .int .i64 0] 37)).drew.heap.size ((W.alloc (.cells #[.pointer (some ⟨B, 0, none⟩)] 35)).alloc (.cells #[.int .i64 0, .int .i64 0, .int .i64 0] 37)).drew w1 → StF w1 W.heap.size (W.heap.size + 1) B T a0 a1 a2 a3 a4 a5 a6 a7 c0 c1 c2 c3 c4 c5 c6 c7 us) := hide (fun w1 h => hS.below h)
  have HB := hide hB0
  have HO := hide hO
  clear hB0 bB bR h tb hS hO b0
  obtain ⟨x0, hx0⟩ : ∃ x, eachW 3 T.ma ma0 (fun x => if drB T x.1 then 37 else 0) = x := ⟨_, rfl⟩
  obtain ⟨x1, hx1⟩ : ∃ x, eachW 4 T.pr pr0 (fun x => if drB T x.1 || (drB T x.2.1 || drB T x.2.2) then 37 else 0) = x := ⟨_, rfl⟩
  obtain ⟨x2, hx2⟩ : ∃ x, eachW 5 T.fo mp0 (fun x => if drB T x.1 then 37 else 0) = x := ⟨_, rfl⟩
  obtain ⟨x3, hx3⟩ : ∃ x, eachW 6 T.lk mp0 (fun x => if drB T x.1 then 37 else 0) = x := ⟨_, rfl⟩
  have HOK : Hz (∀ x ∈ [x0, x1, x2, x3], OkW x) := hide (by
    intro x hx
    simp only [List.mem_cons, List.not_mem_nil, or_false] at hx
    rcases hx with rfl | rfl | rfl | rfl
    · rw [← hx0]; exact eachW_okW _ _ _ _
    · rw [← hx1]; exact eachW_okW _ _ _ _
    · rw [← hx2]; exact eachW_okW _ _ _ _
    · rw [← hx3]; exact eachW_okW _ _ _ _)
  have hfin : dropsV T = orW [x0, x1, x2, x3] := by
    unfold dropsV
    rw [hx0, hx1, hx2, hx3]
  rw [hfin]
  have HX0 := hide hx0
  have HX1 := hide hx1
  have HX2 := hide hx2
  have HX3 := hide hx3
  clear hfin hx0 hx1 hx2 hx3
  go_enter Tryz.func57, Tryz.ntmps57
  go_wp2_with fail
  generalize ((W.alloc (.cells #[.pointer (some ⟨B, 0, none⟩)] 35)).alloc (.cells #[.int .i64 0, .int .i64 0, .int .i64 0] 37)) = w0 at *
  clear hmf
  refine wp_region_inv hmx 30 (by decide) (by kernel_rfl) (by kernel_rfl) (fun l a w => ∃ U : Nat → Value, a = { tmps := #[.pointer (some ⟨B, 0, none⟩), .pointer (some ⟨W.heap.size, 0, none⟩), .pointer (some ⟨W.heap.size + 1, 0, none⟩), .func (.func 104) #[] #[.pointer (some ⟨W.heap.size, 0, none⟩)], .func (.func 104) #[] #[.pointer (some ⟨W.heap.size, 0, none⟩)], U 0, U 1, U 2, U 3, U 4, U 5, U 6, U 7, U 8, U 9, U 10, U 11, U 12, U 13, U 14, U 15, U 16, U 17, U 18, U 19, U 20, U 21, U 22, U 23, U 24, U 25, U 26, U 27, U 28, U 29], defers := [] } ∧ RgJ (w0.drew) (w0.drew.heap.size) (unD W.heap.size B T a0 a1 a2 a3 a4 a5 a6 a7 c0 c1 c2 c3 c4 c5 c6 c7 x0 x1 x2 x3) unDM l U w) ⟨fun _ => undef, rfl, RgJ.start _ _ (Nat.le_refl _)⟩ ?_ ?_
  · rintro l a w i ⟨U, rfl, hJ⟩ hl hi hif
    have h0 := (mem_ready.1 hi).1
    have hlt := rg_lt hl h0
    have HJ := hide hJ
    clear hJ hl
    replace hlt : i < 31 := hlt
    obtain rfl | rfl | rfl | rfl | rfl | rfl | rfl | rfl | rfl | rfl | rfl | rfl | rfl | rfl | rfl | rfl | rfl | rfl | rfl | rfl | rfl | rfl | rfl | rfl | rfl | rfl | rfl | rfl | rfl | rfl : i = 0 ∨ i = 1 ∨ i = 2 ∨ i = 3 ∨ i = 4 ∨ i = 5 ∨ i = 6 ∨ i = 7 ∨ i = 8 ∨ i = 9 ∨ i = 10 ∨ i = 11 ∨ i = 12 ∨ i = 13 ∨ i = 14 ∨ i = 15 ∨ i = 16 ∨ i = 17 ∨ i = 18 ∨ i = 19 ∨ i = 20 ∨ i = 21 ∨ i = 22 ∨ i = 23 ∨ i = 24 ∨ i = 25 ∨ i = 26 ∨ i = 27 ∨ i = 28 ∨ i = 29 := by omega
    · refine wpOp_step rfl (fun K hK => ?_)
      clear hlt hif
      have q0 := (unhide HF w (unhide HJ).bel).bp.bb.cell 0
      go_simp
      exact hK _ _ ⟨slotPut U 0 _, rfl, (unhide HJ).put 0 _ h0 (Below.refl _ _) (unD_st (Below.refl _ _)) rfl unD_lt (fun h => absurd h (by decide))⟩
    · refine wpOp_step rfl (fun K hK => ?_)
      clear hlt hif
      have d0 : U 0 = .pointer (some ⟨B, 0, none⟩) := (unhide HJ).val 0 (rg_dep hi 0 (by kernel_rfl))
      go_simp
      exact hK _ _ ⟨slotPut U 1 _, (by rw [slotEq d0]; rfl), (unhide HJ).put 1 _ h0 (Below.refl _ _) (unD_st (Below.refl _ _)) rfl unD_lt (fun h => absurd h (by decide))⟩
    · refine wpOp_step rfl (fun K hK => ?_)
      clear hlt hif
      have d1 : U 1 = .pointer (some ⟨B, 0, none⟩) := (unhide HJ).val 1 (rg_dep hi 1 (by kernel_rfl))
      go_simp
      exact hK _ _ ⟨slotPut U 2 _, (by rw [slotEq d1]; rfl), (unhide HJ).put 2 _ h0 (Below.refl _ _) (unD_st (Below.refl _ _)) rfl unD_lt (fun h => absurd h (by decide))⟩
    · refine wpOp_step rfl (fun K hK => ?_)
      clear hlt hif
      have d2 : U 2 = .pointer (some ⟨B, 0, none⟩) := (unhide HJ).val 2 (rg_dep hi 2 (by kernel_rfl))
      go_simp
      exact hK _ _ ⟨slotPut U 3 _, (by rw [slotEq d2]; rfl), (unhide HJ).put 3 _ h0 (Below.refl _ _) (unD_st (Below.refl _ _)) rfl unD_lt (fun h => absurd h (by decide))⟩
    · refine wpOp_step rfl (fun K hK => ?_)
      clear hlt hif
      have d3 : U 3 = .pointer (some ⟨B, 2, none⟩) := (unhide HJ).val 3 (rg_dep hi 3 (by kernel_rfl))
      have q0 := (unhide HF w (unhide HJ).bel).tb.k2
      go_simp
      exact hK _ _ ⟨slotPut U 4 _, (by rw [slotEq d3]; rfl), (unhide HJ).put 4 _ h0 (Below.refl _ _) (unD_st (Below.refl _ _)) rfl unD_lt (fun h => absurd h (by decide))⟩
    · refine wpOp_step rfl (fun K hK => ?_)
      clear hlt hif
      have hmf := unhide HMF
      go_simp
      exact hK _ _ ⟨slotPut U 5 _, rfl, (unhide HJ).put 5 _ h0 (Below.refl _ _) (unD_st (Below.refl _ _)) rfl unD_lt (fun h => absurd h (by decide))⟩
    · refine wpOp_step rfl (fun K hK => ?_)
      clear hlt hif
      have d4 : U 4 = .slice a2 T.ma.length c2 := (unhide HJ).val 4 (rg_dep hi 4 (by kernel_rfl))
      have d5 : U 5 = .func (.func 106) #[] #[.pointer (some ⟨W.heap.size, 0, none⟩)] := (unhide HJ).val 5 (rg_dep hi 5 (by kernel_rfl))
      have hf := unhide HF w (unhide HJ).bel
      go_simp
      refine (frJ_Mark T.ma (by have := (unhide HO).l2; omega) 3 (fun x => if drB T x.1 then 37 else 0) 106 #[.pointer (some ⟨W.heap.size, 0, none⟩)] (enters_of Tryz.func106 (by kernel_rfl) rfl) (fun w => BkP w W.heap.size B T) (fun _ _ h hb => h.below hb) (fun x hx w hw => bkUns2_any (unhide HO) W.heap.size B x.1 x.2 w hw) a2 c2 w hf.bp hf.tb.ti.r2).mono ?_
      rw [unhide HX0]
      rintro e w' ⟨rfl, hb⟩
      exact hK _ _ ⟨slotPut U 6 _, (by rw [slotEq d4, slotEq d5]; rfl), (unhide HJ).put 6 _ h0 hb (unD_st hb) rfl unD_lt (fun h => absurd h (by decide))⟩
    · refine wpOp_step rfl (fun K hK => ?_)
      clear hlt hif
      have q0 := (unhide HF w (unhide HJ).bel).bp.bb.cell 0
      go_simp
      exact hK _ _ ⟨slotPut U 7 _, rfl, (unhide HJ).put 7 _ h0 (Below.refl _ _) (unD_st (Below.refl _ _)) rfl unD_lt (fun h => absurd h (by decide))⟩
    · refine wpOp_step rfl (fun K hK => ?_)
      clear hlt hif
      have d7 : U 7 = .pointer (some ⟨B, 0, none⟩) := (unhide HJ).val 7 (rg_dep hi 7 (by kernel_rfl))
      go_simp
      exact hK _ _ ⟨slotPut U 8 _, (by rw [slotEq d7]; rfl), (unhide HJ).put 8 _ h0 (Below.refl _ _) (unD_st (Below.refl _ _)) rfl unD_lt (fun h => absurd h (by decide))⟩
    · refine wpOp_step rfl (fun K hK => ?_)
      clear hlt hif
      have d8 : U 8 = .pointer (some ⟨B, 0, none⟩) := (unhide HJ).val 8 (rg_dep hi 8 (by kernel_rfl))
      go_simp
      exact hK _ _ ⟨slotPut U 9 _, (by rw [slotEq d8]; rfl), (unhide HJ).put 9 _ h0 (Below.refl _ _) (unD_st (Below.refl _ _)) rfl unD_lt (fun h => absurd h (by decide))⟩
    · refine wpOp_step rfl (fun K hK => ?_)
      clear hlt hif
      have d9 : U 9 = .pointer (some ⟨B, 0, none⟩) := (unhide HJ).val 9 (rg_dep hi 9 (by kernel_rfl))
      go_simp
      exact hK _ _ ⟨slotPut U 10 _, (by rw [slotEq d9]; rfl), (unhide HJ).put 10 _ h0 (Below.refl _ _) (unD_st (Below.refl _ _)) rfl unD_lt (fun h => absurd h (by decide))⟩
    · refine wpOp_step rfl (fun K hK => ?_)
      clear hlt hif
      have d10 : U 10 = .pointer (some ⟨B, 3, none⟩) := (unhide HJ).val 10 (rg_dep hi 10 (by kernel_rfl))
      have q0 := (unhide HF w (unhide HJ).bel).tb.k3
      go_simp
      exact hK _ _ ⟨slotPut U 11 _, (by rw [slotEq d10]; rfl), (unhide HJ).put 11 _ h0 (Below.refl _ _) (unD_st (Below.refl _ _)) rfl unD_lt (fun h => absurd h (by decide))⟩
    · refine wpOp_step rfl (fun K hK => ?_)
      clear hlt hif
      have hmf := unhide HMF
      go_simp
      exact hK _ _ ⟨slotPut U 12 _, rfl, (unhide HJ).put 12 _ h0 (Below.refl _ _) (unD_st (Below.refl _ _)) rfl unD_lt (fun h => absurd h (by decide))⟩
    · refine wpOp_step rfl (fun K hK => ?_)
      clear hlt hif
      have d11 : U 11 = .slice a3 T.pr.length c3 := (unhide HJ).val 11 (rg_dep hi 11 (by kernel_rfl))
      have d12 : U 12 = .func (.func 107) #[] #[.pointer (some ⟨W.heap.size, 0, none⟩)] := (unhide HJ).val 12 (rg_dep hi 12 (by kernel_rfl))
      have hf := unhide HF w (unhide HJ).bel
      go_simp
      refine (frJ_Pair T.pr (by have := (unhide HO).l3; omega) 4 (fun x => if drB T x.1 || (drB T x.2.1 || drB T x.2.2) then 37 else 0) 107 #[.pointer (some ⟨W.heap.size, 0, none⟩)] (enters_of Tryz.func107 (by kernel_rfl) rfl) (fun w => BkP w W.heap.size B T) (fun _ _ h hb => h.below hb) (fun x hx w hw => bkUns3_any (unhide HO) W.heap.size B x.1 x.2.1 x.2.2 w hw) a3 c3 w hf.bp hf.tb.ti.r3).mono ?_
      rw [unhide HX1]
      rintro e w' ⟨rfl, hb⟩
      exact hK _ _ ⟨slotPut U 13 _, (by rw [slotEq d11, slotEq d12]; rfl), (unhide HJ).put 13 _ h0 hb (unD_st hb) rfl unD_lt (fun h => absurd h (by decide))⟩
    · refine wpOp_step rfl (fun K hK => ?_)
      clear hlt hif
      have q0 := (unhide HF w (unhide HJ).bel).bp.bb.cell 0
      go_simp
      exact hK _ _ ⟨slotPut U 14 _, rfl, (unhide HJ).put 14 _ h0 (Below.refl _ _) (unD_st (Below.refl _ _)) rfl unD_lt (fun h => absurd h (by decide))⟩
    · refine wpOp_step rfl (fun K hK => ?_)
      clear hlt hif
      have d14 : U 14 = .pointer (some ⟨B, 0, none⟩) := (unhide HJ).val 14 (rg_dep hi 14 (by kernel_rfl))
      go_simp
      exact hK _ _ ⟨slotPut U 15 _, (by rw [slotEq d14]; rfl), (unhide HJ).put 15 _ h0 (Below.refl _ _) (unD_st (Below.refl _ _)) rfl unD_lt (fun h => absurd h (by decide))⟩
    · refine wpOp_step rfl (fun K hK => ?_)
      clear hlt hif
      have d15 : U 15 = .pointer (some ⟨B, 0, none⟩) := (unhide HJ).val 15 (rg_dep hi 15 (by kernel_rfl))
      go_simp
      exact hK _ _ ⟨slotPut U 16 _, (by rw [slotEq d15]; rfl), (unhide HJ).put 16 _ h0 (Below.refl _ _) (unD_st (Below.refl _ _)) rfl unD_lt (fun h => absurd h (by decide))⟩
    · refine wpOp_step rfl (fun K hK => ?_)
      clear hlt hif
      have d16 : U 16 = .pointer (some ⟨B, 0, none⟩) := (unhide HJ).val 16 (rg_dep hi 16 (by kernel_rfl))
      go_simp
      exact hK _ _ ⟨slotPut U 17 _, (by rw [slotEq d16]; rfl), (unhide HJ).put 17 _ h0 (Below.refl _ _) (unD_st (Below.refl _ _)) rfl unD_lt (fun h => absurd h (by decide))⟩
    · refine wpOp_step rfl (fun K hK => ?_)
      clear hlt hif
      have d17 : U 17 = .pointer (some ⟨B, 4, none⟩) := (unhide HJ).val 17 (rg_dep hi 17 (by kernel_rfl))
      have q0 := (unhide HF w (unhide HJ).bel).tb.k4
      go_simp
      exact hK _ _ ⟨slotPut U 18 _, (by rw [slotEq d17]; rfl), (unhide HJ).put 18 _ h0 (Below.refl _ _) (unD_st (Below.refl _ _)) rfl unD_lt (fun h => absurd h (by decide))⟩
    · refine wpOp_step rfl (fun K hK => ?_)
      clear hlt hif
      have hmf := unhide HMF
      go_simp
      exact hK _ _ ⟨slotPut U 19 _, rfl, (unhide HJ).put 19 _ h0 (Below.refl _ _) (unD_st (Below.refl _ _)) rfl unD_lt (fun h => absurd h (by decide))⟩
    · refine wpOp_step rfl (fun K hK => ?_)
      clear hlt hif
      have d18 : U 18 = .slice a4 T.fo.length c4 := (unhide HJ).val 18 (rg_dep hi 18 (by kernel_rfl))
      have d19 : U 19 = .func (.func 104) #[] #[.pointer (some ⟨W.heap.size, 0, none⟩)] := (unhide HJ).val 19 (rg_dep hi 19 (by kernel_rfl))
      have hf := unhide HF w (unhide HJ).bel
      go_simp
      refine (frJ_Map T.fo (by have := (unhide HO).l4; omega) 5 (fun x => if drB T x.1 then 37 else 0) 104 #[.pointer (some ⟨W.heap.size, 0, none⟩)] (enters_of Tryz.func104 (by kernel_rfl) rfl) (fun w => BkP w W.heap.size B T) (fun _ _ h hb => h.below hb) (fun x hx w hw => bkUns1_any (unhide HO) W.heap.size B x.1 x.2 w hw) a4 c4 w hf.bp hf.tb.ti.r4).mono ?_
      rw [unhide HX2]
      rintro e w' ⟨rfl, hb⟩
      exact hK _ _ ⟨slotPut U 20 _, (by rw [slotEq d18, slotEq d19]; rfl), (unhide HJ).put 20 _ h0 hb (unD_st hb) rfl unD_lt (fun h => absurd h (by decide))⟩
    · refine wpOp_step rfl (fun K hK => ?_)
      clear hlt hif
      have q0 := (unhide HF w (unhide HJ).bel).bp.bb.cell 0
      go_simp
      exact hK _ _ ⟨slotPut U 21 _, rfl, (unhide HJ).put 21 _ h0 (Below.refl _ _) (unD_st (Below.refl _ _)) rfl unD_lt (fun h => absurd h (by decide))⟩
    · refine wpOp_step rfl (fun K hK => ?_)
      clear hlt hif
      have d21 : U 21 = .pointer (some ⟨B, 0, none⟩) := (unhide HJ).val 21 (rg_dep hi 21 (by kernel_rfl))
      go_simp
      exact hK _ _ ⟨slotPut U 22 _, (by rw [slotEq d21]; rfl), (unhide HJ).put 22 _ h0 (Below.refl _ _) (unD_st (Below.refl _ _)) rfl unD_lt (fun h => absurd h (by decide))⟩
    · refine wpOp_step rfl (fun K hK => ?_)
      clear hlt hif
      have d22 : U 22 = .pointer (some ⟨B, 0, none⟩) := (unhide HJ).val 22 (rg_dep hi 22 (by kernel_rfl))
      go_simp
      exact hK _ _ ⟨slotPut U 23 _, (by rw [slotEq d22]; rfl), (unhide HJ).put 23 _ h0 (Below.refl _ _) (unD_st (Below.refl _ _)) rfl unD_lt (fun h => absurd h (by decide))⟩
    · refine wpOp_step rfl (fun K hK => ?_)
      clear hlt hif
      have d23 : U 23 = .pointer (some ⟨B, 0, none⟩) := (unhide HJ).val 23 (rg_dep hi 23 (by kernel_rfl))
      go_simp
      exact hK _ _ ⟨slotPut U 24 _, (by rw [slotEq d23]; rfl), (unhide HJ).put 24 _ h0 (Below.refl _ _) (unD_st (Below.refl _ _)) rfl unD_lt (fun h => absurd h (by decide))⟩
    · refine wpOp_step rfl (fun K hK => ?_)
      clear hlt hif
      have d24 : U 24 = .pointer (some ⟨B, 5, none⟩) := (unhide HJ).val 24 (rg_dep hi 24 (by kernel_rfl))
      have q0 := (unhide HF w (unhide HJ).bel).tb.k5
      go_simp
      exact hK _ _ ⟨slotPut U 25 _, (by rw [slotEq d24]; rfl), (unhide HJ).put 25 _ h0 (Below.refl _ _) (unD_st (Below.refl _ _)) rfl unD_lt (fun h => absurd h (by decide))⟩
    · refine wpOp_step rfl (fun K hK => ?_)
      clear hlt hif
      have hmf := unhide HMF
      go_simp
      exact hK _ _ ⟨slotPut U 26 _, rfl, (unhide HJ).put 26 _ h0 (Below.refl _ _) (unD_st (Below.refl _ _)) rfl unD_lt (fun h => absurd h (by decide))⟩
    · refine wpOp_step rfl (fun K hK => ?_)
      clear hlt hif
      have d25 : U 25 = .slice a5 T.lk.length c5 := (unhide HJ).val 25 (rg_dep hi 25 (by kernel_rfl))
      have d26 : U 26 = .func (.func 104) #[] #[.pointer (some ⟨W.heap.size, 0, none⟩)] := (unhide HJ).val 26 (rg_dep hi 26 (by kernel_rfl))
      have hf := unhide HF w (unhide HJ).bel
      go_simp
      refine (frJ_Map T.lk (by have := (unhide HO).l5; omega) 6 (fun x => if drB T x.1 then 37 else 0) 104 #[.pointer (some ⟨W.heap.size, 0, none⟩)] (enters_of Tryz.func104 (by kernel_rfl) rfl) (fun w => BkP w W.heap.size B T) (fun _ _ h hb => h.below hb) (fun x hx w hw => bkUns1_any (unhide HO) W.heap.size B x.1 x.2 w hw) a5 c5 w hf.bp hf.tb.ti.r5).mono ?_
      rw [unhide HX3]
      rintro e w' ⟨rfl, hb⟩
      exact hK _ _ ⟨slotPut U 27 _, (by rw [slotEq d25, slotEq d26]; rfl), (unhide HJ).put 27 _ h0 hb (unD_st hb) rfl unD_lt (fun h => absurd h (by decide))⟩
    · refine wpOp_step rfl (fun K hK => ?_)
      clear hlt hif
      have d6 : U 6 = wrV x0 := (unhide HJ).val 6 (rg_dep hi 6 (by kernel_rfl))
      have d13 : U 13 = wrV x1 := (unhide HJ).val 13 (rg_dep hi 13 (by kernel_rfl))
      have d20 : U 20 = wrV x2 := (unhide HJ).val 20 (rg_dep hi 20 (by kernel_rfl))
      have d27 : U 27 = wrV x3 := (unhide HJ).val 27 (rg_dep hi 27 (by kernel_rfl))
      unfold wrV at d6 d13 d20 d27
      go_simp
      exact hK _ _ ⟨slotPut U 28 _, (by rw [slotEq d6, slotEq d13, slotEq d20, slotEq d27]; rfl), (unhide HJ).put 28 _ h0 ((Below.refl _ _).alloc (Nat.le_refl _) _) (unD_st ((Below.refl _ _).alloc (Nat.le_refl _) _)) ⟨_, rfl, by simp, rwW_alloc w _ [x0, x1, x2, x3] _ _ rfl rfl⟩ unD_lt (fun h => absurd h (by decide))⟩
    · refine wpOp_step rfl (fun K hK => ?_)
      clear hlt hif
      obtain ⟨g28, d28, l28, h28⟩ := (unhide HJ).val 28 (rg_dep hi 28 (by kernel_rfl))
      go_simp
      refine (orWrong_any [x0, x1, x2, x3] (by simp) (unhide HOK) _ 0 _ _ l28 h28).mono ?_
      rintro e w' ⟨rfl, hb⟩
      exact hK _ _ ⟨slotPut U 29 _, (by rw [slotEq d28]; rfl), (unhide HJ).put 29 _ h0 hb (unD_st hb) rfl unD_lt (fun h => absurd h (by decide))⟩
  · rintro l a w ⟨U, rfl, hJ⟩ hall
    have d29 : U 29 = wrV (orW [x0, x1, x2, x3]) := hJ.val 29 (hall 29 (by decide) (by decide))
    have HBJ := hide (And.intro ((unhide HB).trans (hJ.bel.mono (unhide HB).size)) (unhide HF w hJ.bel).rs)
    clear hJ hall
    refine wpOp_step rfl (fun K hK => ?_)
    obtain ⟨y, hy⟩ : ∃ y, orW [x0, x1, x2, x3] = y := ⟨_, rfl⟩
    rw [hy] at d29
    have HY := hide hy
    clear hy
    obtain ⟨y0, y1, y2⟩ := y
    unfold wrV at d29
    have r0 := (unhide HBJ).2.cell 0
    have f0 := (unhide HBJ).2.frozen 0
    have r1 := (unhide HBJ).2.cell 1
    have f1 := (unhide HBJ).2.frozen 1
    have r2 := (unhide HBJ).2.cell 2
    have f2 := (unhide HBJ).2.frozen 2
    go_simp
    refine hK _ _ ?_
    clear hK
    go_wp2_with fail
    exact bodyPost_ret (v := wrV (y0, y1, y2)) (ret3 Tryz.results57 rfl (blk3 (unhide HBJ).2 _ _ _) rfl) rfl ⟨by rw [unhide HY], below3 (unhide HBJ).1 (by omega) (unhide HBJ).1.size _ _ _⟩
def ufD (W0s : Nat) (B : Nat) (T : TV) (a0 : Option Addr) (a1 : Option Addr) (a2 : Option Addr) (a3 : Option Addr) (a4 : Option Addr) (a5 : Option Addr) (a6 : Option Addr) (a7 : Option Addr) (c0 : Nat) (c1 : Nat) (c2 : Nat) (c3 : Nat) (c4 : Nat) (c5 : Nat) (c6 : Nat) (c7 : Nat) (x0 : Int × Int × Int) (x1 : Int × Int × Int) : Nat → Value → World → Prop
  | 0, v, w => v = .pointer (some ⟨B, 0, none⟩)
  | 1, v, w => v = .pointer (some ⟨B, 0, none⟩)
  | 2, v, w => v = .pointer (some ⟨B, 0, none⟩)
  | 3, v, w => v = .pointer (some ⟨B, 4, none⟩)
  | 4, v, w => v = .slice a4 T.fo.length c4
  | 5, v, w => v = .func (.func 108) #[] #[.pointer (some ⟨W0s, 0, none⟩)]
  | 6, v, w => v = wrV x0
  | 7, v, w => v = .pointer (some ⟨B, 0, none⟩)
  | 8, v, w => v = .pointer (some ⟨B, 0, none⟩)
  | 9, v, w => v = .pointer (some ⟨B, 0, none⟩)
  | 10, v, w => v = .pointer (some ⟨B, 5, none⟩)
  | 11, v, w => v = .slice a5 T.lk.length c5
  | 12, v, w => v = .func (.func 108) #[] #[.pointer (some ⟨W0s, 0, none⟩)]
  | 13, v, w => v = wrV x1
  | 14, v, w => ∃ g, v = .slice (some ⟨g, 0, none⟩) 2 2 ∧ g < w.heap.size ∧ RwW w g 0 [x0, x1]
  | 15, v, w => v = wrV (orW [x0, x1])
  | _, v, w => True
def ufDM (j : Nat) : Bool := false
theorem ufD_st {W0s : Nat} {B : Nat} {T : TV} {a0 : Option Addr} {a1 : Option Addr} {a2 : Option Addr} {a3 : Option Addr} {a4 : Option Addr} {a5 : Option Addr} {a6 : Option Addr} {a7 : Option Addr} {c0 : Nat} {c1 : Nat} {c2 : Nat} {c3 : Nat} {c4 : Nat} {c5 : Nat} {c6 : Nat} {c7 : Nat} {x0 : Int × Int × Int} {x1 : Int × Int × Int} {w w' : World} (hb : Below w.heap.size w w') : ∀ (j : Nat) (v : Value), ufD W0s B T a0 a1 a2 a3 a4 a5 a6 a7 c0 c1 c2 c3 c4 c5 c6 c7 x0 x1 j v w → ufD W0s B T a0 a1 a2 a3 a4 a5 a6 a7 c0 c1 c2 c3 c4 c5 c6 c7 x0 x1 j v w'
  | 0, v, h => h
  | 1, v, h => h
  | 2, v, h => h
  | 3, v, h => h
  | 4, v, h => h
  | 5, v, h => h
  | 6, v, h => h
  | 7, v, h => h
  | 8, v, h => h
  | 9, v, h => h
  | 10, v, h => h
  | 11, v, h => h
  | 12, v, h => h
  | 13, v, h => h
  | 14, v, h => let ⟨g, e, h1, h2⟩ := h; ⟨g, e, Nat.lt_of_lt_of_le h1 hb.size, h2.below h1 hb⟩
  | 15, v, h => h
  | _ + 16, v, h => h
theorem ufD_lt {W0s : Nat} {B : Nat} {T : TV} {a0 : Option Addr} {a1 : Option Addr} {a2 : Option Addr} {a3 : Option Addr} {a4 : Option Addr} {a5 : Option Addr} {a6 : Option Addr} {a7 : Option Addr} {c0 : Nat} {c1 : Nat} {c2 : Nat} {c3 : Nat} {c4 : Nat} {c5 : Nat} {c6 : Nat} {c7 : Nat} {x0 : Int × Int × Int} {x1 : Int × Int × Int} {w : World} (j : Nat) (v : Value) (hm : ufDM j = true) (h : ufD W0s B T a0 a1 a2 a3 a4 a5 a6 a7 c0 c1 c2 c3 c4 c5 c6 c7 x0 x1 j v w) : ∀ b, v.ownBlock = some b → b < w.heap.size := by
  cases hm
set_option maxRecDepth 100000 in
set_option maxHeartbeats 8000000 in
theorem bkUnplainFroms_any {T : TV} (hO : RowsOk T) (B : Nat) (W : World) (h : BookAt W B T) : Calls Tryz.prog 58 #[.pointer (some ⟨B, 0, none⟩)] W fun e w' => e = .returned (wrV (plainV T)) ∧ Below W.heap.size W w' := by
  have hmx : Tryz.prog.follows .mixedOrders = true := by kernel_rfl
  have hmf : ∀ (fn : Fn) (first cap : Array Value) (w : World), (Instr.makeFunc fn first cap).run Tryz.prog w = .ok (.func fn first cap) w := fun _ _ _ _ => rfl
  have HMF := hide hmf
  have hB0 : Below W.heap.size W ((W.alloc (.cells #[.pointer (some ⟨B, 0, none⟩)] 35)).alloc (.cells #[.int .i64 0, .int .i64 0, .int .i64 0] 37)).drew := (((Below.refl _ W).alloc (Nat.le_refl _) _).alloc (by simp) _).trans ⟨rfl, rfl, rfl, Nat.le_refl _, fun _ _ => rfl⟩
  have bB : Blk ((W.alloc (.cells #[.pointer (some ⟨B, 0, none⟩)] 35)).alloc (.cells #[.int .i64 0, .int .i64 0, .int .i64 0] 37)).drew W.heap.size #[.pointer (some ⟨B, 0, none⟩)] 35 := (Blk.new W _ _).alloc _
  have bR : Blk ((W.alloc (.cells #[.pointer (some ⟨B, 0, none⟩)] 35)).alloc (.cells #[.int .i64 0, .int .i64 0, .int .i64 0] 37)).drew (W.heap.size + 1) #[.int .i64 0, .int .i64 0, .int .i64 0] 37 := by
    have h := Blk.new (W.alloc (.cells #[.pointer (some ⟨B, 0, none⟩)] 35)) #[.int .i64 0, .int .i64 0, .int .i64 0] 37
    rw [World.size_alloc] at h
    exact h
  obtain ⟨a0, a1, a2, a3, a4, a5, a6, a7, c0, c1, c2, c3, c4, c5, c6, c7, us, tb⟩ := h.tabs
  have b0 : ((W.alloc (.cells #[.pointer (some ⟨B, 0, none⟩)] 35)).alloc (.cells #[.int .i64 0, .int .i64 0, .int .i64 0] 37)).cell? ⟨W.heap.size, 0, none⟩ = some (.pointer (some ⟨B, 0, none⟩)) := bB.cell 0
  have hS : StF ((W.alloc (.cells #[.pointer (some ⟨B, 0, none⟩)] 35)).alloc (.cells #[.int .i64 0, .int .i64 0, .int .i64 0] 37)).drew W.heap.size (W.heap.size + 1) B T a0 a1 a2 a3 a4 a5 a6 a7 c0 c1 c2 c3 c4 c5 c6 c7 us := ⟨⟨bB, h.below hB0⟩, bR, tb.below hB0⟩
  have HF : Hz (∀ w1, Below ((W.alloc (.cells #[.pointer (some ⟨B, 0, none⟩)] 35)).alloc (.cells #[.int .i64 0, .int .i64 0, .int .i64 0] 37)).drew.heap.size ((W.alloc (.cells #[.pointer (some ⟨B, 0, none⟩)] 35)).alloc (.cells #[.int .i64 0, .int .i64 0, .int .i64 0] 37)).drew w1 → StF w1 W.heap.size (W.heap.size + 1) B T a0 a1 a2 a3 a4 a5 a6 a7 c0 c1 c2 c3 c4 c5 c6 c7 us) := hide (fun w1 h => hS.below h)
  have HB := hide hB0
  have HO := hide hO
  clear hB0 bB bR h tb hS hO b0
  obtain ⟨x0, hx0⟩ : ∃ x, eachW 5 T.fo mp0 (fun x => if markB T x.1 || wholB T x.1 then 31 else 0) = x := ⟨_, rfl⟩
  obtain ⟨x1, hx1⟩ : ∃ x, eachW 6 T.lk mp0 (fun x => if markB T x.1 || wholB T x.1 then 31 else 0) = x := ⟨_, rfl⟩
  have HOK : Hz (∀ x ∈ [x0, x1], OkW x) := hide (by
    intro x hx
    simp only [List.mem_cons, List.not_mem_nil, or_false] at hx
    rcases hx with rfl | rfl
    · rw [← hx0]; exact eachW_okW _ _ _ _
    · rw [← hx1]; exact eachW_okW _ _ _ _)
  have hfin : plainV T = orW [x0, x1] := by
    unfold plainV
    rw [hx0, hx1]
  rw [hfin]
  have HX0 := hide hx0
  have HX1 := hide hx1
  clear hfin hx0 hx1
  go_enter Tryz.func58, Tryz.ntmps58
  go_wp2_with fail
  generalize ((W.alloc (.cells #[.pointer (some ⟨B, 0, none⟩)] 35)).alloc (.cells #[.int .i64 0, .int .i64 0, .int .i64 0] 37)) = w0 at *
  clear hmf
  refine wp_region_inv hmx 16 (by decide) (by kernel_rfl) (by kernel_rfl) (fun l a w => ∃ U : Nat → Value, a = { tmps := #[.pointer (some ⟨B, 0, none⟩), .pointer (some ⟨W.heap.size, 0, none⟩), .pointer (some ⟨W.heap.size + 1, 0, none⟩), .func (.func 108) #[] #[.pointer (some ⟨W.heap.size, 0, none⟩)], .func (.func 108) #[] #[.pointer (some ⟨W.heap.size, 0, none⟩)], U 0, U 1, U 2, U 3, U 4, U 5, U 6, U 7, U 8, U 9, U 10, U 11, U 12, U 13, U 14, U 15], defers := [] } ∧ RgJ (w0.drew) (w0.drew.heap.size) (ufD W.heap.size B T a0 a1 a2 a3 a4 a5 a6 a7 c0 c1 c2 c3 c4 c5 c6 c7 x0 x1) ufDM l U w) ⟨fun _ => undef, rfl, RgJ.start _ _ (Nat.le_refl _)⟩ ?_ ?_
  · rintro l a w i ⟨U, rfl, hJ⟩ hl hi hif
    have h0 := (mem_ready.1 hi).1
    have hlt := rg_lt hl h0
    have HJ := hide hJ
    clear hJ hl
    replace hlt : i < 17 := hlt
    obtain rfl | rfl | rfl | rfl | rfl | rfl | rfl | rfl | rfl | rfl | rfl | rfl | rfl | rfl | rfl | rfl : i = 0 ∨ i = 1 ∨ i = 2 ∨ i = 3 ∨ i = 4 ∨ i = 5 ∨ i = 6 ∨ i = 7 ∨ i = 8 ∨ i = 9 ∨ i = 10 ∨ i = 11 ∨ i = 12 ∨ i = 13 ∨ i = 14 ∨ i = 15 := by omega
    · refine wpOp_step rfl (fun K hK => ?_)
      clear hlt hif
      have q0 := (unhide HF w (unhide HJ).bel).bp.bb.cell 0
      go_simp
      exact hK _ _ ⟨slotPut U 0 _, rfl, (unhide HJ).put 0 _ h0 (Below.refl _ _) (ufD_st (Below.refl _ _)) rfl ufD_lt (fun h => absurd h (by decide))⟩
    · refine wpOp_step rfl (fun K hK => ?_)
      clear hlt hif
      have d0 : U 0 = .pointer (some ⟨B, 0, none⟩) := (unhide HJ).val 0 (rg_dep hi 0 (by kernel_rfl))
      go_simp
      exact hK _ _ ⟨slotPut U 1 _, (by rw [slotEq d0]; rfl), (unhide HJ).put 1 _ h0 (Below.refl _ _) (ufD_st (Below.refl _ _)) rfl ufD_lt (fun h => absurd h (by decide))⟩
    · refine wpOp_step rfl (fun K hK => ?_)
      clear hlt hif
      have d1 : U 1 = .pointer (some ⟨B, 0, none⟩) := (unhide HJ).val 1 (rg_dep hi 1 (by kernel_rfl))
      go_simp
      exact hK _ _ ⟨slotPut U 2 _, (by rw [slotEq d1]; rfl), (unhide HJ).put 2 _ h0 (Below.refl _ _) (ufD_st (Below.refl _ _)) rfl ufD_lt (fun h => absurd h (by decide))⟩
    · refine wpOp_step rfl (fun K hK => ?_)
      clear hlt hif
      have d2 : U 2 = .pointer (some ⟨B, 0, none⟩) := (unhide HJ).val 2 (rg_dep hi 2 (by kernel_rfl))
      go_simp
      exact hK _ _ ⟨slotPut U 3 _, (by rw [slotEq d2]; rfl), (unhide HJ).put 3 _ h0 (Below.refl _ _) (ufD_st (Below.refl _ _)) rfl ufD_lt (fun h => absurd h (by decide))⟩
    · refine wpOp_step rfl (fun K hK => ?_)
      clear hlt hif
      have d3 : U 3 = .pointer (some ⟨B, 4, none⟩) := (unhide HJ).val 3 (rg_dep hi 3 (by kernel_rfl))
      have q0 := (unhide HF w (unhide HJ).bel).tb.k4
      go_simp
      exact hK _ _ ⟨slotPut U 4 _, (by rw [slotEq d3]; rfl), (unhide HJ).put 4 _ h0 (Below.refl _ _) (ufD_st (Below.refl _ _)) rfl ufD_lt (fun h => absurd h (by decide))⟩
    · refine wpOp_step rfl (fun K hK => ?_)
      clear hlt hif
      have hmf := unhide HMF
      go_simp
      exact hK _ _ ⟨slotPut U 5 _, rfl, (unhide HJ).put 5 _ h0 (Below.refl _ _) (ufD_st (Below.refl _ _)) rfl ufD_lt (fun h => absurd h (by decide))⟩
    · refine wpOp_step rfl (fun K hK => ?_)
      clear hlt hif
      have d4 : U 4 = .slice a4 T.fo.length c4 := (unhide HJ).val 4 (rg_dep hi 4 (by kernel_rfl))
      have d5 : U 5 = .func (.func 108) #[] #[.pointer (some ⟨W.heap.size, 0, none⟩)] := (unhide HJ).val 5 (rg_dep hi 5 (by kernel_rfl))
      have hf := unhide HF w (unhide HJ).bel
      go_simp
      refine (frJ_Map T.fo (by have := (unhide HO).l4; omega) 5 (fun x => if markB T x.1 || wholB T x.1 then 31 else 0) 108 #[.pointer (some ⟨W.heap.size, 0, none⟩)] (enters_of Tryz.func108 (by kernel_rfl) rfl) (fun w => BkP w W.heap.size B T) (fun _ _ h hb => h.below hb) (fun x hx w hw => bkPlf1_any (unhide HO) W.heap.size B x.1 x.2 (rune32 ((unhide HO).f4 x hx).1) w hw) a4 c4 w hf.bp hf.tb.ti.r4).mono ?_
      rw [unhide HX0]
      rintro e w' ⟨rfl, hb⟩
      exact hK _ _ ⟨slotPut U 6 _, (by rw [slotEq d4, slotEq d5]; rfl), (unhide HJ).put 6 _ h0 hb (ufD_st hb) rfl ufD_lt (fun h => absurd h (by decide))⟩
    · refine wpOp_step rfl (fun K hK => ?_)
      clear hlt hif
      have q0 := (unhide HF w (unhide HJ).bel).bp.bb.cell 0
      go_simp
      exact hK _ _ ⟨slotPut U 7 _, rfl, (unhide HJ).put 7 _ h0 (Below.refl _ _) (ufD_st (Below.refl _ _)) rfl ufD_lt (fun h => absurd h (by decide))⟩
    · refine wpOp_step rfl (fun K hK => ?_)
      clear hlt hif
      have d7 : U 7 = .pointer (some ⟨B, 0, none⟩) := (unhide HJ).val 7 (rg_dep hi 7 (by kernel_rfl))
      go_simp
      exact hK _ _ ⟨slotPut U 8 _, (by rw [slotEq d7]; rfl), (unhide HJ).put 8 _ h0 (Below.refl _ _) (ufD_st (Below.refl _ _)) rfl ufD_lt (fun h => absurd h (by decide))⟩
    · refine wpOp_step rfl (fun K hK => ?_)
      clear hlt hif
      have d8 : U 8 = .pointer (some ⟨B, 0, none⟩) := (unhide HJ).val 8 (rg_dep hi 8 (by kernel_rfl))
      go_simp
      exact hK _ _ ⟨slotPut U 9 _, (by rw [slotEq d8]; rfl), (unhide HJ).put 9 _ h0 (Below.refl _ _) (ufD_st (Below.refl _ _)) rfl ufD_lt (fun h => absurd h (by decide))⟩
    · refine wpOp_step rfl (fun K hK => ?_)
      clear hlt hif
      have d9 : U 9 = .pointer (some ⟨B, 0, none⟩) := (unhide HJ).val 9 (rg_dep hi 9 (by kernel_rfl))
      go_simp
      exact hK _ _ ⟨slotPut U 10 _, (by rw [slotEq d9]; rfl), (unhide HJ).put 10 _ h0 (Below.refl _ _) (ufD_st (Below.refl _ _)) rfl ufD_lt (fun h => absurd h (by decide))⟩
    · refine wpOp_step rfl (fun K hK => ?_)
      clear hlt hif
      have d10 : U 10 = .pointer (some ⟨B, 5, none⟩) := (unhide HJ).val 10 (rg_dep hi 10 (by kernel_rfl))
      have q0 := (unhide HF w (unhide HJ).bel).tb.k5
      go_simp
      exact hK _ _ ⟨slotPut U 11 _, (by rw [slotEq d10]; rfl), (unhide HJ).put 11 _ h0 (Below.refl _ _) (ufD_st (Below.refl _ _)) rfl ufD_lt (fun h => absurd h (by decide))⟩
    · refine wpOp_step rfl (fun K hK => ?_)
      clear hlt hif
      have hmf := unhide HMF
      go_simp
      exact hK _ _ ⟨slotPut U 12 _, rfl, (unhide HJ).put 12 _ h0 (Below.refl _ _) (ufD_st (Below.refl _ _)) rfl ufD_lt (fun h => absurd h (by decide))⟩
    · refine wpOp_step rfl (fun K hK => ?_)
      clear hlt hif
      have d11 : U 11 = .slice a5 T.lk.length c5 := (unhide HJ).val 11 (rg_dep hi 11 (by kernel_rfl))
      have d12 : U 12 = .func (.func 108) #[] #[.pointer (some ⟨W.heap.size, 0, none⟩)] := (unhide HJ).val 12 (rg_dep hi 12 (by kernel_rfl))
      have hf := unhide HF w (unhide HJ).bel
      go_simp
      refine (frJ_Map T.lk (by have := (unhide HO).l5; omega) 6 (fun x => if markB T x.1 || wholB T x.1 then 31 else 0) 108 #[.pointer (some ⟨W.heap.size, 0, none⟩)] (enters_of Tryz.func108 (by kernel_rfl) rfl) (fun w => BkP w W.heap.size B T) (fun _ _ h hb => h.below hb) (fun x hx w hw => bkPlf1_any (unhide HO) W.heap.size B x.1 x.2 (rune32 ((unhide HO).f5 x hx).1) w hw) a5 c5 w hf.bp hf.tb.ti.r5).mono ?_
      rw [unhide HX1]
      rintro e w' ⟨rfl, hb⟩
      exact hK _ _ ⟨slotPut U 13 _, (by rw [slotEq d11, slotEq d12]; rfl), (unhide HJ).put 13 _ h0 hb (ufD_st hb) rfl ufD_lt (fun h => absurd h (by decide))⟩
    · refine wpOp_step rfl (fun K hK => ?_)
      clear hlt hif
      have d6 : U 6 = wrV x0 := (unhide HJ).val 6 (rg_dep hi 6 (by kernel_rfl))
      have d13 : U 13 = wrV x1 := (unhide HJ).val 13 (rg_dep hi 13 (by kernel_rfl))
      unfold wrV at d6 d13
      go_simp
      exact hK _ _ ⟨slotPut U 14 _, (by rw [slotEq d6, slotEq d13]; rfl), (unhide HJ).put 14 _ h0 ((Below.refl _ _).alloc (Nat.le_refl _) _) (ufD_st ((Below.refl _ _).alloc (Nat.le_refl _) _)) ⟨_, rfl, by simp, rwW_alloc w _ [x0, x1] _ _ rfl rfl⟩ ufD_lt (fun h => absurd h (by decide))⟩
    · refine wpOp_step rfl (fun K hK => ?_)
      clear hlt hif
      obtain ⟨g14, d14, l14, h14⟩ := (unhide HJ).val 14 (rg_dep hi 14 (by kernel_rfl))
      go_simp
      refine (orWrong_any [x0, x1] (by simp) (unhide HOK) _ 0 _ _ l14 h14).mono ?_
      rintro e w' ⟨rfl, hb⟩
      exact hK _ _ ⟨slotPut U 15 _, (by rw [slotEq d14]; rfl), (unhide HJ).put 15 _ h0 hb (ufD_st hb) rfl ufD_lt (fun h => absurd h (by decide))⟩
  · rintro l a w ⟨U, rfl, hJ⟩ hall
    have d15 : U 15 = wrV (orW [x0, x1]) := hJ.val 15 (hall 15 (by decide) (by decide))
    have HBJ := hide (And.intro ((unhide HB).trans (hJ.bel.mono (unhide HB).size)) (unhide HF w hJ.bel).rs)
    clear hJ hall
    refine wpOp_step rfl (fun K hK => ?_)
    obtain ⟨y, hy⟩ : ∃ y, orW [x0, x1] = y := ⟨_, rfl⟩
    rw [hy] at d15
    have HY := hide hy
    clear hy
    obtain ⟨y0, y1, y2⟩ := y
    unfold wrV at d15
    have r0 := (unhide HBJ).2.cell 0
    have f0 := (unhide HBJ).2.frozen 0
    have r1 := (unhide HBJ).2.cell 1
    have f1 := (unhide HBJ).2.frozen 1
    have r2 := (unhide HBJ).2.cell 2
    have f2 := (unhide HBJ).2.frozen 2
    go_simp
    refine hK _ _ ?_
    clear hK
    go_wp2_with fail
    exact bodyPost_ret (v := wrV (y0, y1, y2)) (ret3 Tryz.results58 rfl (blk3 (unhide HBJ).2 _ _ _) rfl) rfl ⟨by rw [unhide HY], below3 (unhide HBJ).1 (by omega) (unhide HBJ).1.size _ _ _⟩
def utD (W0s : Nat) (B : Nat) (T : TV) (a0 : Option Addr) (a1 : Option Addr) (a2 : Option Addr) (a3 : Option Addr) (a4 : Option Addr) (a5 : Option Addr) (a6 : Option Addr) (a7 : Option Addr) (c0 : Nat) (c1 : Nat) (c2 : Nat) (c3 : Nat) (c4 : Nat) (c5 : Nat) (c6 : Nat) (c7 : Nat) (x0 : Int × Int × Int) (x1 : Int × Int × Int) : Nat → Value → World → Prop
  | 0, v, w => v = .pointer (some ⟨B, 0, none⟩)
  | 1, v, w => v = .pointer (some ⟨B, 0, none⟩)
  | 2, v, w => v = .pointer (some ⟨B, 0, none⟩)
  | 3, v, w => v = .pointer (some ⟨B, 4, none⟩)
  | 4, v, w => v = .slice a4 T.fo.length c4
  | 5, v, w => v = .func (.func 111) #[] #[.pointer (some ⟨W0s + 2, 0, none⟩)]
  | 6, v, w => v = wrV x0
  | 7, v, w => v = .pointer (some ⟨B, 0, none⟩)
  | 8, v, w => v = .pointer (some ⟨B, 0, none⟩)
  | 9, v, w => v = .pointer (some ⟨B, 0, none⟩)
  | 10, v, w => v = .pointer (some ⟨B, 5, none⟩)
  | 11, v, w => v = .slice a5 T.lk.length c5
  | 12, v, w => v = .func (.func 113) #[] #[.pointer (some ⟨W0s + 3, 0, none⟩)]
  | 13, v, w => v = wrV x1
  | 14, v, w => ∃ g, v = .slice (some ⟨g, 0, none⟩) 2 2 ∧ g < w.heap.size ∧ RwW w g 0 [x0, x1]
  | 15, v, w => v = wrV (orW [x0, x1])
  | _, v, w => True
def utDM (j : Nat) : Bool := false
theorem utD_st {W0s : Nat} {B : Nat} {T : TV} {a0 : Option Addr} {a1 : Option Addr} {a2 : Option Addr} {a3 : Option Addr} {a4 : Option Addr} {a5 : Option Addr} {a6 : Option Addr} {a7 : Option Addr} {c0 : Nat} {c1 : Nat} {c2 : Nat} {c3 : Nat} {c4 : Nat} {c5 : Nat} {c6 : Nat} {c7 : Nat} {x0 : Int × Int × Int} {x1 : Int × Int × Int} {w w' : World} (hb : Below w.heap.size w w') : ∀ (j : Nat) (v : Value), utD W0s B T a0 a1 a2 a3 a4 a5 a6 a7 c0 c1 c2 c3 c4 c5 c6 c7 x0 x1 j v w → utD W0s B T a0 a1 a2 a3 a4 a5 a6 a7 c0 c1 c2 c3 c4 c5 c6 c7 x0 x1 j v w'
  | 0, v, h => h
  | 1, v, h => h
  | 2, v, h => h
  | 3, v, h => h
  | 4, v, h => h
  | 5, v, h => h
  | 6, v, h => h
  | 7, v, h => h
  | 8, v, h => h
  | 9, v, h => h
  | 10, v, h => h
  | 11, v, h => h
  | 12, v, h => h
  | 13, v, h => h
  | 14, v, h => let ⟨g, e, h1, h2⟩ := h; ⟨g, e, Nat.lt_of_lt_of_le h1 hb.size, h2.below h1 hb⟩
  | 15, v, h => h
  | _ + 16, v, h => h
theorem utD_lt {W0s : Nat} {B : Nat} {T : TV} {a0 : Option Addr} {a1 : Option Addr} {a2 : Option Addr} {a3 : Option Addr} {a4 : Option Addr} {a5 : Option Addr} {a6 : Option Addr} {a7 : Option Addr} {c0 : Nat} {c1 : Nat} {c2 : Nat} {c3 : Nat} {c4 : Nat} {c5 : Nat} {c6 : Nat} {c7 : Nat} {x0 : Int × Int × Int} {x1 : Int × Int × Int} {w : World} (j : Nat) (v : Value) (hm : utDM j = true) (h : utD W0s B T a0 a1 a2 a3 a4 a5 a6 a7 c0 c1 c2 c3 c4 c5 c6 c7 x0 x1 j v w) : ∀ b, v.ownBlock = some b → b < w.heap.size := by
  cases hm
set_option maxRecDepth 100000 in
set_option maxHeartbeats 8000000 in
theorem bkUnplainTos_any {T : TV} (hO : RowsOk T) (hz : (∀ x ∈ T.fo, x.2.size ≤ 1048576) ∧ ∀ x ∈ T.lk, x.2.size ≤ 1048576) (B : Nat) (W : World) (h : BookAt W B T) : Calls Tryz.prog 59 #[.pointer (some ⟨B, 0, none⟩)] W fun e w' => e = .returned (wrV (tosV T)) ∧ Below W.heap.size W w' := by
  have hmx : Tryz.prog.follows .mixedOrders = true := by kernel_rfl
  have hmf : ∀ (fn : Fn) (first cap : Array Value) (w : World), (Instr.makeFunc fn first cap).run Tryz.prog w = .ok (.func fn first cap) w := fun _ _ _ _ => rfl
  have HMF := hide hmf
  have hB0 : Below W.heap.size W ((((W.alloc (.cells #[.pointer (some ⟨B, 0, none⟩)] 35)).alloc (.cells #[.int .i64 0, .int .i64 0, .int .i64 0] 37)).alloc (.cells #[.func (.func 109) #[] #[.pointer (some ⟨W.heap.size, 0, none⟩)]] 47)).alloc (.cells #[.func (.func 110) #[] #[.pointer (some ⟨W.heap.size, 0, none⟩), .pointer (some ⟨W.heap.size + 2, 0, none⟩)]] 47)).drew := (((((Below.refl _ W).alloc (Nat.le_refl _) _).alloc (by simp) _).alloc (by simp; omega) _).alloc (by simp; omega) _).trans ⟨rfl, rfl, rfl, Nat.le_refl _, fun _ _ => rfl⟩
  have bB : Blk ((((W.alloc (.cells #[.pointer (some ⟨B, 0, none⟩)] 35)).alloc (.cells #[.int .i64 0, .int .i64 0, .int .i64 0] 37)).alloc (.cells #[.func (.func 109) #[] #[.pointer (some ⟨W.heap.size, 0, none⟩)]] 47)).alloc (.cells #[.func (.func 110) #[] #[.pointer (some ⟨W.heap.size, 0, none⟩), .pointer (some ⟨W.heap.size + 2, 0, none⟩)]] 47)).drew W.heap.size #[.pointer (some ⟨B, 0, none⟩)] 35 := (((Blk.new W _ _).alloc _).alloc _).alloc _
  have bR : Blk ((((W.alloc (.cells #[.pointer (some ⟨B, 0, none⟩)] 35)).alloc (.cells #[.int .i64 0, .int .i64 0, .int .i64 0] 37)).alloc (.cells #[.func (.func 109) #[] #[.pointer (some ⟨W.heap.size, 0, none⟩)]] 47)).alloc (.cells #[.func (.func 110) #[] #[.pointer (some ⟨W.heap.size, 0, none⟩), .pointer (some ⟨W.heap.size + 2, 0, none⟩)]] 47)).drew (W.heap.size + 1) #[.int .i64 0, .int .i64 0, .int .i64 0] 37 := by
    have h := Blk.new (W.alloc (.cells #[.pointer (some ⟨B, 0, none⟩)] 35)) #[.int .i64 0, .int .i64 0, .int .i64 0] 37
    rw [World.size_alloc] at h
    exact (h.alloc _).alloc _
  have bU : Blk ((((W.alloc (.cells #[.pointer (some ⟨B, 0, none⟩)] 35)).alloc (.cells #[.int .i64 0, .int .i64 0, .int .i64 0] 37)).alloc (.cells #[.func (.func 109) #[] #[.pointer (some ⟨W.heap.size, 0, none⟩)]] 47)).alloc (.cells #[.func (.func 110) #[] #[.pointer (some ⟨W.heap.size, 0, none⟩), .pointer (some ⟨W.heap.size + 2, 0, none⟩)]] 47)).drew (W.heap.size + 2) #[.func (.func 109) #[] #[.pointer (some ⟨W.heap.size, 0, none⟩)]] 47 := by
    have h := Blk.new ((W.alloc (.cells #[.pointer (some ⟨B, 0, none⟩)] 35)).alloc (.cells #[.int .i64 0, .int .i64 0, .int .i64 0] 37)) #[.func (.func 109) #[] #[.pointer (some ⟨W.heap.size, 0, none⟩)]] 47
    rw [World.size_alloc, World.size_alloc] at h
    exact h.alloc _
  have bV : Blk ((((W.alloc (.cells #[.pointer (some ⟨B, 0, none⟩)] 35)).alloc (.cells #[.int .i64 0, .int .i64 0, .int .i64 0] 37)).alloc (.cells #[.func (.func 109) #[] #[.pointer (some ⟨W.heap.size, 0, none⟩)]] 47)).alloc (.cells #[.func (.func 110) #[] #[.pointer (some ⟨W.heap.size, 0, none⟩), .pointer (some ⟨W.heap.size + 2, 0, none⟩)]] 47)).drew (W.heap.size + 3) #[.func (.func 110) #[] #[.pointer (some ⟨W.heap.size, 0, none⟩), .pointer (some ⟨W.heap.size + 2, 0, none⟩)]] 47 := by
    have h := Blk.new (((W.alloc (.cells #[.pointer (some ⟨B, 0, none⟩)] 35)).alloc (.cells #[.int .i64 0, .int .i64 0, .int .i64 0] 37)).alloc (.cells #[.func (.func 109) #[] #[.pointer (some ⟨W.heap.size, 0, none⟩)]] 47)) #[.func (.func 110) #[] #[.pointer (some ⟨W.heap.size, 0, none⟩), .pointer (some ⟨W.heap.size + 2, 0, none⟩)]] 47
    rw [World.size_alloc, World.size_alloc, World.size_alloc] at h
    exact h
  obtain ⟨a0, a1, a2, a3, a4, a5, a6, a7, c0, c1, c2, c3, c4, c5, c6, c7, us, tb⟩ := h.tabs
  have hS : StF ((((W.alloc (.cells #[.pointer (some ⟨B, 0, none⟩)] 35)).alloc (.cells #[.int .i64 0, .int .i64 0, .int .i64 0] 37)).alloc (.cells #[.func (.func 109) #[] #[.pointer (some ⟨W.heap.size, 0, none⟩)]] 47)).alloc (.cells #[.func (.func 110) #[] #[.pointer (some ⟨W.heap.size, 0, none⟩), .pointer (some ⟨W.heap.size + 2, 0, none⟩)]] 47)).drew W.heap.size (W.heap.size + 1) B T a0 a1 a2 a3 a4 a5 a6 a7 c0 c1 c2 c3 c4 c5 c6 c7 us := ⟨⟨bB, h.below hB0⟩, bR, tb.below hB0⟩
  have hV : BkV ((((W.alloc (.cells #[.pointer (some ⟨B, 0, none⟩)] 35)).alloc (.cells #[.int .i64 0, .int .i64 0, .int .i64 0] 37)).alloc (.cells #[.func (.func 109) #[] #[.pointer (some ⟨W.heap.size, 0, none⟩)]] 47)).alloc (.cells #[.func (.func 110) #[] #[.pointer (some ⟨W.heap.size, 0, none⟩), .pointer (some ⟨W.heap.size + 2, 0, none⟩)]] 47)).drew W.heap.size (W.heap.size + 2) (W.heap.size + 3) B T := ⟨⟨hS.bp, bU⟩, bV⟩
  have HF : Hz (∀ w1, Below ((((W.alloc (.cells #[.pointer (some ⟨B, 0, none⟩)] 35)).alloc (.cells #[.int .i64 0, .int .i64 0, .int .i64 0] 37)).alloc (.cells #[.func (.func 109) #[] #[.pointer (some ⟨W.heap.size, 0, none⟩)]] 47)).alloc (.cells #[.func (.func 110) #[] #[.pointer (some ⟨W.heap.size, 0, none⟩), .pointer (some ⟨W.heap.size + 2, 0, none⟩)]] 47)).drew.heap.size ((((W.alloc (.cells #[.pointer (some ⟨B, 0, none⟩)] 35)).alloc (.cells #[.int .i64 0, .int .i64 0, .int .i64 0] 37)).alloc (.cells #[.func (.func 109) #[] #[.pointer (some ⟨W.heap.size, 0, none⟩)]] 47)).alloc (.cells #[.func (.func 110) #[] #[.pointer (some ⟨W.heap.size, 0, none⟩), .pointer (some ⟨W.heap.size + 2, 0, none⟩)]] 47)).drew w1 → StF w1 W.heap.size (W.heap.size + 1) B T a0 a1 a2 a3 a4 a5 a6 a7 c0 c1 c2 c3 c4 c5 c6 c7 us ∧ BkV w1 W.heap.size (W.heap.size + 2) (W.heap.size + 3) B T) := hide (fun w1 h => ⟨hS.below h, hV.below h⟩)
  have HB := hide hB0
  have HO := hide hO
  have HZ := hide hz
  clear hB0 bB bR bU bV h tb hS hV hO hz
  obtain ⟨x0, hx0⟩ : ∃ x, eachW 5 T.fo mp0 (fun x => if (runesL x.2).any (fun r => !plainB T r) then 35 else 0) = x := ⟨_, rfl⟩
  obtain ⟨x1, hx1⟩ : ∃ x, eachW 6 T.lk mp0 (fun x => if (runesL x.2).any (fun r => !plainB T r || fromB T.lk r) then 36 else 0) = x := ⟨_, rfl⟩
  have HOK : Hz (∀ x ∈ [x0, x1], OkW x) := hide (by
    intro x hx
    simp only [List.mem_cons, List.not_mem_nil, or_false] at hx
    rcases hx with rfl | rfl
    · rw [← hx0]; exact eachW_okW _ _ _ _
    · rw [← hx1]; exact eachW_okW _ _ _ _)
  have hfin : tosV T = orW [x0, x1] := by
    unfold tosV
    rw [hx0, hx1]
  rw [hfin]
  have HX0 := hide hx0
  have HX1 := hide hx1
  clear hfin hx0 hx1
  go_enter Tryz.func59, Tryz.ntmps59
  go_wp2_with fail
  generalize ((((W.alloc (.cells #[.pointer (some ⟨B, 0, none⟩)] 35)).alloc (.cells #[.int .i64 0, .int .i64 0, .int .i64 0] 37)).alloc (.cells #[.func (.func 109) #[] #[.pointer (some ⟨W.heap.size, 0, none⟩)]] 47)).alloc (.cells #[.func (.func 110) #[] #[.pointer (some ⟨W.heap.size, 0, none⟩), .pointer (some ⟨W.heap.size + 2, 0, none⟩)]] 47)) = w0 at *
  clear hmf
  refine wp_region_inv hmx 16 (by decide) (by kernel_rfl) (by kernel_rfl) (fun l a w => ∃ U : Nat → Value, a = { tmps := #[.pointer (some ⟨B, 0, none⟩), .pointer (some ⟨W.heap.size, 0, none⟩), .pointer (some ⟨W.heap.size + 1, 0, none⟩), .pointer (some ⟨W.heap.size + 2, 0, none⟩), .pointer (some ⟨W.heap.size + 3, 0, none⟩), .func (.func 109) #[] #[.pointer (some ⟨W.heap.size, 0, none⟩)], .func (.func 110) #[] #[.pointer (some ⟨W.heap.size, 0, none⟩), .pointer (some ⟨W.heap.size + 2, 0, none⟩)], U 0, U 1, U 2, U 3, U 4, U 5, U 6, U 7, U 8, U 9, U 10, U 11, U 12, U 13, U 14, U 15], defers := [] } ∧ RgJ (w0.drew) (w0.drew.heap.size) (utD W.heap.size B T a0 a1 a2 a3 a4 a5 a6 a7 c0 c1 c2 c3 c4 c5 c6 c7 x0 x1) utDM l U w) ⟨fun _ => undef, rfl, RgJ.start _ _ (Nat.le_refl _)⟩ ?_ ?_
  · rintro l a w i ⟨U, rfl, hJ⟩ hl hi hif
    have h0 := (mem_ready.1 hi).1
    have hlt := rg_lt hl h0
    have HJ := hide hJ
    clear hJ hl
    replace hlt : i < 17 := hlt
    obtain rfl | rfl | rfl | rfl | rfl | rfl | rfl | rfl | rfl | rfl | rfl | rfl | rfl | rfl | rfl | rfl : i = 0 ∨ i = 1 ∨ i = 2 ∨ i = 3 ∨ i = 4 ∨ i = 5 ∨ i = 6 ∨ i = 7 ∨ i = 8 ∨ i = 9 ∨ i = 10 ∨ i = 11 ∨ i = 12 ∨ i = 13 ∨ i = 14 ∨ i = 15 := by omega
    · refine wpOp_step rfl (fun K hK => ?_)
      clear hlt hif
      have q0 := (unhide HF w (unhide HJ).bel).1.bp.bb.cell 0
      go_simp
      exact hK _ _ ⟨slotPut U 0 _, rfl, (unhide HJ).put 0 _ h0 (Below.refl _ _) (utD_st (Below.refl _ _)) rfl utD_lt (fun h => absurd h (by decide))⟩
    · refine wpOp_step rfl (fun K hK => ?_)
      clear hlt hif
      have d0 : U 0 = .pointer (some ⟨B, 0, none⟩) := (unhide HJ).val 0 (rg_dep hi 0 (by kernel_rfl))
      go_simp
      exact hK _ _ ⟨slotPut U 1 _, (by rw [slotEq d0]; rfl), (unhide HJ).put 1 _ h0 (Below.refl _ _) (utD_st (Below.refl _ _)) rfl utD_lt (fun h => absurd h (by decide))⟩
    · refine wpOp_step rfl (fun K hK => ?_)
      clear hlt hif
      have d1 : U 1 = .pointer (some ⟨B, 0, none⟩) := (unhide HJ).val 1 (rg_dep hi 1 (by kernel_rfl))
      go_simp
      exact hK _ _ ⟨slotPut U 2 _, (by rw [slotEq d1]; rfl), (unhide HJ).put 2 _ h0 (Below.refl _ _) (utD_st (Below.refl _ _)) rfl utD_lt (fun h => absurd h (by decide))⟩
    · refine wpOp_step rfl (fun K hK => ?_)
      clear hlt hif
      have d2 : U 2 = .pointer (some ⟨B, 0, none⟩) := (unhide HJ).val 2 (rg_dep hi 2 (by kernel_rfl))
      go_simp
      exact hK _ _ ⟨slotPut U 3 _, (by rw [slotEq d2]; rfl), (unhide HJ).put 3 _ h0 (Below.refl _ _) (utD_st (Below.refl _ _)) rfl utD_lt (fun h => absurd h (by decide))⟩
    · refine wpOp_step rfl (fun K hK => ?_)
      clear hlt hif
      have d3 : U 3 = .pointer (some ⟨B, 4, none⟩) := (unhide HJ).val 3 (rg_dep hi 3 (by kernel_rfl))
      have q0 := (unhide HF w (unhide HJ).bel).1.tb.k4
      go_simp
      exact hK _ _ ⟨slotPut U 4 _, (by rw [slotEq d3]; rfl), (unhide HJ).put 4 _ h0 (Below.refl _ _) (utD_st (Below.refl _ _)) rfl utD_lt (fun h => absurd h (by decide))⟩
    · refine wpOp_step rfl (fun K hK => ?_)
      clear hlt hif
      have hmf := unhide HMF
      go_simp
      exact hK _ _ ⟨slotPut U 5 _, rfl, (unhide HJ).put 5 _ h0 (Below.refl _ _) (utD_st (Below.refl _ _)) rfl utD_lt (fun h => absurd h (by decide))⟩
    · refine wpOp_step rfl (fun K hK => ?_)
      clear hlt hif
      have d4 : U 4 = .slice a4 T.fo.length c4 := (unhide HJ).val 4 (rg_dep hi 4 (by kernel_rfl))
      have d5 : U 5 = .func (.func 111) #[] #[.pointer (some ⟨W.heap.size + 2, 0, none⟩)] := (unhide HJ).val 5 (rg_dep hi 5 (by kernel_rfl))
      have hf := unhide HF w (unhide HJ).bel
      go_simp
      refine (frJ_Map T.fo (by have := (unhide HO).l4; omega) 5 (fun x => if (runesL x.2).any (fun r => !plainB T r) then 35 else 0) 111 #[.pointer (some ⟨W.heap.size + 2, 0, none⟩)] (enters_of Tryz.func111 (by kernel_rfl) rfl) (fun w => BkU w W.heap.size (W.heap.size + 2) B T) (fun _ _ h hb => h.below hb) (fun x hx w hw => bkTos3_any (unhide HO) W.heap.size (W.heap.size + 2) B x.1 x.2 ((unhide HZ).1 x hx) (toB_size ((unhide HO).f4 x hx).2) (fun r hr => runes_32 r hr) w hw) a4 c4 w hf.2.bu hf.1.tb.ti.r4).mono ?_
      rw [unhide HX0]
      rintro e w' ⟨rfl, hb⟩
      exact hK _ _ ⟨slotPut U 6 _, (by rw [slotEq d4, slotEq d5]; rfl), (unhide HJ).put 6 _ h0 hb (utD_st hb) rfl utD_lt (fun h => absurd h (by decide))⟩
    · refine wpOp_step rfl (fun K hK => ?_)
      clear hlt hif
      have q0 := (unhide HF w (unhide HJ).bel).1.bp.bb.cell 0
      go_simp
      exact hK _ _ ⟨slotPut U 7 _, rfl, (unhide HJ).put 7 _ h0 (Below.refl _ _) (utD_st (Below.refl _ _)) rfl utD_lt (fun h => absurd h (by decide))⟩
    · refine wpOp_step rfl (fun K hK => ?_)
      clear hlt hif
      have d7 : U 7 = .pointer (some ⟨B, 0, none⟩) := (unhide HJ).val 7 (rg_dep hi 7 (by kernel_rfl))
      go_simp
      exact hK _ _ ⟨slotPut U 8 _, (by rw [slotEq d7]; rfl), (unhide HJ).put 8 _ h0 (Below.refl _ _) (utD_st (Below.refl _ _)) rfl utD_lt (fun h => absurd h (by decide))⟩
    · refine wpOp_step rfl (fun K hK => ?_)
      clear hlt hif
      have d8 : U 8 = .pointer (some ⟨B, 0, none⟩) := (unhide HJ).val 8 (rg_dep hi 8 (by kernel_rfl))
      go_simp
      exact hK _ _ ⟨slotPut U 9 _, (by rw [slotEq d8]; rfl), (unhide HJ).put 9 _ h0 (Below.refl _ _) (utD_st (Below.refl _ _)) rfl utD_lt (fun h => absurd h (by decide))⟩
    · refine wpOp_step rfl (fun K hK => ?_)
      clear hlt hif
      have d9 : U 9 = .pointer (some ⟨B, 0, none⟩) := (unhide HJ).val 9 (rg_dep hi 9 (by kernel_rfl))
      go_simp
      exact hK _ _ ⟨slotPut U 10 _, (by rw [slotEq d9]; rfl), (unhide HJ).put 10 _ h0 (Below.refl _ _) (utD_st (Below.refl _ _)) rfl utD_lt (fun h => absurd h (by decide))⟩
    · refine wpOp_step rfl (fun K hK => ?_)
      clear hlt hif
      have d10 : U 10 = .pointer (some ⟨B, 5, none⟩) := (unhide HJ).val 10 (rg_dep hi 10 (by kernel_rfl))
      have q0 := (unhide HF w (unhide HJ).bel).1.tb.k5
      go_simp
      exact hK _ _ ⟨slotPut U 11 _, (by rw [slotEq d10]; rfl), (unhide HJ).put 11 _ h0 (Below.refl _ _) (utD_st (Below.refl _ _)) rfl utD_lt (fun h => absurd h (by decide))⟩
    · refine wpOp_step rfl (fun K hK => ?_)
      clear hlt hif
      have hmf := unhide HMF
      go_simp
      exact hK _ _ ⟨slotPut U 12 _, rfl, (unhide HJ).put 12 _ h0 (Below.refl _ _) (utD_st (Below.refl _ _)) rfl utD_lt (fun h => absurd h (by decide))⟩
    · refine wpOp_step rfl (fun K hK => ?_)
      clear hlt hif
      have d11 : U 11 = .slice a5 T.lk.length c5 := (unhide HJ).val 11 (rg_dep hi 11 (by kernel_rfl))
      have d12 : U 12 = .func (.func 113) #[] #[.pointer (some ⟨W.heap.size + 3, 0, none⟩)] := (unhide HJ).val 12 (rg_dep hi 12 (by kernel_rfl))
      have hf := unhide HF w (unhide HJ).bel
      go_simp
      refine (frJ_Map T.lk (by have := (unhide HO).l5; omega) 6 (fun x => if (runesL x.2).any (fun r => !plainB T r || fromB T.lk r) then 36 else 0) 113 #[.pointer (some ⟨W.heap.size + 3, 0, none⟩)] (enters_of Tryz.func113 (by kernel_rfl) rfl) (fun w => BkV w W.heap.size (W.heap.size + 2) (W.heap.size + 3) B T) (fun _ _ h hb => h.below hb) (fun x hx w hw => bkTos4_any (unhide HO) W.heap.size (W.heap.size + 2) (W.heap.size + 3) B x.1 x.2 ((unhide HZ).2 x hx) (toB_size ((unhide HO).f5 x hx).2) (fun r hr => runes_32 r hr) w hw) a5 c5 w hf.2 hf.1.tb.ti.r5).mono ?_
      rw [unhide HX1]
      rintro e w' ⟨rfl, hb⟩
      exact hK _ _ ⟨slotPut U 13 _, (by rw [slotEq d11, slotEq d12]; rfl), (unhide HJ).put 13 _ h0 hb (utD_st hb) rfl utD_lt (fun h => absurd h (by decide))⟩
    · refine wpOp_step rfl (fun K hK => ?_)
      clear hlt hif
      have d6 : U 6 = wrV x0 := (unhide HJ).val 6 (rg_dep hi 6 (by kernel_rfl))
      have d13 : U 13 = wrV x1 := (unhide HJ).val 13 (rg_dep hi 13 (by kernel_rfl))
      unfold wrV at d6 d13
      go_simp
      exact hK _ _ ⟨slotPut U 14 _, (by rw [slotEq d6, slotEq d13]; rfl), (unhide HJ).put 14 _ h0 ((Below.refl _ _).alloc (Nat.le_refl _) _) (utD_st ((Below.refl _ _).alloc (Nat.le_refl _) _)) ⟨_, rfl, by simp, rwW_alloc w _ [x0, x1] _ _ rfl rfl⟩ utD_lt (fun h => absurd h (by decide))⟩
    · refine wpOp_step rfl (fun K hK => ?_)
      clear hlt hif
      obtain ⟨g14, d14, l14, h14⟩ := (unhide HJ).val 14 (rg_dep hi 14 (by kernel_rfl))
      go_simp
      refine (orWrong_any [x0, x1] (by simp) (unhide HOK) _ 0 _ _ l14 h14).mono ?_
      rintro e w' ⟨rfl, hb⟩
      exact hK _ _ ⟨slotPut U 15 _, (by rw [slotEq d14]; rfl), (unhide HJ).put 15 _ h0 hb (utD_st hb) rfl utD_lt (fun h => absurd h (by decide))⟩
  · rintro l a w ⟨U, rfl, hJ⟩ hall
    have d15 : U 15 = wrV (orW [x0, x1]) := hJ.val 15 (hall 15 (by decide) (by decide))
    have HBJ := hide (And.intro ((unhide HB).trans (hJ.bel.mono (unhide HB).size)) (unhide HF w hJ.bel).1.rs)
    clear hJ hall
    refine wpOp_step rfl (fun K hK => ?_)
    obtain ⟨y, hy⟩ : ∃ y, orW [x0, x1] = y := ⟨_, rfl⟩
    rw [hy] at d15
    have HY := hide hy
    clear hy
    obtain ⟨y0, y1, y2⟩ := y
    unfold wrV at d15
    have r0 := (unhide HBJ).2.cell 0
    have f0 := (unhide HBJ).2.frozen 0
    have r1 := (unhide HBJ).2.cell 1
    have f1 := (unhide HBJ).2.frozen 1
    have r2 := (unhide HBJ).2.cell 2
    have f2 := (unhide HBJ).2.frozen 2
    go_simp
    refine hK _ _ ?_
    clear hK
    go_wp2_with fail
    exact bodyPost_ret (v := wrV (y0, y1, y2)) (ret3 Tryz.results59 rfl (blk3 (unhide HBJ).2 _ _ _) rfl) rfl ⟨by rw [unhide HY], below3 (unhide HBJ).1 (by omega) (unhide HBJ).1.size _ _ _⟩
end Go.Proofs.YtnnbaodillnkkaaGreat
