/- Texts of this claim, one behind the other. -/
import Derived.Test.YtnnbaodillnkkaaGreatM9
import Derived.Deep.RegionHeld3
import Derived.Laws.EntriesVeiled
/- Which tables are right: pairs that are there twice. -/
namespace Go.Proofs.YtnnbaodillnkkaaGreat
open Go.RowKit Go.Shelf Go.Maps
set_option linter.unusedVariables false
theorem kept_grown {M : Nat} {w w' : World} (h : KeptX (fun b => b = M) w w') : w.grownBy w' (some M) := ⟨h.os, h.tape, h.output, h.size, fun k hk hne => h.block k hk (fun e => hne (by rw [e]))⟩
theorem AgAt.kept {w w' : World} {KB SB M kf n N : Nat} {ft mt kt : TypeId} {S : Lit → Prop} (h : AgAt w KB SB M kf n ft mt kt S) (hg : w.grownBy w' (some N)) (h1 : KB ≠ N) (h2 : SB ≠ N) (h3 : M ≠ N) : AgAt w' KB SB M kf n ft mt kt S :=
  ⟨h.kb.kept hg (fun e => h1 (Option.some.inj e)), h.sb.kept hg (fun e => h2 (Option.some.inj e)), h.se.kept hg (fun e => h3 (Option.some.inj e)), h.ks, h.ss⟩
theorem typesPos : ∃ m, Tryz.prog.types.size = m + 1 := ⟨Tryz.prog.types.size - 1, by kernel_rfl⟩
theorem keyBytes_pair {a b c d : Int} (ha : R32 a) (hb : R32 b) (hc : R32 c) (hd : R32 d) (h : keyBytes [Lit.int .i32 a, Lit.int .i32 b] = keyBytes [Lit.int .i32 c, Lit.int .i32 d]) : a = c ∧ b = d := by
  have k1 := WideMaps.keyOf_pair arrK Tryz.underlying21 typesPos (wf32 ha) (wf32 hb)
  have k2 := WideMaps.keyOf_pair arrK Tryz.underlying21 typesPos (wf32 hc) (wf32 hd)
  rw [← h] at k2
  have := arr_keyed.inj k1 k2
  simpa using this
structure PrS (w : World) (WB PB KB1 SB1 M1 KB2 SB2 M2 : Nat) (zs : List (Int × Int × Int)) (i j : Nat) : Prop where
  wb : Blk w WB #[.func (.func 142) #[] #[.pointer (some ⟨KB1, 0, none⟩), .pointer (some ⟨SB1, 0, none⟩)]] 121
  pb : Blk w PB #[.func (.func 143) #[] #[.pointer (some ⟨KB2, 0, none⟩), .pointer (some ⟨SB2, 0, none⟩)]] 121
  a1 : AgAt w KB1 SB1 M1 83 i 125 168 21 (SeenL (fun x : Int × Int × Int => Lit.int .i32 x.1) zs i)
  a2 : AgAt w KB2 SB2 M2 85 j 127 171 85 (SeenL (fun x : Int × Int × Int => Lit.string (keyBytes [.int .i32 x.2.1, .int .i32 x.2.2])) zs j)
  ne : WB ≠ M1 ∧ WB ≠ M2 ∧ PB ≠ M1 ∧ PB ≠ M2 ∧ KB1 ≠ M2 ∧ SB1 ≠ M2 ∧ KB2 ≠ M1 ∧ SB2 ≠ M1 ∧ M1 ≠ M2
theorem PrS.below {w w' : World} {WB PB KB1 SB1 M1 KB2 SB2 M2 : Nat} {zs : List (Int × Int × Int)} {i j : Nat} (h : PrS w WB PB KB1 SB1 M1 KB2 SB2 M2 zs i j) (hb : Below w.heap.size w w') : PrS w' WB PB KB1 SB1 M1 KB2 SB2 M2 zs i j := ⟨h.wb.below hb h.wb.lt, h.pb.below hb h.pb.lt, h.a1.below hb, h.a2.below hb, h.ne⟩
theorem orE_tw (b1 b2 : Bool) : orE [if b1 = true then 14 else 0, if b2 = true then 14 else 0] = if (b1 || b2) = true then 14 else 0 := by
  cases b1 <;> cases b2 <;> rfl
theorem twP_of {zs : List (Int × Int × Int)} {i : Nat} {x : Int × Int × Int} {b1 b2 : Bool} (hx : zs[i]? = some x) (hd : ∀ x ∈ zs, R32 x.1 ∧ R32 x.2.1 ∧ R32 x.2.2) (h1 : b1 = true ↔ SeenL (fun x : Int × Int × Int => Lit.int .i32 x.1) zs i ((fun x : Int × Int × Int => Lit.int .i32 x.1) x)) (h2 : b2 = true ↔ SeenL (fun x : Int × Int × Int => Lit.string (keyBytes [.int .i32 x.2.1, .int .i32 x.2.2])) zs i ((fun x : Int × Int × Int => Lit.string (keyBytes [.int .i32 x.2.1, .int .i32 x.2.2])) x)) : (if (b1 || b2) = true then (14 : Int) else 0) = twP zs i := by
  unfold twP
  rw [getD_of pr0 hx]
  have hm := hd x (List.mem_of_getElem? hx)
  have e : (b1 || b2) = (zs.take i).any (fun y => decide (y.1 = x.1 ∨ (y.2.1 = x.2.1 ∧ y.2.2 = x.2.2))) := by
    rw [Bool.eq_iff_iff, Bool.or_eq_true, h1, h2, List.any_eq_true]
    constructor
    · rintro (⟨y, hy, hl⟩ | ⟨y, hy, hl⟩)
      · exact ⟨y, hy, by simp at hl; simp [hl]⟩
      · have hym := hd y (List.mem_of_mem_take hy)
        have hl2 : keyBytes [.int .i32 y.2.1, .int .i32 y.2.2] = keyBytes [.int .i32 x.2.1, .int .i32 x.2.2] := by injection hl
        have := keyBytes_pair hym.2.1 hym.2.2 hm.2.1 hm.2.2 hl2
        exact ⟨y, hy, by simp [this.1, this.2]⟩
    · rintro ⟨y, hy, hk⟩
      rcases of_decide_eq_true hk with h | ⟨ha, hb⟩
      · exact .inl ⟨y, hy, by show Lit.int .i32 y.1 = Lit.int .i32 x.1; rw [h]⟩
      · exact .inr ⟨y, hy, by show Lit.string _ = Lit.string _; rw [ha, hb]⟩
  rw [e]
set_option maxRecDepth 100000 in
set_option maxHeartbeats 4000000 in
theorem twice6_any (x1 x2 x3 : Int) (zs : List (Int × Int × Int)) (i : Nat) (hi : i ≤ 1000000) (hx : zs[i]? = some (x1, x2, x3)) (hd : ∀ x ∈ zs, R32 x.1 ∧ R32 x.2.1 ∧ R32 x.2.2) (WB PB KB1 SB1 M1 KB2 SB2 M2 : Nat) (W : World) (hP : PrS W WB PB KB1 SB1 M1 KB2 SB2 M2 zs i i) :
    Calls Tryz.prog 91 #[.agg #[.int .i32 x1, .int .i32 x2, .int .i32 x3], .pointer (some ⟨WB, 0, none⟩), .pointer (some ⟨PB, 0, none⟩)] W fun e w' => e = .returned (.int .i64 (twP zs i)) ∧ PrS w' WB PB KB1 SB1 M1 KB2 SB2 M2 zs (i + 1) (i + 1) ∧ KeptX (fun b => b = M1 ∨ b = M2) W w' := by
  have hB0 : Below W.heap.size W (W.alloc (.cells #[.int .i32 x1, .int .i32 x2, .int .i32 x3] 56)).drew := ((Below.refl _ W).alloc (Nat.le_refl _) _).trans ⟨rfl, rfl, rfl, Nat.le_refl _, fun _ _ => rfl⟩
  have bX : Blk (W.alloc (.cells #[.int .i32 x1, .int .i32 x2, .int .i32 x3] 56)).drew W.heap.size #[.int .i32 x1, .int .i32 x2, .int .i32 x3] 56 := Blk.new W #[.int .i32 x1, .int .i32 x2, .int .i32 x3] 56
  have H0 := hide (And.intro (hP.below hB0) (And.intro bX hB0))
  have hm := hd _ (List.mem_of_getElem? hx)
  have HL := hide (And.intro hm.1 (And.intro hm.2.1 hm.2.2))
  have HT : Hz (∀ b1 b2 : Bool, (b1 = true ↔ SeenL (fun x : Int × Int × Int => Lit.int .i32 x.1) zs i (Lit.int .i32 x1)) → (b2 = true ↔ SeenL (fun x : Int × Int × Int => Lit.string (keyBytes [.int .i32 x.2.1, .int .i32 x.2.2])) zs i (Lit.string (keyBytes [.int .i32 x2, .int .i32 x3]))) → orE [if b1 = true then 14 else 0, if b2 = true then 14 else 0] = twP zs i) := hide (fun b1 b2 h1 h2 => by rw [orE_tw]; exact twP_of hx hd h1 h2)
  have HS1 := hide (seenL_succ (fun x : Int × Int × Int => Lit.int .i32 x.1) zs i _ hx)
  have HS2 := hide (seenL_succ (fun x : Int × Int × Int => Lit.string (keyBytes [.int .i32 x.2.1, .int .i32 x.2.2])) zs i _ hx)
  have HNM : Hz (M1 < W.heap.size ∧ M2 < W.heap.size) := hide ⟨hP.a1.se.lt, hP.a2.se.lt⟩
  have z0 : (W.alloc (.cells #[.int .i32 x1, .int .i32 x2, .int .i32 x3] 56)).drew.cell? ⟨WB, 0, none⟩ = some (.func (.func 142) #[] #[.pointer (some ⟨KB1, 0, none⟩), .pointer (some ⟨SB1, 0, none⟩)]) := (unhide H0).1.wb.cell 0
  have z1 : (W.alloc (.cells #[.int .i32 x1, .int .i32 x2, .int .i32 x3] 56)).drew.cell? ⟨PB, 0, none⟩ = some (.func (.func 143) #[] #[.pointer (some ⟨KB2, 0, none⟩), .pointer (some ⟨SB2, 0, none⟩)]) := (unhide H0).1.pb.cell 0
  have z2 : (W.alloc (.cells #[.int .i32 x1, .int .i32 x2, .int .i32 x3] 56)).drew.cell? ⟨W.heap.size, 0, none⟩ = some (.int .i32 x1) := (unhide H0).2.1.cell 0
  have z3 : (W.alloc (.cells #[.int .i32 x1, .int .i32 x2, .int .i32 x3] 56)).drew.cell? ⟨W.heap.size, 1, none⟩ = some (.int .i32 x2) := (unhide H0).2.1.cell 1
  have z4 : (W.alloc (.cells #[.int .i32 x1, .int .i32 x2, .int .i32 x3] 56)).drew.cell? ⟨W.heap.size, 2, none⟩ = some (.int .i32 x3) := (unhide H0).2.1.cell 2
  clear hB0 bX hP hx hd hm
  go_enter Tryz.func91, Tryz.ntmps91
  go_wp2_with fail
  generalize W.alloc (.cells #[.int .i32 x1, .int .i32 x2, .int .i32 x3] 56) = w0 at *
  go_region_held3 (fun w' => w'.cell? ⟨WB, 0, none⟩ = some (.func (.func 142) #[] #[.pointer (some ⟨KB1, 0, none⟩), .pointer (some ⟨SB1, 0, none⟩)]) ∧ w'.cell? ⟨PB, 0, none⟩ = some (.func (.func 143) #[] #[.pointer (some ⟨KB2, 0, none⟩), .pointer (some ⟨SB2, 0, none⟩)]) ∧ w'.cell? ⟨W.heap.size, 0, none⟩ = some (.int .i32 x1) ∧ w'.cell? ⟨W.heap.size, 1, none⟩ = some (.int .i32 x2) ∧ w'.cell? ⟨W.heap.size, 2, none⟩ = some (.int .i32 x3)) (first | with_reducible exact ⟨z0, z1, z2, z3, z4⟩ | with_reducible exact ⟨y0, y1, y2, y3, y4⟩ | with_reducible exact ⟨t0, t1, t2, t3, t4⟩ | with_reducible exact ⟨alloc_cell _ t0, alloc_cell _ t1, alloc_cell _ t2, alloc_cell _ t3, alloc_cell _ t4⟩)
    (first
    | (go_at_call 92; refine (orErrno_any [zz1, zz2] (by simp) _ 0 _ _ (two_err _ _ _ _ _ (by first | rfl | simp))).mono ?_; rintro e w4 ⟨rfl, rfl⟩)
    | (go_at_call 143; refine (again_PairP x1 x2 x3 (Lit.string (keyBytes [.int .i32 x2, .int .i32 x3])) (WideMaps.keyOf_pair arrK Tryz.underlying21 typesPos (wf32 (unhide HL).2.1) (wf32 (unhide HL).2.2)) trivial KB2 SB2 M2 i hi _ wa (unhide HA).1.a2).mono ?_; rintro e wb ⟨⟨b2, he2, hb2⟩, h1, h2⟩; obtain ⟨zz2, hz2⟩ : ∃ z : Int, (if b2 = true then 14 else 0) = z := ⟨_, rfl⟩; rw [hz2] at he2; subst he2; have HB := hide (And.intro (show PrS wb WB PB KB1 SB1 M1 KB2 SB2 M2 zs (i + 1) (i + 1) from ⟨(unhide HA).1.wb.kept (kept_grown h2) (fun e => (unhide HA).1.ne.2.1 (Option.some.inj e)), (unhide HA).1.pb.kept (kept_grown h2) (fun e => (unhide HA).1.ne.2.2.2.1 (Option.some.inj e)), (unhide HA).1.a1.kept (kept_grown h2) (unhide HA).1.ne.2.2.2.2.1 (unhide HA).1.ne.2.2.2.2.2.1 (unhide HA).1.ne.2.2.2.2.2.2.2.2, (by rw [unhide HS2]; exact h1), (unhide HA).1.ne⟩) (And.intro ((unhide HA).2.1.kept (kept_grown h2) (fun e => by have := Option.some.inj e; have := (unhide HNM).2; omega)) (And.intro ((unhide HA).2.2.1.trans (h2.mono (fun k q => .inr q))) (And.intro (unhide HA).2.2.2 (And.intro hz2 hb2))))); have t0 : wb.cell? ⟨WB, 0, none⟩ = some (.func (.func 142) #[] #[.pointer (some ⟨KB1, 0, none⟩), .pointer (some ⟨SB1, 0, none⟩)]) := (unhide HB).1.wb.cell 0; have t1 : wb.cell? ⟨PB, 0, none⟩ = some (.func (.func 143) #[] #[.pointer (some ⟨KB2, 0, none⟩), .pointer (some ⟨SB2, 0, none⟩)]) := (unhide HB).1.pb.cell 0; have t2 : wb.cell? ⟨W.heap.size, 0, none⟩ = some (.int .i32 x1) := (unhide HB).2.1.cell 0; have t3 : wb.cell? ⟨W.heap.size, 1, none⟩ = some (.int .i32 x2) := (unhide HB).2.1.cell 1; have t4 : wb.cell? ⟨W.heap.size, 2, none⟩ = some (.int .i32 x3) := (unhide HB).2.1.cell 2; clear h1 h2 hb2 hz2)
    | (go_at_call 142; refine (again_PairW x1 x2 x3 (Lit.int .i32 x1) (keyOf_int_mk Tryz.underlying21 (wf32 (unhide HL).1)) trivial KB1 SB1 M1 i hi _ w0.drew (unhide H0).1.a1).mono ?_; rintro e wa ⟨⟨b1, he1, hb1⟩, h1, h2⟩; obtain ⟨zz1, hz1⟩ : ∃ z : Int, (if b1 = true then 14 else 0) = z := ⟨_, rfl⟩; rw [hz1] at he1; subst he1; have HA := hide (And.intro (show PrS wa WB PB KB1 SB1 M1 KB2 SB2 M2 zs (i + 1) i from ⟨(unhide H0).1.wb.kept (kept_grown h2) (fun e => (unhide H0).1.ne.1 (Option.some.inj e)), (unhide H0).1.pb.kept (kept_grown h2) (fun e => (unhide H0).1.ne.2.2.1 (Option.some.inj e)), (by rw [unhide HS1]; exact h1), (unhide H0).1.a2.kept (kept_grown h2) (unhide H0).1.ne.2.2.2.2.2.2.1 (unhide H0).1.ne.2.2.2.2.2.2.2.1 (fun e => (unhide H0).1.ne.2.2.2.2.2.2.2.2 e.symm), (unhide H0).1.ne⟩) (And.intro ((unhide H0).2.1.kept (kept_grown h2) (fun e => by have := Option.some.inj e; have := (unhide HNM).1; omega)) (And.intro ((keptX_of (unhide H0).2.2 (fun b => b = M1 ∨ b = M2)).trans (h2.mono (fun k q => .inl q))) (And.intro hz1 hb1)))); have y0 : wa.cell? ⟨WB, 0, none⟩ = some (.func (.func 142) #[] #[.pointer (some ⟨KB1, 0, none⟩), .pointer (some ⟨SB1, 0, none⟩)]) := (unhide HA).1.wb.cell 0; have y1 : wa.cell? ⟨PB, 0, none⟩ = some (.func (.func 143) #[] #[.pointer (some ⟨KB2, 0, none⟩), .pointer (some ⟨SB2, 0, none⟩)]) := (unhide HA).1.pb.cell 0; have y2 : wa.cell? ⟨W.heap.size, 0, none⟩ = some (.int .i32 x1) := (unhide HA).2.1.cell 0; have y3 : wa.cell? ⟨W.heap.size, 1, none⟩ = some (.int .i32 x2) := (unhide HA).2.1.cell 1; have y4 : wa.cell? ⟨W.heap.size, 2, none⟩ = some (.int .i32 x3) := (unhide HA).2.1.cell 2; clear h1 h2 hb1 hz1))
  all_goals
    go_wp2_with fail
    go_ret
    have hB := unhide HB
    refine ⟨?_, hB.1.below ((Below.refl _ wb).alloc (Nat.le_refl _) _), hB.2.2.1.trans (keptX_of ((Below.refl _ wb).alloc (Nat.le_refl _) _) _)⟩
    rw [← unhide HT b1 b2 hB.2.2.2.1.2 hB.2.2.2.2.2, hB.2.2.2.1.1, hB.2.2.2.2.1]
    rfl
theorem ent_tw6 : ∀ args w, (callFunc 91 args).run Tryz.prog w = .ok (.enter 91 args) w := enters_of Tryz.func91 (by kernel_rfl) rfl
theorem tw_Pair (zs : List (Int × Int × Int)) (hn : zs.length ≤ 1000000) (hd : ∀ x ∈ zs, R32 x.1 ∧ R32 x.2.1 ∧ R32 x.2.2) (a : Option Addr) (c lo : Nat) (W : World) (WB PB KB1 SB1 M1 KB2 SB2 M2 : Nat) (hr : RowC W lo a (encP3 zs)) (h : PrS W WB PB KB1 SB1 M1 KB2 SB2 M2 zs 0 0) (hlo : lo ≤ W.heap.size) (hm : lo ≤ M1 ∧ lo ≤ M2) :
    Calls Tryz.prog 78 #[.int .i64 4, .slice a zs.length c, .func (.func 91) #[] #[.pointer (some ⟨WB, 0, none⟩), .pointer (some ⟨PB, 0, none⟩)]] W fun e w' => e = .returned (wrV (rowsW 4 zs.length (twP zs))) ∧ KeptX (fun b => b = M1 ∨ b = M2) W w' :=
  firstRow_Pair 4 zs hn a c 91 _ ent_tw6 (twP zs) (fun b => b = M1 ∨ b = M2) (fun i w => PrS w WB PB KB1 SB1 M1 KB2 SB2 M2 zs i i) lo W hlo (fun b hb => by
    rcases hb with rfl | rfl
    · exact ⟨hm.1, h.a1.se.lt⟩
    · exact ⟨hm.2, h.a2.se.lt⟩) hr h (fun i w w' hJ hb => hJ.below hb) (fun i x w hx hk hJ => twice6_any x.1 x.2.1 x.2.2 zs i (by have := (List.getElem?_eq_some_iff.1 hx).1; omega) hx hd WB PB KB1 SB1 M1 KB2 SB2 M2 w hJ)
structure TwS (W w : World) (T : TV) (a0 a1 a2 a3 a4 a5 a6 a7 : Option Addr) (c0 c1 c2 c3 c4 c5 c6 c7 : Nat) : Prop where
  bl : Below W.heap.size W w
  bx : Blk w W.heap.size #[.slice a0 T.sc.length c0, .slice a1 T.co.length c1, .slice a2 T.ma.length c2, .slice a3 T.pr.length c3, .slice a4 T.fo.length c4, .slice a5 T.lk.length c5, .slice a6 T.dr.length c6, .slice a7 T.al.length c7] 32
  rs : Blk w (W.heap.size + 1) #[.int .i64 0, .int .i64 0, .int .i64 0] 37
theorem TwS.below {W w w' : World} {T : TV} {a0 a1 a2 a3 a4 a5 a6 a7 : Option Addr} {c0 c1 c2 c3 c4 c5 c6 c7 : Nat} (h : TwS W w T a0 a1 a2 a3 a4 a5 a6 a7 c0 c1 c2 c3 c4 c5 c6 c7) (hb : Below w.heap.size w w') : TwS W w' T a0 a1 a2 a3 a4 a5 a6 a7 c0 c1 c2 c3 c4 c5 c6 c7 :=
  ⟨h.bl.trans (hb.mono h.bl.size), h.bx.below hb h.bx.lt, h.rs.below hb h.rs.lt⟩
theorem TwS.keptX {W w w' : World} {T : TV} {a0 a1 a2 a3 a4 a5 a6 a7 : Option Addr} {c0 c1 c2 c3 c4 c5 c6 c7 : Nat} {X : Nat → Prop} (h : TwS W w T a0 a1 a2 a3 a4 a5 a6 a7 c0 c1 c2 c3 c4 c5 c6 c7) (hk : KeptX X w w') (hX : ∀ b, X b → W.heap.size + 2 ≤ b) : TwS W w' T a0 a1 a2 a3 a4 a5 a6 a7 c0 c1 c2 c3 c4 c5 c6 c7 :=
  ⟨h.bl.trans ⟨hk.os, hk.tape, hk.output, hk.size, fun k h1 => hk.block k (Nat.lt_of_lt_of_le h1 h.bl.size) (fun q => by have := hX k q; omega)⟩, hk.blk h.bx (fun q => by have := hX _ q; omega), hk.blk h.rs (fun q => by have := hX _ q; omega)⟩
theorem below_new {w a b : World} {M : Nat} (h : Below w.heap.size w a) (hk : KeptX (fun b => b = M) a b) (hM : w.heap.size ≤ M) : Below w.heap.size w b :=
  h.trans ⟨hk.os, hk.tape, hk.output, hk.size, fun k h1 => hk.block k (Nat.lt_of_lt_of_le h1 h.size) (fun q => by have : k = M := q; omega)⟩
theorem c_Script {T : TV} {a0 a1 a2 a3 a4 a5 a6 a7 : Option Addr} {us : List Value} {W w v : World} (hT : TabIn W T a0 a1 a2 a3 a4 a5 a6 a7 us) (hO : TabOk T) (bl : Below W.heap.size W w) (c : Nat) {f : Value} {KB SB M : Nat} (hn : AgNew w v 144 88 130 172 9 f KB SB M) (hb : Below w.heap.size w v) {p q s : Int} (hx : rowsW 1 T.sc.length (twF T.sc sc0 (fun x => x.1.data.toList)) = (p, q, s)) :
    Calls Tryz.prog 71 #[.int .i64 1, .slice a0 T.sc.length c, f] v fun e v2 => e = .returned (.agg #[.int .i64 p, .int .i64 q, .int .i64 s]) ∧ Below w.heap.size w v2 :=
  (tw_Script T.sc us hT.lu hO.n0 (fun x hx => (hO.z0 x hx).1) a0 c w.heap.size w v f KB SB M (Nat.le_refl _) hb.size (hT.r0.below (bl.trans (hb.mono bl.size)) bl.size) hn (ScR.below hT.rs (bl.trans (hb.mono bl.size)))).mono (fun e v2 ⟨he, hk⟩ => ⟨by rw [he, hx]; rfl, below_new hb hk hn.mb⟩)
theorem c_Mark {T : TV} {a0 a1 a2 a3 a4 a5 a6 a7 : Option Addr} {us : List Value} {W w v : World} (hT : TabIn W T a0 a1 a2 a3 a4 a5 a6 a7 us) (hO : TabOk T) (hI : TabI T) (bl : Below W.heap.size W w) (c : Nat) {f : Value} {KB SB M : Nat} (hn : AgNew w v 145 90 132 168 21 f KB SB M) (hb : Below w.heap.size w v) {p q s : Int} (hx : rowsW 3 T.ma.length (twF T.ma ma0 (fun x => x.1)) = (p, q, s)) :
    Calls Tryz.prog 76 #[.int .i64 3, .slice a2 T.ma.length c, f] v fun e v2 => e = .returned (.agg #[.int .i64 p, .int .i64 q, .int .i64 s]) ∧ Below w.heap.size w v2 :=
  (tw_Mark T.ma hO.n2 hI.ma a2 c w.heap.size w v f KB SB M (Nat.le_refl _) hb.size (hT.r2.below (bl.trans (hb.mono bl.size)) bl.size) hn).mono (fun e v2 ⟨he, hk⟩ => ⟨by rw [he, hx]; rfl, below_new hb hk hn.mb⟩)
theorem c_Map {W w v : World} (list : Int) {zs : List (Int × ByteArray)} {a : Option Addr} (hn0 : zs.length ≤ 1000000) (hd : ∀ x ∈ zs, R32 x.1) (hr : RowC W W.heap.size a (encF2 zs)) (bl : Below W.heap.size W w) (c : Nat) {f : Value} {KB SB M : Nat} (hn : AgNew w v 146 86 128 168 21 f KB SB M) (hb : Below w.heap.size w v) {p q s : Int} (hx : rowsW list zs.length (twF zs mp0 (fun x => x.1)) = (p, q, s)) :
    Calls Tryz.prog 80 #[.int .i64 list, .slice a zs.length c, f] v fun e v2 => e = .returned (.agg #[.int .i64 p, .int .i64 q, .int .i64 s]) ∧ Below w.heap.size w v2 :=
  (tw_Map list zs hn0 hd a c w.heap.size w v f KB SB M (Nat.le_refl _) hb.size (hr.below (bl.trans (hb.mono bl.size)) bl.size) hn).mono (fun e v2 ⟨he, hk⟩ => ⟨by rw [he, hx]; rfl, below_new hb hk hn.mb⟩)
theorem c_Pair {T : TV} {a0 a1 a2 a3 a4 a5 a6 a7 : Option Addr} {c0 c1 c2 c3 c4 c5 c6 c7 : Nat} {us : List Value} {W w : World} (hT : TabIn W T a0 a1 a2 a3 a4 a5 a6 a7 us) (hO : TabOk T) (hI : TabI T) (h : TwS W w T a0 a1 a2 a3 a4 a5 a6 a7 c0 c1 c2 c3 c4 c5 c6 c7) {WB PB KB1 SB1 M1 KB2 SB2 M2 : Nat} (hP : PrS w WB PB KB1 SB1 M1 KB2 SB2 M2 T.pr 0 0) (hm : W.heap.size + 2 ≤ M1 ∧ W.heap.size + 2 ≤ M2) (c : Nat) {p q s : Int} (hx : rowsW 4 T.pr.length (twP T.pr) = (p, q, s)) :
    Calls Tryz.prog 78 #[.int .i64 4, .slice a3 T.pr.length c, .func (.func 91) #[] #[.pointer (some ⟨WB, 0, none⟩), .pointer (some ⟨PB, 0, none⟩)]] w fun e v2 => e = .returned (.agg #[.int .i64 p, .int .i64 q, .int .i64 s]) ∧ TwS W v2 T a0 a1 a2 a3 a4 a5 a6 a7 c0 c1 c2 c3 c4 c5 c6 c7 :=
  (tw_Pair T.pr hO.n3 hI.pr a3 c W.heap.size w WB PB KB1 SB1 M1 KB2 SB2 M2 (hT.r3.below h.bl (Nat.le_refl _)) hP h.bl.size (by omega)).mono (fun e v2 ⟨he, hk⟩ => ⟨by rw [he, hx]; rfl, h.keptX hk (fun b hb => by rcases hb with rfl | rfl <;> omega)⟩)
theorem c_Or {w : World} {b : Nat} {l : List (Int × Int × Int)} {cs : Array Value} {t : TypeId} {y0 y1 y2 : Int} (hl : l.length ≤ 100) (hok : ∀ x ∈ l, OkW x) (hb : b = w.heap.size) (hc : cs = (l.flatMap fun x => [Value.int .i64 x.1, .int .i64 x.2.1, .int .i64 x.2.2]).toArray) (hy : orW l = (y0, y1, y2)) (n c : Nat) (hn : n = l.length) :
    Calls Tryz.prog 69 #[.slice (some ⟨b, 0, none⟩) n c] (w.alloc (.cells cs t)) fun e w' => e = .returned (.agg #[.int .i64 y0, .int .i64 y1, .int .i64 y2]) ∧ Below w.heap.size w w' := by
  subst hn
  exact (orWrong_any l hl hok b 0 c _ (by rw [hb]; simp) (rwW_alloc w b l cs t hb hc)).mono (fun e w' ⟨he, hb2⟩ => ⟨by rw [he, hy]; rfl, ((Below.refl _ w).alloc (Nat.le_refl _) _).trans (hb2.mono (by simp))⟩)
set_option maxRecDepth 100000 in
set_option maxHeartbeats 8000000 in
theorem twice_any (T : TV) (hO : TabOk T) (hI : TabI T) (a0 a1 a2 a3 a4 a5 a6 a7 : Option Addr) (c0 c1 c2 c3 c4 c5 c6 c7 : Nat) (us : List Value) (W : World) (hT : TabIn W T a0 a1 a2 a3 a4 a5 a6 a7 us) :
    Calls Tryz.prog 51 #[.agg #[.slice a0 T.sc.length c0, .slice a1 T.co.length c1, .slice a2 T.ma.length c2, .slice a3 T.pr.length c3, .slice a4 T.fo.length c4, .slice a5 T.lk.length c5, .slice a6 T.dr.length c6, .slice a7 T.al.length c7]] W fun e w' => e = .returned (wrV (twiceV T)) ∧ Below W.heap.size W w' := by
  have hmx : Tryz.prog.follows .mixedOrders = true := by kernel_rfl
  have hmf : ∀ (fn : Fn) (first cap : Array Value) (w : World), (Instr.makeFunc fn first cap).run Tryz.prog w = .ok (.func fn first cap) w := fun _ _ _ _ => rfl
  have hB0 : Below W.heap.size W ((W.alloc (.cells #[.slice a0 T.sc.length c0, .slice a1 T.co.length c1, .slice a2 T.ma.length c2, .slice a3 T.pr.length c3, .slice a4 T.fo.length c4, .slice a5 T.lk.length c5, .slice a6 T.dr.length c6, .slice a7 T.al.length c7] 32)).alloc (.cells #[.int .i64 0, .int .i64 0, .int .i64 0] 37)) := ((Below.refl _ W).alloc (Nat.le_refl _) _).alloc (by simp) _
  have bR := Blk.new (W.alloc (.cells #[.slice a0 T.sc.length c0, .slice a1 T.co.length c1, .slice a2 T.ma.length c2, .slice a3 T.pr.length c3, .slice a4 T.fo.length c4, .slice a5 T.lk.length c5, .slice a6 T.dr.length c6, .slice a7 T.al.length c7] 32)) #[.int .i64 0, .int .i64 0, .int .i64 0] 37
  rw [World.size_alloc] at bR
  have H0 : Hz (TwS W _ T a0 a1 a2 a3 a4 a5 a6 a7 c0 c1 c2 c3 c4 c5 c6 c7) := hide ⟨hB0, (Blk.new W #[.slice a0 T.sc.length c0, .slice a1 T.co.length c1, .slice a2 T.ma.length c2, .slice a3 T.pr.length c3, .slice a4 T.fo.length c4, .slice a5 T.lk.length c5, .slice a6 T.dr.length c6, .slice a7 T.al.length c7] 32).alloc _, bR⟩
  have HS0 : Hz (((W.alloc (.cells #[.slice a0 T.sc.length c0, .slice a1 T.co.length c1, .slice a2 T.ma.length c2, .slice a3 T.pr.length c3, .slice a4 T.fo.length c4, .slice a5 T.lk.length c5, .slice a6 T.dr.length c6, .slice a7 T.al.length c7] 32)).alloc (.cells #[.int .i64 0, .int .i64 0, .int .i64 0] 37)).heap.size = W.heap.size + 2) := hide (by simp)
  have HT := hide (And.intro hT (And.intro hO hI))
  clear hB0 bR hT hI hO
  obtain ⟨⟨p0, q0, s0⟩, hx0⟩ : ∃ x, rowsW 1 T.sc.length (twF T.sc sc0 (fun x => x.1.data.toList)) = x := ⟨_, rfl⟩
  obtain ⟨⟨p1, q1, s1⟩, hx1⟩ : ∃ x, rowsW 3 T.ma.length (twF T.ma ma0 (fun x => x.1)) = x := ⟨_, rfl⟩
  obtain ⟨⟨p2, q2, s2⟩, hx2⟩ : ∃ x, rowsW 4 T.pr.length (twP T.pr) = x := ⟨_, rfl⟩
  obtain ⟨⟨p3, q3, s3⟩, hx3⟩ : ∃ x, rowsW 5 T.fo.length (twF T.fo mp0 (fun x => x.1)) = x := ⟨_, rfl⟩
  obtain ⟨⟨p4, q4, s4⟩, hx4⟩ : ∃ x, rowsW 6 T.lk.length (twF T.lk mp0 (fun x => x.1)) = x := ⟨_, rfl⟩
  have HOK : Hz (∀ x ∈ [(p0, q0, s0), (p1, q1, s1), (p2, q2, s2), (p3, q3, s3), (p4, q4, s4)], OkW x) := hide (by
    intro x hx
    simp only [List.mem_cons, List.not_mem_nil, or_false] at hx
    rcases hx with rfl | rfl | rfl | rfl | rfl
    · rw [← hx0]; exact rowsW_okW _ _ _
    · rw [← hx1]; exact rowsW_okW _ _ _
    · rw [← hx2]; exact rowsW_okW _ _ _
    · rw [← hx3]; exact rowsW_okW _ _ _
    · rw [← hx4]; exact rowsW_okW _ _ _)
  have hfin : twiceV T = orW [(p0, q0, s0), (p1, q1, s1), (p2, q2, s2), (p3, q3, s3), (p4, q4, s4)] := by
    unfold twiceV
    rw [hx0, hx1, hx2, hx3, hx4]
  rw [hfin]
  obtain ⟨⟨y0, y1, y2⟩, hy⟩ : ∃ y, orW [(p0, q0, s0), (p1, q1, s1), (p2, q2, s2), (p3, q3, s3), (p4, q4, s4)] = y := ⟨_, rfl⟩
  rw [hy]
  have HY := hide hy
  clear hy
  have HX0 := hide hx0
  have HX1 := hide hx1
  have HX2 := hide hx2
  have HX3 := hide hx3
  have HX4 := hide hx4
  clear hfin hx0 hx1 hx2 hx3 hx4
  go_enter Tryz.func51, Tryz.ntmps51
  go_wp2_with fail
  generalize (W.alloc (.cells #[.slice a0 T.sc.length c0, .slice a1 T.co.length c1, .slice a2 T.ma.length c2, .slice a3 T.pr.length c3, .slice a4 T.fo.length c4, .slice a5 T.lk.length c5, .slice a6 T.dr.length c6, .slice a7 T.al.length c7] 32)).alloc (.cells #[.int .i64 0, .int .i64 0, .int .i64 0] 37) = w0 at *
  refine (mk_PairW w0).mono ?_
  rintro e w1 ⟨⟨f1, KB1, SB1, M1, rfl, hn1⟩, hb1⟩
  obtain ⟨rfl, hag1, hk1, hs1, hm1⟩ := hn1
  have H1 := hide (And.intro ((unhide H0).below hb1) (And.intro hag1 (And.intro hk1 (And.intro hs1 hm1))))
  have hz1 := hb1.size
  clear hag1 hk1 hs1 hm1 H0
  go_wp2_with fail
  obtain ⟨WB, hWB⟩ : ∃ WB, WB = w1.heap.size := ⟨_, rfl⟩
  have hb2 : Below w1.heap.size w1 (w1.alloc (.cells #[.func (.func 142) #[] #[.pointer (some ⟨KB1, 0, none⟩), .pointer (some ⟨SB1, 0, none⟩)]] 121)) := (Below.refl _ _).alloc (Nat.le_refl _) _
  have bW := Blk.new w1 #[.func (.func 142) #[] #[.pointer (some ⟨KB1, 0, none⟩), .pointer (some ⟨SB1, 0, none⟩)]] 121
  rw [← hWB] at bW ⊢
  have H2 := hide (And.intro ((unhide H1).1.below hb2) (And.intro ((unhide H1).2.1.below hb2) (And.intro (unhide H1).2.2 bW)))
  have hz2 : (w1.alloc (.cells #[.func (.func 142) #[] #[.pointer (some ⟨KB1, 0, none⟩), .pointer (some ⟨SB1, 0, none⟩)]] 121)).heap.size = w1.heap.size + 1 := by simp
  clear hb2 bW
  generalize w1.alloc (.cells #[.func (.func 142) #[] #[.pointer (some ⟨KB1, 0, none⟩), .pointer (some ⟨SB1, 0, none⟩)]] 121) = w2 at *
  refine (mk_PairP w2).mono ?_
  rintro e w3 ⟨⟨f2, KB2, SB2, M2, rfl, hn2⟩, hb3⟩
  obtain ⟨rfl, hag2, hk2, hs2, hm2⟩ := hn2
  have hz3 := hb3.size
  have H3 := hide (And.intro ((unhide H2).1.below hb3) (And.intro ((unhide H2).2.1.below hb3) (And.intro ((unhide H2).2.2.2.below hb3 (unhide H2).2.2.2.lt) (And.intro hag2 (And.intro hk2 (And.intro hs2 hm2))))))
  clear hag2 hk2 hs2 hm2
  go_wp2_with fail
  obtain ⟨PB, hPB⟩ : ∃ PB, PB = w3.heap.size := ⟨_, rfl⟩
  have hb4 : Below w3.heap.size w3 (w3.alloc (.cells #[.func (.func 143) #[] #[.pointer (some ⟨KB2, 0, none⟩), .pointer (some ⟨SB2, 0, none⟩)]] 121)) := (Below.refl _ _).alloc (Nat.le_refl _) _
  have bP := Blk.new w3 #[.func (.func 143) #[] #[.pointer (some ⟨KB2, 0, none⟩), .pointer (some ⟨SB2, 0, none⟩)]] 121
  rw [← hPB] at bP ⊢
  have l1 := (unhide H1).2.1.se.lt
  have l2 := (unhide H1).2.1.kb.lt
  have l3 := (unhide H1).2.1.sb.lt
  have m2 := (unhide H3).2.2.2.1.se.lt
  have g1 := (unhide H1).2.2
  have g2 := (unhide H3).2.2.2.2
  have hPR : PrS (w3.alloc (.cells #[.func (.func 143) #[] #[.pointer (some ⟨KB2, 0, none⟩), .pointer (some ⟨SB2, 0, none⟩)]] 121)) WB PB KB1 SB1 M1 KB2 SB2 M2 T.pr 0 0 := ⟨(unhide H3).2.2.1.below hb4 (unhide H3).2.2.1.lt, bP, (by rw [seenL_zero]; exact (unhide H3).2.1.below hb4), (by rw [seenL_zero]; exact (unhide H3).2.2.2.1.below hb4), by omega⟩
  have H4 := hide (And.intro ((unhide H3).1.below hb4) hPR)
  have HM : Hz (W.heap.size + 2 ≤ M1 ∧ W.heap.size + 2 ≤ M2) := hide (by have := unhide HS0; omega)
  have HWB := hide hWB
  clear bP hb4 l1 l2 l3 m2 g1 g2 hPR H1 H2 H3 hWB hPB hz1 hz2 hz3 hb1 hb3
  generalize w3.alloc (.cells #[.func (.func 143) #[] #[.pointer (some ⟨KB2, 0, none⟩), .pointer (some ⟨SB2, 0, none⟩)]] 121) = w4 at *
  have hbd : Below w4.heap.size w4 w4.drew := ⟨rfl, rfl, rfl, Nat.le_refl _, fun _ _ => rfl⟩
  have H5 := hide (And.intro ((unhide H4).1.below hbd) ((unhide H4).2.below hbd))
  clear hbd H4
  have z0 : w4.drew.cell? ⟨W.heap.size, 0, none⟩ = some (.slice a0 T.sc.length c0) := (unhide H5).1.bx.cell 0
  have z2 : w4.drew.cell? ⟨W.heap.size, 2, none⟩ = some (.slice a2 T.ma.length c2) := (unhide H5).1.bx.cell 2
  have z3 : w4.drew.cell? ⟨W.heap.size, 3, none⟩ = some (.slice a3 T.pr.length c3) := (unhide H5).1.bx.cell 3
  have z4 : w4.drew.cell? ⟨W.heap.size, 4, none⟩ = some (.slice a4 T.fo.length c4) := (unhide H5).1.bx.cell 4
  have z5 : w4.drew.cell? ⟨W.heap.size, 5, none⟩ = some (.slice a5 T.lk.length c5) := (unhide H5).1.bx.cell 5
  go_region_held3 (fun w' => w'.cell? ⟨W.heap.size, 0, none⟩ = some (.slice a0 T.sc.length c0) ∧ w'.cell? ⟨W.heap.size, 2, none⟩ = some (.slice a2 T.ma.length c2) ∧ w'.cell? ⟨W.heap.size, 3, none⟩ = some (.slice a3 T.pr.length c3) ∧ w'.cell? ⟨W.heap.size, 4, none⟩ = some (.slice a4 T.fo.length c4) ∧ w'.cell? ⟨W.heap.size, 5, none⟩ = some (.slice a5 T.lk.length c5)) (first | with_reducible exact ⟨z0, z2, z3, z4, z5⟩ | with_reducible exact ⟨b0, b2, b3, b4, b5⟩ | with_reducible exact ⟨d0, d2, d3, d4, d5⟩ | with_reducible exact ⟨g0, g2, g3, g4, g5⟩ | with_reducible exact ⟨h0, h2, h3, h4, h5⟩ | with_reducible exact ⟨i0, i2, i3, i4, i5⟩ | with_reducible exact ⟨j0, j2, j3, j4, j5⟩ | with_reducible exact ⟨k0, k2, k3, k4, k5⟩ | with_reducible exact ⟨l0, l2, l3, l4, l5⟩ | with_reducible exact ⟨m0, m2, m3, m4, m5⟩ | with_reducible exact ⟨n0, n2, n3, n4, n5⟩ | with_reducible exact ⟨alloc_cell _ m0, alloc_cell _ m2, alloc_cell _ m3, alloc_cell _ m4, alloc_cell _ m5⟩ | with_reducible exact ⟨nx0 _ _ _, nx2 _ _ _, nx3 _ _ _, nx4 _ _ _, nx5 _ _ _⟩)
    (first
    | (go_at_call 69; refine (c_Or (l := [(p0, q0, s0), (p1, q1, s1), (p2, q2, s2), (p3, q3, s3), (p4, q4, s4)]) (by simp) (unhide HOK) (by first | rfl | simp) rfl (unhide HY) _ _ rfl).mono ?_; rintro e v10 ⟨rfl, hb10⟩; have HE := hide ((unhide HD9).below hb10); have n0 : v10.cell? ⟨W.heap.size, 0, none⟩ = some (.slice a0 T.sc.length c0) := (unhide HE).bx.cell 0; have n2 : v10.cell? ⟨W.heap.size, 2, none⟩ = some (.slice a2 T.ma.length c2) := (unhide HE).bx.cell 2; have n3 : v10.cell? ⟨W.heap.size, 3, none⟩ = some (.slice a3 T.pr.length c3) := (unhide HE).bx.cell 3; have n4 : v10.cell? ⟨W.heap.size, 4, none⟩ = some (.slice a4 T.fo.length c4) := (unhide HE).bx.cell 4; have n5 : v10.cell? ⟨W.heap.size, 5, none⟩ = some (.slice a5 T.lk.length c5) := (unhide HE).bx.cell 5; have nx0 : ∀ x y z : Value, (((v10.setCell ⟨W.heap.size + 1, 0, none⟩ x).setCell ⟨W.heap.size + 1, 1, none⟩ y).setCell ⟨W.heap.size + 1, 2, none⟩ z).cell? ⟨W.heap.size, 0, none⟩ = some (.slice a0 T.sc.length c0) := fun x y z => ((((unhide HE).bx.other (by omega) x).other (by omega) y).other (by omega) z).cell 0; have nx2 : ∀ x y z : Value, (((v10.setCell ⟨W.heap.size + 1, 0, none⟩ x).setCell ⟨W.heap.size + 1, 1, none⟩ y).setCell ⟨W.heap.size + 1, 2, none⟩ z).cell? ⟨W.heap.size, 2, none⟩ = some (.slice a2 T.ma.length c2) := fun x y z => ((((unhide HE).bx.other (by omega) x).other (by omega) y).other (by omega) z).cell 2; have nx3 : ∀ x y z : Value, (((v10.setCell ⟨W.heap.size + 1, 0, none⟩ x).setCell ⟨W.heap.size + 1, 1, none⟩ y).setCell ⟨W.heap.size + 1, 2, none⟩ z).cell? ⟨W.heap.size, 3, none⟩ = some (.slice a3 T.pr.length c3) := fun x y z => ((((unhide HE).bx.other (by omega) x).other (by omega) y).other (by omega) z).cell 3; have nx4 : ∀ x y z : Value, (((v10.setCell ⟨W.heap.size + 1, 0, none⟩ x).setCell ⟨W.heap.size + 1, 1, none⟩ y).setCell ⟨W.heap.size + 1, 2, none⟩ z).cell? ⟨W.heap.size, 4, none⟩ = some (.slice a4 T.fo.length c4) := fun x y z => ((((unhide HE).bx.other (by omega) x).other (by omega) y).other (by omega) z).cell 4; have nx5 : ∀ x y z : Value, (((v10.setCell ⟨W.heap.size + 1, 0, none⟩ x).setCell ⟨W.heap.size + 1, 1, none⟩ y).setCell ⟨W.heap.size + 1, 2, none⟩ z).cell? ⟨W.heap.size, 5, none⟩ = some (.slice a5 T.lk.length c5) := fun x y z => ((((unhide HE).bx.other (by omega) x).other (by omega) y).other (by omega) z).cell 5; have r0 := (unhide HE).rs.cell 0; have r1 := (unhide HE).rs.cell 1; have r2 := (unhide HE).rs.cell 2; have e0 := (unhide HE).rs.frozen 0; have e1 := (unhide HE).rs.frozen 1; have e2 := (unhide HE).rs.frozen 2; clear hb10)
    | (go_at_call 80; refine (c_Map 6 (unhide HT).2.1.n5 (unhide HT).2.2.lk (unhide HT).1.r5 (unhide HD7).bl c5 (unhide HD8).1 (unhide HD8).2 (unhide HX4)).mono ?_; rintro e v9 ⟨rfl, hk⟩; have HD9 := hide ((unhide HD7).below hk); have m0 : v9.cell? ⟨W.heap.size, 0, none⟩ = some (.slice a0 T.sc.length c0) := (unhide HD9).bx.cell 0; have m2 : v9.cell? ⟨W.heap.size, 2, none⟩ = some (.slice a2 T.ma.length c2) := (unhide HD9).bx.cell 2; have m3 : v9.cell? ⟨W.heap.size, 3, none⟩ = some (.slice a3 T.pr.length c3) := (unhide HD9).bx.cell 3; have m4 : v9.cell? ⟨W.heap.size, 4, none⟩ = some (.slice a4 T.fo.length c4) := (unhide HD9).bx.cell 4; have m5 : v9.cell? ⟨W.heap.size, 5, none⟩ = some (.slice a5 T.lk.length c5) := (unhide HD9).bx.cell 5; clear hk)
    | (go_at_call 93; refine (mk_Map v7).mono ?_; rintro e v8 ⟨⟨f8, KB8, SB8, M8, rfl, hn8⟩, hb8⟩; have HD8 := hide (And.intro hn8 hb8); have HC8 := hide ((unhide HD7).below hb8); have l0 : v8.cell? ⟨W.heap.size, 0, none⟩ = some (.slice a0 T.sc.length c0) := (unhide HC8).bx.cell 0; have l2 : v8.cell? ⟨W.heap.size, 2, none⟩ = some (.slice a2 T.ma.length c2) := (unhide HC8).bx.cell 2; have l3 : v8.cell? ⟨W.heap.size, 3, none⟩ = some (.slice a3 T.pr.length c3) := (unhide HC8).bx.cell 3; have l4 : v8.cell? ⟨W.heap.size, 4, none⟩ = some (.slice a4 T.fo.length c4) := (unhide HC8).bx.cell 4; have l5 : v8.cell? ⟨W.heap.size, 5, none⟩ = some (.slice a5 T.lk.length c5) := (unhide HC8).bx.cell 5; clear hn8 hb8)
    | (go_at_call 80; refine (c_Map 5 (unhide HT).2.1.n4 (unhide HT).2.2.fo (unhide HT).1.r4 (unhide HD5).bl c4 (unhide HD6).1 (unhide HD6).2 (unhide HX3)).mono ?_; rintro e v7 ⟨rfl, hk⟩; have HD7 := hide ((unhide HD5).below hk); have k0 : v7.cell? ⟨W.heap.size, 0, none⟩ = some (.slice a0 T.sc.length c0) := (unhide HD7).bx.cell 0; have k2 : v7.cell? ⟨W.heap.size, 2, none⟩ = some (.slice a2 T.ma.length c2) := (unhide HD7).bx.cell 2; have k3 : v7.cell? ⟨W.heap.size, 3, none⟩ = some (.slice a3 T.pr.length c3) := (unhide HD7).bx.cell 3; have k4 : v7.cell? ⟨W.heap.size, 4, none⟩ = some (.slice a4 T.fo.length c4) := (unhide HD7).bx.cell 4; have k5 : v7.cell? ⟨W.heap.size, 5, none⟩ = some (.slice a5 T.lk.length c5) := (unhide HD7).bx.cell 5; clear hk)
    | (go_at_call 93; refine (mk_Map v5).mono ?_; rintro e v6 ⟨⟨f6, KB6, SB6, M6, rfl, hn6⟩, hb6⟩; have HD6 := hide (And.intro hn6 hb6); have HC6 := hide ((unhide HD5).below hb6); have j0 : v6.cell? ⟨W.heap.size, 0, none⟩ = some (.slice a0 T.sc.length c0) := (unhide HC6).bx.cell 0; have j2 : v6.cell? ⟨W.heap.size, 2, none⟩ = some (.slice a2 T.ma.length c2) := (unhide HC6).bx.cell 2; have j3 : v6.cell? ⟨W.heap.size, 3, none⟩ = some (.slice a3 T.pr.length c3) := (unhide HC6).bx.cell 3; have j4 : v6.cell? ⟨W.heap.size, 4, none⟩ = some (.slice a4 T.fo.length c4) := (unhide HC6).bx.cell 4; have j5 : v6.cell? ⟨W.heap.size, 5, none⟩ = some (.slice a5 T.lk.length c5) := (unhide HC6).bx.cell 5; clear hn6 hb6)
    | (go_at_call 78; rw [← unhide HWB]; refine (c_Pair (unhide HT).1 (unhide HT).2.1 (unhide HT).2.2 (unhide HD4).1 (unhide HD4).2 (unhide HM) c3 (unhide HX2)).mono ?_; rintro e v5 ⟨rfl, hk⟩; have HD5 := hide hk; have i0 : v5.cell? ⟨W.heap.size, 0, none⟩ = some (.slice a0 T.sc.length c0) := (unhide HD5).bx.cell 0; have i2 : v5.cell? ⟨W.heap.size, 2, none⟩ = some (.slice a2 T.ma.length c2) := (unhide HD5).bx.cell 2; have i3 : v5.cell? ⟨W.heap.size, 3, none⟩ = some (.slice a3 T.pr.length c3) := (unhide HD5).bx.cell 3; have i4 : v5.cell? ⟨W.heap.size, 4, none⟩ = some (.slice a4 T.fo.length c4) := (unhide HD5).bx.cell 4; have i5 : v5.cell? ⟨W.heap.size, 5, none⟩ = some (.slice a5 T.lk.length c5) := (unhide HD5).bx.cell 5; clear hk)
    | (go_at_call 76; refine (c_Mark (unhide HT).1 (unhide HT).2.1 (unhide HT).2.2 (unhide HD2).1.bl c2 (unhide HD3).1 (unhide HD3).2 (unhide HX1)).mono ?_; rintro e v4 ⟨rfl, hk⟩; have HD4 := hide (And.intro ((unhide HD2).1.below hk) ((unhide HD2).2.below hk)); have h0 : v4.cell? ⟨W.heap.size, 0, none⟩ = some (.slice a0 T.sc.length c0) := (unhide HD4).1.bx.cell 0; have h2 : v4.cell? ⟨W.heap.size, 2, none⟩ = some (.slice a2 T.ma.length c2) := (unhide HD4).1.bx.cell 2; have h3 : v4.cell? ⟨W.heap.size, 3, none⟩ = some (.slice a3 T.pr.length c3) := (unhide HD4).1.bx.cell 3; have h4 : v4.cell? ⟨W.heap.size, 4, none⟩ = some (.slice a4 T.fo.length c4) := (unhide HD4).1.bx.cell 4; have h5 : v4.cell? ⟨W.heap.size, 5, none⟩ = some (.slice a5 T.lk.length c5) := (unhide HD4).1.bx.cell 5; clear hk)
    | (go_at_call 89; refine (mk_Mark v2).mono ?_; rintro e v3 ⟨⟨f3, KB3, SB3, M3, rfl, hn3⟩, hb3⟩; have HD3 := hide (And.intro hn3 hb3); have HC3 := hide ((unhide HD2).1.below hb3); have g0 : v3.cell? ⟨W.heap.size, 0, none⟩ = some (.slice a0 T.sc.length c0) := (unhide HC3).bx.cell 0; have g2 : v3.cell? ⟨W.heap.size, 2, none⟩ = some (.slice a2 T.ma.length c2) := (unhide HC3).bx.cell 2; have g3 : v3.cell? ⟨W.heap.size, 3, none⟩ = some (.slice a3 T.pr.length c3) := (unhide HC3).bx.cell 3; have g4 : v3.cell? ⟨W.heap.size, 4, none⟩ = some (.slice a4 T.fo.length c4) := (unhide HC3).bx.cell 4; have g5 : v3.cell? ⟨W.heap.size, 5, none⟩ = some (.slice a5 T.lk.length c5) := (unhide HC3).bx.cell 5; clear hn3 hb3)
    | (go_at_call 71; refine (c_Script (unhide HT).1 (unhide HT).2.1 (unhide H5).1.bl c0 (unhide HD1).1 (unhide HD1).2 (unhide HX0)).mono ?_; rintro e v2 ⟨rfl, hk⟩; have HD2 := hide (And.intro ((unhide H5).1.below hk) ((unhide H5).2.below hk)); have d0 : v2.cell? ⟨W.heap.size, 0, none⟩ = some (.slice a0 T.sc.length c0) := (unhide HD2).1.bx.cell 0; have d2 : v2.cell? ⟨W.heap.size, 2, none⟩ = some (.slice a2 T.ma.length c2) := (unhide HD2).1.bx.cell 2; have d3 : v2.cell? ⟨W.heap.size, 3, none⟩ = some (.slice a3 T.pr.length c3) := (unhide HD2).1.bx.cell 3; have d4 : v2.cell? ⟨W.heap.size, 4, none⟩ = some (.slice a4 T.fo.length c4) := (unhide HD2).1.bx.cell 4; have d5 : v2.cell? ⟨W.heap.size, 5, none⟩ = some (.slice a5 T.lk.length c5) := (unhide HD2).1.bx.cell 5; clear hk)
    | (go_at_call 87; refine (mk_Script w4.drew).mono ?_; rintro e v1 ⟨⟨f1, KB4, SB4, M4, rfl, hn4⟩, hb4⟩; have HD1 := hide (And.intro hn4 hb4); have HC1 := hide ((unhide H5).1.below hb4); have b0 : v1.cell? ⟨W.heap.size, 0, none⟩ = some (.slice a0 T.sc.length c0) := (unhide HC1).bx.cell 0; have b2 : v1.cell? ⟨W.heap.size, 2, none⟩ = some (.slice a2 T.ma.length c2) := (unhide HC1).bx.cell 2; have b3 : v1.cell? ⟨W.heap.size, 3, none⟩ = some (.slice a3 T.pr.length c3) := (unhide HC1).bx.cell 3; have b4 : v1.cell? ⟨W.heap.size, 4, none⟩ = some (.slice a4 T.fo.length c4) := (unhide HC1).bx.cell 4; have b5 : v1.cell? ⟨W.heap.size, 5, none⟩ = some (.slice a5 T.lk.length c5) := (unhide HC1).bx.cell 5; clear hn4 hb4))
  all_goals
    go_wp2_with fail
    exact bodyPost_ret (v := wrV (y0, y1, y2)) (ret3 Tryz.results51 rfl (blk3 (unhide HE).rs _ _ _) rfl) rfl ⟨rfl, below3 (unhide HE).bl (by omega) (unhide HE).bl.size _ _ _⟩
end Go.Proofs.YtnnbaodillnkkaaGreat
