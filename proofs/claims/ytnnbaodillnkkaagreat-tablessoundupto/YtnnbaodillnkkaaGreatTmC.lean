/- The law of soundness: all runes. -/
import Derived.Test.YtnnbaodillnkkaaGreatYd
import Derived.Test.YtnnbaodillnkkaaGreatXa
namespace Go.Proofs.YtnnbaodillnkkaaGreat
open Go.RowKit Go.Shelf Go.Maps
set_option linter.unusedVariables false
theorem run_none_capS {P : Program} {w : World} (base : Nat) (t ty e : TypeId) (i : TypeInfo) (size c : Nat) (ht : P.underlying t = some (.slice e)) (hi : P.info? e = some i) (v : Value) (n : Nat) (xs : List Value) (hown : w.ownsRow base e size v n xs) :
    (Builtin.append_ #[t, t] ty #[v, .slice none 0 c]).run P w = .ok v w := by
  rcases hown.2 with ⟨rfl, rfl⟩ | ⟨g, cap, cur, rfl, _, _, hnc, _⟩
  · simp [Builtin.append_, run_underlying ht, sizeOf, typeInfo, hi, Builtin.lenOf, Builtin.firstCells]
  · simp [Builtin.append_, run_underlying ht, sizeOf, typeInfo, hi, Builtin.lenOf, Builtin.firstCells, hnc, storeCells]
theorem appendS_any {w : World} {ops : Array Oper} {rest : List Oper} {o : Oper} {a : Act} {Q : Exit → Act → World → Prop} (hgd : o.guard = none) (s x : Operand) (T : TypeId)
    (ho : o.op = .call { callee := .builtin .append, args := #[s, x], argTypes := #[T, T] }) (base : Nat) (E : TypeId) (i : TypeInfo) (z : Value) (sz bytes : Nat) (hT : Tryz.prog.underlying T = some (.slice E)) (hi : Tryz.prog.info? E = some i ∧ i.zero = some z ∧ i.size = sz ∧ i.bytes = bytes) (hzs : z.cells.size = sz) (hs0 : 0 < sz) (hb8 : bytes ≤ 64)
    (g n C : Nat) (xs : List Value) (hs : a.eval s = .slice (some ⟨g, 0, none⟩) n C) (hown : w.ownsRow base E sz (.slice (some ⟨g, 0, none⟩) n C) n xs) (b : Option Addr) (m cap hi' : Nat) (ys : List Value) (hx : a.eval x = .slice b m cap) (hl : ys.length = m * sz) (hr : RowC w hi' b ys) (h1 : ∀ u ∈ ys, u.oneCell' = true) (hn : n + m ≤ 2000000) (hbase : base ≤ w.heap.size)
    (h : ∀ g' c' w', w'.ownsRow base E sz (.slice (some ⟨g', 0, none⟩) (n + m) c') (n + m) (xs ++ ys) → w.grownBy w' (some g) → (g' = g ∨ g' = w.heap.size) → wpList Tryz.prog ops Q rest (a.put o.dst (.slice (some ⟨g', 0, none⟩) (n + m) c')) w') : wpList Tryz.prog ops Q (o :: rest) a w := by
  rcases Nat.eq_zero_or_pos m with rfl | hm
  · obtain rfl : ys = [] := List.length_eq_zero_iff.1 (by rw [hl]; omega)
    have hrun : (Builtin.append_ #[T, T] o.type #[.slice (some ⟨g, 0, none⟩) n C, .slice b 0 cap]).run Tryz.prog w = .ok (.slice (some ⟨g, 0, none⟩) n C) w := by
      have hnC : n ≤ C := by
        rcases hown.2 with ⟨e, _⟩ | ⟨g', cap', cur, e, _, _, hc, _⟩
        · cases e
        · injection e with _ _ e3
          subst e3
          exact hc
      cases b with
      | none => exact run_none_capS (P := Tryz.prog) (w := w) base T o.type E i sz cap hT hi.1 _ n xs hown
      | some ad =>
        have hld : (loadCells ad 0).run Tryz.prog w = .ok #[] w := rfl
        simp [Builtin.append_, run_underlying hT, sizeOf, typeInfo, hi.1, Builtin.lenOf, Builtin.firstCells, hnC, storeCells, hld]
    refine wpList_plain hgd fun K hK' => ?_
    unfold Oper.wp
    simp [execOp, ho, resolve, invoke, builtin, hs, hx, hrun, Result.andThen]
    exact hK' _ _ (h g C w (by rw [Nat.add_zero, List.append_nil]; exact hown) ⟨rfl, rfl, rfl, Nat.le_refl _, fun _ _ _ => rfl⟩ (.inl rfl))
  · obtain ⟨g2, o2, rfl, _, hc⟩ := hr (by rw [hl]; exact Nat.mul_pos hm hs0)
    refine wpList_append_lies _ hgd s x T ho base E i z sz bytes hT hi.1 hi.2.1 hi.2.2.1 hi.2.2.2 hzs hs0 _ n xs hs hown ⟨g2, o2, none⟩ m cap ys hx hl (fun j u hj => ?_) h1 hm (by unfold maxLen; omega) (Nat.le_trans (Nat.mul_le_mul_left _ hb8) (by omega)) hbase w.heap.size rfl (fun g' c' w' h4 h5 h6 _ => h g' c' w' h4 h5 (by rcases h6 with e | e; exact .inl (Option.some.inj e).symm; exact .inr e))
    rw [Addr.add_mid]
    exact hc j u hj

def snG (B : Nat) (v1 : Value) (U : Nat → Value) : Act := { tmps := #[U 0, v1, U 2, U 3, U 4, .pointer (some ⟨B, 0, none⟩), U 6, U 7, U 8, U 9, U 10, U 11, U 12, U 13, U 14, U 15, U 16, U 17, U 18, U 19, U 20, U 21, U 22, U 23, U 24, U 25, U 26, U 27, U 28, U 29, U 30, U 31, U 32, U 33, U 34, U 35, U 36, U 37, U 38, U 39, U 40, U 41, U 42, U 43, U 44, U 45, U 46, U 47, U 48, U 49, U 50, U 51, U 52, U 53, U 54, U 55, U 56, U 57, U 58, U 59, U 60, U 61, U 62, U 63, U 64, U 65, U 66, U 67, U 68, U 69, U 70, U 71, U 72, U 73, U 74, U 75, U 76, U 77, U 78, U 79, U 80, U 81, U 82, U 83, U 84, U 85, U 86, U 87, U 88, U 89, U 90, U 91, U 92, U 93, U 94, U 95, U 96, U 97, U 98, U 99, U 100, U 101, U 102, U 103, U 104, U 105, U 106, U 107, U 108, U 109, U 110, U 111, U 112, U 113, U 114, U 115, U 116, U 117, U 118, U 119, U 120, U 121, U 122, U 123, U 124, U 125, U 126, U 127, U 128, U 129, U 130, U 131, U 132, U 133, U 134, U 135, U 136, U 137, U 138, U 139, U 140, U 141, U 142, U 143, U 144, U 145, U 146, U 147, U 148, U 149, U 150, U 151, U 152, U 153, U 154, U 155, U 156, U 157, U 158, U 159, U 160, U 161, U 162, U 163, U 164, U 165, U 166, U 167, U 168, U 169, U 170, U 171, U 172, U 173, U 174, U 175, U 176, U 177, U 178, U 179, U 180, U 181, U 182, U 183, U 184, U 185, U 186, U 187, U 188, U 189, U 190, U 191, U 192, U 193, U 194, U 195, U 196, U 197, U 198, U 199, U 200, U 201, U 202, U 203, U 204, U 205, U 206, U 207, U 208, U 209, U 210, U 211, U 212, U 213, U 214, U 215, U 216, U 217, U 218, U 219, U 220, U 221, U 222, U 223, U 224, U 225, U 226, U 227, U 228, U 229, U 230, U 231, U 232, U 233, U 234, U 235, U 236, U 237, U 238, U 239, U 240, U 241, U 242, U 243, U 244, U 245, U 246, U 247, U 248, U 249, U 250, U 251, U 252, U 253, U 254, U 255, U 256, U 257, U 258, U 259, U 260, U 261, U 262, U 263, U 264, U 265, U 266, U 267, U 268, U 269, U 270, U 271, U 272, U 273, U 274, U 275, U 276, U 277, U 278, U 279, U 280, U 281, U 282, U 283, U 284, U 285, U 286, U 287, U 288, U 289, U 290, U 291, U 292, U 293, U 294, U 295, U 296, U 297, U 298, U 299, U 300, U 301, U 302, U 303, U 304, U 305, U 306, U 307], defers := [] }
theorem rise_len : ∀ (l : List Int) (lo : Int), l.Pairwise (· < ·) → (∀ x ∈ l, lo ≤ x ∧ x ≤ 1114111) → (l.length : Int) ≤ max 0 (1114112 - lo)
  | [], lo, _, _ => by simp; omega
  | x :: l, lo, h, hx => by
    have h1 := List.pairwise_cons.1 h
    have h2 := hx x (by simp)
    have := rise_len l (x + 1) h1.2 (fun y hy => ⟨by have := h1.1 y hy; omega, (hx y (by simp [hy])).2⟩)
    rw [List.length_cons]
    omega
theorem froms_rune {T : TV} (hO : RowsOk T) {x : Int} (h : fromsB T x = true) : runeB x = true := by
  unfold fromsB at h
  rw [Bool.or_eq_true, Bool.or_eq_true] at h
  rcases h with h | h | h
  · obtain ⟨y, hy, e⟩ := List.any_eq_true.1 h
    obtain rfl : y.1 = x := by simpa using e
    exact (hO.f3 y hy).1
  · obtain ⟨y, hy, e⟩ := List.any_eq_true.1 h
    obtain rfl : y.1 = x := by simpa using e
    exact (hO.f4 y hy).1
  · obtain ⟨y, hy, e⟩ := List.any_eq_true.1 h
    obtain rfl : y.1 = x := by simpa using e
    exact (hO.f5 y hy).1
theorem rnC_row {w : World} {lo : Nat} {a : Option Addr} {zs : List Int} (h : RnC w lo a zs) : RowC w lo a (zs.map (Value.int .i32)) := fun h0 => by
  rw [List.length_map] at h0
  obtain ⟨g, o, e1, e2, e3⟩ := h h0
  refine ⟨g, o, e1, e2, fun j u hu => ?_⟩
  rw [List.getElem?_map] at hu
  cases hz : zs[j]? with
  | none => rw [hz] at hu; cases hu
  | some x => rw [hz] at hu; injection hu with hu; subst hu; exact e3 j x hz
theorem one_ints (zs : List Int) : ∀ u ∈ zs.map (Value.int .i32), u.oneCell' = true := fun u hu => by
  obtain ⟨x, _, rfl⟩ := List.mem_map.1 hu
  rfl
noncomputable def sndG : Code := match Tryz.f4.body with
  | some (.seq _ (.seq _ (.seq _ (.seq _ (.seq c _))))) => c
  | _ => .skip
set_option maxRecDepth 100000 in
set_option maxHeartbeats 8000000 in
theorem sndG_any {T : TV} (hO : RowsOk T) (B m cap : Nat) (b : Option Addr) (ls : List Int) (hm : ls.length = m) (h4 : m ≤ 400) (U : Nat → Value) (w : World) (h : BookAt w B T) (hr : RnC w w.heap.size b ls) {Q : Exit → Act → World → Prop}
    (hQ : ∀ (a : Act) (wn : World) (p : Option Addr) (c : Nat) (fs : List Int), (∃ v8 v9 v10 v11 v12 v17 v18 v19 v20 v21 v27 U', a = snF B (.slice p (ls ++ fs).length c) v8 v9 v10 v11 v12 v17 v18 v19 v20 v21 v27 U') → Hz (RnA wn p (ls ++ fs) ∧ Below w.heap.size w wn ∧ (∀ y ∈ fs, R32 y) ∧ fs.length ≤ 1114112) → Q .normal a wn) :
    Code.wp Tryz.prog sndG Q (snG B (.slice b m cap) U) w := by
  obtain ⟨iR, hi, hz0, hz1, hz2⟩ := info_parts infoR32
  have HI := hide (And.intro hi (And.intro hz0 (And.intro hz1 hz2)))
  have HQ := hide hQ
  have hB0 : Below w.heap.size w (w.alloc (.cells #[] 21)) := (Below.refl _ w).alloc (Nat.le_refl _) _
  have HR0 : Hz (RowC (w.alloc (.cells #[] 21)) (w.alloc (.cells #[] 21)).heap.size b (ls.map (Value.int .i32))) := hide (rnC_row (hr.below hB0))
  have HW0 : Hz ((w.alloc (.cells #[] 21)).ownsRow w.heap.size 21 1 (.slice (some ⟨w.heap.size, 0, none⟩) 0 0) 0 []) := hide ⟨rfl, .inr ⟨w.heap.size, 0, #[], rfl, Nat.le_refl _, Blk.new w #[] 21, Nat.le_refl _, by first | rfl | decide | simp, by first | rfl | decide | simp, by first | rfl | simp⟩⟩
  have HB0 := hide hB0
  have HF := hide (fun w1 (hb : Below w.heap.size w w1) => bkFroms_any hO B w1 (h.below hb))
  have HO := hide hO
  clear hi hz0 hz1 hz2 hQ hB0 hr h hO
  delta sndG Tryz.f4 snG snF at *
  dsimp only
  go_wp2_with (at_builtin; refine appendS_any rfl _ _ 33 rfl w.heap.size 21 iR (.int .i32 0) 1 4 Tryz.underlying33 (unhide HI) rfl (by decide) (by decide) w.heap.size 0 0 [] rfl (unhide HW0) b m cap _ (ls.map (Value.int .i32)) rfl (by rw [List.length_map]; omega) (unhide HR0) (one_ints ls) (by omega) (unhide HB0).size ?_)
  intro g1 c1 w1 ho1 hg1 he1
  have hb1 : Below w.heap.size w w1 := (unhide HB0).grown hg1 (unhide HB0).size (fun k e => by injection e with e; omega)
  have hge1 : w.heap.size ≤ g1 := by
    rcases he1 with e | e
    · omega
    · omega
  have HFr := hide (unhide HF w1 hb1)
  have H1 := hide (And.intro hb1 (And.intro hge1 ho1))
  clear HF HR0 HW0 HB0 hb1 hge1 ho1 hg1 he1
  go_wp2_with fail
  refine (unhide HFr).mono ?_
  rintro e w2 ⟨a2, c2, fs, rfl, hpw, hmem, hrn, hfr, hb2⟩
  have HX : Hz ((∀ y ∈ fs, R32 y) ∧ fs.length ≤ 1114112) := hide ⟨fun y hy => rune32 (froms_rune (unhide HO) ((hmem y).1 hy)), by
    have := rise_len fs 0 hpw (fun x hx => by have := runeB_iff (froms_rune (unhide HO) ((hmem x).1 hx)); omega)
    omega⟩
  have ho2 := own_other1 (unhide H1).2.2 (below_grown (row := none) hb2)
  have H2 := hide (And.intro ((unhide H1).1.trans (hb2.mono (unhide H1).1.size)) (And.intro (unhide H1).2.1 (And.intro ho2 (rnC_row hrn))))
  clear HFr H1 hpw hmem hrn hfr hb2 ho2
  go_wp2_with (at_builtin; refine appendS_any rfl _ _ 33 rfl w.heap.size 21 iR (.int .i32 0) 1 4 Tryz.underlying33 (unhide HI) rfl (by decide) (by decide) g1 m c1 (ls.map (Value.int .i32)) rfl (unhide H2).2.2.1 a2 fs.length c2 _ (fs.map (Value.int .i32)) rfl (by rw [List.length_map]; omega) (unhide H2).2.2.2 (one_ints fs) (by have := (unhide HX).2; omega) (unhide H2).1.size ?_)
  intro g3 c3 w3 ho3 hg3 he3
  have hb3 : Below w.heap.size w w3 := (unhide H2).1.grown hg3 (unhide H2).1.size (fun k e => by injection e with e; have := (unhide H2).2.1; omega)
  rw [← List.map_append, show m + fs.length = (ls ++ fs).length by rw [List.length_append, hm]] at ho3
  obtain ⟨p, c, e, hA⟩ := own_rnA ho3
  injection e with e1 e2 e3
  subst e1
  have HN := hide (And.intro hA (And.intro hb3 (unhide HX)))
  clear H2 hb3 hA hg3 he3 ho3 HX
  rw [show m + fs.length = (ls ++ fs).length by rw [List.length_append, hm]]
  generalize hN : (ls ++ fs).length = N at *
  go_wp2_with fail
  exact unhide HQ _ _ _ _ fs (by rw [hN]; exact ⟨_, _, _, _, _, _, _, _, _, _, _, mk_act rfl⟩) HN
end Go.Proofs.YtnnbaodillnkkaaGreat
