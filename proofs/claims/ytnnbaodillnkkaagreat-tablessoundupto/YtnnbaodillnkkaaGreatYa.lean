/- Texts of this claim, one behind the other. -/
import Derived.Test.YtnnbaodillnkkaaGreatXa
/- What a right table's Book says of a rune: mathematics (the law of soundness). -/
namespace Go.Proofs.YtnnbaodillnkkaaGreat
open Go.RowKit Go.Shelf
set_option linter.unusedVariables false

/-- Where Base after Base ends. -/
def endF (T : TV) : Nat → Int → Option Int
  | 0, _ => none
  | f + 1, r => match wholP T r with
    | none => some r
    | some q => endF T f q.2.1
theorem endF_none {T : TV} {f : Nat} {r : Int} (h : wholP T r = none) : endF T (f + 1) r = some r := by
  show (match wholP T r with | none => some r | some q => endF T f q.2.1) = some r
  rw [h]
theorem endF_some {T : TV} {f : Nat} {r : Int} {q : Int × Int × Int} (h : wholP T r = some q) : endF T (f + 1) r = endF T f q.2.1 := by
  show (match wholP T r with | none => some r | some q => endF T f q.2.1) = endF T f q.2.1
  rw [h]
theorem chainF_end (T : TV) (P : Int → Prop) (hP : ∀ x ∈ T.pr, P x.2.1) : ∀ (f : Nat) (b : Int) (n k : Nat), P b → chainF T f b n = some k → n ≤ k ∧ ∀ g, k < n + g → ∃ e, endF T g b = some e ∧ P e
  | 0, _, _, _, _, h => by cases h
  | f + 1, b, n, k, hb, h => by
    cases e : wholP T b with
    | none =>
      have h' : some n = some k := by
        rw [← h]
        show some n = (match wholP T b with | none => some n | some q => chainF T f q.2.1 (n + 1))
        rw [e]
      injection h' with h'
      subst h'
      refine ⟨Nat.le_refl _, fun g hg => ?_⟩
      obtain ⟨g, rfl⟩ : ∃ g', g = g' + 1 := ⟨g - 1, by omega⟩
      exact ⟨b, endF_none e, hb⟩
    | some q =>
      have h' : chainF T f q.2.1 (n + 1) = some k := by
        rw [← h]
        show _ = (match wholP T b with | none => some n | some q => chainF T f q.2.1 (n + 1))
        rw [e]
      obtain ⟨h1, h2⟩ := chainF_end T P hP f q.2.1 (n + 1) k (hP q (List.mem_of_find?_eq_some e)) h'
      refine ⟨by omega, fun g hg => ?_⟩
      obtain ⟨g, rfl⟩ : ∃ g', g = g' + 1 := ⟨g - 1, by omega⟩
      rw [endF_some e]
      exact h2 g (by omega)
/-- What is right of a table behind its rows. -/
structure Right6 (T : TV) : Prop where
  pe : ∀ x ∈ T.pr, markB T x.1 = false ∧ markB T x.2.1 = false ∧ markB T x.2.2 = true
  pg : ∀ x ∈ T.pr, ∃ n, chainF T T.pr.length x.2.1 1 = some n ∧ n ≤ 4
  pd : ∀ x ∈ T.pr, drB T x.1 = false ∧ drB T x.2.1 = false ∧ drB T x.2.2 = false
  fd : ∀ x ∈ T.fo, drB T x.1 = false ∧ markB T x.1 = false ∧ wholB T x.1 = false
  kd : ∀ x ∈ T.lk, drB T x.1 = false ∧ markB T x.1 = false ∧ wholB T x.1 = false
  ft : ∀ x ∈ T.fo, ∀ r ∈ runesL x.2, plainB T r = true
  kt : ∀ x ∈ T.lk, ∀ r ∈ runesL x.2, plainB T r = true ∧ fromB T.lk r = false
theorem ite0 {b : Bool} {n : Int} (hn : n ≠ 0) (h : (if b then n else 0) = 0) : b = false := by
  cases b
  · rfl
  · exact absurd (by simpa using h) hn
theorem right6_of {T : TV} (h : (checkV T).1 = 0) : Right6 T := by
  have h := orW_zero h
  simp only [List.forall_mem_cons] at h
  obtain ⟨_, _, _, h4, h5, h6, h7, h8, _⟩ := h
  have h6 := orW_zero h6
  have h7 := orW_zero h7
  have h8 := orW_zero h8
  simp only [List.forall_mem_cons] at h6 h7 h8
  obtain ⟨_, d4, d5, d6, _⟩ := h6
  obtain ⟨p5, p6, _⟩ := h7
  obtain ⟨t5, t6, _⟩ := h8
  refine ⟨fun x hx => ?_, fun x hx => ?_, fun x hx => ?_, fun x hx => ?_, fun x hx => ?_, fun x hx r hr => ?_, fun x hx r hr => ?_⟩
  · have := ite0 (by decide) (eachW_zero h4 x hx)
    simpa using this
  · have := eachW_zero h5 x hx
    unfold prR at this
    cases e : chainF T T.pr.length x.2.1 1 with
    | none => rw [e] at this; exact absurd this (by decide)
    | some n =>
      rw [e] at this
      refine ⟨n, rfl, ?_⟩
      by_cases hn : 4 < n
      · simp only [if_pos hn] at this
        exact absurd this (by decide)
      · omega
  · have := ite0 (by decide) (eachW_zero d4 x hx)
    simpa using this
  · have a := ite0 (by decide) (eachW_zero d5 x hx)
    have b := ite0 (by decide) (eachW_zero p5 x hx)
    exact ⟨a, by simpa using b⟩
  · have a := ite0 (by decide) (eachW_zero d6 x hx)
    have b := ite0 (by decide) (eachW_zero p6 x hx)
    exact ⟨a, by simpa using b⟩
  · have a := ite0 (by decide) (eachW_zero t5 x hx)
    rw [List.any_eq_false] at a
    simpa using a r hr
  · have a := ite0 (by decide) (eachW_zero t6 x hx)
    rw [List.any_eq_false] at a
    have := a r hr
    simpa using this
theorem class_zero {T : TV} (hO : RowsOk T) {r : Int} (h : markB T r = false) : classOf T r = 0 := by
  have := class_mark hO r
  rw [h] at this
  simpa using this
theorem class_one {T : TV} (hO : RowsOk T) {r : Int} (h : markB T r = true) : 1 ≤ classOf T r ∧ classOf T r ≤ 254 := by
  unfold markB at h
  obtain ⟨x, hx, e⟩ := List.any_eq_true.1 h
  obtain rfl : x.1 = r := by simpa using e
  rw [class_of hO hx]
  exact (hO.f2 x hx).2
theorem whol_no {T : TV} {r : Int} (h : wholB T r = false) : wholP T r = none := by
  cases e : wholP T r with
  | none => rfl
  | some q =>
    have := whol_some (T := T) (r := r)
    rw [e, h] at this
    cases this
/-- A whole. -/
structure WholOk (T : TV) (r : Int) (q : Int × Int × Int) : Prop where
  en : ∃ e, endF T 5 r = some e ∧ R32 e ∧ classOf T e = 0 ∧ drB T e = false
  mr : drB T q.2.2 = false ∧ 1 ≤ classOf T q.2.2 ∧ classOf T q.2.2 ≤ 254
  jo : joinP T q.2.1 q.2.2 = some q ∧ q.1 = r
  se : classOf T r = 0 ∧ drB T r = false
  rs : R32 q.2.1 ∧ R32 q.2.2
theorem whol_ok {T : TV} (hO : RowsOk T) (h : Right6 T) {r : Int} {q : Int × Int × Int} (e : wholP T r = some q) : WholOk T r q := by
  have hq := List.mem_of_find?_eq_some e
  obtain rfl : q.1 = r := by simpa using List.find?_some e
  obtain ⟨e1, e2, e3⟩ := h.pe q hq
  obtain ⟨d1, d2, d3⟩ := h.pd q hq
  obtain ⟨f1, f2, f3⟩ := hO.f3 q hq
  obtain ⟨n, hn, hn4⟩ := h.pg q hq
  obtain ⟨_, h2⟩ := chainF_end T (fun b => R32 b ∧ classOf T b = 0 ∧ drB T b = false) (fun x hx => ⟨rune32 (hO.f3 x hx).2.1, class_zero hO (h.pe x hx).2.1, (h.pd x hx).2.1⟩) _ _ _ _ ⟨rune32 f2, class_zero hO e2, d2⟩ hn
  obtain ⟨z, hz, p1, p2, p3⟩ := h2 4 (by omega)
  exact ⟨⟨z, (endF_some e).trans hz, p1, p2, p3⟩, ⟨d3, class_one hO e3⟩, ⟨join_of hO hq, rfl⟩, ⟨class_zero hO e1, d1⟩, ⟨rune32 f2, rune32 f3⟩⟩
theorem from_ok {T : TV} (hO : RowsOk T) (h : Right6 T) {r : Int} (e : (fromB T.fo r || fromB T.lk r) = true) : wholP T r = none ∧ classOf T r = 0 ∧ drB T r = false := by
  rw [Bool.or_eq_true] at e
  rcases e with e | e
  · obtain ⟨x, hx, e⟩ := List.any_eq_true.1 e
    obtain rfl : x.1 = r := by simpa using e
    obtain ⟨a, b, c⟩ := h.fd x hx
    exact ⟨whol_no c, class_zero hO b, a⟩
  · obtain ⟨x, hx, e⟩ := List.any_eq_true.1 e
    obtain rfl : x.1 = r := by simpa using e
    obtain ⟨a, b, c⟩ := h.kd x hx
    exact ⟨whol_no c, class_zero hO b, a⟩
theorem toL_from {l : List (Int × ByteArray)} (h : ∀ x ∈ l, runeB x.1 = true ∧ toB x.2 = true) (r : Int) : fromB l r = decide (0 < (toL l r).length) := by
  rw [← to_some]
  unfold toL
  cases e : toP l r with
  | none => rfl
  | some x =>
    have := (toB_iff (h x (List.mem_of_find?_eq_some e)).2).2.1
    show true = decide (0 < (runesL x.2).length)
    rw [decide_eq_true (by omega)]
theorem toL_mem {l : List (Int × ByteArray)} {r y : Int} (h : y ∈ toL l r) : ∃ x ∈ l, y ∈ runesL x.2 := by
  unfold toL at h
  cases e : toP l r with
  | none => rw [e] at h; cases h
  | some x => rw [e] at h; exact ⟨x, List.mem_of_find?_eq_some e, h⟩
theorem plain_parts {T : TV} (hO : RowsOk T) {r : Int} (h : plainB T r = true) : runeB r = true ∧ wholP T r = none ∧ classOf T r = 0 ∧ drB T r = false ∧ fromB T.fo r = false := by
  unfold plainB at h
  simp only [Bool.and_eq_true, Bool.not_eq_true'] at h
  exact ⟨h.1, whol_no h.2.2.1, class_zero hO h.2.1, h.2.2.2.1, h.2.2.2.2⟩
/-- What a rune is folded to. -/
theorem fold_ok {T : TV} (hO : RowsOk T) (h : Right6 T) {r y : Int} (hy : y ∈ toL T.fo r) : R32 y ∧ fromB T.fo y = false ∧ wholP T y = none ∧ classOf T y = 0 ∧ drB T y = false ∧ plainB T y = true := by
  obtain ⟨x, hx, hm⟩ := toL_mem hy
  have hp := h.ft x hx y hm
  obtain ⟨a, b, c, d, e⟩ := plain_parts hO hp
  exact ⟨rune32 a, e, b, c, d, hp⟩
theorem look_ok {T : TV} (hO : RowsOk T) (h : Right6 T) {r y : Int} (hy : y ∈ toL T.lk r) : R32 y ∧ fromB T.lk y = false ∧ fromB T.fo y = false ∧ plainB T y = true := by
  obtain ⟨x, hx, hm⟩ := toL_mem hy
  have hp := h.kt x hx y hm
  obtain ⟨a, b, c, d, e⟩ := plain_parts hO hp.1
  exact ⟨rune32 a, hp.2, e, hp.1⟩
theorem plain_is {T : TV} (hO : RowsOk T) (r : Int) : plainB T r = (runeB r && (!(wholP T r).isSome && (!fromB T.fo r && ((classOf T r == 0) && !drB T r)))) := by
  rw [class_mark hO, whol_some]
  unfold plainB
  cases runeB r <;> cases markB T r <;> cases wholB T r <;> cases drB T r <;> cases fromB T.fo r <;> rfl
end Go.Proofs.YtnnbaodillnkkaaGreat
/- Where Base after Base ends (guiselaw6.ends). -/
namespace Go.Proofs.YtnnbaodillnkkaaGreat
open Go.RowKit Go.Shelf Go.Maps
set_option linter.unusedVariables false

structure EnS (W w : World) (B : Nat) (T : TV) (n : Nat) (cur z : Int) : Prop where
  n5 : n ≤ 5
  r3 : R32 cur
  en : endF T (5 - n) cur = some z
  bl : Below W.heap.size W w
  bk : BookAt w B T
set_option maxRecDepth 100000 in
set_option maxHeartbeats 4000000 in
theorem ends_any {T : TV} (hO : RowsOk T) (B : Nat) (r z : Int) (hr : R32 r) (hz : endF T 5 r = some z) (w : World) (h : BookAt w B T) :
    Calls Tryz.prog 11 #[.pointer (some ⟨B, 0, none⟩), .int .i32 r, .int .i64 4] w fun e w' => e = .returned (.tuple #[.int .i32 z, .bool true]) ∧ Below w.heap.size w w' := by
  have H0 : Hz (EnS w w B T 0 r z) := hide ⟨by omega, hr, hz, Below.refl _ _, h⟩
  have HO := hide hO
  clear h hO hr hz
  go_enter Tryz.func11, Tryz.ntmps11
  go_wp2_with fail
  go_loopw [1, 8] (fun s1 s8 wr => ∃ (n : Nat) (cur : Int), n ≤ 5 ∧ s1 = .int .i32 cur ∧ s8 = .int .i64 n ∧ Hz (EnS w wr B T n cur z)) (fun _ s8 _ => 6 - (intOf s8).toNat)
  case atStart => exact ⟨0, r, by omega, rfl, rfl, H0⟩
  case round =>
    clear H0
    obtain ⟨n, cur, hn, rfl, rfl, HS⟩ := hrel
    have hn4 : n ≤ 4 := by
      by_cases e : n = 5
      · subst e
        have := (unhide HS).en
        cases this
      · omega
    have hn4' : (n : Int) ≤ 4 := by omega
    have HC := hide (bkPair_any (unhide HO) B cur (unhide HS).r3 wr (unhide HS).bk)
    go_wp2_with fail
    refine (unhide HC).mono ?_
    rintro e w5 ⟨rfl, hb⟩
    clear HC
    cases hq : wholP T cur with
    | none =>
      have hz : some cur = some z := by
        have := (unhide HS).en
        rwa [show 5 - n = (4 - n) + 1 by omega, endF_none hq] at this
      injection hz with hz
      subst hz
      have HB := hide ((unhide HS).bl.trans (hb.mono (unhide HS).bl.size))
      clear hb HS hq
      unfold pairT
      go_wp2_with fail
      exact bodyPost_ret (v := .tuple #[.int .i32 cur, .bool true]) (by simp [results, Tryz.results11, go_sem]) rfl ⟨rfl, unhide HB⟩
    | some q =>
      have hz : endF T (5 - (n + 1)) q.2.1 = some z := by
        have := (unhide HS).en
        rw [show 5 - n = (5 - (n + 1)) + 1 by omega, endF_some hq] at this
        exact this
      have HN : Hz (EnS w w5 B T (n + 1) q.2.1 z) := hide ⟨by omega, rune32 ((unhide HO).f3 q (whol_mem hq)).2.1, hz, (unhide HS).bl.trans (hb.mono (unhide HS).bl.size), (unhide HS).bk.below hb⟩
      obtain ⟨q1, q2, q3⟩ := q
      dsimp only at HN
      clear hb HS hq hz
      unfold pairT
      go_wp2_with fail
      exact ⟨⟨n + 1, q2, by omega, by rfl, by go_num, HN⟩, by simp [intOf]; omega⟩
end Go.Proofs.YtnnbaodillnkkaaGreat
/- The law of soundness: a round's frame, and a whole. -/
namespace Go.Proofs.YtnnbaodillnkkaaGreat
open Go.RowKit Go.Shelf Go.Maps
set_option linter.unusedVariables false
/-- The frame of a round. -/
def snF (B : Nat) (v7 v8 v9 v10 v11 v12 v17 v18 v19 v20 v21 v27 : Value) (U : Nat → Value) : Act := { tmps := #[U 0, U 1, U 2, U 3, U 4, .pointer (some ⟨B, 0, none⟩), U 6, v7, v8, v9, v10, v11, v12, U 13, U 14, U 15, U 16, v17, v18, v19, v20, v21, U 22, U 23, U 24, U 25, U 26, v27, U 28, U 29, U 30, U 31, U 32, U 33, U 34, U 35, U 36, U 37, U 38, U 39, U 40, U 41, U 42, U 43, U 44, U 45, U 46, U 47, U 48, U 49, U 50, U 51, U 52, U 53, U 54, U 55, U 56, U 57, U 58, U 59, U 60, U 61, U 62, U 63, U 64, U 65, U 66, U 67, U 68, U 69, U 70, U 71, U 72, U 73, U 74, U 75, U 76, U 77, U 78, U 79, U 80, U 81, U 82, U 83, U 84, U 85, U 86, U 87, U 88, U 89, U 90, U 91, U 92, U 93, U 94, U 95, U 96, U 97, U 98, U 99, U 100, U 101, U 102, U 103, U 104, U 105, U 106, U 107, U 108, U 109, U 110, U 111, U 112, U 113, U 114, U 115, U 116, U 117, U 118, U 119, U 120, U 121, U 122, U 123, U 124, U 125, U 126, U 127, U 128, U 129, U 130, U 131, U 132, U 133, U 134, U 135, U 136, U 137, U 138, U 139, U 140, U 141, U 142, U 143, U 144, U 145, U 146, U 147, U 148, U 149, U 150, U 151, U 152, U 153, U 154, U 155, U 156, U 157, U 158, U 159, U 160, U 161, U 162, U 163, U 164, U 165, U 166, U 167, U 168, U 169, U 170, U 171, U 172, U 173, U 174, U 175, U 176, U 177, U 178, U 179, U 180, U 181, U 182, U 183, U 184, U 185, U 186, U 187, U 188, U 189, U 190, U 191, U 192, U 193, U 194, U 195, U 196, U 197, U 198, U 199, U 200, U 201, U 202, U 203, U 204, U 205, U 206, U 207, U 208, U 209, U 210, U 211, U 212, U 213, U 214, U 215, U 216, U 217, U 218, U 219, U 220, U 221, U 222, U 223, U 224, U 225, U 226, U 227, U 228, U 229, U 230, U 231, U 232, U 233, U 234, U 235, U 236, U 237, U 238, U 239, U 240, U 241, U 242, U 243, U 244, U 245, U 246, U 247, U 248, U 249, U 250, U 251, U 252, U 253, U 254, U 255, U 256, U 257, U 258, U 259, U 260, U 261, U 262, U 263, U 264, U 265, U 266, U 267, U 268, U 269, U 270, U 271, U 272, U 273, U 274, U 275, U 276, U 277, U 278, U 279, U 280, U 281, U 282, U 283, U 284, U 285, U 286, U 287, U 288, U 289, U 290, U 291, U 292, U 293, U 294, U 295, U 296, U 297, U 298, U 299, U 300, U 301, U 302, U 303, U 304, U 305, U 306, U 307], defers := [] }
noncomputable def snLoop : Code := match Tryz.f4.body with
  | some (.seq _ (.seq _ (.seq _ (.seq _ (.seq _ (.seq (.seq _ (.block _ (.loop c))) _)))))) => c
  | _ => .skip
noncomputable def sndA : Code := match Tryz.f4.body with
  | some (.seq _ (.seq _ (.seq _ (.seq _ (.seq _ (.seq (.seq _ (.block _ (.loop (.seq _ (.seq (.block _ (.seq _ (.seq _ (.seq c _)))) _))))) _)))))) => c
  | _ => .skip
set_option maxRecDepth 100000 in
set_option maxHeartbeats 8000000 in
theorem sndA_any {T : TV} (hO : RowsOk T) (h6 : Right6 T) (B : Nat) (r : Int) (hr : R32 r) (v7 v8 v17 v18 v19 v20 v21 v27 : Value) (U : Nat → Value) (w : World) (h : BookAt w B T) {Q : Exit → Act → World → Prop}
    (hQ : ∀ (a : Act) (wn : World), (∃ U', a = snF B v7 v8 (.int .i32 r) (.int .i32 (((wholP T r).map (·.2.1)).getD 0)) (.int .i32 (((wholP T r).map (·.2.2)).getD 0)) (.bool (wholP T r).isSome) v17 v18 v19 v20 v21 v27 U') → Hz (Below w.heap.size w wn) → Q .normal a wn) :
    Code.wp Tryz.prog sndA Q (snF B v7 v8 (.int .i32 r) (.int .i32 (((wholP T r).map (·.2.1)).getD 0)) (.int .i32 (((wholP T r).map (·.2.2)).getD 0)) (.bool (wholP T r).isSome) v17 v18 v19 v20 v21 v27 U) w := by
  have HQ := hide hQ
  clear hQ
  delta sndA Tryz.f4 snF at *
  dsimp only
  cases hq : wholP T r with
  | none =>
    rw [hq] at HQ
    have HB : Hz (Below w.heap.size w w) := hide (Below.refl _ _)
    clear hq h hO h6 hr
    dsimp only [Option.map, Option.getD, Option.isSome] at HQ ⊢
    go_wp2_with fail
    exact unhide HQ _ _ (mk_act rfl) HB
  | some q =>
    rw [hq] at HQ
    have hw := whol_ok hO h6 hq
    obtain ⟨z, z1, z2, z3, z4⟩ := hw.en
    obtain ⟨m1, m2, m3⟩ := hw.mr
    obtain ⟨j1, j2⟩ := hw.jo
    obtain ⟨s1, s2⟩ := hw.se
    obtain ⟨r1, r2⟩ := hw.rs
    obtain ⟨q1, q2, q3⟩ := q
    dsimp only [Option.map, Option.getD, Option.isSome] at HQ j1 j2 m1 m2 m3 r1 r2 ⊢
    subst j2
    have HE := hide (fun w1 (hb : Below w.heap.size w w1) => (ends_any hO B q1 z hr z1 w1 (h.below hb)))
    have HJ := hide (fun w1 (hb : Below w.heap.size w w1) => by have := bkJoined_any hO B q2 q3 r1 r2 w1 (h.below hb); rwa [j1] at this)
    have HCz := hide (fun w1 (hb : Below w.heap.size w w1) => by have := bkClass_any hO B z z2 w1 (h.below hb); rwa [z3] at this)
    have HCm := hide (fun w1 (hb : Below w.heap.size w w1) => bkClass_any hO B q3 r2 w1 (h.below hb))
    have HCr := hide (fun w1 (hb : Below w.heap.size w w1) => by have := bkClass_any hO B q1 hr w1 (h.below hb); rwa [s1] at this)
    have HDz := hide (fun w1 (hb : Below w.heap.size w w1) => by have := bkDropped_any hO B z w1 (h.below hb); rwa [z4] at this)
    have HDm := hide (fun w1 (hb : Below w.heap.size w w1) => by have := bkDropped_any hO B q3 w1 (h.below hb); rwa [m1] at this)
    have HDr := hide (fun w1 (hb : Below w.heap.size w w1) => by have := bkDropped_any hO B q1 w1 (h.below hb); rwa [s2] at this)
    generalize classOf T q3 = cm at *
    have hm2 : ¬ cm < 1 := by omega
    have hm3 : ¬ 254 < cm := by omega
    clear h hO h6 hr hq hw z1 z2 z3 z4 m1 j1 s1 s2 r1 r2
    have HB0 : Hz (Below w.heap.size w w) := hide (Below.refl _ _)
    go_wp2_with fail
    refine (unhide HE w (unhide HB0)).mono ?_
    rintro e w1 ⟨rfl, hb⟩
    have HB1 := hide hb
    clear hb HE
    go_wp2_with fail
    refine (unhide HJ w1 (unhide HB1)).mono ?_
    rintro e w2 ⟨rfl, rfl⟩
    clear HJ
    go_wp2_with fail
    refine (unhide HCz w2 (unhide HB1)).mono ?_
    rintro e w3 ⟨rfl, rfl⟩
    clear HCz
    go_wp2_with fail
    refine (unhide HDz w3 (unhide HB1)).mono ?_
    rintro e w4 ⟨rfl, hb⟩
    have HB2 := hide ((unhide HB1).trans (hb.mono (unhide HB1).size))
    clear hb HDz HB1
    go_wp2_with fail
    refine (unhide HDm w4 (unhide HB2)).mono ?_
    rintro e w5 ⟨rfl, hb⟩
    have HB3 := hide ((unhide HB2).trans (hb.mono (unhide HB2).size))
    clear hb HDm HB2
    go_wp2_with fail
    refine (unhide HCm w5 (unhide HB3)).mono ?_
    rintro e w6 ⟨rfl, rfl⟩
    go_wp2_with fail
    refine (unhide HCm w6 (unhide HB3)).mono ?_
    rintro e w7 ⟨rfl, rfl⟩
    clear HCm
    go_wp2_with fail
    refine (unhide HCr w7 (unhide HB3)).mono ?_
    rintro e w8 ⟨rfl, rfl⟩
    clear HCr
    go_wp2_with fail
    refine (unhide HDr w8 (unhide HB3)).mono ?_
    rintro e w9 ⟨rfl, hb⟩
    have HB4 := hide ((unhide HB3).trans (hb.mono (unhide HB3).size))
    clear hb HDr HB3
    go_wp2_with fail
    exact unhide HQ _ _ (mk_act rfl) HB4
end Go.Proofs.YtnnbaodillnkkaaGreat
