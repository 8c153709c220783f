/- The law of soundness: the loops over what a rune is folded to, and looks like. -/
import Derived.Test.YtnnbaodillnkkaaGreatTlY
namespace Go.Proofs.YtnnbaodillnkkaaGreat
open Go.RowKit Go.Shelf Go.Maps
set_option linter.unusedVariables false
/-- A row of runes as it is read. -/
def RnA (w : World) (p : Option Addr) (zs : List Int) : Prop := ∀ (k : Nat) (y : Int), zs[k]? = some y → ∃ g, p = some ⟨g, 0, none⟩ ∧ g < w.heap.size ∧ w.cell? ⟨g, k, none⟩ = some (.int .i32 y)
theorem RnA.below {w w' : World} {p : Option Addr} {zs : List Int} (h : RnA w p zs) (hb : Below w.heap.size w w') : RnA w' p zs := fun k y e => by
  obtain ⟨g, e1, e2, e3⟩ := h k y e
  exact ⟨g, e1, Nat.lt_of_lt_of_le e2 hb.size, (hb.cell (p := ⟨g, k, none⟩) e2).trans e3⟩
noncomputable def sndT : Code := match Tryz.f4.body with
  | some (.seq _ (.seq _ (.seq _ (.seq _ (.seq _ (.seq (.seq _ (.block _ (.loop (.seq _ (.seq (.block _ (.seq _ (.seq _ (.seq _ (.seq _ (.seq _ (.seq _ (.seq c _)))))))) _))))) _)))))) => c
  | _ => .skip
noncomputable def sndL : Code := match Tryz.f4.body with
  | some (.seq _ (.seq _ (.seq _ (.seq _ (.seq _ (.seq (.seq _ (.block _ (.loop (.seq _ (.seq (.block _ (.seq _ (.seq _ (.seq _ (.seq _ (.seq _ (.seq _ (.seq _ (.seq c _))))))))) _))))) _)))))) => c
  | _ => .skip
set_option maxRecDepth 100000 in
set_option maxHeartbeats 8000000 in
theorem sndT_any {T : TV} (hO : RowsOk T) (B c : Nat) (p : Option Addr) (zs : List Int) (hz : ∀ y ∈ zs, R32 y ∧ fromB T.fo y = false ∧ wholP T y = none ∧ classOf T y = 0 ∧ drB T y = false ∧ plainB T y = true) (hl : zs.length ≤ 4) (v7 v8 v9 v10 v11 v12 v17 v18 v19 v20 v21 v27 : Value) (U : Nat → Value) (w : World) (h : BookAt w B T) (hp : RnA w p zs) {Q : Exit → Act → World → Prop}
    (hQ : ∀ (a : Act) (wn : World), (∃ x U', a = snF B v7 v8 v9 v10 v11 v12 (.slice p zs.length c) v18 v19 v20 x v27 U') → Hz (Below w.heap.size w wn) → Q .normal a wn) :
    Code.wp Tryz.prog sndT Q (snF B v7 v8 v9 v10 v11 v12 (.slice p zs.length c) v18 v19 v20 v21 v27 U) w := by
  have HQ := hide hQ
  have HZ := hide hz
  have HP := hide hp
  have HB0 : Hz (Below w.heap.size w w) := hide (Below.refl _ _)
  have HF := hide (fun y (hy : R32 y ∧ fromB T.fo y = false ∧ wholP T y = none ∧ classOf T y = 0 ∧ drB T y = false ∧ plainB T y = true) w1 (hb : Below w.heap.size w w1) => by
    have := bkFold_any hO B y hy.1 w1 (h.below hb)
    rw [hy.2.1] at this
    exact this)
  have HPa := hide (fun y (hy : R32 y ∧ fromB T.fo y = false ∧ wholP T y = none ∧ classOf T y = 0 ∧ drB T y = false ∧ plainB T y = true) w1 (hb : Below w.heap.size w w1) => by
    have := bkPair_any hO B y hy.1 w1 (h.below hb)
    rw [hy.2.2.1, show pairT none = .tuple #[.int .i32 0, .int .i32 0, .bool false] from rfl] at this
    exact this)
  have HCl := hide (fun y (hy : R32 y ∧ fromB T.fo y = false ∧ wholP T y = none ∧ classOf T y = 0 ∧ drB T y = false ∧ plainB T y = true) w1 (hb : Below w.heap.size w w1) => by
    have := bkClass_any hO B y hy.1 w1 (h.below hb)
    rw [hy.2.2.2.1] at this
    exact this)
  have HD := hide (fun y (hy : R32 y ∧ fromB T.fo y = false ∧ wholP T y = none ∧ classOf T y = 0 ∧ drB T y = false ∧ plainB T y = true) w1 (hb : Below w.heap.size w w1) => by
    have := bkDropped_any hO B y w1 (h.below hb)
    rw [hy.2.2.2.2.1] at this
    exact this)
  have HPl := hide (fun y (hy : R32 y ∧ fromB T.fo y = false ∧ wholP T y = none ∧ classOf T y = 0 ∧ drB T y = false ∧ plainB T y = true) w1 (hb : Below w.heap.size w w1) => by
    have := bkPlain_any hO B y hy.1 w1 (h.below hb)
    rw [hy.2.2.2.2.2] at this
    exact this)
  clear h hO hQ hz hp
  delta sndT Tryz.f4 snF at *
  dsimp only
  go_wp2_with fail
  go_loopw [21] (fun s wr => ∃ k : Nat, k ≤ zs.length ∧ s = .int .i64 k ∧ Hz (Below w.heap.size w wr)) (fun s _ => zs.length - (intOf s).toNat)
  case atStart => exact ⟨0, Nat.zero_le _, rfl, HB0⟩
  case round =>
    clear HB0
    obtain ⟨k, hk, rfl, HB⟩ := hrel
    by_cases hkn : k < zs.length
    · obtain ⟨y, hy⟩ : ∃ y, zs[k]? = some y := ⟨_, List.getElem?_eq_getElem hkn⟩
      obtain ⟨g, rfl, hg, hc⟩ := unhide HP k y hy
      have HY := hide (unhide HZ y (List.mem_of_getElem? hy))
      have HC : Hz (∀ w1, Below w.heap.size w w1 → w1.cell? ⟨g, k, none⟩ = some (.int .i32 y)) := hide (fun w1 hb => (hb.cell (p := ⟨g, k, none⟩) hg).trans hc)
      have hk1 : (k : Int) < (zs.length : Int) := by omega
      have hk2 : ((k : Nat) : Int).toNat = k := by omega
      clear hy hg hc HP HZ
      have q0 := unhide HC wr (unhide HB)
      go_wp2_with fail
      refine (unhide HF y (unhide HY) wr (unhide HB)).mono ?_
      rintro e u0 ⟨vf0, rfl, _, hb⟩
      replace HB := hide ((unhide HB).trans (hb.mono (unhide HB).size))
      clear hb q0
      have q0 := unhide HC u0 (unhide HB)
      go_wp2_with fail
      refine (unhide HPa y (unhide HY) u0 (unhide HB)).mono ?_
      rintro e u1 ⟨rfl, hb⟩
      replace HB := hide ((unhide HB).trans (hb.mono (unhide HB).size))
      clear hb q0
      have q0 := unhide HC u1 (unhide HB)
      go_wp2_with fail
      refine (unhide HCl y (unhide HY) u1 (unhide HB)).mono ?_
      rintro e u2 ⟨rfl, rfl⟩
      go_wp2_with fail
      refine (unhide HD y (unhide HY) u2 (unhide HB)).mono ?_
      rintro e u3 ⟨rfl, hb⟩
      replace HB := hide ((unhide HB).trans (hb.mono (unhide HB).size))
      clear hb q0
      have q0 := unhide HC u3 (unhide HB)
      go_wp2_with fail
      refine (unhide HPl y (unhide HY) u3 (unhide HB)).mono ?_
      rintro e u4 ⟨rfl, hb⟩
      replace HB := hide ((unhide HB).trans (hb.mono (unhide HB).size))
      clear hb q0
      have q0 := unhide HC u4 (unhide HB)
      go_wp2_with fail
      exact ⟨⟨k + 1, by omega, by go_num, HB⟩, by simp [intOf]; omega⟩
    · have hk1 : ¬ (k : Int) < (zs.length : Int) := by omega
      clear HP HZ
      go_wp2_with fail
      exact unhide HQ _ _ ⟨_, mk_act rfl⟩ HB
set_option maxRecDepth 100000 in
set_option maxHeartbeats 8000000 in
theorem sndL_any {T : TV} (hO : RowsOk T) (B c : Nat) (p : Option Addr) (zs : List Int) (hz : ∀ y ∈ zs, R32 y ∧ fromB T.lk y = false ∧ fromB T.fo y = false ∧ plainB T y = true) (hl : zs.length ≤ 4) (v7 v8 v9 v10 v11 v12 v17 v18 v19 v20 v21 v27 : Value) (U : Nat → Value) (w : World) (h : BookAt w B T) (hp : RnA w p zs) {Q : Exit → Act → World → Prop}
    (hQ : ∀ (a : Act) (wn : World), (∃ x U', a = snF B v7 v8 v9 v10 v11 v12 v17 v18 (.slice p zs.length c) v20 v21 x U') → Hz (Below w.heap.size w wn) → Q .normal a wn) :
    Code.wp Tryz.prog sndL Q (snF B v7 v8 v9 v10 v11 v12 v17 v18 (.slice p zs.length c) v20 v21 v27 U) w := by
  have HQ := hide hQ
  have HZ := hide hz
  have HP := hide hp
  have HB0 : Hz (Below w.heap.size w w) := hide (Below.refl _ _)
  have HL := hide (fun y (hy : R32 y ∧ fromB T.lk y = false ∧ fromB T.fo y = false ∧ plainB T y = true) w1 (hb : Below w.heap.size w w1) => by
    have := bkLook_any hO B y hy.1 w1 (h.below hb)
    rw [hy.2.1] at this
    exact this)
  have HF := hide (fun y (hy : R32 y ∧ fromB T.lk y = false ∧ fromB T.fo y = false ∧ plainB T y = true) w1 (hb : Below w.heap.size w w1) => by
    have := bkFold_any hO B y hy.1 w1 (h.below hb)
    rw [hy.2.2.1] at this
    exact this)
  have HPl := hide (fun y (hy : R32 y ∧ fromB T.lk y = false ∧ fromB T.fo y = false ∧ plainB T y = true) w1 (hb : Below w.heap.size w w1) => by
    have := bkPlain_any hO B y hy.1 w1 (h.below hb)
    rw [hy.2.2.2] at this
    exact this)
  clear h hO hQ hz hp
  delta sndL Tryz.f4 snF at *
  dsimp only
  go_wp2_with fail
  go_loopw [27] (fun s wr => ∃ k : Nat, k ≤ zs.length ∧ s = .int .i64 k ∧ Hz (Below w.heap.size w wr)) (fun s _ => zs.length - (intOf s).toNat)
  case atStart => exact ⟨0, Nat.zero_le _, rfl, HB0⟩
  case round =>
    clear HB0
    obtain ⟨k, hk, rfl, HB⟩ := hrel
    by_cases hkn : k < zs.length
    · obtain ⟨y, hy⟩ : ∃ y, zs[k]? = some y := ⟨_, List.getElem?_eq_getElem hkn⟩
      obtain ⟨g, rfl, hg, hc⟩ := unhide HP k y hy
      have HY := hide (unhide HZ y (List.mem_of_getElem? hy))
      have HC : Hz (∀ w1, Below w.heap.size w w1 → w1.cell? ⟨g, k, none⟩ = some (.int .i32 y)) := hide (fun w1 hb => (hb.cell (p := ⟨g, k, none⟩) hg).trans hc)
      have hk1 : (k : Int) < (zs.length : Int) := by omega
      have hk2 : ((k : Nat) : Int).toNat = k := by omega
      clear hy hg hc HP HZ
      have q0 := unhide HC wr (unhide HB)
      go_wp2_with fail
      refine (unhide HL y (unhide HY) wr (unhide HB)).mono ?_
      rintro e u0 ⟨vf0, rfl, _, hb⟩
      replace HB := hide ((unhide HB).trans (hb.mono (unhide HB).size))
      clear hb q0
      have q0 := unhide HC u0 (unhide HB)
      go_wp2_with fail
      refine (unhide HF y (unhide HY) u0 (unhide HB)).mono ?_
      rintro e u1 ⟨vf1, rfl, _, hb⟩
      replace HB := hide ((unhide HB).trans (hb.mono (unhide HB).size))
      clear hb q0
      have q0 := unhide HC u1 (unhide HB)
      go_wp2_with fail
      refine (unhide HPl y (unhide HY) u1 (unhide HB)).mono ?_
      rintro e u2 ⟨rfl, hb⟩
      replace HB := hide ((unhide HB).trans (hb.mono (unhide HB).size))
      clear hb q0
      have q0 := unhide HC u2 (unhide HB)
      go_wp2_with fail
      exact ⟨⟨k + 1, by omega, by go_num, HB⟩, by simp [intOf]; omega⟩
    · have hk1 : ¬ (k : Int) < (zs.length : Int) := by omega
      clear HP HZ
      go_wp2_with fail
      exact unhide HQ _ _ ⟨_, mk_act rfl⟩ HB
end Go.Proofs.YtnnbaodillnkkaaGreat
