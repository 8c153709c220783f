/- The law of soundness: what is folded or looked like; what is plain. -/
import Derived.Test.YtnnbaodillnkkaaGreatYa
namespace Go.Proofs.YtnnbaodillnkkaaGreat
open Go.RowKit Go.Shelf Go.Maps
set_option linter.unusedVariables false
set_option maxRecDepth 100000 in
theorem refRune_any (r : Int) (w : World) : Calls Tryz.prog 18 #[.int .i32 r] w fun e w' => e = .returned (.bool (runeB r)) ∧ w' = w := by
  by_cases h0 : 0 ≤ r
  · by_cases h1 : r ≤ 1114111
    · by_cases h2 : r < 55296
      · have e : runeB r = true := decide_eq_true ⟨h0, h1, .inl h2⟩
        rw [e]
        clear e
        go_enter Tryz.func18, Tryz.ntmps18
        go_wp2_with fail
        go_ret
        exact ⟨rfl, rfl⟩
      · by_cases h3 : 57343 < r
        · have e : runeB r = true := decide_eq_true ⟨h0, h1, .inr h3⟩
          rw [e]
          clear e
          go_enter Tryz.func18, Tryz.ntmps18
          go_wp2_with fail
          go_ret
          exact ⟨rfl, rfl⟩
        · have e : runeB r = false := decide_eq_false (by omega)
          rw [e]
          clear e
          go_enter Tryz.func18, Tryz.ntmps18
          go_wp2_with fail
          go_ret
          exact ⟨rfl, rfl⟩
    · have e : runeB r = false := decide_eq_false (by omega)
      rw [e]
      clear e
      go_enter Tryz.func18, Tryz.ntmps18
      go_wp2_with fail
      go_ret
      exact ⟨rfl, rfl⟩
  · have e : runeB r = false := decide_eq_false (by omega)
    rw [e]
    clear e
    go_enter Tryz.func18, Tryz.ntmps18
    go_wp2_with fail
    go_ret
    exact ⟨rfl, rfl⟩
noncomputable def sndC : Code := match Tryz.f4.body with
  | some (.seq _ (.seq _ (.seq _ (.seq _ (.seq _ (.seq (.seq _ (.block _ (.loop (.seq _ (.seq (.block _ (.seq _ (.seq _ (.seq _ (.seq _ (.seq _ (.seq c _))))))) _))))) _)))))) => c
  | _ => .skip
noncomputable def sndP : Code := match Tryz.f4.body with
  | some (.seq _ (.seq _ (.seq _ (.seq _ (.seq _ (.seq (.seq _ (.block _ (.loop (.seq _ (.seq (.block _ (.seq _ (.seq _ (.seq _ (.seq _ (.seq _ (.seq _ (.seq _ (.seq _ c))))))))) _))))) _)))))) => c
  | _ => .skip
set_option maxRecDepth 100000 in
set_option maxHeartbeats 8000000 in
theorem sndC_any {T : TV} (hO : RowsOk T) (B : Nat) (r : Int) (hr : R32 r) (ok fo lk : Bool) (n1 n2 c1 c2 : Nat) (p1 p2 : Option Addr) (v7 v8 v10 v11 v21 v27 : Value) (U : Nat → Value) (w : World) (h : BookAt w B T)
    (hf : (fo || lk) = true → ok = false ∧ classOf T r = 0 ∧ drB T r = false) (h1 : fo = decide (0 < n1)) (h2 : lk = decide (0 < n2)) (h3 : n1 ≤ 4) (h4 : n2 ≤ 4) {Q : Exit → Act → World → Prop}
    (hQ : ∀ (a : Act) (wn : World), (∃ U', a = snF B v7 v8 (.int .i32 r) v10 v11 (.bool ok) (.slice p1 n1 c1) (.bool fo) (.slice p2 n2 c2) (.bool lk) v21 v27 U') → Hz (Below w.heap.size w wn) → Q .normal a wn) :
    Code.wp Tryz.prog sndC Q (snF B v7 v8 (.int .i32 r) v10 v11 (.bool ok) (.slice p1 n1 c1) (.bool fo) (.slice p2 n2 c2) (.bool lk) v21 v27 U) w := by
  have HQ := hide hQ
  clear hQ
  have HCr := hide (fun (e : classOf T r = 0) w1 (hb : Below w.heap.size w w1) => by have := bkClass_any hO B r hr w1 (h.below hb); rwa [e] at this)
  have HDr := hide (fun (e : drB T r = false) w1 (hb : Below w.heap.size w w1) => by have := bkDropped_any hO B r w1 (h.below hb); rwa [e] at this)
  have HB0 : Hz (Below w.heap.size w w) := hide (Below.refl _ _)
  have HF := hide hf
  clear h hO hr hf
  have g1 : ¬ (4 : Int) < (n1 : Int) := by omega
  have g2 : ¬ (4 : Int) < (n2 : Int) := by omega
  delta sndC Tryz.f4 snF at *
  dsimp only
  cases fo with
  | true =>
    have i1 : (0 : Int) < (n1 : Int) := by have := of_decide_eq_true h1.symm; omega
    cases lk with
    | true =>
      have i2 : (0 : Int) < (n2 : Int) := by have := of_decide_eq_true h2.symm; omega
      obtain ⟨rfl, e2, e3⟩ := unhide HF rfl
      clear HF h1 h2 h3 h4
      go_wp2_with fail
      refine (unhide HCr e2 w (unhide HB0)).mono ?_
      rintro e w3 ⟨rfl, rfl⟩
      clear HCr
      go_wp2_with fail
      refine (unhide HDr e3 w3 (unhide HB0)).mono ?_
      rintro e w4 ⟨rfl, hb⟩
      have HB2 := hide hb
      clear hb HDr HB0
      go_wp2_with fail
      exact unhide HQ _ _ (mk_act rfl) HB2
    | false =>
      obtain rfl : n2 = 0 := by have := of_decide_eq_false h2.symm; omega
      obtain ⟨rfl, e2, e3⟩ := unhide HF rfl
      clear HF h1 h2 h3 h4
      go_wp2_with fail
      refine (unhide HCr e2 w (unhide HB0)).mono ?_
      rintro e w3 ⟨rfl, rfl⟩
      clear HCr
      go_wp2_with fail
      refine (unhide HDr e3 w3 (unhide HB0)).mono ?_
      rintro e w4 ⟨rfl, hb⟩
      have HB2 := hide hb
      clear hb HDr HB0
      go_wp2_with fail
      exact unhide HQ _ _ (mk_act rfl) HB2
  | false =>
    obtain rfl : n1 = 0 := by have := of_decide_eq_false h1.symm; omega
    cases lk with
    | true =>
      have i2 : (0 : Int) < (n2 : Int) := by have := of_decide_eq_true h2.symm; omega
      obtain ⟨rfl, e2, e3⟩ := unhide HF rfl
      clear HF h1 h2 h3 h4
      go_wp2_with fail
      refine (unhide HCr e2 w (unhide HB0)).mono ?_
      rintro e w3 ⟨rfl, rfl⟩
      clear HCr
      go_wp2_with fail
      refine (unhide HDr e3 w3 (unhide HB0)).mono ?_
      rintro e w4 ⟨rfl, hb⟩
      have HB2 := hide hb
      clear hb HDr HB0
      go_wp2_with fail
      exact unhide HQ _ _ (mk_act rfl) HB2
    | false =>
      obtain rfl : n2 = 0 := by have := of_decide_eq_false h2.symm; omega
      clear HF HCr HDr h1 h2 h3 h4
      go_wp2_with fail
      exact unhide HQ _ _ (mk_act rfl) HB0
set_option maxRecDepth 100000 in
set_option maxHeartbeats 8000000 in
theorem sndP_any {T : TV} (hO : RowsOk T) (B : Nat) (r : Int) (hr : R32 r) (ok fo : Bool) (v7 v8 v10 v11 v17 v19 v20 v21 v27 : Value) (U : Nat → Value) (w : World) (h : BookAt w B T)
    (h1 : (wholP T r).isSome = ok) (h2 : fromB T.fo r = fo) {Q : Exit → Act → World → Prop}
    (hQ : ∀ (a : Act) (wn : World), (∃ U', a = snF B v7 v8 (.int .i32 r) v10 v11 (.bool ok) v17 (.bool fo) v19 v20 v21 v27 U') → Hz (Below w.heap.size w wn) → Q .normal a wn) :
    Code.wp Tryz.prog sndP Q (snF B v7 v8 (.int .i32 r) v10 v11 (.bool ok) v17 (.bool fo) v19 v20 v21 v27 U) w := by
  have HQ := hide hQ
  clear hQ
  have hp := plain_is hO r
  rw [h1, h2] at hp
  have HP := hide (bkPlain_any hO B r hr w h)
  have HR := hide (fun w1 => refRune_any r w1)
  have HC := hide (fun w1 (hb : Below w.heap.size w w1) => bkClass_any hO B r hr w1 (h.below hb))
  have HD := hide (fun w1 (hb : Below w.heap.size w w1) => bkDropped_any hO B r w1 (h.below hb))
  clear h hO hr h1 h2
  generalize plainB T r = pb at *
  generalize runeB r = rb at *
  generalize classOf T r = cl at *
  generalize drB T r = dr at *
  delta sndP Tryz.f4 snF at *
  dsimp only
  cases rb with
  | false =>
    obtain rfl : pb = false := by rw [hp]; rfl
    clear hp
    go_wp2_with fail
    refine (unhide HP).mono ?_
    rintro e w1 ⟨rfl, hb⟩
    have HB1 := hide hb
    clear hb HP
    go_wp2_with fail
    refine (unhide HR w1).mono ?_
    rintro e w2 ⟨rfl, rfl⟩
    clear HR
    go_wp2_with fail
    exact unhide HQ _ _ (mk_act rfl) HB1
  | true =>
    cases ok with
    | true =>
      obtain rfl : pb = false := by rw [hp]; rfl
      clear hp
      go_wp2_with fail
      refine (unhide HP).mono ?_
      rintro e w1 ⟨rfl, hb⟩
      have HB1 := hide hb
      clear hb HP
      go_wp2_with fail
      refine (unhide HR w1).mono ?_
      rintro e w2 ⟨rfl, rfl⟩
      clear HR
      go_wp2_with fail
      exact unhide HQ _ _ (mk_act rfl) HB1
    | false =>
      cases fo with
      | true =>
        obtain rfl : pb = false := by rw [hp]; rfl
        clear hp
        go_wp2_with fail
        refine (unhide HP).mono ?_
        rintro e w1 ⟨rfl, hb⟩
        have HB1 := hide hb
        clear hb HP
        go_wp2_with fail
        refine (unhide HR w1).mono ?_
        rintro e w2 ⟨rfl, rfl⟩
        clear HR
        go_wp2_with fail
        exact unhide HQ _ _ (mk_act rfl) HB1
      | false =>
        by_cases hc : cl = 0
        · subst hc
          cases dr with
          | true =>
            obtain rfl : pb = false := by rw [hp]; rfl
            clear hp
            go_wp2_with fail
            refine (unhide HP).mono ?_
            rintro e w1 ⟨rfl, hb⟩
            have HB1 := hide hb
            clear hb HP
            go_wp2_with fail
            refine (unhide HR w1).mono ?_
            rintro e w2 ⟨rfl, rfl⟩
            clear HR
            go_wp2_with fail
            refine (unhide HC w2 (unhide HB1)).mono ?_
            rintro e w3 ⟨rfl, rfl⟩
            clear HC
            go_wp2_with fail
            refine (unhide HD w3 (unhide HB1)).mono ?_
            rintro e w4 ⟨rfl, hb⟩
            have HB2 := hide ((unhide HB1).trans (hb.mono (unhide HB1).size))
            clear hb HD HB1
            go_wp2_with fail
            exact unhide HQ _ _ (mk_act rfl) HB2
          | false =>
            obtain rfl : pb = true := by rw [hp]; rfl
            clear hp
            go_wp2_with fail
            refine (unhide HP).mono ?_
            rintro e w1 ⟨rfl, hb⟩
            have HB1 := hide hb
            clear hb HP
            go_wp2_with fail
            refine (unhide HR w1).mono ?_
            rintro e w2 ⟨rfl, rfl⟩
            clear HR
            go_wp2_with fail
            refine (unhide HC w2 (unhide HB1)).mono ?_
            rintro e w3 ⟨rfl, rfl⟩
            clear HC
            go_wp2_with fail
            refine (unhide HD w3 (unhide HB1)).mono ?_
            rintro e w4 ⟨rfl, hb⟩
            have HB2 := hide ((unhide HB1).trans (hb.mono (unhide HB1).size))
            clear hb HD HB1
            go_wp2_with fail
            exact unhide HQ _ _ (mk_act rfl) HB2
        · have hc2 : (cl == 0) = false := by simpa using hc
          obtain rfl : pb = false := by rw [hp, hc2]; rfl
          clear hp
          go_wp2_with fail
          refine (unhide HP).mono ?_
          rintro e w1 ⟨rfl, hb⟩
          have HB1 := hide hb
          clear hb HP
          go_wp2_with fail
          refine (unhide HR w1).mono ?_
          rintro e w2 ⟨rfl, rfl⟩
          clear HR
          go_wp2_with fail
          refine (unhide HC w2 (unhide HB1)).mono ?_
          rintro e w3 ⟨rfl, rfl⟩
          clear HC
          go_wp2_with fail
          exact unhide HQ _ _ (mk_act rfl) HB1
end Go.Proofs.YtnnbaodillnkkaaGreat
