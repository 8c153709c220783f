/- Texts of this claim, one behind the other. -/
import Derived.Test.YtnnbaodillnkkaaGreatTlZ
import Derived.Test.YtnnbaodillnkkaaGreatXa
/- The law of soundness: a round. -/
namespace Go.Proofs.YtnnbaodillnkkaaGreat
open Go.RowKit Go.Shelf Go.Maps
set_option linter.unusedVariables false
theorem own_rnA {w : World} {lo : Nat} {v : Value} {zs : List Int} (h : w.ownsRow lo 21 1 v zs.length (zs.map (Value.int .i32))) : ∃ p c, v = .slice p zs.length c ∧ RnA w p zs := by
  by_cases h0 : 0 < zs.length
  · obtain ⟨g, cap, e, _, hg, _, hH⟩ := own_holds h h0
    refine ⟨_, cap, e, fun k y hk => ⟨g, rfl, hg, ?_⟩⟩
    have hk' := (List.getElem?_eq_some_iff.1 hk).1
    have := (hH k (by simpa using hk')).1
    rw [Nat.zero_add] at this
    rw [this]
    simp [List.getElem?_eq_some_iff.1 hk |>.2, hk']
  · have hz : zs = [] := List.length_eq_zero_iff.1 (by omega)
    subst hz
    rcases h.2 with ⟨e, _⟩ | ⟨g, cap, cur, e, _⟩
    · exact ⟨_, _, e, fun k y hk => by cases hk⟩
    · exact ⟨_, _, e, fun k y hk => by cases hk⟩
noncomputable def sndI : Code := match Tryz.f4.body with
  | some (.seq _ (.seq _ (.seq _ (.seq _ (.seq _ (.seq (.seq _ (.block _ (.loop (.seq _ (.seq (.block _ (.seq c _)) _))))) _)))))) => c
  | _ => .skip
noncomputable def sndJ : Code := match Tryz.f4.body with
  | some (.seq _ (.seq _ (.seq _ (.seq _ (.seq _ (.seq (.seq _ (.block _ (.loop (.seq _ (.seq (.block _ (.seq _ (.seq c _))) _))))) _)))))) => c
  | _ => .skip
noncomputable def sndF : Code := match Tryz.f4.body with
  | some (.seq _ (.seq _ (.seq _ (.seq _ (.seq _ (.seq (.seq _ (.block _ (.loop (.seq _ (.seq (.block _ (.seq _ (.seq _ (.seq _ (.seq c _))))) _))))) _)))))) => c
  | _ => .skip
noncomputable def sndK : Code := match Tryz.f4.body with
  | some (.seq _ (.seq _ (.seq _ (.seq _ (.seq _ (.seq (.seq _ (.block _ (.loop (.seq _ (.seq (.block _ (.seq _ (.seq _ (.seq _ (.seq _ (.seq c _)))))) _))))) _)))))) => c
  | _ => .skip
set_option maxRecDepth 100000 in
set_option maxHeartbeats 8000000 in
theorem sndI_any (B k c n : Nat) (p : Option Addr) (r : Int) (v9 v10 v11 v12 v17 v18 v19 v20 v21 v27 : Value) (U : Nat → Value) (w : World) (hn : n ≤ 2000000) (hk : k < n) (hp : ∃ g, p = some ⟨g, 0, none⟩ ∧ g < w.heap.size ∧ w.cell? ⟨g, k, none⟩ = some (.int .i32 r)) {Q : Exit → Act → World → Prop}
    (hQ : ∀ (a : Act), (∃ U', a = snF B (.slice p n c) (.int .i64 k) (.int .i32 r) v10 v11 v12 v17 v18 v19 v20 v21 v27 U') → Q .normal a w) :
    Code.wp Tryz.prog sndI Q (snF B (.slice p n c) (.int .i64 k) v9 v10 v11 v12 v17 v18 v19 v20 v21 v27 U) w := by
  have HQ := hide hQ
  clear hQ
  obtain ⟨g, rfl, hg, hc⟩ := hp
  have hk1 : (k : Int) < (n : Int) := by omega
  have hk2 : ((k : Nat) : Int).toNat = k := by omega
  clear hg hn
  delta sndI Tryz.f4 snF at *
  dsimp only
  go_wp2_with fail
  exact unhide HQ _ (mk_act rfl)
set_option maxRecDepth 100000 in
set_option maxHeartbeats 8000000 in
theorem sndJ_any {T : TV} (hO : RowsOk T) (B : Nat) (r : Int) (hr : R32 r) (v7 v8 v10 v11 v12 v17 v18 v19 v20 v21 v27 : Value) (U : Nat → Value) (w : World) (h : BookAt w B T) {Q : Exit → Act → World → Prop}
    (hQ : ∀ (a : Act) (wn : World), (∃ U', a = snF B v7 v8 (.int .i32 r) (.int .i32 (((wholP T r).map (·.2.1)).getD 0)) (.int .i32 (((wholP T r).map (·.2.2)).getD 0)) (.bool (wholP T r).isSome) v17 v18 v19 v20 v21 v27 U') → Hz (Below w.heap.size w wn) → Q .normal a wn) :
    Code.wp Tryz.prog sndJ Q (snF B v7 v8 (.int .i32 r) v10 v11 v12 v17 v18 v19 v20 v21 v27 U) w := by
  have HQ := hide hQ
  have HP := hide (bkPair_any hO B r hr w h)
  clear hQ h hO hr
  delta sndJ Tryz.f4 snF at *
  dsimp only
  go_wp2_with fail
  refine (unhide HP).mono ?_
  rintro e w1 ⟨rfl, hb⟩
  have HB := hide hb
  clear HP hb
  unfold pairT
  generalize (((wholP T r).map (·.2.1)).getD 0) = x1 at *
  generalize (((wholP T r).map (·.2.2)).getD 0) = x2 at *
  generalize (wholP T r).isSome = x3 at *
  go_wp2_with fail
  exact unhide HQ _ _ (mk_act rfl) HB
set_option maxRecDepth 100000 in
set_option maxHeartbeats 8000000 in
theorem sndF_any {T : TV} (hO : RowsOk T) (B : Nat) (r : Int) (hr : R32 r) (v7 v8 v10 v11 v12 v17 v18 v19 v20 v21 v27 : Value) (U : Nat → Value) (w : World) (h : BookAt w B T) {Q : Exit → Act → World → Prop}
    (hQ : ∀ (a : Act) (wn : World) (p : Option Addr) (c : Nat), (∃ U', a = snF B v7 v8 (.int .i32 r) v10 v11 v12 (.slice p (toL T.fo r).length c) (.bool (fromB T.fo r)) v19 v20 v21 v27 U') → Hz (RnA wn p (toL T.fo r) ∧ Below w.heap.size w wn) → Q .normal a wn) :
    Code.wp Tryz.prog sndF Q (snF B v7 v8 (.int .i32 r) v10 v11 v12 v17 v18 v19 v20 v21 v27 U) w := by
  have HQ := hide hQ
  have HP := hide (bkFold_any hO B r hr w h)
  clear hQ h hO hr
  delta sndF Tryz.f4 snF at *
  dsimp only
  go_wp2_with fail
  refine (unhide HP).mono ?_
  rintro e w1 ⟨v, rfl, ho, hb⟩
  obtain ⟨p, c, rfl, hR⟩ := own_rnA ho
  have HB := hide (And.intro hR hb)
  clear HP hb hR ho
  generalize fromB T.fo r = ff at *
  generalize (toL T.fo r).length = nn at *
  go_wp2_with fail
  exact unhide HQ _ _ _ _ (mk_act rfl) HB
set_option maxRecDepth 100000 in
set_option maxHeartbeats 8000000 in
theorem sndK_any {T : TV} (hO : RowsOk T) (B : Nat) (r : Int) (hr : R32 r) (v7 v8 v10 v11 v12 v17 v18 v19 v20 v21 v27 : Value) (U : Nat → Value) (w : World) (h : BookAt w B T) {Q : Exit → Act → World → Prop}
    (hQ : ∀ (a : Act) (wn : World) (p : Option Addr) (c : Nat), (∃ U', a = snF B v7 v8 (.int .i32 r) v10 v11 v12 v17 v18 (.slice p (toL T.lk r).length c) (.bool (fromB T.lk r)) v21 v27 U') → Hz (RnA wn p (toL T.lk r) ∧ Below w.heap.size w wn) → Q .normal a wn) :
    Code.wp Tryz.prog sndK Q (snF B v7 v8 (.int .i32 r) v10 v11 v12 v17 v18 v19 v20 v21 v27 U) w := by
  have HQ := hide hQ
  have HP := hide (bkLook_any hO B r hr w h)
  clear hQ h hO hr
  delta sndK Tryz.f4 snF at *
  dsimp only
  go_wp2_with fail
  refine (unhide HP).mono ?_
  rintro e w1 ⟨v, rfl, ho, hb⟩
  obtain ⟨p, c, rfl, hR⟩ := own_rnA ho
  have HB := hide (And.intro hR hb)
  clear HP hb hR ho
  generalize fromB T.lk r = ff at *
  generalize (toL T.lk r).length = nn at *
  go_wp2_with fail
  exact unhide HQ _ _ _ _ (mk_act rfl) HB
noncomputable def sndR : Code := match Tryz.f4.body with
  | some (.seq _ (.seq _ (.seq _ (.seq _ (.seq _ (.seq (.seq _ (.block _ (.loop (.seq _ (.seq (.block _ c) _))))) _)))))) => c
  | _ => .skip
theorem sndR_eq : sndR = .seq sndI (.seq sndJ (.seq sndA (.seq sndF (.seq sndK (.seq sndC (.seq sndT (.seq sndL sndP))))))) := rfl
theorem sndR_any {T : TV} (hO : RowsOk T) (h6 : Right6 T) (B k c n : Nat) (p : Option Addr) (r : Int) (hr : R32 r) (v9 v10 v11 v12 v17 v18 v19 v20 v21 v27 : Value) (U : Nat → Value) (w : World) (h : BookAt w B T) (hn : n ≤ 2000000) (hk : k < n) (hp : ∃ g, p = some ⟨g, 0, none⟩ ∧ g < w.heap.size ∧ w.cell? ⟨g, k, none⟩ = some (.int .i32 r)) {Q : Exit → Act → World → Prop}
    (hQ : ∀ (a : Act) (wn : World), (∃ v9 v10 v11 v12 v17 v18 v19 v20 v21 v27 U', a = snF B (.slice p n c) (.int .i64 k) v9 v10 v11 v12 v17 v18 v19 v20 v21 v27 U') → Hz (Below w.heap.size w wn) → Q .normal a wn) :
    Code.wp Tryz.prog sndR Q (snF B (.slice p n c) (.int .i64 k) v9 v10 v11 v12 v17 v18 v19 v20 v21 v27 U) w := by
  rw [sndR_eq]
  refine wp_seq_k (fun K1 hK1 => sndI_any B k c n p r _ _ _ _ _ _ _ _ _ _ U w hn hk hp ?_)
  rintro a ⟨U1, rfl⟩
  refine hK1 _ _ (wp_seq_k (fun K2 hK2 => sndJ_any hO B r hr _ _ _ _ _ _ _ _ _ _ _ U1 w h ?_))
  rintro a w1 ⟨U2, rfl⟩ b1
  have b1 := unhide b1
  have k1 := h.below b1
  refine hK2 _ _ (wp_seq_k (fun K3 hK3 => sndA_any hO h6 B r hr _ _ _ _ _ _ _ _ U2 w1 k1 ?_))
  rintro a w2 ⟨U3, rfl⟩ b2
  have b2 := unhide b2
  have k2 := k1.below b2
  refine hK3 _ _ (wp_seq_k (fun K4 hK4 => sndF_any hO B r hr _ _ _ _ _ _ _ _ _ _ _ U3 w2 k2 ?_))
  rintro a w3 p1 c1 ⟨U4, rfl⟩ b3
  obtain ⟨n3, b3⟩ := unhide b3
  have k3 := k2.below b3
  refine hK4 _ _ (wp_seq_k (fun K5 hK5 => sndK_any hO B r hr _ _ _ _ _ _ _ _ _ _ _ U4 w3 k3 ?_))
  rintro a w4 p2 c2 ⟨U5, rfl⟩ b4
  obtain ⟨n4, b4⟩ := unhide b4
  have k4 := k3.below b4
  have m3 := n3.below b4
  refine hK5 _ _ (wp_seq_k (fun K6 hK6 => sndC_any hO B r hr _ _ _ _ _ _ _ _ _ _ _ _ _ _ _ U5 w4 k4 (fun e => ?_) (toL_from hO.f4 r) (toL_from hO.f5 r) (toL_small hO.f4 r) (toL_small hO.f5 r) ?_))
  · obtain ⟨e1, e2, e3⟩ := from_ok hO h6 e
    exact ⟨by rw [e1]; rfl, e2, e3⟩
  rintro a w5 ⟨U6, rfl⟩ b5
  have b5 := unhide b5
  have k5 := k4.below b5
  refine hK6 _ _ (wp_seq_k (fun K7 hK7 => sndT_any hO B _ _ (toL T.fo r) (fun y hy => fold_ok hO h6 hy) (toL_small hO.f4 r) _ _ _ _ _ _ (.bool false) _ _ _ _ _ U6 w5 k5 (m3.below b5) ?_))
  rintro a w6 ⟨x, U7, rfl⟩ b6
  have b6 := unhide b6
  have k6 := k5.below b6
  refine hK7 _ _ (wp_seq_k (fun K8 hK8 => sndL_any hO B _ _ (toL T.lk r) (fun y hy => look_ok hO h6 hy) (toL_small hO.f5 r) _ _ _ _ _ _ _ _ (.bool false) _ _ _ U7 w6 k6 ((n4.below b5).below b6) ?_))
  rintro a w7 ⟨x2, U8, rfl⟩ b7
  have b7 := unhide b7
  have k7 := k6.below b7
  refine hK8 _ _ (sndP_any hO B r hr _ _ _ _ _ _ _ _ _ _ _ U8 w7 k7 rfl rfl ?_)
  rintro a w8 ⟨U9, rfl⟩ b8
  have b8 := unhide b8
  have s1 := b1.size
  have s2 := b2.size
  have s3 := b3.size
  have s4 := b4.size
  have s5 := b5.size
  have s6 := b6.size
  have s7 := b7.size
  exact hQ _ _ ⟨_, _, _, _, _, _, _, _, _, _, U9, rfl⟩ (hide (((((((b1.trans (b2.mono s1)).trans (b3.mono (by omega))).trans (b4.mono (by omega))).trans (b5.mono (by omega))).trans (b6.mono (by omega))).trans (b7.mono (by omega))).trans (b8.mono (by omega))))
end Go.Proofs.YtnnbaodillnkkaaGreat
/- The law of soundness: the loop over all runes. -/
namespace Go.Proofs.YtnnbaodillnkkaaGreat
open Go.RowKit Go.Shelf Go.Maps
set_option linter.unusedVariables false
noncomputable def sndQ : Code := match Tryz.f4.body with
  | some (.seq _ (.seq _ (.seq _ (.seq _ (.seq _ (.seq (.seq _ (.block _ (.loop (.seq c _)))) _)))))) => c
  | _ => .skip
noncomputable def sndS : Code := match Tryz.f4.body with
  | some (.seq _ (.seq _ (.seq _ (.seq _ (.seq _ (.seq (.seq _ (.block _ (.loop (.seq _ (.seq _ c))))) _)))))) => c
  | _ => .skip
noncomputable def sndO : Code := match Tryz.f4.body with
  | some (.seq _ (.seq _ (.seq _ (.seq _ (.seq _ (.seq (.seq c _) _)))))) => c
  | _ => .skip
noncomputable def sndE : Code := match Tryz.f4.body with
  | some (.seq _ (.seq _ (.seq _ (.seq _ (.seq _ (.seq _ c)))))) => c
  | _ => .skip
noncomputable def sndW : Code := match Tryz.f4.body with
  | some (.seq _ (.seq _ (.seq _ (.seq _ (.seq _ c))))) => c
  | _ => .skip
theorem sndW_eq : sndW = .seq (.seq sndO (.block 0 (.loop (.seq sndQ (.seq (.block 1 sndR) sndS))))) sndE := rfl
set_option maxRecDepth 100000 in
set_option maxHeartbeats 8000000 in
theorem sndQ_yes (B k c n : Nat) (p : Option Addr) (v9 v10 v11 v12 v17 v18 v19 v20 v21 v27 : Value) (U : Nat → Value) (w : World) (hk : k < n) {Q : Exit → Act → World → Prop}
    (hQ : ∀ (a : Act), (∃ U', a = snF B (.slice p n c) (.int .i64 k) v9 v10 v11 v12 v17 v18 v19 v20 v21 v27 U') → Q .normal a w) : Code.wp Tryz.prog sndQ Q (snF B (.slice p n c) (.int .i64 k) v9 v10 v11 v12 v17 v18 v19 v20 v21 v27 U) w := by
  have HQ := hide hQ
  clear hQ
  have hk1 : (k : Int) < (n : Int) := by omega
  delta sndQ Tryz.f4 snF at *
  dsimp only
  go_wp2_with fail
  exact unhide HQ _ (mk_act rfl)
set_option maxRecDepth 100000 in
set_option maxHeartbeats 8000000 in
theorem sndQ_no (B c n : Nat) (p : Option Addr) (v9 v10 v11 v12 v17 v18 v19 v20 v21 v27 : Value) (U : Nat → Value) (w : World) {Q : Exit → Act → World → Prop}
    (hQ : ∀ (a : Act), (∃ U', a = snF B (.slice p n c) (.int .i64 n) v9 v10 v11 v12 v17 v18 v19 v20 v21 v27 U') → Q (.exit 0) a w) : Code.wp Tryz.prog sndQ Q (snF B (.slice p n c) (.int .i64 n) v9 v10 v11 v12 v17 v18 v19 v20 v21 v27 U) w := by
  have HQ := hide hQ
  clear hQ
  have hk1 : ¬ (n : Int) < (n : Int) := by omega
  delta sndQ Tryz.f4 snF at *
  dsimp only
  go_wp2_with fail
  exact unhide HQ _ (mk_act rfl)
set_option maxRecDepth 100000 in
set_option maxHeartbeats 8000000 in
theorem sndS_any (B k : Nat) (v7 v9 v10 v11 v12 v17 v18 v19 v20 v21 v27 : Value) (U : Nat → Value) (w : World) (hk : k ≤ 2000000) {Q : Exit → Act → World → Prop}
    (hQ : ∀ (a : Act), (∃ U', a = snF B v7 (.int .i64 (k + 1 : Nat)) v9 v10 v11 v12 v17 v18 v19 v20 v21 v27 U') → Q .normal a w) : Code.wp Tryz.prog sndS Q (snF B v7 (.int .i64 k) v9 v10 v11 v12 v17 v18 v19 v20 v21 v27 U) w := by
  have HQ := hide hQ
  clear hQ
  have hk1 : ((k + 1 : Nat) : Int) = (k : Int) + 1 := by omega
  rw [hk1] at HQ
  delta sndS Tryz.f4 snF at *
  dsimp only
  go_wp2_with fail
  exact unhide HQ _ (mk_act rfl)
set_option maxRecDepth 100000 in
set_option maxHeartbeats 8000000 in
theorem sndO_any (B : Nat) (v7 v8 v9 v10 v11 v12 v17 v18 v19 v20 v21 v27 : Value) (U : Nat → Value) (w : World) {Q : Exit → Act → World → Prop}
    (hQ : ∀ (a : Act), (∃ U', a = snF B v7 (.int .i64 0) v9 v10 v11 v12 v17 v18 v19 v20 v21 v27 U') → Q .normal a w) : Code.wp Tryz.prog sndO Q (snF B v7 v8 v9 v10 v11 v12 v17 v18 v19 v20 v21 v27 U) w := by
  have HQ := hide hQ
  clear hQ
  delta sndO Tryz.f4 snF at *
  dsimp only
  go_wp2_with fail
  exact unhide HQ _ (mk_act rfl)
set_option maxRecDepth 100000 in
set_option maxHeartbeats 8000000 in
theorem sndE_any (B : Nat) (v7 v8 v9 v10 v11 v12 v17 v18 v19 v20 v21 v27 : Value) (U : Nat → Value) (w : World) {Q : Exit → Act → World → Prop}
    (hQ : ∀ (a : Act) (wn : World), a.tmps.getD 4 undef = .bool true → a.defers = [] → Hz (Below w.heap.size w wn) → Q .ret a wn) : Code.wp Tryz.prog sndE Q (snF B v7 v8 v9 v10 v11 v12 v17 v18 v19 v20 v21 v27 U) w := by
  have HQ := hide hQ
  have HK := hide (known_any6 w)
  clear hQ
  delta sndE Tryz.f4 snF at *
  dsimp only
  go_wp2_with fail
  refine (unhide HK).mono ?_
  rintro e w1 ⟨rfl, hb⟩
  have HB := hide hb
  clear hb HK
  go_wp2_with fail
  exact unhide HQ _ _ rfl rfl HB
/-- The loop at work. -/
def SnI (B c : Nat) (p : Option Addr) (n : Nat) (W : World) (a : Act) (w : World) : Prop := ∃ k v9 v10 v11 v12 v17 v18 v19 v20 v21 v27 U, k ≤ n ∧ a = snF B (.slice p n c) (.int .i64 k) v9 v10 v11 v12 v17 v18 v19 v20 v21 v27 U ∧ Below W.heap.size W w
def snM (n : Nat) (a : Act) : Nat := n - (intOf (a.tmps.getD 8 undef)).toNat
theorem snM_at (B c k n : Nat) (p : Option Addr) (v9 v10 v11 v12 v17 v18 v19 v20 v21 v27 : Value) (U : Nat → Value) : snM n (snF B (.slice p n c) (.int .i64 k) v9 v10 v11 v12 v17 v18 v19 v20 v21 v27 U) = n - k := by
  show n - (intOf (.int .i64 (k : Int))).toNat = n - k
  simp [intOf]
theorem sndW_any {T : TV} (hO : RowsOk T) (h6 : Right6 T) (B c : Nat) (p : Option Addr) (zs : List Int) (hz : ∀ y ∈ zs, R32 y) (hl : zs.length ≤ 2000000) (v8 v9 v10 v11 v12 v17 v18 v19 v20 v21 v27 : Value) (U : Nat → Value) (w : World) (h : BookAt w B T) (hp : RnA w p zs) {Q : Exit → Act → World → Prop}
    (hQ : ∀ (a : Act) (wn : World), a.tmps.getD 4 undef = .bool true → a.defers = [] → Hz (Below w.heap.size w wn) → Q .ret a wn) : Code.wp Tryz.prog sndW Q (snF B (.slice p zs.length c) v8 v9 v10 v11 v12 v17 v18 v19 v20 v21 v27 U) w := by
  rw [sndW_eq]
  refine wp_seq_k (fun K1 hK1 => wp_seq_k (fun K2 hK2 => sndO_any B _ _ _ _ _ _ _ _ _ _ _ _ U w ?_))
  rintro a ⟨U1, rfl⟩
  refine hK2 _ _ (wp_block (wp_loop (SnI B c p zs.length w) (fun a _ => snM zs.length a) ⟨0, _, _, _, _, _, _, _, _, _, _, U1, Nat.zero_le _, rfl, Below.refl _ _⟩ ?_))
  rintro a wr ⟨k, v9, v10, v11, v12, v17, v18, v19, v20, v21, v27, U2, hk, rfl, hb⟩
  by_cases hkn : k < zs.length
  · refine wp_seq_k (fun K3 hK3 => sndQ_yes B k c zs.length p _ _ _ _ _ _ _ _ _ _ U2 wr hkn ?_)
    rintro a ⟨U3, rfl⟩
    obtain ⟨r, hr⟩ : ∃ r, zs[k]? = some r := ⟨_, List.getElem?_eq_getElem hkn⟩
    obtain ⟨g, e1, e2, e3⟩ := hp k r hr
    refine hK3 _ _ (wp_seq_k (fun K4 hK4 => wp_block (sndR_any hO h6 B k c zs.length p r (hz r (List.mem_of_getElem? hr)) _ _ _ _ _ _ _ _ _ _ U3 wr (h.below hb) hl hkn ⟨g, e1, Nat.lt_of_lt_of_le e2 hb.size, (hb.cell (p := ⟨g, k, none⟩) e2).trans e3⟩ ?_)))
    rintro a w4 ⟨x9, x10, x11, x12, x17, x18, x19, x20, x21, x27, U4, rfl⟩ b4
    refine hK4 _ _ (sndS_any B k _ _ _ _ _ _ _ _ _ _ _ U4 w4 (by omega) ?_)
    rintro a ⟨U5, rfl⟩
    refine ⟨⟨k + 1, _, _, _, _, _, _, _, _, _, _, U5, hkn, rfl, hb.trans ((unhide b4).mono hb.size)⟩, ?_⟩
    rw [snM_at, snM_at]
    omega
  · obtain rfl : k = zs.length := by omega
    refine wp_seq_k (fun K3 hK3 => sndQ_no B c zs.length p _ _ _ _ _ _ _ _ _ _ U2 wr ?_)
    rintro a ⟨U3, rfl⟩
    refine hK1 _ _ (sndE_any B _ _ _ _ _ _ _ _ _ _ _ _ U3 wr ?_)
    intro a wn e1 e2 b
    exact hQ a wn e1 e2 (hide (hb.trans ((unhide b).mono hb.size)))
end Go.Proofs.YtnnbaodillnkkaaGreat
