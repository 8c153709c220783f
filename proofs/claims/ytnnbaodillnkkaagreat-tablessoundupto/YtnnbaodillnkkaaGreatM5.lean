/- Texts of this claim, one behind the other. -/
import Derived.Test.YtnnbaodillnkkaaGreatM4
import Derived.Test.YtnnbaodillnkkaaGreatM3
import Derived.Shelf.Abstract
/- The first row of a list that is refused (tables.firstRow), whatever refuses it. -/
namespace Go.Proofs.YtnnbaodillnkkaaGreat
open Go.RowKit Go.Shelf
set_option linter.unusedVariables false
structure KeptX (X : Nat → Prop) (w w' : World) : Prop where
  os : w'.os = w.os
  tape : w'.tape = w.tape
  output : w'.output = w.output
  size : w.heap.size ≤ w'.heap.size
  block : ∀ k, k < w.heap.size → ¬ X k → w'.heap[k]? = w.heap[k]?
theorem KeptX.refl (X : Nat → Prop) (w : World) : KeptX X w w := ⟨rfl, rfl, rfl, Nat.le_refl _, fun _ _ _ => rfl⟩
theorem KeptX.trans {X : Nat → Prop} {a b c : World} (h : KeptX X a b) (g : KeptX X b c) : KeptX X a c :=
  ⟨g.os.trans h.os, g.tape.trans h.tape, g.output.trans h.output, Nat.le_trans h.size g.size, fun k hk hx => (g.block k (Nat.lt_of_lt_of_le hk h.size) hx).trans (h.block k hk hx)⟩
theorem keptX_of {w w' : World} (h : Below w.heap.size w w') (X : Nat → Prop) : KeptX X w w' := ⟨h.os, h.tape, h.output, h.size, fun k hk _ => h.block k hk⟩
theorem KeptX.below {w w' : World} (h : KeptX (fun _ => False) w w') : Below w.heap.size w w' := ⟨h.os, h.tape, h.output, h.size, fun k hk => h.block k hk (fun q => q)⟩
theorem KeptX.mono {X Y : Nat → Prop} {w w' : World} (h : KeptX X w w') (g : ∀ k, X k → Y k) : KeptX Y w w' := ⟨h.os, h.tape, h.output, h.size, fun k hk hx => h.block k hk (fun q => hx (g k q))⟩
theorem KeptX.cell {X : Nat → Prop} {w w' : World} (h : KeptX X w w') {p : Addr} (hp : p.block < w.heap.size) (hx : ¬ X p.block) : w'.cell? p = w.cell? p := by
  have e := h.block p.block hp hx
  unfold World.cell?
  rw [e]
theorem KeptX.blk {X : Nat → Prop} {w w' : World} (h : KeptX X w w') {B : Nat} {cs : Array Value} {t : TypeId} (hb : Blk w B cs t) (hx : ¬ X B) : Blk w' B cs t := by
  have := h.block B hb.lt hx
  unfold Blk at hb ⊢
  rw [this]
  exact hb
theorem KeptX.grown {X : Nat → Prop} {W w w' : World} {R : Nat} (h : KeptX X W w) (hg : w.grownBy w' (some R)) (hR : W.heap.size ≤ R) : KeptX X W w' :=
  ⟨hg.os.trans h.os, hg.tape.trans h.tape, hg.output.trans h.output, Nat.le_trans h.size hg.size, fun k hk hx => (hg.block k (Nat.lt_of_lt_of_le hk h.size) (fun e => by have := Option.some.inj e; omega)).trans (h.block k hk hx)⟩
theorem KeptX.set3 {X : Nat → Prop} {W w : World} {R : Nat} (h : KeptX X W w) (hR : W.heap.size ≤ R) (x y z : Value) : KeptX X W (((w.setCell ⟨R, 0, none⟩ x).setCell ⟨R, 1, none⟩ y).setCell ⟨R, 2, none⟩ z) :=
  ((h.grown (grown_set' w R 0 x) hR).grown (grown_set' _ R 1 y) hR).grown (grown_set' _ R 2 z) hR
set_option maxRecDepth 100000 in
set_option maxHeartbeats 2000000 in
theorem firstRow_Script (list : Int) (zs : List (ByteArray × List (Int × Int))) (us : List Value) (hus : us.length = zs.length) (hsl : ∀ (j : Nat) (u : Value), us[j]? = some u → ∃ p n d, u = Value.slice p n d) (hn : zs.length ≤ 1000000) (a : Option Addr) (c G : Nat) (lb : Array Value) (eg : ∀ args w, (callFunc G args).run Tryz.prog w = .ok (.enter G args) w)
    (f : Nat → Int) (X : Nat → Prop) (J : Nat → World → Prop) (lo : Nat) (W : World) (hlo : lo ≤ W.heap.size) (hX : ∀ b, X b → lo ≤ b ∧ b < W.heap.size) (hr : RowC W lo a (encSc zs us)) (h0 : J 0 W)
    (hst : ∀ i w w', J i w → Below w.heap.size w w' → J i w')
    (hcall : ∀ (i : Nat) (x : (ByteArray × List (Int × Int))) (u : Value) (w : World), zs[i]? = some x → us[i]? = some u → KeptX X W w → J i w → Calls Tryz.prog G (#[.agg #[.string x.1, u]] ++ lb) w fun e w' => e = .returned (.int .i64 (f i)) ∧ J (i + 1) w' ∧ KeptX X w w') :
    Calls Tryz.prog 71 #[.int .i64 list, .slice a zs.length c, .func (.func G) #[] lb] W fun e w' => e = .returned (wrV (rowsW list zs.length f)) ∧ KeptX X W w' := by
  have hB0 : Below W.heap.size W (W.alloc (.cells #[.int .i64 0, .int .i64 0, .int .i64 0] 37)) := (Below.refl _ W).alloc (Nat.le_refl _) _
  have HS0 := hide (And.intro (keptX_of hB0 X) (And.intro (Blk.new W #[.int .i64 0, .int .i64 0, .int .i64 0] 37) (hst 0 _ _ h0 hB0)))
  have HA := hide hr
  have HX := hide (And.intro hlo hX)
  have HC := hide (And.intro hst hcall)
  clear hB0 hr hlo hX hst hcall h0
  go_enter Tryz.func71, Tryz.ntmps71
  go_wp2
  generalize W.alloc (.cells #[.int .i64 0, .int .i64 0, .int .i64 0] 37) = w1 at *
  go_loopw [7, 8, 9, 12] (fun _ _ _ s12 wr => ∃ k : Nat, k ≤ zs.length ∧ s12 = .int .i64 k ∧ Hz (∀ i, i < k → f i = 0) ∧ Hz (KeptX X W wr ∧ Blk wr W.heap.size #[.int .i64 0, .int .i64 0, .int .i64 0] 37 ∧ J k wr)) (fun _ _ _ s12 _ => zs.length - (intOf s12).toNat)
  case atStart => exact ⟨0, Nat.zero_le _, rfl, hide (fun i hi => absurd hi (Nat.not_lt_zero _)), HS0⟩
  case round =>
    obtain ⟨k, hk, rfl, HF, HS⟩ := hrel
    clear HS0
    by_cases hkn : k < zs.length
    · obtain ⟨x, hx⟩ : ∃ x, zs[k]? = some x := ⟨_, List.getElem?_eq_getElem hkn⟩
      obtain ⟨u, hu⟩ : ∃ u, us[k]? = some u := ⟨_, List.getElem?_eq_getElem (by omega)⟩
      obtain ⟨pu, nu, du, rfl⟩ := hsl k u hu
      obtain ⟨g, q, rfl, hg, hc⟩ := unhide HA (by rw [encSc_length zs us hus]; omega)
      have e0 : W.cell? ⟨g, q + k * 2, none⟩ = some (.string x.1) := hc _ _ (encSc_at0 zs us hus k x hx)
      have e1 : W.cell? ⟨g, q + k * 2 + 1, none⟩ = some (.slice pu nu du) := by
        have h1 := hc (2 * k + 1) _ ((encSc_at zs us hus k).trans hu)
        rwa [show q + (2 * k + 1) = q + k * 2 + 1 by omega] at h1
      have hgX : ¬ X g := fun q => by have := (unhide HX).2 g q; omega
      have hgW : g < W.heap.size := by have := (unhide HX).1; omega
      have c0 : wr.cell? ⟨g, q + k * 2, none⟩ = some (.string x.1) := ((unhide HS).1.cell (p := ⟨g, q + k * 2, none⟩) hgW hgX).trans e0
      have c1 : wr.cell? ⟨g, q + k * 2 + 1, none⟩ = some (.slice pu nu du) := ((unhide HS).1.cell (p := ⟨g, q + k * 2 + 1, none⟩) hgW hgX).trans e1
      have hB : Below wr.heap.size wr (wr.alloc (.cells #[.string x.1, .slice pu nu du] 70)) := (Below.refl _ wr).alloc (Nat.le_refl _) _
      have HL := hide (unhide HC).2
      have HCL := hide (unhide HL k x _ (wr.alloc (.cells #[.string x.1, .slice pu nu du] 70)) hx hu ((unhide HS).1.trans (keptX_of hB X)) ((unhide HC).1 k _ _ (unhide HS).2.2 hB))
      have HR := hide (((unhide HS).1.trans (keptX_of hB X)))
      have HRB := hide ((unhide HS).2.1.alloc (.cells #[.string x.1, .slice pu nu du] 70))
      have HRX : Hz (¬ X W.heap.size) := hide (fun q => by have := (unhide HX).2 _ q; omega)
      have hk1 : (k : Int) < (zs.length : Int) := by omega
      have hk2 : ((k : Nat) : Int).toNat = k := by omega
      have HFK : Hz (f k = 0 → ∀ i, i < k + 1 → f i = 0) := hide (fun h i hi => by
        rcases Nat.lt_or_ge i k with h1 | h1
        · exact unhide HF i h1
        · obtain rfl : i = k := by omega
          exact h)
      have HFB : Hz (f k ≠ 0 → rowsW list zs.length f = (f k, list, (k : Int))) := hide (fun h => rowsW_bad k hkn (unhide HF) h)
      obtain ⟨x1, x2⟩ := x
      dsimp only at c0 c1 HCL HR HRB
      clear hx hu hc hB HL HS HF e0 e1 hgX hgW hg
      generalize f k = y at *
      by_cases hy : y = 0
      · subst hy
        have HFK2 := hide (unhide HFK rfl)
        clear HFK HFB
        go_wp2_with (go_at_fn G; refine (unhide HCL).mono ?_; rintro e w' ⟨rfl, hj', hk'⟩)
        exact ⟨⟨k + 1, by omega, by go_num, HFK2, hide ⟨(unhide HR).trans hk', hk'.blk (unhide HRB) (unhide HRX), hj'⟩⟩, by simp [intOf]; omega⟩
      · have hy1 : (y == 0) = false := by simpa using hy
        have HFB2 := hide (unhide HFB hy)
        clear HFK HFB
        go_wp2_with (go_at_fn G; refine (unhide HCL).mono ?_; rintro e w' ⟨rfl, hj', hk'⟩; have HRB2 := hide (hk'.blk (unhide HRB) (unhide HRX)); have r0 := (unhide HRB2).cell 0; have r1 := (unhide HRB2).cell 1; have r2 := (unhide HRB2).cell 2; have f0 := (unhide HRB2).frozen 0; have f1 := (unhide HRB2).frozen 1; have f2 := (unhide HRB2).frozen 2)
        rw [unhide HFB2]
        exact bodyPost_ret (v := wrV (y, list, (k : Int))) (ret3 Tryz.results71 rfl (blk3 (unhide HRB2) _ _ _) rfl) rfl ⟨rfl, ((unhide HR).trans hk').set3 (Nat.le_refl _) _ _ _⟩
    · have hk1 : ¬ (k : Int) < (zs.length : Int) := by omega
      have HO2 : Hz (rowsW list zs.length f = (0, 0, 0)) := hide (rowsW_ok (fun i hi => unhide HF i (by omega)))
      have r0 := (unhide HS).2.1.cell 0
      have r1 := (unhide HS).2.1.cell 1
      have r2 := (unhide HS).2.1.cell 2
      have f0 := (unhide HS).2.1.frozen 0
      have f1 := (unhide HS).2.1.frozen 1
      have f2 := (unhide HS).2.1.frozen 2
      go_wp2_with fail
      rw [unhide HO2]
      exact bodyPost_ret (v := wrV (0, 0, 0)) (ret3 Tryz.results71 rfl (blk3 (unhide HS).2.1 _ _ _) rfl) rfl ⟨rfl, (unhide HS).1.set3 (Nat.le_refl _) _ _ _⟩
set_option maxRecDepth 100000 in
set_option maxHeartbeats 2000000 in
theorem firstRow_Mark (list : Int) (zs : List (Int × Int)) (hn : zs.length ≤ 1000000) (a : Option Addr) (c G : Nat) (lb : Array Value) (eg : ∀ args w, (callFunc G args).run Tryz.prog w = .ok (.enter G args) w)
    (f : Nat → Int) (X : Nat → Prop) (J : Nat → World → Prop) (lo : Nat) (W : World) (hlo : lo ≤ W.heap.size) (hX : ∀ b, X b → lo ≤ b ∧ b < W.heap.size) (hr : RowC W lo a (encM2 zs)) (h0 : J 0 W)
    (hst : ∀ i w w', J i w → Below w.heap.size w w' → J i w')
    (hcall : ∀ (i : Nat) (x : (Int × Int)) (w : World), zs[i]? = some x → KeptX X W w → J i w → Calls Tryz.prog G (#[.agg #[.int .i32 x.1, .int .i64 x.2]] ++ lb) w fun e w' => e = .returned (.int .i64 (f i)) ∧ J (i + 1) w' ∧ KeptX X w w') :
    Calls Tryz.prog 76 #[.int .i64 list, .slice a zs.length c, .func (.func G) #[] lb] W fun e w' => e = .returned (wrV (rowsW list zs.length f)) ∧ KeptX X W w' := by
  have hB0 : Below W.heap.size W (W.alloc (.cells #[.int .i64 0, .int .i64 0, .int .i64 0] 37)) := (Below.refl _ W).alloc (Nat.le_refl _) _
  have HS0 := hide (And.intro (keptX_of hB0 X) (And.intro (Blk.new W #[.int .i64 0, .int .i64 0, .int .i64 0] 37) (hst 0 _ _ h0 hB0)))
  have HA := hide hr
  have HX := hide (And.intro hlo hX)
  have HC := hide (And.intro hst hcall)
  clear hB0 hr hlo hX hst hcall h0
  go_enter Tryz.func76, Tryz.ntmps76
  go_wp2
  generalize W.alloc (.cells #[.int .i64 0, .int .i64 0, .int .i64 0] 37) = w1 at *
  go_loopw [7, 8, 9, 12] (fun _ _ _ s12 wr => ∃ k : Nat, k ≤ zs.length ∧ s12 = .int .i64 k ∧ Hz (∀ i, i < k → f i = 0) ∧ Hz (KeptX X W wr ∧ Blk wr W.heap.size #[.int .i64 0, .int .i64 0, .int .i64 0] 37 ∧ J k wr)) (fun _ _ _ s12 _ => zs.length - (intOf s12).toNat)
  case atStart => exact ⟨0, Nat.zero_le _, rfl, hide (fun i hi => absurd hi (Nat.not_lt_zero _)), HS0⟩
  case round =>
    obtain ⟨k, hk, rfl, HF, HS⟩ := hrel
    clear HS0
    by_cases hkn : k < zs.length
    · obtain ⟨x, hx⟩ : ∃ x, zs[k]? = some x := ⟨_, List.getElem?_eq_getElem hkn⟩
      obtain ⟨g, q, rfl, hg, hc⟩ := unhide HA (by rw [encM2_length]; omega)
      have e0 : W.cell? ⟨g, q + k * 2, none⟩ = some (.int .i32 x.1) := hc _ _ (encM2_at _ k x hx).1
      have e1 : W.cell? ⟨g, q + k * 2 + 1, none⟩ = some (.int .i64 x.2) := hc _ _ (encM2_at _ k x hx).2
      have hgX : ¬ X g := fun q => by have := (unhide HX).2 g q; omega
      have hgW : g < W.heap.size := by have := (unhide HX).1; omega
      have c0 : wr.cell? ⟨g, q + k * 2, none⟩ = some (.int .i32 x.1) := ((unhide HS).1.cell (p := ⟨g, q + k * 2, none⟩) hgW hgX).trans e0
      have c1 : wr.cell? ⟨g, q + k * 2 + 1, none⟩ = some (.int .i64 x.2) := ((unhide HS).1.cell (p := ⟨g, q + k * 2 + 1, none⟩) hgW hgX).trans e1
      have hB : Below wr.heap.size wr (wr.alloc (.cells #[.int .i32 x.1, .int .i64 x.2] 53)) := (Below.refl _ wr).alloc (Nat.le_refl _) _
      have HL := hide (unhide HC).2
      have HCL := hide (unhide HL k x (wr.alloc (.cells #[.int .i32 x.1, .int .i64 x.2] 53)) hx ((unhide HS).1.trans (keptX_of hB X)) ((unhide HC).1 k _ _ (unhide HS).2.2 hB))
      have HR := hide (((unhide HS).1.trans (keptX_of hB X)))
      have HRB := hide ((unhide HS).2.1.alloc (.cells #[.int .i32 x.1, .int .i64 x.2] 53))
      have HRX : Hz (¬ X W.heap.size) := hide (fun q => by have := (unhide HX).2 _ q; omega)
      have hk1 : (k : Int) < (zs.length : Int) := by omega
      have hk2 : ((k : Nat) : Int).toNat = k := by omega
      have HFK : Hz (f k = 0 → ∀ i, i < k + 1 → f i = 0) := hide (fun h i hi => by
        rcases Nat.lt_or_ge i k with h1 | h1
        · exact unhide HF i h1
        · obtain rfl : i = k := by omega
          exact h)
      have HFB : Hz (f k ≠ 0 → rowsW list zs.length f = (f k, list, (k : Int))) := hide (fun h => rowsW_bad k hkn (unhide HF) h)
      obtain ⟨x1, x2⟩ := x
      dsimp only at c0 c1 HCL HR HRB
      clear hx hc hB HL HS HF e0 e1 hgX hgW hg
      generalize f k = y at *
      by_cases hy : y = 0
      · subst hy
        have HFK2 := hide (unhide HFK rfl)
        clear HFK HFB
        go_wp2_with (go_at_fn G; refine (unhide HCL).mono ?_; rintro e w' ⟨rfl, hj', hk'⟩)
        exact ⟨⟨k + 1, by omega, by go_num, HFK2, hide ⟨(unhide HR).trans hk', hk'.blk (unhide HRB) (unhide HRX), hj'⟩⟩, by simp [intOf]; omega⟩
      · have hy1 : (y == 0) = false := by simpa using hy
        have HFB2 := hide (unhide HFB hy)
        clear HFK HFB
        go_wp2_with (go_at_fn G; refine (unhide HCL).mono ?_; rintro e w' ⟨rfl, hj', hk'⟩; have HRB2 := hide (hk'.blk (unhide HRB) (unhide HRX)); have r0 := (unhide HRB2).cell 0; have r1 := (unhide HRB2).cell 1; have r2 := (unhide HRB2).cell 2; have f0 := (unhide HRB2).frozen 0; have f1 := (unhide HRB2).frozen 1; have f2 := (unhide HRB2).frozen 2)
        rw [unhide HFB2]
        exact bodyPost_ret (v := wrV (y, list, (k : Int))) (ret3 Tryz.results76 rfl (blk3 (unhide HRB2) _ _ _) rfl) rfl ⟨rfl, ((unhide HR).trans hk').set3 (Nat.le_refl _) _ _ _⟩
    · have hk1 : ¬ (k : Int) < (zs.length : Int) := by omega
      have HO2 : Hz (rowsW list zs.length f = (0, 0, 0)) := hide (rowsW_ok (fun i hi => unhide HF i (by omega)))
      have r0 := (unhide HS).2.1.cell 0
      have r1 := (unhide HS).2.1.cell 1
      have r2 := (unhide HS).2.1.cell 2
      have f0 := (unhide HS).2.1.frozen 0
      have f1 := (unhide HS).2.1.frozen 1
      have f2 := (unhide HS).2.1.frozen 2
      go_wp2_with fail
      rw [unhide HO2]
      exact bodyPost_ret (v := wrV (0, 0, 0)) (ret3 Tryz.results76 rfl (blk3 (unhide HS).2.1 _ _ _) rfl) rfl ⟨rfl, (unhide HS).1.set3 (Nat.le_refl _) _ _ _⟩
set_option maxRecDepth 100000 in
set_option maxHeartbeats 2000000 in
theorem firstRow_Pair (list : Int) (zs : List (Int × Int × Int)) (hn : zs.length ≤ 1000000) (a : Option Addr) (c G : Nat) (lb : Array Value) (eg : ∀ args w, (callFunc G args).run Tryz.prog w = .ok (.enter G args) w)
    (f : Nat → Int) (X : Nat → Prop) (J : Nat → World → Prop) (lo : Nat) (W : World) (hlo : lo ≤ W.heap.size) (hX : ∀ b, X b → lo ≤ b ∧ b < W.heap.size) (hr : RowC W lo a (encP3 zs)) (h0 : J 0 W)
    (hst : ∀ i w w', J i w → Below w.heap.size w w' → J i w')
    (hcall : ∀ (i : Nat) (x : (Int × Int × Int)) (w : World), zs[i]? = some x → KeptX X W w → J i w → Calls Tryz.prog G (#[.agg #[.int .i32 x.1, .int .i32 x.2.1, .int .i32 x.2.2]] ++ lb) w fun e w' => e = .returned (.int .i64 (f i)) ∧ J (i + 1) w' ∧ KeptX X w w') :
    Calls Tryz.prog 78 #[.int .i64 list, .slice a zs.length c, .func (.func G) #[] lb] W fun e w' => e = .returned (wrV (rowsW list zs.length f)) ∧ KeptX X W w' := by
  have hB0 : Below W.heap.size W (W.alloc (.cells #[.int .i64 0, .int .i64 0, .int .i64 0] 37)) := (Below.refl _ W).alloc (Nat.le_refl _) _
  have HS0 := hide (And.intro (keptX_of hB0 X) (And.intro (Blk.new W #[.int .i64 0, .int .i64 0, .int .i64 0] 37) (hst 0 _ _ h0 hB0)))
  have HA := hide hr
  have HX := hide (And.intro hlo hX)
  have HC := hide (And.intro hst hcall)
  clear hB0 hr hlo hX hst hcall h0
  go_enter Tryz.func78, Tryz.ntmps78
  go_wp2
  generalize W.alloc (.cells #[.int .i64 0, .int .i64 0, .int .i64 0] 37) = w1 at *
  go_loopw [7, 8, 9, 12] (fun _ _ _ s12 wr => ∃ k : Nat, k ≤ zs.length ∧ s12 = .int .i64 k ∧ Hz (∀ i, i < k → f i = 0) ∧ Hz (KeptX X W wr ∧ Blk wr W.heap.size #[.int .i64 0, .int .i64 0, .int .i64 0] 37 ∧ J k wr)) (fun _ _ _ s12 _ => zs.length - (intOf s12).toNat)
  case atStart => exact ⟨0, Nat.zero_le _, rfl, hide (fun i hi => absurd hi (Nat.not_lt_zero _)), HS0⟩
  case round =>
    obtain ⟨k, hk, rfl, HF, HS⟩ := hrel
    clear HS0
    by_cases hkn : k < zs.length
    · obtain ⟨x, hx⟩ : ∃ x, zs[k]? = some x := ⟨_, List.getElem?_eq_getElem hkn⟩
      obtain ⟨g, q, rfl, hg, hc⟩ := unhide HA (by rw [encP3_length]; omega)
      have e0 : W.cell? ⟨g, q + k * 3, none⟩ = some (.int .i32 x.1) := hc _ _ (encP3_at _ k x hx).1
      have e1 : W.cell? ⟨g, q + k * 3 + 1, none⟩ = some (.int .i32 x.2.1) := hc _ _ (encP3_at _ k x hx).2.1
      have e2 : W.cell? ⟨g, q + k * 3 + 2, none⟩ = some (.int .i32 x.2.2) := hc _ _ (encP3_at _ k x hx).2.2
      have hgX : ¬ X g := fun q => by have := (unhide HX).2 g q; omega
      have hgW : g < W.heap.size := by have := (unhide HX).1; omega
      have c0 : wr.cell? ⟨g, q + k * 3, none⟩ = some (.int .i32 x.1) := ((unhide HS).1.cell (p := ⟨g, q + k * 3, none⟩) hgW hgX).trans e0
      have c1 : wr.cell? ⟨g, q + k * 3 + 1, none⟩ = some (.int .i32 x.2.1) := ((unhide HS).1.cell (p := ⟨g, q + k * 3 + 1, none⟩) hgW hgX).trans e1
      have c2 : wr.cell? ⟨g, q + k * 3 + 2, none⟩ = some (.int .i32 x.2.2) := ((unhide HS).1.cell (p := ⟨g, q + k * 3 + 2, none⟩) hgW hgX).trans e2
      have hB : Below wr.heap.size wr (wr.alloc (.cells #[.int .i32 x.1, .int .i32 x.2.1, .int .i32 x.2.2] 56)) := (Below.refl _ wr).alloc (Nat.le_refl _) _
      have HL := hide (unhide HC).2
      have HCL := hide (unhide HL k x (wr.alloc (.cells #[.int .i32 x.1, .int .i32 x.2.1, .int .i32 x.2.2] 56)) hx ((unhide HS).1.trans (keptX_of hB X)) ((unhide HC).1 k _ _ (unhide HS).2.2 hB))
      have HR := hide (((unhide HS).1.trans (keptX_of hB X)))
      have HRB := hide ((unhide HS).2.1.alloc (.cells #[.int .i32 x.1, .int .i32 x.2.1, .int .i32 x.2.2] 56))
      have HRX : Hz (¬ X W.heap.size) := hide (fun q => by have := (unhide HX).2 _ q; omega)
      have hk1 : (k : Int) < (zs.length : Int) := by omega
      have hk2 : ((k : Nat) : Int).toNat = k := by omega
      have HFK : Hz (f k = 0 → ∀ i, i < k + 1 → f i = 0) := hide (fun h i hi => by
        rcases Nat.lt_or_ge i k with h1 | h1
        · exact unhide HF i h1
        · obtain rfl : i = k := by omega
          exact h)
      have HFB : Hz (f k ≠ 0 → rowsW list zs.length f = (f k, list, (k : Int))) := hide (fun h => rowsW_bad k hkn (unhide HF) h)
      obtain ⟨x1, x2, x3⟩ := x
      dsimp only at c0 c1 c2 HCL HR HRB
      clear hx hc hB HL HS HF e0 e1 e2 hgX hgW hg
      generalize f k = y at *
      by_cases hy : y = 0
      · subst hy
        have HFK2 := hide (unhide HFK rfl)
        clear HFK HFB
        go_wp2_with (go_at_fn G; refine (unhide HCL).mono ?_; rintro e w' ⟨rfl, hj', hk'⟩)
        exact ⟨⟨k + 1, by omega, by go_num, HFK2, hide ⟨(unhide HR).trans hk', hk'.blk (unhide HRB) (unhide HRX), hj'⟩⟩, by simp [intOf]; omega⟩
      · have hy1 : (y == 0) = false := by simpa using hy
        have HFB2 := hide (unhide HFB hy)
        clear HFK HFB
        go_wp2_with (go_at_fn G; refine (unhide HCL).mono ?_; rintro e w' ⟨rfl, hj', hk'⟩; have HRB2 := hide (hk'.blk (unhide HRB) (unhide HRX)); have r0 := (unhide HRB2).cell 0; have r1 := (unhide HRB2).cell 1; have r2 := (unhide HRB2).cell 2; have f0 := (unhide HRB2).frozen 0; have f1 := (unhide HRB2).frozen 1; have f2 := (unhide HRB2).frozen 2)
        rw [unhide HFB2]
        exact bodyPost_ret (v := wrV (y, list, (k : Int))) (ret3 Tryz.results78 rfl (blk3 (unhide HRB2) _ _ _) rfl) rfl ⟨rfl, ((unhide HR).trans hk').set3 (Nat.le_refl _) _ _ _⟩
    · have hk1 : ¬ (k : Int) < (zs.length : Int) := by omega
      have HO2 : Hz (rowsW list zs.length f = (0, 0, 0)) := hide (rowsW_ok (fun i hi => unhide HF i (by omega)))
      have r0 := (unhide HS).2.1.cell 0
      have r1 := (unhide HS).2.1.cell 1
      have r2 := (unhide HS).2.1.cell 2
      have f0 := (unhide HS).2.1.frozen 0
      have f1 := (unhide HS).2.1.frozen 1
      have f2 := (unhide HS).2.1.frozen 2
      go_wp2_with fail
      rw [unhide HO2]
      exact bodyPost_ret (v := wrV (0, 0, 0)) (ret3 Tryz.results78 rfl (blk3 (unhide HS).2.1 _ _ _) rfl) rfl ⟨rfl, (unhide HS).1.set3 (Nat.le_refl _) _ _ _⟩
set_option maxRecDepth 100000 in
set_option maxHeartbeats 2000000 in
theorem firstRow_Map (list : Int) (zs : List (Int × ByteArray)) (hn : zs.length ≤ 1000000) (a : Option Addr) (c G : Nat) (lb : Array Value) (eg : ∀ args w, (callFunc G args).run Tryz.prog w = .ok (.enter G args) w)
    (f : Nat → Int) (X : Nat → Prop) (J : Nat → World → Prop) (lo : Nat) (W : World) (hlo : lo ≤ W.heap.size) (hX : ∀ b, X b → lo ≤ b ∧ b < W.heap.size) (hr : RowC W lo a (encF2 zs)) (h0 : J 0 W)
    (hst : ∀ i w w', J i w → Below w.heap.size w w' → J i w')
    (hcall : ∀ (i : Nat) (x : (Int × ByteArray)) (w : World), zs[i]? = some x → KeptX X W w → J i w → Calls Tryz.prog G (#[.agg #[.int .i32 x.1, .string x.2]] ++ lb) w fun e w' => e = .returned (.int .i64 (f i)) ∧ J (i + 1) w' ∧ KeptX X w w') :
    Calls Tryz.prog 80 #[.int .i64 list, .slice a zs.length c, .func (.func G) #[] lb] W fun e w' => e = .returned (wrV (rowsW list zs.length f)) ∧ KeptX X W w' := by
  have hB0 : Below W.heap.size W (W.alloc (.cells #[.int .i64 0, .int .i64 0, .int .i64 0] 37)) := (Below.refl _ W).alloc (Nat.le_refl _) _
  have HS0 := hide (And.intro (keptX_of hB0 X) (And.intro (Blk.new W #[.int .i64 0, .int .i64 0, .int .i64 0] 37) (hst 0 _ _ h0 hB0)))
  have HA := hide hr
  have HX := hide (And.intro hlo hX)
  have HC := hide (And.intro hst hcall)
  clear hB0 hr hlo hX hst hcall h0
  go_enter Tryz.func80, Tryz.ntmps80
  go_wp2
  generalize W.alloc (.cells #[.int .i64 0, .int .i64 0, .int .i64 0] 37) = w1 at *
  go_loopw [7, 8, 9, 12] (fun _ _ _ s12 wr => ∃ k : Nat, k ≤ zs.length ∧ s12 = .int .i64 k ∧ Hz (∀ i, i < k → f i = 0) ∧ Hz (KeptX X W wr ∧ Blk wr W.heap.size #[.int .i64 0, .int .i64 0, .int .i64 0] 37 ∧ J k wr)) (fun _ _ _ s12 _ => zs.length - (intOf s12).toNat)
  case atStart => exact ⟨0, Nat.zero_le _, rfl, hide (fun i hi => absurd hi (Nat.not_lt_zero _)), HS0⟩
  case round =>
    obtain ⟨k, hk, rfl, HF, HS⟩ := hrel
    clear HS0
    by_cases hkn : k < zs.length
    · obtain ⟨x, hx⟩ : ∃ x, zs[k]? = some x := ⟨_, List.getElem?_eq_getElem hkn⟩
      obtain ⟨g, q, rfl, hg, hc⟩ := unhide HA (by rw [encF2_length]; omega)
      have e0 : W.cell? ⟨g, q + k * 2, none⟩ = some (.int .i32 x.1) := hc _ _ (encF2_at _ k x hx).1
      have e1 : W.cell? ⟨g, q + k * 2 + 1, none⟩ = some (.string x.2) := hc _ _ (encF2_at _ k x hx).2
      have hgX : ¬ X g := fun q => by have := (unhide HX).2 g q; omega
      have hgW : g < W.heap.size := by have := (unhide HX).1; omega
      have c0 : wr.cell? ⟨g, q + k * 2, none⟩ = some (.int .i32 x.1) := ((unhide HS).1.cell (p := ⟨g, q + k * 2, none⟩) hgW hgX).trans e0
      have c1 : wr.cell? ⟨g, q + k * 2 + 1, none⟩ = some (.string x.2) := ((unhide HS).1.cell (p := ⟨g, q + k * 2 + 1, none⟩) hgW hgX).trans e1
      have hB : Below wr.heap.size wr (wr.alloc (.cells #[.int .i32 x.1, .string x.2] 59)) := (Below.refl _ wr).alloc (Nat.le_refl _) _
      have HL := hide (unhide HC).2
      have HCL := hide (unhide HL k x (wr.alloc (.cells #[.int .i32 x.1, .string x.2] 59)) hx ((unhide HS).1.trans (keptX_of hB X)) ((unhide HC).1 k _ _ (unhide HS).2.2 hB))
      have HR := hide (((unhide HS).1.trans (keptX_of hB X)))
      have HRB := hide ((unhide HS).2.1.alloc (.cells #[.int .i32 x.1, .string x.2] 59))
      have HRX : Hz (¬ X W.heap.size) := hide (fun q => by have := (unhide HX).2 _ q; omega)
      have hk1 : (k : Int) < (zs.length : Int) := by omega
      have hk2 : ((k : Nat) : Int).toNat = k := by omega
      have HFK : Hz (f k = 0 → ∀ i, i < k + 1 → f i = 0) := hide (fun h i hi => by
        rcases Nat.lt_or_ge i k with h1 | h1
        · exact unhide HF i h1
        · obtain rfl : i = k := by omega
          exact h)
      have HFB : Hz (f k ≠ 0 → rowsW list zs.length f = (f k, list, (k : Int))) := hide (fun h => rowsW_bad k hkn (unhide HF) h)
      obtain ⟨x1, x2⟩ := x
      dsimp only at c0 c1 HCL HR HRB
      clear hx hc hB HL HS HF e0 e1 hgX hgW hg
      generalize f k = y at *
      by_cases hy : y = 0
      · subst hy
        have HFK2 := hide (unhide HFK rfl)
        clear HFK HFB
        go_wp2_with (go_at_fn G; refine (unhide HCL).mono ?_; rintro e w' ⟨rfl, hj', hk'⟩)
        exact ⟨⟨k + 1, by omega, by go_num, HFK2, hide ⟨(unhide HR).trans hk', hk'.blk (unhide HRB) (unhide HRX), hj'⟩⟩, by simp [intOf]; omega⟩
      · have hy1 : (y == 0) = false := by simpa using hy
        have HFB2 := hide (unhide HFB hy)
        clear HFK HFB
        go_wp2_with (go_at_fn G; refine (unhide HCL).mono ?_; rintro e w' ⟨rfl, hj', hk'⟩; have HRB2 := hide (hk'.blk (unhide HRB) (unhide HRX)); have r0 := (unhide HRB2).cell 0; have r1 := (unhide HRB2).cell 1; have r2 := (unhide HRB2).cell 2; have f0 := (unhide HRB2).frozen 0; have f1 := (unhide HRB2).frozen 1; have f2 := (unhide HRB2).frozen 2)
        rw [unhide HFB2]
        exact bodyPost_ret (v := wrV (y, list, (k : Int))) (ret3 Tryz.results80 rfl (blk3 (unhide HRB2) _ _ _) rfl) rfl ⟨rfl, ((unhide HR).trans hk').set3 (Nat.le_refl _) _ _ _⟩
    · have hk1 : ¬ (k : Int) < (zs.length : Int) := by omega
      have HO2 : Hz (rowsW list zs.length f = (0, 0, 0)) := hide (rowsW_ok (fun i hi => unhide HF i (by omega)))
      have r0 := (unhide HS).2.1.cell 0
      have r1 := (unhide HS).2.1.cell 1
      have r2 := (unhide HS).2.1.cell 2
      have f0 := (unhide HS).2.1.frozen 0
      have f1 := (unhide HS).2.1.frozen 1
      have f2 := (unhide HS).2.1.frozen 2
      go_wp2_with fail
      rw [unhide HO2]
      exact bodyPost_ret (v := wrV (0, 0, 0)) (ret3 Tryz.results80 rfl (blk3 (unhide HS).2.1 _ _ _) rfl) rfl ⟨rfl, (unhide HS).1.set3 (Nat.le_refl _) _ _ _⟩
set_option maxRecDepth 100000 in
set_option maxHeartbeats 2000000 in
theorem firstRow_Span (list : Int) (zs : List (Int × Int)) (hn : zs.length ≤ 1000000) (a : Option Addr) (c G : Nat) (lb : Array Value) (eg : ∀ args w, (callFunc G args).run Tryz.prog w = .ok (.enter G args) w)
    (f : Nat → Int) (X : Nat → Prop) (J : Nat → World → Prop) (lo : Nat) (W : World) (hlo : lo ≤ W.heap.size) (hX : ∀ b, X b → lo ≤ b ∧ b < W.heap.size) (hr : RowC W lo a (encS2 zs)) (h0 : J 0 W)
    (hst : ∀ i w w', J i w → Below w.heap.size w w' → J i w')
    (hcall : ∀ (i : Nat) (x : (Int × Int)) (w : World), zs[i]? = some x → KeptX X W w → J i w → Calls Tryz.prog G (#[.agg #[.int .i32 x.1, .int .i32 x.2]] ++ lb) w fun e w' => e = .returned (.int .i64 (f i)) ∧ J (i + 1) w' ∧ KeptX X w w') :
    Calls Tryz.prog 122 #[.int .i64 list, .slice a zs.length c, .func (.func G) #[] lb] W fun e w' => e = .returned (wrV (rowsW list zs.length f)) ∧ KeptX X W w' := by
  have hB0 : Below W.heap.size W (W.alloc (.cells #[.int .i64 0, .int .i64 0, .int .i64 0] 37)) := (Below.refl _ W).alloc (Nat.le_refl _) _
  have HS0 := hide (And.intro (keptX_of hB0 X) (And.intro (Blk.new W #[.int .i64 0, .int .i64 0, .int .i64 0] 37) (hst 0 _ _ h0 hB0)))
  have HA := hide hr
  have HX := hide (And.intro hlo hX)
  have HC := hide (And.intro hst hcall)
  clear hB0 hr hlo hX hst hcall h0
  go_enter Tryz.func122, Tryz.ntmps122
  go_wp2
  generalize W.alloc (.cells #[.int .i64 0, .int .i64 0, .int .i64 0] 37) = w1 at *
  go_loopw [7, 8, 9, 12] (fun _ _ _ s12 wr => ∃ k : Nat, k ≤ zs.length ∧ s12 = .int .i64 k ∧ Hz (∀ i, i < k → f i = 0) ∧ Hz (KeptX X W wr ∧ Blk wr W.heap.size #[.int .i64 0, .int .i64 0, .int .i64 0] 37 ∧ J k wr)) (fun _ _ _ s12 _ => zs.length - (intOf s12).toNat)
  case atStart => exact ⟨0, Nat.zero_le _, rfl, hide (fun i hi => absurd hi (Nat.not_lt_zero _)), HS0⟩
  case round =>
    obtain ⟨k, hk, rfl, HF, HS⟩ := hrel
    clear HS0
    by_cases hkn : k < zs.length
    · obtain ⟨x, hx⟩ : ∃ x, zs[k]? = some x := ⟨_, List.getElem?_eq_getElem hkn⟩
      obtain ⟨g, q, rfl, hg, hc⟩ := unhide HA (by rw [encS2_length]; omega)
      have e0 : W.cell? ⟨g, q + k * 2, none⟩ = some (.int .i32 x.1) := hc _ _ (encS2_at _ k x hx).1
      have e1 : W.cell? ⟨g, q + k * 2 + 1, none⟩ = some (.int .i32 x.2) := hc _ _ (encS2_at _ k x hx).2
      have hgX : ¬ X g := fun q => by have := (unhide HX).2 g q; omega
      have hgW : g < W.heap.size := by have := (unhide HX).1; omega
      have c0 : wr.cell? ⟨g, q + k * 2, none⟩ = some (.int .i32 x.1) := ((unhide HS).1.cell (p := ⟨g, q + k * 2, none⟩) hgW hgX).trans e0
      have c1 : wr.cell? ⟨g, q + k * 2 + 1, none⟩ = some (.int .i32 x.2) := ((unhide HS).1.cell (p := ⟨g, q + k * 2 + 1, none⟩) hgW hgX).trans e1
      have hB : Below wr.heap.size wr (wr.alloc (.cells #[.int .i32 x.1, .int .i32 x.2] 68)) := (Below.refl _ wr).alloc (Nat.le_refl _) _
      have HL := hide (unhide HC).2
      have HCL := hide (unhide HL k x (wr.alloc (.cells #[.int .i32 x.1, .int .i32 x.2] 68)) hx ((unhide HS).1.trans (keptX_of hB X)) ((unhide HC).1 k _ _ (unhide HS).2.2 hB))
      have HR := hide (((unhide HS).1.trans (keptX_of hB X)))
      have HRB := hide ((unhide HS).2.1.alloc (.cells #[.int .i32 x.1, .int .i32 x.2] 68))
      have HRX : Hz (¬ X W.heap.size) := hide (fun q => by have := (unhide HX).2 _ q; omega)
      have hk1 : (k : Int) < (zs.length : Int) := by omega
      have hk2 : ((k : Nat) : Int).toNat = k := by omega
      have HFK : Hz (f k = 0 → ∀ i, i < k + 1 → f i = 0) := hide (fun h i hi => by
        rcases Nat.lt_or_ge i k with h1 | h1
        · exact unhide HF i h1
        · obtain rfl : i = k := by omega
          exact h)
      have HFB : Hz (f k ≠ 0 → rowsW list zs.length f = (f k, list, (k : Int))) := hide (fun h => rowsW_bad k hkn (unhide HF) h)
      obtain ⟨x1, x2⟩ := x
      dsimp only at c0 c1 HCL HR HRB
      clear hx hc hB HL HS HF e0 e1 hgX hgW hg
      generalize f k = y at *
      by_cases hy : y = 0
      · subst hy
        have HFK2 := hide (unhide HFK rfl)
        clear HFK HFB
        go_wp2_with (go_at_fn G; refine (unhide HCL).mono ?_; rintro e w' ⟨rfl, hj', hk'⟩)
        exact ⟨⟨k + 1, by omega, by go_num, HFK2, hide ⟨(unhide HR).trans hk', hk'.blk (unhide HRB) (unhide HRX), hj'⟩⟩, by simp [intOf]; omega⟩
      · have hy1 : (y == 0) = false := by simpa using hy
        have HFB2 := hide (unhide HFB hy)
        clear HFK HFB
        go_wp2_with (go_at_fn G; refine (unhide HCL).mono ?_; rintro e w' ⟨rfl, hj', hk'⟩; have HRB2 := hide (hk'.blk (unhide HRB) (unhide HRX)); have r0 := (unhide HRB2).cell 0; have r1 := (unhide HRB2).cell 1; have r2 := (unhide HRB2).cell 2; have f0 := (unhide HRB2).frozen 0; have f1 := (unhide HRB2).frozen 1; have f2 := (unhide HRB2).frozen 2)
        rw [unhide HFB2]
        exact bodyPost_ret (v := wrV (y, list, (k : Int))) (ret3 Tryz.results122 rfl (blk3 (unhide HRB2) _ _ _) rfl) rfl ⟨rfl, ((unhide HR).trans hk').set3 (Nat.le_refl _) _ _ _⟩
    · have hk1 : ¬ (k : Int) < (zs.length : Int) := by omega
      have HO2 : Hz (rowsW list zs.length f = (0, 0, 0)) := hide (rowsW_ok (fun i hi => unhide HF i (by omega)))
      have r0 := (unhide HS).2.1.cell 0
      have r1 := (unhide HS).2.1.cell 1
      have r2 := (unhide HS).2.1.cell 2
      have f0 := (unhide HS).2.1.frozen 0
      have f1 := (unhide HS).2.1.frozen 1
      have f2 := (unhide HS).2.1.frozen 2
      go_wp2_with fail
      rw [unhide HO2]
      exact bodyPost_ret (v := wrV (0, 0, 0)) (ret3 Tryz.results122 rfl (blk3 (unhide HS).2.1 _ _ _) rfl) rfl ⟨rfl, (unhide HS).1.set3 (Nat.le_refl _) _ _ _⟩
def orE : List Int → Int
  | [] => 0
  | x :: r => if x = 0 then orE r else x
theorem orE_cons0 {x : Int} {r : List Int} (h : x = 0) : orE (x :: r) = orE r := by
  show (if x = 0 then orE r else x) = orE r
  rw [if_pos h]
theorem orE_cons1 {x : Int} {r : List Int} (h : x ≠ 0) : orE (x :: r) = x := by
  show (if x = 0 then orE r else x) = x
  rw [if_neg h]
set_option maxRecDepth 100000 in
set_option maxHeartbeats 2000000 in
theorem orErrno_any (l : List Int) (hl : l.length ≤ 100) (g o c : Nat) (w : World) (hc : ∀ (j : Nat) (x : Int), l[j]? = some x → w.cell? ⟨g, o + j, none⟩ = some (.int .i64 x)) :
    Calls Tryz.prog 92 #[.slice (some ⟨g, o, none⟩) l.length c] w fun e w' => e = .returned (.int .i64 (orE l)) ∧ w' = w := by
  have HC := hide hc
  clear hc
  go_enter Tryz.func92, Tryz.ntmps92
  go_wp2
  go_loopw [5, 8] (fun _ s8 wr => ∃ k : Nat, k ≤ l.length ∧ s8 = .int .i64 k ∧ Hz (orE l = orE (l.drop k)) ∧ wr = w) (fun _ s8 _ => l.length - (intOf s8).toNat)
  case atStart => exact ⟨0, by omega, rfl, hide (by rw [List.drop_zero]), rfl⟩
  case round =>
    obtain ⟨k, hkl, rfl, HO, rfl⟩ := hrel
    by_cases hkn : k < l.length
    · obtain ⟨x, hx⟩ : ∃ x, l[k]? = some x := ⟨_, List.getElem?_eq_getElem hkn⟩
      have hd : l.drop k = x :: l.drop (k + 1) := by
        rw [List.drop_eq_getElem_cons hkn]
        congr 1
        exact Option.some.inj ((List.getElem?_eq_getElem hkn).symm.trans hx)
      have c0 := unhide HC k x hx
      have hk1 : (k : Int) < (l.length : Int) := by omega
      have hk2 : ((k : Nat) : Int).toNat = k := by omega
      by_cases hx0 : x = 0
      · have HO2 : Hz (orE l = orE (l.drop (k + 1))) := hide (by rw [unhide HO, hd, orE_cons0 hx0])
        subst hx0
        clear hx hd HO
        go_wp2_with fail
        exact ⟨⟨k + 1, by omega, by go_num, HO2, by trivial⟩, by simp [intOf]; omega⟩
      · have HO2 : Hz (orE l = x) := hide (by rw [unhide HO, hd, orE_cons1 hx0])
        have q0 : (x == 0) = false := by simpa using hx0
        clear hx hd HO
        go_wp2_with fail
        rw [unhide HO2]
        go_ret
        exact ⟨rfl, rfl⟩
    · have hk1 : ¬ (k : Int) < (l.length : Int) := by omega
      have HO2 : Hz (orE l = 0) := hide (by rw [unhide HO, List.drop_of_length_le (by omega)]; rfl)
      go_wp2_with fail
      rw [unhide HO2]
      go_ret
      exact ⟨rfl, rfl⟩
def RnC (W : World) (lo : Nat) (a : Option Addr) (zs : List Int) : Prop := 0 < zs.length → ∃ g o, a = some ⟨g, o, none⟩ ∧ g < lo ∧ ∀ (j : Nat) (x : Int), zs[j]? = some x → W.cell? ⟨g, o + j, none⟩ = some (.int .i32 x)
set_option maxRecDepth 100000 in
set_option maxHeartbeats 2000000 in
theorem indexF_any (zs : List Int) (hn : zs.length ≤ 1000000) (a : Option Addr) (c G : Nat) (fs lb : Array Value) (eg : ∀ args w, (callFunc G args).run Tryz.prog w = .ok (.enter G args) w) (p : Int → Bool) (W : World) (hr : RnC W W.heap.size a zs)
    (hcall : ∀ x ∈ zs, ∀ w, Below W.heap.size W w → Calls Tryz.prog G (fs ++ #[.int .i32 x] ++ lb) w fun e w' => e = .returned (.bool (p x)) ∧ Below W.heap.size W w') :
    Calls Tryz.prog 156 #[.slice a zs.length c, .func (.func G) fs lb] W fun e w' => (∃ i : Int, e = .returned (.int .i64 i) ∧ decide (0 ≤ i) = zs.any p) ∧ Below W.heap.size W w' := by
  have HA := hide hr
  have HC := hide hcall
  clear hr hcall
  go_enter Tryz.func156, Tryz.ntmps156
  go_wp2
  go_loopw [5, 8] (fun _ s8 wr => ∃ k : Nat, k ≤ zs.length ∧ s8 = .int .i64 k ∧ Hz (∀ x ∈ zs.take k, p x = false) ∧ Hz (Below W.heap.size W wr)) (fun _ s8 _ => zs.length - (intOf s8).toNat)
  case atStart => exact ⟨0, by omega, rfl, hide (fun x hx => by simp at hx), hide (Below.refl _ _)⟩
  case round =>
    obtain ⟨k, hkl, rfl, HO, HS⟩ := hrel
    by_cases hkn : k < zs.length
    · obtain ⟨x, hx⟩ : ∃ x, zs[k]? = some x := ⟨_, List.getElem?_eq_getElem hkn⟩
      obtain ⟨g, q, rfl, hg, hc⟩ := unhide HA (by omega)
      have c0 : wr.cell? ⟨g, q + k, none⟩ = some (.int .i32 x) := ((unhide HS).cell (p := ⟨g, q + k, none⟩) hg).trans (hc k x hx)
      have HCL := hide (unhide HC x (List.mem_of_getElem? hx) wr (unhide HS))
      have hk1 : (k : Int) < (zs.length : Int) := by omega
      have hk2 : ((k : Nat) : Int).toNat = k := by omega
      have HX := hide hx
      have HT : Hz (p x = true → zs.any p = true) := hide (fun h => List.any_eq_true.2 ⟨x, List.mem_of_getElem? hx, h⟩)
      have HN : Hz (p x = false → ∀ y ∈ zs.take (k + 1), p y = false) := hide (fun h y hy => by
        rw [List.take_add_one, hx] at hy
        rcases List.mem_append.1 hy with h1 | h1
        · exact unhide HO y h1
        · obtain rfl : y = x := by simpa using h1
          exact h)
      clear hx hc HO hg
      generalize p x = y at *
      cases y with
      | false =>
        have HN2 := hide (unhide HN rfl)
        clear HN HT
        go_wp2_with (go_at_fn G; refine (unhide HCL).mono ?_; rintro e w' ⟨rfl, hb'⟩)
        exact ⟨⟨k + 1, by omega, by go_num, HN2, hide hb'⟩, by simp [intOf]; omega⟩
      | true =>
        have HT2 := hide (unhide HT rfl)
        clear HN HT
        go_wp2_with (go_at_fn G; refine (unhide HCL).mono ?_; rintro e w' ⟨rfl, hb'⟩)
        go_ret
        exact ⟨⟨_, rfl, by rw [unhide HT2]; simp⟩, hb'⟩
    · have hk1 : ¬ (k : Int) < (zs.length : Int) := by omega
      have HO2 : Hz (zs.any p = false) := hide (by
        rw [List.any_eq_false]
        intro x hx
        have := unhide HO x (by rw [List.take_of_length_le (by omega)]; exact hx)
        simp [this])
      go_wp2_with fail
      go_ret
      exact ⟨⟨_, rfl, by rw [unhide HO2]; rfl⟩, unhide HS⟩
set_option maxRecDepth 100000 in
theorem containsF_any (zs : List Int) (hn : zs.length ≤ 1000000) (a : Option Addr) (c G : Nat) (fs lb : Array Value) (eg : ∀ args w, (callFunc G args).run Tryz.prog w = .ok (.enter G args) w) (p : Int → Bool) (W : World) (hr : RnC W W.heap.size a zs)
    (hcall : ∀ x ∈ zs, ∀ w, Below W.heap.size W w → Calls Tryz.prog G (fs ++ #[.int .i32 x] ++ lb) w fun e w' => e = .returned (.bool (p x)) ∧ Below W.heap.size W w') :
    Calls Tryz.prog 112 #[.slice a zs.length c, .func (.func G) fs lb] W fun e w' => e = .returned (.bool (zs.any p)) ∧ Below W.heap.size W w' := by
  have HI := hide (indexF_any zs hn a c G fs lb eg p W hr hcall)
  clear hr hcall
  go_enter Tryz.func112, Tryz.ntmps112
  go_wp2_with fail
  refine (unhide HI).mono ?_
  rintro e w' ⟨⟨i, rfl, hi⟩, hb⟩
  have HI2 := hide (And.intro hi hb)
  clear hi hb HI
  go_wp2_with fail
  go_ret
  exact ⟨by rw [← (unhide HI2).1]; rfl, (unhide HI2).2⟩
theorem noRune1_any (r : Int) (w : World) : Calls Tryz.prog 169 #[.int .i32 r] w fun e w' => e = .returned (.bool (!runeB r)) ∧ w' = w := by
  go_enter Tryz.func169, Tryz.ntmps169
  go_wp2_with fail
  refine (width_any r w).mono ?_
  rintro e w' ⟨rfl, rfl⟩
  go_wp2_with fail
  go_ret
  exact ⟨by rw [← width_rune]; rfl, rfl⟩
theorem enters1 : ∀ args w, (callFunc 169 args).run Tryz.prog w = .ok (.enter 169 args) w := enters_of Tryz.func169 (by kernel_rfl) rfl
set_option maxRecDepth 100000 in
theorem noRune_any (zs : List Int) (hn : zs.length ≤ 1000000) (a : Option Addr) (c : Nat) (W : World) (hr : RnC W W.heap.size a zs) :
    Calls Tryz.prog 140 #[.slice a zs.length c] W fun e w' => e = .returned (.int .i64 (if zs.all runeB then 0 else 12)) ∧ Below W.heap.size W w' := by
  have HI := hide (containsF_any zs hn a c 169 #[] #[] enters1 (fun r => !runeB r) W hr (fun x _ w hb => (noRune1_any x w).mono (fun e w' ⟨he, hw⟩ => ⟨he, hw ▸ hb⟩)))
  have hq : zs.any (fun r => !runeB r) = !zs.all runeB := by simp [List.any_eq_not_all_not]
  rw [hq] at HI
  clear hr hq
  generalize zs.all runeB = b at *
  go_enter Tryz.func140, Tryz.ntmps140
  go_wp2_with fail
  refine (unhide HI).mono ?_
  rintro e w' ⟨rfl, hb⟩
  have HB := hide hb
  clear hb HI
  go_wp2_with fail
  refine (when_any (!b) 12 w').mono ?_
  rintro e w2 ⟨rfl, rfl⟩
  cases b
  all_goals
    go_wp2_with fail
    go_ret
    exact ⟨rfl, unhide HB⟩
end Go.Proofs.YtnnbaodillnkkaaGreat
