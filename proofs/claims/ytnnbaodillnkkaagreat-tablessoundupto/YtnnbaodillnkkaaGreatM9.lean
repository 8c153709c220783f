/- Texts of this claim, one behind the other. -/
import Derived.Test.YtnnbaodillnkkaaGreatTkL
import Derived.Maps.OwnSet
import Derived.WideKeyPair
import Derived.Test.YtnnbaodillnkkaaGreatM8
import Derived.Test.YtnnbaodillnkkaaGreatRows
import Derived.ProofKit
import Derived.OpenShut
import Derived.ChangeOld
import Derived.Deep.SlicePairs
import Derived.StringKeys
/- Which tables are right: rows that are there twice: what was seen. -/
namespace Go.Proofs.YtnnbaodillnkkaaGreat
open Go.RowKit Go.Shelf Go.Maps
set_option linter.unusedVariables false
def SeenAt (w : World) (kt : TypeId) (M n : Nat) (S : Lit → Prop) : Prop := ∃ D : DataW Unit, w.ownsMap Tryz.prog kt unitElem M n D ∧ ∀ kl, WideAt.IsKeyLit kl → (Maps.has D kl = true ↔ S kl)
theorem seen_made (w : World) (kt : TypeId) : SeenAt (w.alloc (.map #[] 0)) kt w.heap.size 0 (fun _ => False) :=
  ⟨.map [], World.ownsMap_made w Tryz.prog kt unitElem, fun kl _ => by simp [Maps.has]⟩
theorem SeenAt.kept {w w' : World} {kt : TypeId} {M n : Nat} {S : Lit → Prop} {row : Option Nat} (h : SeenAt w kt M n S) (hg : w.grownBy w' row) (hne : some M ≠ row) : SeenAt w' kt M n S := by
  obtain ⟨D, h1, h2⟩ := h
  exact ⟨D, h1.kept hg hne, h2⟩
theorem SeenAt.below {w w' : World} {kt : TypeId} {M n : Nat} {S : Lit → Prop} (h : SeenAt w kt M n S) (hb : Below w.heap.size w w') : SeenAt w' kt M n S := h.kept (below_grown2 (row := none) hb) (by simp)
theorem SeenAt.lt {w : World} {kt : TypeId} {M n : Nat} {S : Lit → Prop} (h : SeenAt w kt M n S) : M < w.heap.size := by
  obtain ⟨D, h1, _⟩ := h
  exact h1.lt
theorem seen_put {w : World} {kt : TypeId} {M n : Nat} {D : DataW Unit} {S : Lit → Prop} {k : Lit} {w0 : World} (h0 : w0.ownsMap Tryz.prog kt unitElem M n D) (hs : ∀ kl, WideAt.IsKeyLit kl → (Maps.has D kl = true ↔ S kl)) (hk : WideAt.IsKeyLit k) (h : w.ownsMap Tryz.prog kt unitElem M (n + 1) (D.put k (.agg []))) : SeenAt w kt M (n + 1) (fun kl => kl = k ∨ S kl) := by
  refine ⟨_, h, fun kl hkl => ?_⟩
  by_cases e : kl = k
  · subst e
    simp [has_put_same h0.isMap hk]
  · rw [has_put_other e, hs kl hkl]
    simp [e]
structure AgAt (w : World) (KB SB M kf n : Nat) (ft mt kt : TypeId) (S : Lit → Prop) : Prop where
  kb : Blk w KB #[.func (.func kf) #[] #[]] ft
  sb : Blk w SB #[.map (some M)] mt
  se : SeenAt w kt M n S
  ks : KB ≠ M
  ss : SB ≠ M
theorem AgAt.below {w w' : World} {KB SB M kf n : Nat} {ft mt kt : TypeId} {S : Lit → Prop} (h : AgAt w KB SB M kf n ft mt kt S) (hb : Below w.heap.size w w') : AgAt w' KB SB M kf n ft mt kt S := ⟨h.kb.below hb h.kb.lt, h.sb.below hb h.sb.lt, h.se.below hb, h.ks, h.ss⟩
theorem keptX_map {w w' : World} {M : Nat} (h : w.grownBy w' (some M)) : KeptX (fun b => b = M) w w' := ⟨h.os, h.tape, h.output, h.size, fun k hk hx => h.block k hk (fun e => hx (Option.some.inj e))⟩
set_option maxRecDepth 100000 in
theorem key_twice_1 (x1 x2 x3 : Int) (w : World) : Calls Tryz.prog 83 #[.agg #[.int .i32 x1, .int .i32 x2, .int .i32 x3]] w fun e w' => e = .returned (.int .i32 x1) ∧ Below w.heap.size w w' := by
  go_enter Tryz.func83, Tryz.ntmps83
  go_wp2
  go_ret
  exact ⟨rfl, (Below.refl _ w).alloc (Nat.le_refl _) _⟩
set_option maxRecDepth 100000 in
theorem key_twice_3 (x1 : Int) (x2 : ByteArray) (w : World) : Calls Tryz.prog 86 #[.agg #[.int .i32 x1, .string x2]] w fun e w' => e = .returned (.int .i32 x1) ∧ Below w.heap.size w w' := by
  go_enter Tryz.func86, Tryz.ntmps86
  go_wp2
  go_ret
  exact ⟨rfl, (Below.refl _ w).alloc (Nat.le_refl _) _⟩
set_option maxRecDepth 100000 in
theorem key_twice_4 (x1 : ByteArray) (p : Option Addr) (n d : Nat) (w : World) : Calls Tryz.prog 88 #[.agg #[.string x1, .slice p n d]] w fun e w' => e = .returned (.string x1) ∧ Below w.heap.size w w' := by
  go_enter Tryz.func88, Tryz.ntmps88
  go_wp2
  go_ret
  exact ⟨rfl, (Below.refl _ w).alloc (Nat.le_refl _) _⟩
set_option maxRecDepth 100000 in
theorem key_twice_5 (x1 x2 : Int) (w : World) : Calls Tryz.prog 90 #[.agg #[.int .i32 x1, .int .i64 x2]] w fun e w' => e = .returned (.int .i32 x1) ∧ Below w.heap.size w w' := by
  go_enter Tryz.func90, Tryz.ntmps90
  go_wp2
  go_ret
  exact ⟨rfl, (Below.refl _ w).alloc (Nat.le_refl _) _⟩
set_option maxRecDepth 100000 in
theorem key_twice_2 (x1 x2 x3 : Int) (w : World) : Calls Tryz.prog 85 #[.agg #[.int .i32 x1, .int .i32 x2, .int .i32 x3]] w fun e w' => e = .returned (.agg #[.int .i32 x2, .int .i32 x3]) ∧ Below w.heap.size w w' := by
  go_enter Tryz.func85, Tryz.ntmps85
  go_wp2
  exact bodyPost_ret (v := .agg #[.int .i32 x2, .int .i32 x3]) (by simp [results, Tryz.results85, go_sem]) rfl ⟨rfl, ((Below.refl _ w).alloc (Nat.le_refl _) _).alloc (by simp) _⟩
set_option maxRecDepth 100000 in
set_option maxHeartbeats 2000000 in
theorem again_Mark (x1 x2 : Int) (k : Lit) (hk : keyOf Tryz.prog 21 (.int .i32 x1) = some k) (hkl : WideAt.IsKeyLit k) (KB SB M n : Nat) (hn : n ≤ 1000000) (S : Lit → Prop) (w : World) (h : AgAt w KB SB M 90 n 132 168 21 S) :
    Calls Tryz.prog 145 #[.agg #[.int .i32 x1, .int .i64 x2], .pointer (some ⟨KB, 0, none⟩), .pointer (some ⟨SB, 0, none⟩)] w fun e w' => (∃ b : Bool, e = .returned (.int .i64 (if b = true then 14 else 0)) ∧ (b = true ↔ S k)) ∧ AgAt w' KB SB M 90 (n + 1) 132 168 21 (fun kl => kl = k ∨ S kl) ∧ KeptX (fun b => b = M) w w' := by
  have hB0 : Below w.heap.size w (w.alloc (.cells #[.int .i32 x1, .int .i64 x2] 53)) := (Below.refl _ w).alloc (Nat.le_refl _) _
  have H0 := hide (And.intro (h.below hB0) hB0)
  have b1 := (unhide H0).1.kb.cell 0
  have HK := hide (And.intro hk hkl)
  clear hB0 h hk hkl
  go_enter Tryz.func145, Tryz.ntmps145
  go_wp2_with fail
  generalize w.alloc (.cells #[.int .i32 x1, .int .i64 x2] 53) = w1 at *
  refine (key_twice_5 x1 x2 w1).mono ?_
  rintro e w2 ⟨rfl, hb⟩
  have H2 := hide (And.intro ((unhide H0).1.below hb) ((unhide H0).2.trans (hb.mono (unhide H0).2.size)))
  have b2 := (unhide H2).1.sb.cell 0
  clear hb H0 b1
  obtain ⟨D, hD, hS⟩ := (unhide H2).1.se
  have HD := hide (And.intro hD hS)
  clear hD hS
  obtain ⟨v, ps, hl, hv⟩ := (unhide HD).1.look_ok (int_keyed Tryz.underlying21) Tryz.underlying168 (z := .agg #[]) (by kernel_rfl) unitElem_mk (unhide HK).1
  obtain ⟨rfl, _⟩ := unitElem_inv hv
  have HS2 := hide ((unhide HD).2 k (unhide HK).2)
  clear hv
  generalize Maps.has D k = b at *
  have HD2 := hide ((unhide HD).1.alloc (.cells #[] 169))
  obtain ⟨w3, hu, r1, r2⟩ := (unhide HD2).update (int_keyed Tryz.underlying21) Tryz.underlying168 (by unfold maxLen; omega) (unhide HK).1 unitElem_mk
  have b3 : (w2.alloc (.cells #[] 169)).cell? ⟨SB, 0, none⟩ = some (.map (some M)) := ((unhide H2).1.sb.alloc _).cell 0
  have HR := hide (And.intro r1 r2)
  clear r1 r2
  obtain ⟨z, hz⟩ : ∃ z : Int, (if b = true then 14 else 0) = z := ⟨_, rfl⟩
  have HZ := hide hz
  clear hz
  have HW := hide (when_any b 14 w3)
  rw [unhide HZ] at HW
  go_wp2_with fail
  refine (unhide HW).mono ?_
  rintro e w4 ⟨rfl, hw4⟩
  rw [hw4]
  clear hw4 HW hl hu b2 b3
  go_wp2_with fail
  go_ret
  have h2 := (unhide H2).1
  have hg := (unhide HR).2
  refine ⟨⟨b, by rw [unhide HZ]; rfl, unhide HS2⟩, ⟨(h2.kb.alloc _).kept hg (fun e => h2.ks (Option.some.inj e)), (h2.sb.alloc _).kept hg (fun e => h2.ss (Option.some.inj e)), seen_put (unhide HD2) (unhide HD).2 (unhide HK).2 (unhide HR).1, h2.ks, h2.ss⟩, ?_⟩
  exact (keptX_of (alloc_bel (unhide H2).2 (unhide H2).2.size _) _).trans (keptX_map hg)
set_option maxRecDepth 100000 in
set_option maxHeartbeats 2000000 in
theorem again_PairW (x1 x2 x3 : Int) (k : Lit) (hk : keyOf Tryz.prog 21 (.int .i32 x1) = some k) (hkl : WideAt.IsKeyLit k) (KB SB M n : Nat) (hn : n ≤ 1000000) (S : Lit → Prop) (w : World) (h : AgAt w KB SB M 83 n 125 168 21 S) :
    Calls Tryz.prog 142 #[.agg #[.int .i32 x1, .int .i32 x2, .int .i32 x3], .pointer (some ⟨KB, 0, none⟩), .pointer (some ⟨SB, 0, none⟩)] w fun e w' => (∃ b : Bool, e = .returned (.int .i64 (if b = true then 14 else 0)) ∧ (b = true ↔ S k)) ∧ AgAt w' KB SB M 83 (n + 1) 125 168 21 (fun kl => kl = k ∨ S kl) ∧ KeptX (fun b => b = M) w w' := by
  have hB0 : Below w.heap.size w (w.alloc (.cells #[.int .i32 x1, .int .i32 x2, .int .i32 x3] 56)) := (Below.refl _ w).alloc (Nat.le_refl _) _
  have H0 := hide (And.intro (h.below hB0) hB0)
  have b1 := (unhide H0).1.kb.cell 0
  have HK := hide (And.intro hk hkl)
  clear hB0 h hk hkl
  go_enter Tryz.func142, Tryz.ntmps142
  go_wp2_with fail
  generalize w.alloc (.cells #[.int .i32 x1, .int .i32 x2, .int .i32 x3] 56) = w1 at *
  refine (key_twice_1 x1 x2 x3 w1).mono ?_
  rintro e w2 ⟨rfl, hb⟩
  have H2 := hide (And.intro ((unhide H0).1.below hb) ((unhide H0).2.trans (hb.mono (unhide H0).2.size)))
  have b2 := (unhide H2).1.sb.cell 0
  clear hb H0 b1
  obtain ⟨D, hD, hS⟩ := (unhide H2).1.se
  have HD := hide (And.intro hD hS)
  clear hD hS
  obtain ⟨v, ps, hl, hv⟩ := (unhide HD).1.look_ok (int_keyed Tryz.underlying21) Tryz.underlying168 (z := .agg #[]) (by kernel_rfl) unitElem_mk (unhide HK).1
  obtain ⟨rfl, _⟩ := unitElem_inv hv
  have HS2 := hide ((unhide HD).2 k (unhide HK).2)
  clear hv
  generalize Maps.has D k = b at *
  have HD2 := hide ((unhide HD).1.alloc (.cells #[] 169))
  obtain ⟨w3, hu, r1, r2⟩ := (unhide HD2).update (int_keyed Tryz.underlying21) Tryz.underlying168 (by unfold maxLen; omega) (unhide HK).1 unitElem_mk
  have b3 : (w2.alloc (.cells #[] 169)).cell? ⟨SB, 0, none⟩ = some (.map (some M)) := ((unhide H2).1.sb.alloc _).cell 0
  have HR := hide (And.intro r1 r2)
  clear r1 r2
  obtain ⟨z, hz⟩ : ∃ z : Int, (if b = true then 14 else 0) = z := ⟨_, rfl⟩
  have HZ := hide hz
  clear hz
  have HW := hide (when_any b 14 w3)
  rw [unhide HZ] at HW
  go_wp2_with fail
  refine (unhide HW).mono ?_
  rintro e w4 ⟨rfl, hw4⟩
  rw [hw4]
  clear hw4 HW hl hu b2 b3
  go_wp2_with fail
  go_ret
  have h2 := (unhide H2).1
  have hg := (unhide HR).2
  refine ⟨⟨b, by rw [unhide HZ]; rfl, unhide HS2⟩, ⟨(h2.kb.alloc _).kept hg (fun e => h2.ks (Option.some.inj e)), (h2.sb.alloc _).kept hg (fun e => h2.ss (Option.some.inj e)), seen_put (unhide HD2) (unhide HD).2 (unhide HK).2 (unhide HR).1, h2.ks, h2.ss⟩, ?_⟩
  exact (keptX_of (alloc_bel (unhide H2).2 (unhide H2).2.size _) _).trans (keptX_map hg)
set_option maxRecDepth 100000 in
set_option maxHeartbeats 2000000 in
theorem again_Map (x1 : Int) (x2 : ByteArray) (k : Lit) (hk : keyOf Tryz.prog 21 (.int .i32 x1) = some k) (hkl : WideAt.IsKeyLit k) (KB SB M n : Nat) (hn : n ≤ 1000000) (S : Lit → Prop) (w : World) (h : AgAt w KB SB M 86 n 128 168 21 S) :
    Calls Tryz.prog 146 #[.agg #[.int .i32 x1, .string x2], .pointer (some ⟨KB, 0, none⟩), .pointer (some ⟨SB, 0, none⟩)] w fun e w' => (∃ b : Bool, e = .returned (.int .i64 (if b = true then 14 else 0)) ∧ (b = true ↔ S k)) ∧ AgAt w' KB SB M 86 (n + 1) 128 168 21 (fun kl => kl = k ∨ S kl) ∧ KeptX (fun b => b = M) w w' := by
  have hB0 : Below w.heap.size w (w.alloc (.cells #[.int .i32 x1, .string x2] 59)) := (Below.refl _ w).alloc (Nat.le_refl _) _
  have H0 := hide (And.intro (h.below hB0) hB0)
  have b1 := (unhide H0).1.kb.cell 0
  have HK := hide (And.intro hk hkl)
  clear hB0 h hk hkl
  go_enter Tryz.func146, Tryz.ntmps146
  go_wp2_with fail
  generalize w.alloc (.cells #[.int .i32 x1, .string x2] 59) = w1 at *
  refine (key_twice_3 x1 x2 w1).mono ?_
  rintro e w2 ⟨rfl, hb⟩
  have H2 := hide (And.intro ((unhide H0).1.below hb) ((unhide H0).2.trans (hb.mono (unhide H0).2.size)))
  have b2 := (unhide H2).1.sb.cell 0
  clear hb H0 b1
  obtain ⟨D, hD, hS⟩ := (unhide H2).1.se
  have HD := hide (And.intro hD hS)
  clear hD hS
  obtain ⟨v, ps, hl, hv⟩ := (unhide HD).1.look_ok (int_keyed Tryz.underlying21) Tryz.underlying168 (z := .agg #[]) (by kernel_rfl) unitElem_mk (unhide HK).1
  obtain ⟨rfl, _⟩ := unitElem_inv hv
  have HS2 := hide ((unhide HD).2 k (unhide HK).2)
  clear hv
  generalize Maps.has D k = b at *
  have HD2 := hide ((unhide HD).1.alloc (.cells #[] 169))
  obtain ⟨w3, hu, r1, r2⟩ := (unhide HD2).update (int_keyed Tryz.underlying21) Tryz.underlying168 (by unfold maxLen; omega) (unhide HK).1 unitElem_mk
  have b3 : (w2.alloc (.cells #[] 169)).cell? ⟨SB, 0, none⟩ = some (.map (some M)) := ((unhide H2).1.sb.alloc _).cell 0
  have HR := hide (And.intro r1 r2)
  clear r1 r2
  obtain ⟨z, hz⟩ : ∃ z : Int, (if b = true then 14 else 0) = z := ⟨_, rfl⟩
  have HZ := hide hz
  clear hz
  have HW := hide (when_any b 14 w3)
  rw [unhide HZ] at HW
  go_wp2_with fail
  refine (unhide HW).mono ?_
  rintro e w4 ⟨rfl, hw4⟩
  rw [hw4]
  clear hw4 HW hl hu b2 b3
  go_wp2_with fail
  go_ret
  have h2 := (unhide H2).1
  have hg := (unhide HR).2
  refine ⟨⟨b, by rw [unhide HZ]; rfl, unhide HS2⟩, ⟨(h2.kb.alloc _).kept hg (fun e => h2.ks (Option.some.inj e)), (h2.sb.alloc _).kept hg (fun e => h2.ss (Option.some.inj e)), seen_put (unhide HD2) (unhide HD).2 (unhide HK).2 (unhide HR).1, h2.ks, h2.ss⟩, ?_⟩
  exact (keptX_of (alloc_bel (unhide H2).2 (unhide H2).2.size _) _).trans (keptX_map hg)
set_option maxRecDepth 100000 in
set_option maxHeartbeats 2000000 in
theorem again_Script (x1 : ByteArray) (pp : Option Addr) (nn dd : Nat) (k : Lit) (hk : keyOf Tryz.prog 9 (.string x1) = some k) (hkl : WideAt.IsKeyLit k) (KB SB M n : Nat) (hn : n ≤ 1000000) (S : Lit → Prop) (w : World) (h : AgAt w KB SB M 88 n 130 172 9 S) :
    Calls Tryz.prog 144 #[.agg #[.string x1, .slice pp nn dd], .pointer (some ⟨KB, 0, none⟩), .pointer (some ⟨SB, 0, none⟩)] w fun e w' => (∃ b : Bool, e = .returned (.int .i64 (if b = true then 14 else 0)) ∧ (b = true ↔ S k)) ∧ AgAt w' KB SB M 88 (n + 1) 130 172 9 (fun kl => kl = k ∨ S kl) ∧ KeptX (fun b => b = M) w w' := by
  have hB0 : Below w.heap.size w (w.alloc (.cells #[.string x1, .slice pp nn dd] 70)) := (Below.refl _ w).alloc (Nat.le_refl _) _
  have H0 := hide (And.intro (h.below hB0) hB0)
  have b1 := (unhide H0).1.kb.cell 0
  have HK := hide (And.intro hk hkl)
  clear hB0 h hk hkl
  go_enter Tryz.func144, Tryz.ntmps144
  go_wp2_with fail
  generalize w.alloc (.cells #[.string x1, .slice pp nn dd] 70) = w1 at *
  refine (key_twice_4 x1 pp nn dd w1).mono ?_
  rintro e w2 ⟨rfl, hb⟩
  have H2 := hide (And.intro ((unhide H0).1.below hb) ((unhide H0).2.trans (hb.mono (unhide H0).2.size)))
  have b2 := (unhide H2).1.sb.cell 0
  clear hb H0 b1
  obtain ⟨D, hD, hS⟩ := (unhide H2).1.se
  have HD := hide (And.intro hD hS)
  clear hD hS
  obtain ⟨v, ps, hl, hv⟩ := (unhide HD).1.look_ok (string_keyed Tryz.underlying9) Tryz.underlying172 (z := .agg #[]) (by kernel_rfl) unitElem_mk (unhide HK).1
  obtain ⟨rfl, _⟩ := unitElem_inv hv
  have HS2 := hide ((unhide HD).2 k (unhide HK).2)
  clear hv
  generalize Maps.has D k = b at *
  have HD2 := hide ((unhide HD).1.alloc (.cells #[] 169))
  obtain ⟨w3, hu, r1, r2⟩ := (unhide HD2).update (string_keyed Tryz.underlying9) Tryz.underlying172 (by unfold maxLen; omega) (unhide HK).1 unitElem_mk
  have b3 : (w2.alloc (.cells #[] 169)).cell? ⟨SB, 0, none⟩ = some (.map (some M)) := ((unhide H2).1.sb.alloc _).cell 0
  have HR := hide (And.intro r1 r2)
  clear r1 r2
  obtain ⟨z, hz⟩ : ∃ z : Int, (if b = true then 14 else 0) = z := ⟨_, rfl⟩
  have HZ := hide hz
  clear hz
  have HW := hide (when_any b 14 w3)
  rw [unhide HZ] at HW
  go_wp2_with fail
  refine (unhide HW).mono ?_
  rintro e w4 ⟨rfl, hw4⟩
  rw [hw4]
  clear hw4 HW hl hu b2 b3
  go_wp2_with fail
  go_ret
  have h2 := (unhide H2).1
  have hg := (unhide HR).2
  refine ⟨⟨b, by rw [unhide HZ]; rfl, unhide HS2⟩, ⟨(h2.kb.alloc _).kept hg (fun e => h2.ks (Option.some.inj e)), (h2.sb.alloc _).kept hg (fun e => h2.ss (Option.some.inj e)), seen_put (unhide HD2) (unhide HD).2 (unhide HK).2 (unhide HR).1, h2.ks, h2.ss⟩, ?_⟩
  exact (keptX_of (alloc_bel (unhide H2).2 (unhide H2).2.size _) _).trans (keptX_map hg)
theorem arrK : WideMaps.ArrKey Tryz.prog 85 21 2 := ⟨Tryz.underlying85, by kernel_rfl, by kernel_rfl, by kernel_rfl⟩
theorem arr_keyed : Keyed Tryz.prog 85 := Keyed.of_law (WideMaps.ArrKey.law arrK)
set_option maxRecDepth 100000 in
set_option maxHeartbeats 2000000 in
theorem again_PairP (x1 x2 x3 : Int) (k : Lit) (hk : keyOf Tryz.prog 85 (.agg #[.int .i32 x2, .int .i32 x3]) = some k) (hkl : WideAt.IsKeyLit k) (KB SB M n : Nat) (hn : n ≤ 1000000) (S : Lit → Prop) (w : World) (h : AgAt w KB SB M 85 n 127 171 85 S) :
    Calls Tryz.prog 143 #[.agg #[.int .i32 x1, .int .i32 x2, .int .i32 x3], .pointer (some ⟨KB, 0, none⟩), .pointer (some ⟨SB, 0, none⟩)] w fun e w' => (∃ b : Bool, e = .returned (.int .i64 (if b = true then 14 else 0)) ∧ (b = true ↔ S k)) ∧ AgAt w' KB SB M 85 (n + 1) 127 171 85 (fun kl => kl = k ∨ S kl) ∧ KeptX (fun b => b = M) w w' := by
  have hB0 : Below w.heap.size w (w.alloc (.cells #[.int .i32 x1, .int .i32 x2, .int .i32 x3] 56)) := (Below.refl _ w).alloc (Nat.le_refl _) _
  have H0 := hide (And.intro (h.below hB0) hB0)
  have b1 := (unhide H0).1.kb.cell 0
  have HK := hide (And.intro hk hkl)
  clear hB0 h hk hkl
  go_enter Tryz.func143, Tryz.ntmps143
  go_wp2_with fail
  generalize w.alloc (.cells #[.int .i32 x1, .int .i32 x2, .int .i32 x3] 56) = w1 at *
  refine (key_twice_2 x1 x2 x3 w1).mono ?_
  rintro e w2 ⟨rfl, hb⟩
  have H2 := hide (And.intro ((unhide H0).1.below hb) ((unhide H0).2.trans (hb.mono (unhide H0).2.size)))
  clear hb H0 b1
  have H2 := hide (And.intro ((unhide H2).1.below ((Below.refl _ w2).alloc (Nat.le_refl _) (.cells #[.int .i32 x2, .int .i32 x3] 85))) ((unhide H2).2.alloc (unhide H2).2.size (.cells #[.int .i32 x2, .int .i32 x3] 85)))
  have b2 := (unhide H2).1.sb.cell 0
  obtain ⟨D, hD, hS⟩ := (unhide H2).1.se
  have HD := hide (And.intro hD hS)
  clear hD hS
  obtain ⟨v, ps, hl, hv⟩ := (unhide HD).1.look_ok arr_keyed Tryz.underlying171 (z := .agg #[]) (by kernel_rfl) unitElem_mk (unhide HK).1
  obtain ⟨rfl, _⟩ := unitElem_inv hv
  have HS2 := hide ((unhide HD).2 k (unhide HK).2)
  clear hv
  generalize Maps.has D k = b at *
  have HD2 := hide ((unhide HD).1.alloc (.cells #[] 169))
  obtain ⟨w3, hu, r1, r2⟩ := (unhide HD2).update arr_keyed Tryz.underlying171 (by unfold maxLen; omega) (unhide HK).1 unitElem_mk
  have b3 : ((w2.alloc (.cells #[.int .i32 x2, .int .i32 x3] 85)).alloc (.cells #[] 169)).cell? ⟨SB, 0, none⟩ = some (.map (some M)) := ((unhide H2).1.sb.alloc _).cell 0
  have HR := hide (And.intro r1 r2)
  clear r1 r2
  obtain ⟨z, hz⟩ : ∃ z : Int, (if b = true then 14 else 0) = z := ⟨_, rfl⟩
  have HZ := hide hz
  clear hz
  have HW := hide (when_any b 14 w3)
  rw [unhide HZ] at HW
  go_wp2_with fail
  refine (unhide HW).mono ?_
  rintro e w4 ⟨rfl, hw4⟩
  rw [hw4]
  clear hw4 HW hl hu b2 b3
  go_wp2_with fail
  go_ret
  have h2 := (unhide H2).1
  have hg := (unhide HR).2
  refine ⟨⟨b, by rw [unhide HZ]; rfl, unhide HS2⟩, ⟨(h2.kb.alloc _).kept hg (fun e => h2.ks (Option.some.inj e)), (h2.sb.alloc _).kept hg (fun e => h2.ss (Option.some.inj e)), seen_put (unhide HD2) (unhide HD).2 (unhide HK).2 (unhide HR).1, h2.ks, h2.ss⟩, ?_⟩
  exact (keptX_of (alloc_bel (unhide H2).2 (unhide H2).2.size _) _).trans (keptX_map hg)
end Go.Proofs.YtnnbaodillnkkaaGreat
namespace Go.Proofs.YtnnbaodillnkkaaGreat
open Go.RowKit Go.Shelf
set_option linter.unusedVariables false
end Go.Proofs.YtnnbaodillnkkaaGreat
namespace Go.Proofs.YtnnbaodillnkkaaGreat
open Go.RowKit Go.Shelf Go.ChangeShapes Go.WideShapes Go.Deep
set_option linter.unusedVariables false
def R32 (x : Int) : Prop := -2147483648 ≤ x ∧ x ≤ 2147483647
structure TabI (T : TV) : Prop where
  s : ∀ x ∈ T.sc, ∀ y ∈ x.2, R32 y.1 ∧ R32 y.2
  co : ∀ y ∈ T.co, R32 y.1 ∧ R32 y.2
  dr : ∀ y ∈ T.dr, R32 y.1 ∧ R32 y.2
  al : ∀ y ∈ T.al, R32 y.1 ∧ R32 y.2
  ma : ∀ y ∈ T.ma, R32 y.1
  pr : ∀ y ∈ T.pr, R32 y.1 ∧ R32 y.2.1 ∧ R32 y.2.2
  fo : ∀ y ∈ T.fo, R32 y.1
  lk : ∀ y ∈ T.lk, R32 y.1
end Go.Proofs.YtnnbaodillnkkaaGreat
namespace Go.Proofs.YtnnbaodillnkkaaGreat
open Go.RowKit Go.Shelf Go.Maps
set_option linter.unusedVariables false
structure AgNew (w0 w : World) (G kf : Nat) (ft mt kt : TypeId) (v : Value) (KB SB M : Nat) : Prop where
  v : v = .func (.func G) #[] #[.pointer (some ⟨KB, 0, none⟩), .pointer (some ⟨SB, 0, none⟩)]
  ag : AgAt w KB SB M kf 0 ft mt kt (fun _ => False)
  kb : w0.heap.size ≤ KB
  sb : w0.heap.size ≤ SB
  mb : w0.heap.size ≤ M
set_option maxRecDepth 100000 in
theorem mk_Mark (w : World) : Calls Tryz.prog 89 #[.func (.func 90) #[] #[]] w fun e w' => (∃ v KB SB M, e = .returned v ∧ AgNew w w' 145 90 132 168 21 v KB SB M) ∧ Below w.heap.size w w' := by
  have hmf : ∀ (fn : Fn) (first cap : Array Value) (w : World), (Instr.makeFunc fn first cap).run Tryz.prog w = .ok (.func fn first cap) w := fun _ _ _ _ => rfl
  have hmm := @run_makeMap Tryz.prog
  have h1 := Blk.new w #[.func (.func 90) #[] #[]] 132
  have h2 := seen_made (w.alloc (.cells #[.func (.func 90) #[] #[]] 132)) 21
  rw [World.size_alloc] at h2
  have h3 := Blk.new ((w.alloc (.cells #[.func (.func 90) #[] #[]] 132)).alloc (.map #[] 0)) #[.map (some (w.heap.size + 1))] 168
  rw [World.size_alloc, World.size_alloc] at h3
  have H : Hz (AgAt (((w.alloc (.cells #[.func (.func 90) #[] #[]] 132)).alloc (.map #[] 0)).alloc (.cells #[.map (some (w.heap.size + 1))] 168)) w.heap.size (w.heap.size + 1 + 1) (w.heap.size + 1) 90 0 132 168 21 (fun _ => False)) := hide ⟨(h1.alloc _).alloc _, h3, h2.below ((Below.refl _ _).alloc (Nat.le_refl _) _), by omega, by omega⟩
  have HB : Hz (Below w.heap.size w (((w.alloc (.cells #[.func (.func 90) #[] #[]] 132)).alloc (.map #[] 0)).alloc (.cells #[.map (some (w.heap.size + 1))] 168))) := hide ((((Below.refl _ w).alloc (Nat.le_refl _) _).alloc (by simp) _).alloc (by simp; omega) _)
  clear h1 h2 h3
  go_enter Tryz.func89, Tryz.ntmps89
  go_wp2
  go_ret
  exact ⟨⟨_, w.heap.size, w.heap.size + 1 + 1, w.heap.size + 1, rfl, rfl, unhide H, by omega, by omega, by omega⟩, unhide HB⟩
set_option maxRecDepth 100000 in
theorem mk_PairW (w : World) : Calls Tryz.prog 82 #[.func (.func 83) #[] #[]] w fun e w' => (∃ v KB SB M, e = .returned v ∧ AgNew w w' 142 83 125 168 21 v KB SB M) ∧ Below w.heap.size w w' := by
  have hmf : ∀ (fn : Fn) (first cap : Array Value) (w : World), (Instr.makeFunc fn first cap).run Tryz.prog w = .ok (.func fn first cap) w := fun _ _ _ _ => rfl
  have hmm := @run_makeMap Tryz.prog
  have h1 := Blk.new w #[.func (.func 83) #[] #[]] 125
  have h2 := seen_made (w.alloc (.cells #[.func (.func 83) #[] #[]] 125)) 21
  rw [World.size_alloc] at h2
  have h3 := Blk.new ((w.alloc (.cells #[.func (.func 83) #[] #[]] 125)).alloc (.map #[] 0)) #[.map (some (w.heap.size + 1))] 168
  rw [World.size_alloc, World.size_alloc] at h3
  have H : Hz (AgAt (((w.alloc (.cells #[.func (.func 83) #[] #[]] 125)).alloc (.map #[] 0)).alloc (.cells #[.map (some (w.heap.size + 1))] 168)) w.heap.size (w.heap.size + 1 + 1) (w.heap.size + 1) 83 0 125 168 21 (fun _ => False)) := hide ⟨(h1.alloc _).alloc _, h3, h2.below ((Below.refl _ _).alloc (Nat.le_refl _) _), by omega, by omega⟩
  have HB : Hz (Below w.heap.size w (((w.alloc (.cells #[.func (.func 83) #[] #[]] 125)).alloc (.map #[] 0)).alloc (.cells #[.map (some (w.heap.size + 1))] 168))) := hide ((((Below.refl _ w).alloc (Nat.le_refl _) _).alloc (by simp) _).alloc (by simp; omega) _)
  clear h1 h2 h3
  go_enter Tryz.func82, Tryz.ntmps82
  go_wp2
  go_ret
  exact ⟨⟨_, w.heap.size, w.heap.size + 1 + 1, w.heap.size + 1, rfl, rfl, unhide H, by omega, by omega, by omega⟩, unhide HB⟩
set_option maxRecDepth 100000 in
theorem mk_PairP (w : World) : Calls Tryz.prog 84 #[.func (.func 85) #[] #[]] w fun e w' => (∃ v KB SB M, e = .returned v ∧ AgNew w w' 143 85 127 171 85 v KB SB M) ∧ Below w.heap.size w w' := by
  have hmf : ∀ (fn : Fn) (first cap : Array Value) (w : World), (Instr.makeFunc fn first cap).run Tryz.prog w = .ok (.func fn first cap) w := fun _ _ _ _ => rfl
  have hmm := @run_makeMap Tryz.prog
  have h1 := Blk.new w #[.func (.func 85) #[] #[]] 127
  have h2 := seen_made (w.alloc (.cells #[.func (.func 85) #[] #[]] 127)) 85
  rw [World.size_alloc] at h2
  have h3 := Blk.new ((w.alloc (.cells #[.func (.func 85) #[] #[]] 127)).alloc (.map #[] 0)) #[.map (some (w.heap.size + 1))] 171
  rw [World.size_alloc, World.size_alloc] at h3
  have H : Hz (AgAt (((w.alloc (.cells #[.func (.func 85) #[] #[]] 127)).alloc (.map #[] 0)).alloc (.cells #[.map (some (w.heap.size + 1))] 171)) w.heap.size (w.heap.size + 1 + 1) (w.heap.size + 1) 85 0 127 171 85 (fun _ => False)) := hide ⟨(h1.alloc _).alloc _, h3, h2.below ((Below.refl _ _).alloc (Nat.le_refl _) _), by omega, by omega⟩
  have HB : Hz (Below w.heap.size w (((w.alloc (.cells #[.func (.func 85) #[] #[]] 127)).alloc (.map #[] 0)).alloc (.cells #[.map (some (w.heap.size + 1))] 171))) := hide ((((Below.refl _ w).alloc (Nat.le_refl _) _).alloc (by simp) _).alloc (by simp; omega) _)
  clear h1 h2 h3
  go_enter Tryz.func84, Tryz.ntmps84
  go_wp2
  go_ret
  exact ⟨⟨_, w.heap.size, w.heap.size + 1 + 1, w.heap.size + 1, rfl, rfl, unhide H, by omega, by omega, by omega⟩, unhide HB⟩
set_option maxRecDepth 100000 in
theorem mk_Map (w : World) : Calls Tryz.prog 93 #[.func (.func 86) #[] #[]] w fun e w' => (∃ v KB SB M, e = .returned v ∧ AgNew w w' 146 86 128 168 21 v KB SB M) ∧ Below w.heap.size w w' := by
  have hmf : ∀ (fn : Fn) (first cap : Array Value) (w : World), (Instr.makeFunc fn first cap).run Tryz.prog w = .ok (.func fn first cap) w := fun _ _ _ _ => rfl
  have hmm := @run_makeMap Tryz.prog
  have h1 := Blk.new w #[.func (.func 86) #[] #[]] 128
  have h2 := seen_made (w.alloc (.cells #[.func (.func 86) #[] #[]] 128)) 21
  rw [World.size_alloc] at h2
  have h3 := Blk.new ((w.alloc (.cells #[.func (.func 86) #[] #[]] 128)).alloc (.map #[] 0)) #[.map (some (w.heap.size + 1))] 168
  rw [World.size_alloc, World.size_alloc] at h3
  have H : Hz (AgAt (((w.alloc (.cells #[.func (.func 86) #[] #[]] 128)).alloc (.map #[] 0)).alloc (.cells #[.map (some (w.heap.size + 1))] 168)) w.heap.size (w.heap.size + 1 + 1) (w.heap.size + 1) 86 0 128 168 21 (fun _ => False)) := hide ⟨(h1.alloc _).alloc _, h3, h2.below ((Below.refl _ _).alloc (Nat.le_refl _) _), by omega, by omega⟩
  have HB : Hz (Below w.heap.size w (((w.alloc (.cells #[.func (.func 86) #[] #[]] 128)).alloc (.map #[] 0)).alloc (.cells #[.map (some (w.heap.size + 1))] 168))) := hide ((((Below.refl _ w).alloc (Nat.le_refl _) _).alloc (by simp) _).alloc (by simp; omega) _)
  clear h1 h2 h3
  go_enter Tryz.func93, Tryz.ntmps93
  go_wp2
  go_ret
  exact ⟨⟨_, w.heap.size, w.heap.size + 1 + 1, w.heap.size + 1, rfl, rfl, unhide H, by omega, by omega, by omega⟩, unhide HB⟩
set_option maxRecDepth 100000 in
theorem mk_Script (w : World) : Calls Tryz.prog 87 #[.func (.func 88) #[] #[]] w fun e w' => (∃ v KB SB M, e = .returned v ∧ AgNew w w' 144 88 130 172 9 v KB SB M) ∧ Below w.heap.size w w' := by
  have hmf : ∀ (fn : Fn) (first cap : Array Value) (w : World), (Instr.makeFunc fn first cap).run Tryz.prog w = .ok (.func fn first cap) w := fun _ _ _ _ => rfl
  have hmm := @run_makeMap Tryz.prog
  have h1 := Blk.new w #[.func (.func 88) #[] #[]] 130
  have h2 := seen_made (w.alloc (.cells #[.func (.func 88) #[] #[]] 130)) 9
  rw [World.size_alloc] at h2
  have h3 := Blk.new ((w.alloc (.cells #[.func (.func 88) #[] #[]] 130)).alloc (.map #[] 0)) #[.map (some (w.heap.size + 1))] 172
  rw [World.size_alloc, World.size_alloc] at h3
  have H : Hz (AgAt (((w.alloc (.cells #[.func (.func 88) #[] #[]] 130)).alloc (.map #[] 0)).alloc (.cells #[.map (some (w.heap.size + 1))] 172)) w.heap.size (w.heap.size + 1 + 1) (w.heap.size + 1) 88 0 130 172 9 (fun _ => False)) := hide ⟨(h1.alloc _).alloc _, h3, h2.below ((Below.refl _ _).alloc (Nat.le_refl _) _), by omega, by omega⟩
  have HB : Hz (Below w.heap.size w (((w.alloc (.cells #[.func (.func 88) #[] #[]] 130)).alloc (.map #[] 0)).alloc (.cells #[.map (some (w.heap.size + 1))] 172))) := hide ((((Below.refl _ w).alloc (Nat.le_refl _) _).alloc (by simp) _).alloc (by simp; omega) _)
  clear h1 h2 h3
  go_enter Tryz.func87, Tryz.ntmps87
  go_wp2
  go_ret
  exact ⟨⟨_, w.heap.size, w.heap.size + 1 + 1, w.heap.size + 1, rfl, rfl, unhide H, by omega, by omega, by omega⟩, unhide HB⟩
theorem wf32 {r : Int} (h : R32 r) : (Lit.int .i32 r).wf = true := by
  obtain ⟨h1, h2⟩ := h
  simp [Lit.wf, IntKind.min, IntKind.max, IntKind.signed, IntKind.bits]
  omega
def SeenL {α : Type} (lit : α → Lit) (zs : List α) (i : Nat) : Lit → Prop := fun kl => ∃ y ∈ zs.take i, lit y = kl
theorem seenL_zero {α : Type} (lit : α → Lit) (zs : List α) : SeenL lit zs 0 = fun _ => False := by
  funext kl
  simp [SeenL]
theorem seenL_succ {α : Type} (lit : α → Lit) (zs : List α) (i : Nat) (x : α) (hx : zs[i]? = some x) : SeenL lit zs (i + 1) = fun kl => kl = lit x ∨ SeenL lit zs i kl := by
  funext kl
  simp only [SeenL, eq_iff_iff]
  rw [List.take_add_one, hx]
  constructor
  · rintro ⟨y, hy, rfl⟩
    rcases List.mem_append.1 hy with h | h
    · exact .inr ⟨y, h, rfl⟩
    · obtain rfl : y = x := by simpa using h
      exact .inl rfl
  · rintro (rfl | ⟨y, hy, rfl⟩)
    · exact ⟨x, List.mem_append.2 (.inr (by simp)), rfl⟩
    · exact ⟨y, List.mem_append.2 (.inl hy), rfl⟩
theorem seen_tw {α β : Type} [BEq β] [LawfulBEq β] {lit : α → Lit} {key : α → β} {zs : List α} {d : α} {i : Nat} {x : α} {b : Bool} (hx : zs[i]? = some x) (hinj : ∀ y ∈ zs, lit y = lit x ↔ key y = key x) (h : b = true ↔ SeenL lit zs i (lit x)) : (if b = true then (14 : Int) else 0) = twF zs d key i := by
  unfold twF
  rw [getD_of d hx]
  have e : b = (zs.take i).any (fun y => key y == key x) := by
    rw [Bool.eq_iff_iff, h, List.any_eq_true]
    constructor
    · rintro ⟨y, hy, hl⟩
      exact ⟨y, hy, by rw [(hinj y (List.mem_of_mem_take hy)).1 hl]; simp⟩
    · rintro ⟨y, hy, hk⟩
      exact ⟨y, hy, (hinj y (List.mem_of_mem_take hy)).2 (by simpa using hk)⟩
  rw [e]
theorem ent_ag_Mark : ∀ args w, (callFunc 145 args).run Tryz.prog w = .ok (.enter 145 args) w := enters_of Tryz.func145 (by kernel_rfl) rfl
theorem ent_ag_Map : ∀ args w, (callFunc 146 args).run Tryz.prog w = .ok (.enter 146 args) w := enters_of Tryz.func146 (by kernel_rfl) rfl
theorem ent_ag_Script : ∀ args w, (callFunc 144 args).run Tryz.prog w = .ok (.enter 144 args) w := enters_of Tryz.func144 (by kernel_rfl) rfl
theorem tw_Mark (zs : List (Int × Int)) (hn : zs.length ≤ 1000000) (hd : ∀ x ∈ zs, R32 x.1) (a : Option Addr) (c lo : Nat) (W0 W : World) (v : Value) (KB SB M : Nat) (hlo : W0.heap.size ≤ lo) (hlw : lo ≤ W.heap.size) (hr : RowC W W0.heap.size a (encM2 zs)) (ha : AgNew W0 W 145 90 132 168 21 v KB SB M) :
    Calls Tryz.prog 76 #[.int .i64 3, .slice a zs.length c, v] W fun e w' => e = .returned (wrV (rowsW 3 zs.length (twF zs ma0 (fun x : Int × Int => x.1)))) ∧ KeptX (fun b => b = M) W w' := by
  obtain ⟨rfl, hag, hkb, hsb, hmb⟩ := ha
  refine firstRow_Mark 3 zs hn a c 145 _ ent_ag_Mark (twF zs ma0 (fun x : Int × Int => x.1)) (fun b => b = M) (fun i w => AgAt w KB SB M 90 i 132 168 21 (SeenL (fun x : Int × Int => Lit.int .i32 x.1) zs i)) W0.heap.size W (by omega) (fun b hb => by subst hb; exact ⟨hmb, hag.se.lt⟩) hr (by rw [seenL_zero]; exact hag) (fun i w w' h hb => h.below hb) (fun i x w hx hk hJ => ?_)
  have hi : i < zs.length := (List.getElem?_eq_some_iff.1 hx).1
  have hmem := List.mem_of_getElem? hx
  refine (again_Mark x.1 x.2 ((fun x : Int × Int => Lit.int .i32 x.1) x) (keyOf_int_mk Tryz.underlying21 (wf32 (hd x hmem))) trivial KB SB M i (by omega) _ w hJ).mono ?_
  rintro e w' ⟨⟨b, rfl, hb⟩, h1, h2⟩
  refine ⟨by rw [seen_tw (lit := (fun x : Int × Int => Lit.int .i32 x.1)) (key := (fun x : Int × Int => x.1)) (d := ma0) hx (fun y hy => by simp) hb], ?_, h2⟩
  rw [seenL_succ (fun x : Int × Int => Lit.int .i32 x.1) zs i x hx]
  exact h1
theorem tw_Map (list : Int) (zs : List (Int × ByteArray)) (hn : zs.length ≤ 1000000) (hd : ∀ x ∈ zs, R32 x.1) (a : Option Addr) (c lo : Nat) (W0 W : World) (v : Value) (KB SB M : Nat) (hlo : W0.heap.size ≤ lo) (hlw : lo ≤ W.heap.size) (hr : RowC W W0.heap.size a (encF2 zs)) (ha : AgNew W0 W 146 86 128 168 21 v KB SB M) :
    Calls Tryz.prog 80 #[.int .i64 list, .slice a zs.length c, v] W fun e w' => e = .returned (wrV (rowsW list zs.length (twF zs mp0 (fun x : Int × ByteArray => x.1)))) ∧ KeptX (fun b => b = M) W w' := by
  obtain ⟨rfl, hag, hkb, hsb, hmb⟩ := ha
  refine firstRow_Map list zs hn a c 146 _ ent_ag_Map (twF zs mp0 (fun x : Int × ByteArray => x.1)) (fun b => b = M) (fun i w => AgAt w KB SB M 86 i 128 168 21 (SeenL (fun x : Int × ByteArray => Lit.int .i32 x.1) zs i)) W0.heap.size W (by omega) (fun b hb => by subst hb; exact ⟨hmb, hag.se.lt⟩) hr (by rw [seenL_zero]; exact hag) (fun i w w' h hb => h.below hb) (fun i x w hx hk hJ => ?_)
  have hi : i < zs.length := (List.getElem?_eq_some_iff.1 hx).1
  have hmem := List.mem_of_getElem? hx
  refine (again_Map x.1 x.2 ((fun x : Int × ByteArray => Lit.int .i32 x.1) x) (keyOf_int_mk Tryz.underlying21 (wf32 (hd x hmem))) trivial KB SB M i (by omega) _ w hJ).mono ?_
  rintro e w' ⟨⟨b, rfl, hb⟩, h1, h2⟩
  refine ⟨by rw [seen_tw (lit := (fun x : Int × ByteArray => Lit.int .i32 x.1)) (key := (fun x : Int × ByteArray => x.1)) (d := mp0) hx (fun y hy => by simp) hb], ?_, h2⟩
  rw [seenL_succ (fun x : Int × ByteArray => Lit.int .i32 x.1) zs i x hx]
  exact h1
theorem tw_Script (zs : List (ByteArray × List (Int × Int))) (us : List Value) (hus : us.length = zs.length) (hn : zs.length ≤ 1000000) (hd : ∀ x ∈ zs, x.1.size ≤ maxLen) (a : Option Addr) (c lo : Nat) (W0 W : World) (v : Value) (KB SB M : Nat) (hlo : W0.heap.size ≤ lo) (hlw : lo ≤ W.heap.size) (hr : RowC W W0.heap.size a (encSc zs us)) (ha : AgNew W0 W 144 88 130 172 9 v KB SB M) (hs : ScR W zs us) :
    Calls Tryz.prog 71 #[.int .i64 1, .slice a zs.length c, v] W fun e w' => e = .returned (wrV (rowsW 1 zs.length (twF zs sc0 (fun x : ByteArray × List (Int × Int) => x.1.data.toList)))) ∧ KeptX (fun b => b = M) W w' := by
  obtain ⟨rfl, hag, hkb, hsb, hmb⟩ := ha
  refine firstRow_Script 1 zs us hus (hs.sl hus) hn a c 144 _ ent_ag_Script (twF zs sc0 (fun x : ByteArray × List (Int × Int) => x.1.data.toList)) (fun b => b = M) (fun i w => AgAt w KB SB M 88 i 130 172 9 (SeenL (fun x : ByteArray × List (Int × Int) => Lit.string x.1.data.toList) zs i)) W0.heap.size W (by omega) (fun b hb => by subst hb; exact ⟨hmb, hag.se.lt⟩) hr (by rw [seenL_zero]; exact hag) (fun i w w' h hb => h.below hb) (fun i x u w hx hu hk hJ => ?_)
  have hi : i < zs.length := (List.getElem?_eq_some_iff.1 hx).1
  have hmem := List.mem_of_getElem? hx
  obtain ⟨pb, pd, rfl, _⟩ := hs i x u hx hu
  refine (again_Script x.1 pb _ pd ((fun x : ByteArray × List (Int × Int) => Lit.string x.1.data.toList) x) (Go.WideMaps.keyOf_string_mk Tryz.underlying9 (hd x hmem)) trivial KB SB M i (by omega) _ w hJ).mono ?_
  rintro e w' ⟨⟨b, rfl, hb⟩, h1, h2⟩
  refine ⟨by rw [seen_tw (lit := (fun x : ByteArray × List (Int × Int) => Lit.string x.1.data.toList)) (key := (fun x : ByteArray × List (Int × Int) => x.1.data.toList)) (d := sc0) hx (fun y hy => by simp) hb], ?_, h2⟩
  rw [seenL_succ (fun x : ByteArray × List (Int × Int) => Lit.string x.1.data.toList) zs i x hx]
  exact h1
end Go.Proofs.YtnnbaodillnkkaaGreat
