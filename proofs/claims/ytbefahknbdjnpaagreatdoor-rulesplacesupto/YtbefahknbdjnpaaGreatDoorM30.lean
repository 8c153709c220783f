/- Texts of this claim, one behind the other. -/
import Derived.Test.YtbefahknbdjnpaaGreatDoorM20
import Derived.Deep.QuietTactic
import Derived.Test.YtbefahknbdjnpaaGreatDoorM21
/- Same of the books at one list that lies twice in memory. -/
namespace Go.Proofs.YtbefahknbdjnpaaGreatDoor
open Go.RowKit Go.Shelf
set_option linter.unusedVariables false
set_option maxRecDepth 100000 in
set_option maxHeartbeats 2000000 in
theorem sameSpan_row (a b : Option Addr) (ca cb : Nat) (zs : List (Int × Int)) (hz : zs.length ≤ 1000000) (hi : Nat) (w : World) (ha : RowC w hi a (encS2 zs)) (hb : RowC w hi b (encS2 zs)) :
    Calls Tryz.prog 47 #[.slice a zs.length ca, .slice b zs.length cb] w fun e w' => e = .returned (.bool true) ∧ Below w.heap.size w w' := by
  have HA := hide ha
  have HB := hide hb
  clear ha hb
  have hlen := encS2_length zs
  have HLEN := hide hlen
  clear hlen
  have hne : (((zs.length : Nat) : Int) != ((zs.length : Nat) : Int)) = false := by simp
  go_enter Tryz.func47, Tryz.ntmps47
  go_wp2
  go_loopw [5] (fun i wr => ∃ k : Nat, k ≤ zs.length ∧ i = .int .i64 k ∧ ∃ q, wr = w.drewN q) (fun i _ => zs.length - (intOf i).toNat)
  case atStart => exact ⟨0, by omega, rfl, 0, rfl⟩
  case round =>
    obtain ⟨k, hk, rfl, q, rfl⟩ := hrel
    by_cases hkn : k < zs.length
    · obtain ⟨x, hx⟩ : ∃ x, zs[k]? = some x := ⟨_, List.getElem?_eq_getElem hkn⟩
      obtain ⟨g, o, rfl, _, hc⟩ := unhide HA (by rw [unhide HLEN]; omega)
      obtain ⟨h, p, rfl, _, hd⟩ := unhide HB (by rw [unhide HLEN]; omega)
      have hxs := encS2_at zs k x hx
      obtain ⟨x0, x1⟩ := x
      have hk1 : (k : Int) < (zs.length : Int) := by omega
      have hk2 : ((k : Nat) : Int).toNat = k := by omega
      dsimp only at hxs
      have c0 : w.cell? ⟨g, o + k * 2, none⟩ = some (.int .i32 x0) := hc _ _ (hxs.1)
      have c1 : w.cell? ⟨g, o + k * 2 + 1, none⟩ = some (.int .i32 x1) := by have := hc _ _ (hxs.2); rw [← Nat.add_assoc] at this; exact this
      have d0 : w.cell? ⟨h, p + k * 2, none⟩ = some (.int .i32 x0) := hd _ _ (hxs.1)
      have d1 : w.cell? ⟨h, p + k * 2 + 1, none⟩ = some (.int .i32 x1) := by have := hd _ _ (hxs.2); rw [← Nat.add_assoc] at this; exact this
      have e0 : (x0 == x0) = true := by simp
      have e1 : (x1 == x1) = true := by simp
      clear hc hd hx hxs
      go_wp2
      go_quiet (fail)
      go_wp2
      go_roundw
      case rel => exact ⟨k + 1, by omega, by go_num, _, rfl⟩
      case measure => simp [intOf]; omega
    · have hk1 : ¬ (k : Int) < (zs.length : Int) := by omega
      go_wp2
      go_ret
      exact ⟨rfl, below_drewNW (Below.refl _ _) _⟩
set_option maxRecDepth 100000 in
set_option maxHeartbeats 2000000 in
theorem sameMark_row (a b : Option Addr) (ca cb : Nat) (zs : List (Int × Int)) (hz : zs.length ≤ 1000000) (hi : Nat) (w : World) (ha : RowC w hi a (encM2 zs)) (hb : RowC w hi b (encM2 zs)) :
    Calls Tryz.prog 48 #[.slice a zs.length ca, .slice b zs.length cb] w fun e w' => e = .returned (.bool true) ∧ Below w.heap.size w w' := by
  have HA := hide ha
  have HB := hide hb
  clear ha hb
  have hlen := encM2_length zs
  have HLEN := hide hlen
  clear hlen
  have hne : (((zs.length : Nat) : Int) != ((zs.length : Nat) : Int)) = false := by simp
  go_enter Tryz.func48, Tryz.ntmps48
  go_wp2
  go_loopw [5] (fun i wr => ∃ k : Nat, k ≤ zs.length ∧ i = .int .i64 k ∧ ∃ q, wr = w.drewN q) (fun i _ => zs.length - (intOf i).toNat)
  case atStart => exact ⟨0, by omega, rfl, 0, rfl⟩
  case round =>
    obtain ⟨k, hk, rfl, q, rfl⟩ := hrel
    by_cases hkn : k < zs.length
    · obtain ⟨x, hx⟩ : ∃ x, zs[k]? = some x := ⟨_, List.getElem?_eq_getElem hkn⟩
      obtain ⟨g, o, rfl, _, hc⟩ := unhide HA (by rw [unhide HLEN]; omega)
      obtain ⟨h, p, rfl, _, hd⟩ := unhide HB (by rw [unhide HLEN]; omega)
      have hxs := encM2_at zs k x hx
      obtain ⟨x0, x1⟩ := x
      have hk1 : (k : Int) < (zs.length : Int) := by omega
      have hk2 : ((k : Nat) : Int).toNat = k := by omega
      dsimp only at hxs
      have c0 : w.cell? ⟨g, o + k * 2, none⟩ = some (.int .i32 x0) := hc _ _ (hxs.1)
      have c1 : w.cell? ⟨g, o + k * 2 + 1, none⟩ = some (.int .i64 x1) := by have := hc _ _ (hxs.2); rw [← Nat.add_assoc] at this; exact this
      have d0 : w.cell? ⟨h, p + k * 2, none⟩ = some (.int .i32 x0) := hd _ _ (hxs.1)
      have d1 : w.cell? ⟨h, p + k * 2 + 1, none⟩ = some (.int .i64 x1) := by have := hd _ _ (hxs.2); rw [← Nat.add_assoc] at this; exact this
      have e0 : (x0 == x0) = true := by simp
      have e1 : (x1 == x1) = true := by simp
      clear hc hd hx hxs
      go_wp2
      go_quiet (fail)
      go_wp2
      go_roundw
      case rel => exact ⟨k + 1, by omega, by go_num, _, rfl⟩
      case measure => simp [intOf]; omega
    · have hk1 : ¬ (k : Int) < (zs.length : Int) := by omega
      go_wp2
      go_ret
      exact ⟨rfl, below_drewNW (Below.refl _ _) _⟩
set_option maxRecDepth 100000 in
set_option maxHeartbeats 2000000 in
theorem samePair_row (a b : Option Addr) (ca cb : Nat) (zs : List (Int × Int × Int)) (hz : zs.length ≤ 1000000) (hi : Nat) (w : World) (ha : RowC w hi a (encP3 zs)) (hb : RowC w hi b (encP3 zs)) :
    Calls Tryz.prog 49 #[.slice a zs.length ca, .slice b zs.length cb] w fun e w' => e = .returned (.bool true) ∧ Below w.heap.size w w' := by
  have HA := hide ha
  have HB := hide hb
  clear ha hb
  have hlen := encP3_length zs
  have HLEN := hide hlen
  clear hlen
  have hne : (((zs.length : Nat) : Int) != ((zs.length : Nat) : Int)) = false := by simp
  go_enter Tryz.func49, Tryz.ntmps49
  go_wp2
  go_loopw [5] (fun i wr => ∃ k : Nat, k ≤ zs.length ∧ i = .int .i64 k ∧ ∃ q, wr = w.drewN q) (fun i _ => zs.length - (intOf i).toNat)
  case atStart => exact ⟨0, by omega, rfl, 0, rfl⟩
  case round =>
    obtain ⟨k, hk, rfl, q, rfl⟩ := hrel
    by_cases hkn : k < zs.length
    · obtain ⟨x, hx⟩ : ∃ x, zs[k]? = some x := ⟨_, List.getElem?_eq_getElem hkn⟩
      obtain ⟨g, o, rfl, _, hc⟩ := unhide HA (by rw [unhide HLEN]; omega)
      obtain ⟨h, p, rfl, _, hd⟩ := unhide HB (by rw [unhide HLEN]; omega)
      have hxs := encP3_at zs k x hx
      obtain ⟨x0, x1, x2⟩ := x
      have hk1 : (k : Int) < (zs.length : Int) := by omega
      have hk2 : ((k : Nat) : Int).toNat = k := by omega
      dsimp only at hxs
      have c0 : w.cell? ⟨g, o + k * 3, none⟩ = some (.int .i32 x0) := hc _ _ (hxs.1)
      have c1 : w.cell? ⟨g, o + k * 3 + 1, none⟩ = some (.int .i32 x1) := by have := hc _ _ (hxs.2.1); rw [← Nat.add_assoc] at this; exact this
      have c2 : w.cell? ⟨g, o + k * 3 + 2, none⟩ = some (.int .i32 x2) := by have := hc _ _ (hxs.2.2); rw [← Nat.add_assoc] at this; exact this
      have d0 : w.cell? ⟨h, p + k * 3, none⟩ = some (.int .i32 x0) := hd _ _ (hxs.1)
      have d1 : w.cell? ⟨h, p + k * 3 + 1, none⟩ = some (.int .i32 x1) := by have := hd _ _ (hxs.2.1); rw [← Nat.add_assoc] at this; exact this
      have d2 : w.cell? ⟨h, p + k * 3 + 2, none⟩ = some (.int .i32 x2) := by have := hd _ _ (hxs.2.2); rw [← Nat.add_assoc] at this; exact this
      have e0 : (x0 == x0) = true := by simp
      have e1 : (x1 == x1) = true := by simp
      have e2 : (x2 == x2) = true := by simp
      clear hc hd hx hxs
      go_wp2
      go_quiet (fail)
      go_wp2
      go_roundw
      case rel => exact ⟨k + 1, by omega, by go_num, _, rfl⟩
      case measure => simp [intOf]; omega
    · have hk1 : ¬ (k : Int) < (zs.length : Int) := by omega
      go_wp2
      go_ret
      exact ⟨rfl, below_drewNW (Below.refl _ _) _⟩
set_option maxRecDepth 100000 in
set_option maxHeartbeats 2000000 in
theorem sameMap_row (a b : Option Addr) (ca cb : Nat) (zs : List (Int × ByteArray)) (hz : zs.length ≤ 1000000) (hi : Nat) (w : World) (ha : RowC w hi a (encF2 zs)) (hb : RowC w hi b (encF2 zs)) :
    Calls Tryz.prog 50 #[.slice a zs.length ca, .slice b zs.length cb] w fun e w' => e = .returned (.bool true) ∧ Below w.heap.size w w' := by
  have HA := hide ha
  have HB := hide hb
  clear ha hb
  have hlen := encF2_length zs
  have HLEN := hide hlen
  clear hlen
  have hne : (((zs.length : Nat) : Int) != ((zs.length : Nat) : Int)) = false := by simp
  go_enter Tryz.func50, Tryz.ntmps50
  go_wp2
  go_loopw [5] (fun i wr => ∃ k : Nat, k ≤ zs.length ∧ i = .int .i64 k ∧ ∃ q, wr = w.drewN q) (fun i _ => zs.length - (intOf i).toNat)
  case atStart => exact ⟨0, by omega, rfl, 0, rfl⟩
  case round =>
    obtain ⟨k, hk, rfl, q, rfl⟩ := hrel
    by_cases hkn : k < zs.length
    · obtain ⟨x, hx⟩ : ∃ x, zs[k]? = some x := ⟨_, List.getElem?_eq_getElem hkn⟩
      obtain ⟨g, o, rfl, _, hc⟩ := unhide HA (by rw [unhide HLEN]; omega)
      obtain ⟨h, p, rfl, _, hd⟩ := unhide HB (by rw [unhide HLEN]; omega)
      have hxs := encF2_at zs k x hx
      obtain ⟨x0, x1⟩ := x
      have hk1 : (k : Int) < (zs.length : Int) := by omega
      have hk2 : ((k : Nat) : Int).toNat = k := by omega
      dsimp only at hxs
      have c0 : w.cell? ⟨g, o + k * 2, none⟩ = some (.int .i32 x0) := hc _ _ (hxs.1)
      have c1 : w.cell? ⟨g, o + k * 2 + 1, none⟩ = some (.string x1) := by have := hc _ _ (hxs.2); rw [← Nat.add_assoc] at this; exact this
      have d0 : w.cell? ⟨h, p + k * 2, none⟩ = some (.int .i32 x0) := hd _ _ (hxs.1)
      have d1 : w.cell? ⟨h, p + k * 2 + 1, none⟩ = some (.string x1) := by have := hd _ _ (hxs.2); rw [← Nat.add_assoc] at this; exact this
      have e0 : (x0 == x0) = true := by simp
      have e1 : (x1.toList == x1.toList) = true := by simp
      clear hc hd hx hxs
      go_wp2
      go_quiet (fail)
      go_wp2
      go_roundw
      case rel => exact ⟨k + 1, by omega, by go_num, _, rfl⟩
      case measure => simp [intOf]; omega
    · have hk1 : ¬ (k : Int) < (zs.length : Int) := by omega
      go_wp2
      go_ret
      exact ⟨rfl, below_drewNW (Below.refl _ _) _⟩
end Go.Proofs.YtbefahknbdjnpaaGreatDoor
/- Same of two tables: scripts. -/
namespace Go.Proofs.YtbefahknbdjnpaaGreatDoor
open Go.RowKit Go.Shelf
set_option linter.unusedVariables false
set_option maxRecDepth 100000 in
set_option maxHeartbeats 2000000 in
theorem sameScript_row (nm : ByteArray) (sp : List (Int × Int)) (hz : sp.length ≤ 1000000) (p q : Option Addr) (cp cq : Nat) (w : World) (ha : RowC w w.heap.size p (encS2 sp)) (hb : RowC w w.heap.size q (encS2 sp)) :
    Calls Tryz.prog 46 #[.agg #[.string nm, .slice p sp.length cp], .agg #[.string nm, .slice q sp.length cq]] w fun e w' => e = .returned (.bool true) ∧ Below w.heap.size w w' := by
  have hB0 : Below w.heap.size w ((w.alloc (.cells #[.string nm, .slice p sp.length cp] 78)).alloc (.cells #[.string nm, .slice q sp.length cq] 78)) := ((Below.refl _ w).alloc (Nat.le_refl _) _).alloc (by simp) _
  have bA := (Blk.new w #[.string nm, .slice p sp.length cp] 78).alloc (.cells #[.string nm, .slice q sp.length cq] 78)
  have bB := Blk.new (w.alloc (.cells #[.string nm, .slice p sp.length cp] 78)) #[.string nm, .slice q sp.length cq] 78
  rw [World.size_alloc] at bB
  have HS := hide (sameSpan_row p q cp cq sp hz _ _ (ha.below hB0 hB0.size) (hb.below hB0 hB0.size))
  have HB0 := hide hB0
  have a0 := bA.cell 0
  have a1 := bA.cell 1
  have b0 := bB.cell 0
  have b1 := bB.cell 1
  have e1 : (nm.toList == nm.toList) = true := by simp
  clear hB0 bA bB ha hb
  go_enter Tryz.func46, Tryz.ntmps46
  go_wp2_with fail
  generalize (w.alloc (.cells #[.string nm, .slice p sp.length cp] 78)).alloc (.cells #[.string nm, .slice q sp.length cq] 78) = w1 at *
  refine (unhide HS).mono ?_
  rintro e w2 ⟨rfl, hb2⟩
  have HB2 := hide ((unhide HB0).trans (hb2.mono (unhide HB0).size))
  clear hb2 HS
  go_wp2_with fail
  go_ret
  exact ⟨rfl, unhide HB2⟩
set_option maxRecDepth 100000 in
set_option maxHeartbeats 2000000 in
theorem alike_row (a b : Option Addr) (ca cb : Nat) (sc : List (ByteArray × List (Int × Int))) (us vs : List Value) (hu : us.length = sc.length) (hv : vs.length = sc.length) (hn : sc.length ≤ 1000000) (hz : ∀ x ∈ sc, x.2.length ≤ 1000000) (w : World)
    (ha : RowC w w.heap.size a (encSc sc us)) (hb : RowC w w.heap.size b (encSc sc vs))
    (hra : ∀ (j : Nat) (x : ByteArray × List (Int × Int)) (u : Value), sc[j]? = some x → us[j]? = some u → ∃ b d, u = .slice b x.2.length d ∧ RowC w w.heap.size b (encS2 x.2))
    (hrb : ∀ (j : Nat) (x : ByteArray × List (Int × Int)) (u : Value), sc[j]? = some x → vs[j]? = some u → ∃ b d, u = .slice b x.2.length d ∧ RowC w w.heap.size b (encS2 x.2)) :
    Calls Tryz.prog 45 #[.slice a sc.length ca, .slice b sc.length cb, .func (.func 46) #[] #[]] w fun e w' => e = .returned (.bool true) ∧ Below w.heap.size w w' := by
  have HA := hide (And.intro ha hra)
  have HB := hide (And.intro hb hrb)
  have HU := hide (And.intro hu (And.intro hv (And.intro hz (And.intro (encSc_length sc us hu) (encSc_length sc vs hv)))))
  clear ha hb hra hrb hu hv hz
  have hne : (((sc.length : Nat) : Int) != ((sc.length : Nat) : Int)) = false := by simp
  go_enter Tryz.func45, Tryz.ntmps45
  go_wp2
  go_loopw [7] (fun i wr => ∃ k : Nat, k ≤ sc.length ∧ i = .int .i64 k ∧ Hz (Below w.heap.size w wr)) (fun i _ => sc.length - (intOf i).toNat)
  case atStart => exact ⟨0, by omega, rfl, hide (Below.refl _ _)⟩
  case round =>
    obtain ⟨k, hk, rfl, HW⟩ := hrel
    by_cases hkn : k < sc.length
    · obtain ⟨x, hx⟩ : ∃ x, sc[k]? = some x := ⟨_, List.getElem?_eq_getElem hkn⟩
      obtain ⟨u, hu⟩ : ∃ u, us[k]? = some u := ⟨_, List.getElem?_eq_getElem (by rw [(unhide HU).1]; exact hkn)⟩
      obtain ⟨v, hv⟩ : ∃ v, vs[k]? = some v := ⟨_, List.getElem?_eq_getElem (by rw [(unhide HU).2.1]; exact hkn)⟩
      obtain ⟨g, o, rfl, hg, hc⟩ := (unhide HA).1 (by rw [(unhide HU).2.2.2.1]; omega)
      obtain ⟨h, p, rfl, hh, hd⟩ := (unhide HB).1 (by rw [(unhide HU).2.2.2.2]; omega)
      obtain ⟨q1, d1, rfl, r1⟩ := (unhide HA).2 k x u hx hu
      obtain ⟨q2, d2, rfl, r2⟩ := (unhide HB).2 k x v hx hv
      have hwr := unhide HW
      have c0 : wr.cell? ⟨g, o + k * 2, none⟩ = some (.string x.1) := (hwr.cell (p := ⟨g, o + k * 2, none⟩) hg).trans (hc _ _ (encSc_at0 sc us (unhide HU).1 k x hx))
      have c1 : wr.cell? ⟨g, o + k * 2 + 1, none⟩ = some (.slice q1 x.2.length d1) := by
        have h1 := hc (2 * k + 1) _ ((encSc_at sc us (unhide HU).1 k).trans hu)
        rw [show o + (2 * k + 1) = o + k * 2 + 1 by omega] at h1
        exact (hwr.cell (p := ⟨g, o + k * 2 + 1, none⟩) hg).trans h1
      have f0 : wr.cell? ⟨h, p + k * 2, none⟩ = some (.string x.1) := (hwr.cell (p := ⟨h, p + k * 2, none⟩) hh).trans (hd _ _ (encSc_at0 sc vs (unhide HU).2.1 k x hx))
      have f1 : wr.cell? ⟨h, p + k * 2 + 1, none⟩ = some (.slice q2 x.2.length d2) := by
        have h1 := hd (2 * k + 1) _ ((encSc_at sc vs (unhide HU).2.1 k).trans hv)
        rw [show p + (2 * k + 1) = p + k * 2 + 1 by omega] at h1
        exact (hwr.cell (p := ⟨h, p + k * 2 + 1, none⟩) hh).trans h1
      have HS := hide (fun (W' : World) (hb : Below wr.heap.size wr W') => sameScript_row x.1 x.2 ((unhide HU).2.2.1 x (List.mem_of_getElem? hx)) q1 q2 d1 d2 W' ((r1.below hwr hwr.size).below hb hb.size) ((r2.below hwr hwr.size).below hb hb.size))
      have hk1 : (k : Int) < (sc.length : Int) := by omega
      have hk2 : ((k : Nat) : Int).toNat = k := by omega
      obtain ⟨x1, x2⟩ := x
      dsimp only at c0 c1 f0 f1 HS
      clear hc hd hx hu hv r1 r2 hwr
      go_wp2_with fail
      go_region_with ((go_at_call 46; refine (unhide HS wr.drew (show Below wr.heap.size wr wr.drew from ⟨rfl, rfl, rfl, Nat.le_refl _, fun _ _ => rfl⟩)).mono ?_; rintro e w' ⟨rfl, hb⟩))
      all_goals
        have HN := hide ((unhide HW).trans ((show Below wr.heap.size wr w' from ⟨hb.os, hb.tape, hb.output, hb.size, hb.block⟩).mono (unhide HW).size))
        clear hb
        go_wp2_with fail
        go_roundw
        case rel => exact ⟨k + 1, by omega, by go_num, HN⟩
        case measure => simp [intOf]; omega
    · have hk1 : ¬ (k : Int) < (sc.length : Int) := by omega
      go_wp2
      go_ret
      exact ⟨rfl, unhide HW⟩
end Go.Proofs.YtbefahknbdjnpaaGreatDoor
/- Same of two tables: one table that lies twice in memory. -/
namespace Go.Proofs.YtbefahknbdjnpaaGreatDoor
open Go.RowKit Go.Shelf
set_option linter.unusedVariables false
def tabV (T : TV) (a0 a1 a2 a3 a4 a5 a6 a7 : Option Addr) (c0 c1 c2 c3 c4 c5 c6 c7 : Nat) : Array Value := #[.slice a0 T.sc.length c0, .slice a1 T.co.length c1, .slice a2 T.ma.length c2, .slice a3 T.pr.length c3, .slice a4 T.fo.length c4, .slice a5 T.lk.length c5, .slice a6 T.dr.length c6, .slice a7 T.al.length c7]
theorem TabIn.lower {W W' : World} {T : TV} {a0 a1 a2 a3 a4 a5 a6 a7 : Option Addr} {us : List Value} (h : TabIn W T a0 a1 a2 a3 a4 a5 a6 a7 us) (hb : Below W.heap.size W W') : TabIn W' T a0 a1 a2 a3 a4 a5 a6 a7 us :=
  ⟨h.lu, h.r0.below hb hb.size, h.r1.below hb hb.size, h.r2.below hb hb.size, h.r3.below hb hb.size, h.r4.below hb hb.size, h.r5.below hb hb.size, h.r6.below hb hb.size, h.r7.below hb hb.size, fun j x u hx hu => by
    obtain ⟨b, d, e, hr⟩ := h.rs j x u hx hu
    exact ⟨b, d, e, hr.below hb hb.size⟩⟩
set_option maxRecDepth 100000 in
set_option maxHeartbeats 4000000 in
theorem keepSame_row (T : TV) (hO : TabOk T) (a0 a1 a2 a3 a4 a5 a6 a7 b0 b1 b2 b3 b4 b5 b6 b7 : Option Addr) (c0 c1 c2 c3 c4 c5 c6 c7 d0 d1 d2 d3 d4 d5 d6 d7 : Nat) (us vs : List Value) (W : World) (hA : TabIn W T a0 a1 a2 a3 a4 a5 a6 a7 us) (hB : TabIn W T b0 b1 b2 b3 b4 b5 b6 b7 vs) :
    Calls Tryz.prog 17 #[.agg (tabV T a0 a1 a2 a3 a4 a5 a6 a7 c0 c1 c2 c3 c4 c5 c6 c7), .agg (tabV T b0 b1 b2 b3 b4 b5 b6 b7 d0 d1 d2 d3 d4 d5 d6 d7)] W fun e w' => e = .returned (.bool true) ∧ Below W.heap.size W w' := by
  have hB0 : Below W.heap.size W ((W.alloc (.cells (tabV T a0 a1 a2 a3 a4 a5 a6 a7 c0 c1 c2 c3 c4 c5 c6 c7) 33)).alloc (.cells (tabV T b0 b1 b2 b3 b4 b5 b6 b7 d0 d1 d2 d3 d4 d5 d6 d7) 33)) := ((Below.refl _ W).alloc (Nat.le_refl _) _).alloc (by simp) _
  have bA := (Blk.new W (tabV T a0 a1 a2 a3 a4 a5 a6 a7 c0 c1 c2 c3 c4 c5 c6 c7) 33).alloc (.cells (tabV T b0 b1 b2 b3 b4 b5 b6 b7 d0 d1 d2 d3 d4 d5 d6 d7) 33)
  have bB := Blk.new (W.alloc (.cells (tabV T a0 a1 a2 a3 a4 a5 a6 a7 c0 c1 c2 c3 c4 c5 c6 c7) 33)) (tabV T b0 b1 b2 b3 b4 b5 b6 b7 d0 d1 d2 d3 d4 d5 d6 d7) 33
  rw [World.size_alloc] at bB
  have HH := hide (And.intro (hA.lower hB0) (And.intro (hB.lower hB0) (And.intro hB0 (And.intro bA bB))))
  have HO := hide hO
  clear hA hB hB0 bA bB hO
  unfold tabV at HH ⊢
  have za := (unhide HH).2.2.2.1.cell 0
  have zb := (unhide HH).2.2.2.2.cell 0
  go_enter Tryz.func17, Tryz.ntmps17
  go_wp2_with fail
  generalize (W.alloc (.cells #[.slice a0 T.sc.length c0, .slice a1 T.co.length c1, .slice a2 T.ma.length c2, .slice a3 T.pr.length c3, .slice a4 T.fo.length c4, .slice a5 T.lk.length c5, .slice a6 T.dr.length c6, .slice a7 T.al.length c7] 33)).alloc (.cells #[.slice b0 T.sc.length d0, .slice b1 T.co.length d1, .slice b2 T.ma.length d2, .slice b3 T.pr.length d3, .slice b4 T.fo.length d4, .slice b5 T.lk.length d5, .slice b6 T.dr.length d6, .slice b7 T.al.length d7] 33) = w0 at *
  refine (alike_row a0 b0 c0 d0 T.sc us vs (unhide HH).1.lu (unhide HH).2.1.lu (unhide HO).n0 (fun x hx => ((unhide HO).z0 x hx).2) w0 (unhide HH).1.r0 (unhide HH).2.1.r0 (unhide HH).1.rs (unhide HH).2.1.rs).mono ?_
  rintro e w1 ⟨rfl, hb⟩
  have HH := hide (And.intro ((unhide HH).1.lower hb) (And.intro ((unhide HH).2.1.lower hb) (And.intro ((unhide HH).2.2.1.trans (hb.mono (unhide HH).2.2.1.size)) (And.intro ((unhide HH).2.2.2.1.below hb (unhide HH).2.2.2.1.lt) ((unhide HH).2.2.2.2.below hb (unhide HH).2.2.2.2.lt)))))
  clear hb za zb
  have za := (unhide HH).2.2.2.1.cell 1
  have zb := (unhide HH).2.2.2.2.cell 1
  go_wp2_with fail
  refine (sameSpan_row a1 b1 c1 d1 T.co (unhide HO).n1 _ w1 (unhide HH).1.r1 (unhide HH).2.1.r1).mono ?_
  rintro e w2 ⟨rfl, hb⟩
  have HH := hide (And.intro ((unhide HH).1.lower hb) (And.intro ((unhide HH).2.1.lower hb) (And.intro ((unhide HH).2.2.1.trans (hb.mono (unhide HH).2.2.1.size)) (And.intro ((unhide HH).2.2.2.1.below hb (unhide HH).2.2.2.1.lt) ((unhide HH).2.2.2.2.below hb (unhide HH).2.2.2.2.lt)))))
  clear hb za zb
  have za := (unhide HH).2.2.2.1.cell 2
  have zb := (unhide HH).2.2.2.2.cell 2
  go_wp2_with fail
  refine (sameMark_row a2 b2 c2 d2 T.ma (unhide HO).n2 _ w2 (unhide HH).1.r2 (unhide HH).2.1.r2).mono ?_
  rintro e w3 ⟨rfl, hb⟩
  have HH := hide (And.intro ((unhide HH).1.lower hb) (And.intro ((unhide HH).2.1.lower hb) (And.intro ((unhide HH).2.2.1.trans (hb.mono (unhide HH).2.2.1.size)) (And.intro ((unhide HH).2.2.2.1.below hb (unhide HH).2.2.2.1.lt) ((unhide HH).2.2.2.2.below hb (unhide HH).2.2.2.2.lt)))))
  clear hb za zb
  have za := (unhide HH).2.2.2.1.cell 3
  have zb := (unhide HH).2.2.2.2.cell 3
  go_wp2_with fail
  refine (samePair_row a3 b3 c3 d3 T.pr (unhide HO).n3 _ w3 (unhide HH).1.r3 (unhide HH).2.1.r3).mono ?_
  rintro e w4 ⟨rfl, hb⟩
  have HH := hide (And.intro ((unhide HH).1.lower hb) (And.intro ((unhide HH).2.1.lower hb) (And.intro ((unhide HH).2.2.1.trans (hb.mono (unhide HH).2.2.1.size)) (And.intro ((unhide HH).2.2.2.1.below hb (unhide HH).2.2.2.1.lt) ((unhide HH).2.2.2.2.below hb (unhide HH).2.2.2.2.lt)))))
  clear hb za zb
  have za := (unhide HH).2.2.2.1.cell 4
  have zb := (unhide HH).2.2.2.2.cell 4
  go_wp2_with fail
  refine (sameMap_row a4 b4 c4 d4 T.fo (unhide HO).n4 _ w4 (unhide HH).1.r4 (unhide HH).2.1.r4).mono ?_
  rintro e w5 ⟨rfl, hb⟩
  have HH := hide (And.intro ((unhide HH).1.lower hb) (And.intro ((unhide HH).2.1.lower hb) (And.intro ((unhide HH).2.2.1.trans (hb.mono (unhide HH).2.2.1.size)) (And.intro ((unhide HH).2.2.2.1.below hb (unhide HH).2.2.2.1.lt) ((unhide HH).2.2.2.2.below hb (unhide HH).2.2.2.2.lt)))))
  clear hb za zb
  have za := (unhide HH).2.2.2.1.cell 5
  have zb := (unhide HH).2.2.2.2.cell 5
  go_wp2_with fail
  refine (sameMap_row a5 b5 c5 d5 T.lk (unhide HO).n5 _ w5 (unhide HH).1.r5 (unhide HH).2.1.r5).mono ?_
  rintro e w6 ⟨rfl, hb⟩
  have HH := hide (And.intro ((unhide HH).1.lower hb) (And.intro ((unhide HH).2.1.lower hb) (And.intro ((unhide HH).2.2.1.trans (hb.mono (unhide HH).2.2.1.size)) (And.intro ((unhide HH).2.2.2.1.below hb (unhide HH).2.2.2.1.lt) ((unhide HH).2.2.2.2.below hb (unhide HH).2.2.2.2.lt)))))
  clear hb za zb
  have za := (unhide HH).2.2.2.1.cell 6
  have zb := (unhide HH).2.2.2.2.cell 6
  go_wp2_with fail
  refine (sameSpan_row a6 b6 c6 d6 T.dr (unhide HO).n6 _ w6 (unhide HH).1.r6 (unhide HH).2.1.r6).mono ?_
  rintro e w7 ⟨rfl, hb⟩
  have HH := hide (And.intro ((unhide HH).1.lower hb) (And.intro ((unhide HH).2.1.lower hb) (And.intro ((unhide HH).2.2.1.trans (hb.mono (unhide HH).2.2.1.size)) (And.intro ((unhide HH).2.2.2.1.below hb (unhide HH).2.2.2.1.lt) ((unhide HH).2.2.2.2.below hb (unhide HH).2.2.2.2.lt)))))
  clear hb za zb
  have za := (unhide HH).2.2.2.1.cell 7
  have zb := (unhide HH).2.2.2.2.cell 7
  go_wp2_with fail
  refine (sameSpan_row a7 b7 c7 d7 T.al (unhide HO).n7 _ w7 (unhide HH).1.r7 (unhide HH).2.1.r7).mono ?_
  rintro e w8 ⟨rfl, hb⟩
  have HH := hide (And.intro ((unhide HH).1.lower hb) (And.intro ((unhide HH).2.1.lower hb) (And.intro ((unhide HH).2.2.1.trans (hb.mono (unhide HH).2.2.1.size)) (And.intro ((unhide HH).2.2.2.1.below hb (unhide HH).2.2.2.1.lt) ((unhide HH).2.2.2.2.below hb (unhide HH).2.2.2.2.lt)))))
  clear hb za zb
  go_wp2_with fail
  go_ret
  exact ⟨rfl, (unhide HH).2.2.1⟩
end Go.Proofs.YtbefahknbdjnpaaGreatDoor
/- Large: is a table more than a statement looks at? -/
namespace Go.Proofs.YtbefahknbdjnpaaGreatDoor
open Go.RowKit Go.Shelf
set_option linter.unusedVariables false
def scN (l : List (ByteArray × List (Int × Int))) : Nat := (l.map (fun x => x.2.length + 1)).foldr (· + ·) 0
def lenN (T : TV) : Nat := T.co.length + T.ma.length + T.pr.length + T.fo.length + T.lk.length + T.dr.length + T.al.length
def largeB (T : TV) : Bool := decide (6000 < lenN T + scN (T.sc.take 200)) || decide (100 < T.sc.length)
theorem scN_app (a b : List (ByteArray × List (Int × Int))) : scN (a ++ b) = scN a + scN b := by
  induction a with
  | nil => show scN b = 0 + scN b; omega
  | cons x a ih => show x.2.length + 1 + scN (a ++ b) = x.2.length + 1 + scN a + scN b; rw [ih]; omega
theorem scN_le {n : Nat} : ∀ (l : List (ByteArray × List (Int × Int))), (∀ x ∈ l, x.2.length ≤ n) → scN l ≤ l.length * (n + 1)
  | [], _ => Nat.zero_le _
  | x :: l, h => by
    have h1 := h x (List.mem_cons_self ..)
    have h2 := scN_le l (fun y hy => h y (List.mem_cons_of_mem _ hy))
    show x.2.length + 1 + scN l ≤ (l.length + 1) * (n + 1)
    rw [Nat.succ_mul]
    omega
theorem scN_mem : ∀ (l : List (ByteArray × List (Int × Int))) (x : ByteArray × List (Int × Int)), x ∈ l → x.2.length ≤ scN l
  | [], x, h => by cases h
  | y :: l, x, h => by
    show x.2.length ≤ y.2.length + 1 + scN l
    rcases List.mem_cons.1 h with rfl | h
    · omega
    · have := scN_mem l x h; omega
/-- The bounds of a table that was handed in. -/
structure TabB (T : TV) : Prop where
  n0 : T.sc.length ≤ 1048576
  n1 : T.co.length ≤ 1048576
  n2 : T.ma.length ≤ 1048576
  n3 : T.pr.length ≤ 1048576
  n4 : T.fo.length ≤ 1048576
  n5 : T.lk.length ≤ 1048576
  n6 : T.dr.length ≤ 1048576
  n7 : T.al.length ≤ 1048576
  z0 : ∀ x ∈ T.sc, x.1.size ≤ 1048576 ∧ x.2.length ≤ 1048576
  z2 : ∀ x ∈ T.ma, -9223372036854775808 ≤ x.2 ∧ x.2 ≤ 9223372036854775807
  z4 : ∀ x ∈ T.fo, x.2.size ≤ 1048576
  z5 : ∀ x ∈ T.lk, x.2.size ≤ 1048576
theorem TabB.ok {T : TV} (h : TabB T) (hl : largeB T = false) : TabOk T := by
  unfold largeB at hl
  rw [Bool.or_eq_false_iff] at hl
  have h1 := of_decide_eq_false hl.1
  have h2 := of_decide_eq_false hl.2
  unfold lenN at h1
  rw [List.take_of_length_le (by omega)] at h1
  refine ⟨by omega, by omega, by omega, by omega, by omega, by omega, by omega, by omega, fun x hx => ⟨?_, ?_⟩, h.z2, fun x hx => ?_, fun x hx => ?_⟩
  · have := (h.z0 x hx).1; unfold maxLen; omega
  · have := scN_mem T.sc x hx; omega
  · have := h.z4 x hx; unfold maxLen; omega
  · have := h.z5 x hx; unfold maxLen; omega
set_option maxRecDepth 100000 in
set_option maxHeartbeats 4000000 in
theorem large_any (T : TV) (hT : TabB T) (a0 a1 a2 a3 a4 a5 a6 a7 : Option Addr) (c0 c1 c2 c3 c4 c5 c6 c7 : Nat) (us : List Value) (W : World) (hA : TabIn W T a0 a1 a2 a3 a4 a5 a6 a7 us) :
    Calls Tryz.prog 13 #[.agg (tabV T a0 a1 a2 a3 a4 a5 a6 a7 c0 c1 c2 c3 c4 c5 c6 c7)] W fun e w' => e = .returned (.bool (largeB T)) ∧ Below W.heap.size W w' := by
  have hB0 : Below W.heap.size W (W.alloc (.cells (tabV T a0 a1 a2 a3 a4 a5 a6 a7 c0 c1 c2 c3 c4 c5 c6 c7) 33)) := (Below.refl _ W).alloc (Nat.le_refl _) _
  have bA := Blk.new W (tabV T a0 a1 a2 a3 a4 a5 a6 a7 c0 c1 c2 c3 c4 c5 c6 c7) 33
  have HH := hide (And.intro (hA.lower hB0) (And.intro hB0 bA))
  have HT := hide hT
  have HV : Hz (largeB T = (decide (6000 < lenN T + scN (T.sc.take 200)) || decide (100 < T.sc.length))) := hide rfl
  have hn0 := hT.n0
  have hn1 := hT.n1
  have hn2 := hT.n2
  have hn3 := hT.n3
  have hn4 := hT.n4
  have hn5 := hT.n5
  have hn6 := hT.n6
  have hn7 := hT.n7
  generalize largeB T = LB at *
  have z0 := bA.cell 0
  have z1 := bA.cell 1
  have z2 := bA.cell 2
  have z3 := bA.cell 3
  have z4 := bA.cell 4
  have z5 := bA.cell 5
  have z6 := bA.cell 6
  have z7 := bA.cell 7
  clear hA hB0 bA hT
  unfold tabV at *
  go_enter Tryz.func13, Tryz.ntmps13
  go_wp2_with fail
  generalize W.alloc (.cells #[.slice a0 T.sc.length c0, .slice a1 T.co.length c1, .slice a2 T.ma.length c2, .slice a3 T.pr.length c3, .slice a4 T.fo.length c4, .slice a5 T.lk.length c5, .slice a6 T.dr.length c6, .slice a7 T.al.length c7] 33) = w0 at *
  have HN0 : Hz ((T.co.length : Int) + T.ma.length + T.pr.length + T.fo.length + T.lk.length + T.dr.length + T.al.length = ((lenN T + scN (T.sc.take 0) : Nat) : Int)) := hide (by unfold lenN; show _ = ((_ + 0 : Nat) : Int); omega)
  have hLN : lenN T ≤ 7340032 := by unfold lenN; omega
  generalize (T.co.length : Int) + T.ma.length + T.pr.length + T.fo.length + T.lk.length + T.dr.length + T.al.length = S0 at *
  clear hn1 hn2 hn3 hn4 hn5 hn6 hn7 z1 z2 z3 z4 z5 z6 z7
  go_loopw [3, 4] (fun n i wr => ∃ (k m q : Nat), k ≤ T.sc.length ∧ k ≤ 200 ∧ n = .int .i64 m ∧ i = .int .i64 k ∧ Hz (m = lenN T + scN (T.sc.take k)) ∧ wr = w0.drewN q) (fun _ i _ => 200 - (intOf i).toNat)
  case atStart => exact ⟨0, lenN T + scN (T.sc.take 0), 0, by omega, by omega, by rw [unhide HN0], rfl, hide rfl, rfl⟩
  case round =>
    obtain ⟨k, m, q, hk, hk200, rfl, rfl, HM, rfl⟩ := hrel
    have hmle : m ≤ 400000000 := by
      have h1 := scN_le (n := 1048576) (T.sc.take k) (fun x hx => ((unhide HT).z0 x (List.mem_of_mem_take hx)).2)
      rw [List.length_take] at h1
      have h2 := unhide HM
      have h3 : min k T.sc.length * (1048576 + 1) ≤ 200 * 1048577 := Nat.mul_le_mul (by omega) (by omega)
      omega
    by_cases hkn : k < T.sc.length
    · by_cases hk2 : k < 200
      · obtain ⟨x, hx⟩ : ∃ x, T.sc[k]? = some x := ⟨_, List.getElem?_eq_getElem hkn⟩
        obtain ⟨u, hu⟩ : ∃ u, us[k]? = some u := ⟨_, List.getElem?_eq_getElem (by rw [(unhide HH).1.lu]; exact hkn)⟩
        obtain ⟨g, o, rfl, hg, hc⟩ := (unhide HH).1.r0 (by rw [encSc_length _ _ (unhide HH).1.lu]; omega)
        obtain ⟨q1, d1, rfl, r1⟩ := (unhide HH).1.rs k x u hx hu
        have e1 : w0.cell? ⟨g, o + k * 2 + 1, none⟩ = some (.slice q1 x.2.length d1) := by
          have h1 := hc (2 * k + 1) _ ((encSc_at T.sc us (unhide HH).1.lu k).trans hu)
          rw [show o + (2 * k + 1) = o + k * 2 + 1 by omega] at h1
          exact h1
        have hx2 : x.2.length ≤ 1048576 := ((unhide HT).z0 x (List.mem_of_getElem? hx)).2
        have HM2 : Hz (m + 1 + x.2.length = lenN T + scN (T.sc.take (k + 1))) := hide (by
          rw [List.take_add_one, hx, scN_app, unhide HM]
          show _ = _ + (_ + (x.2.length + 1 + 0))
          omega)
        generalize x.2.length = xl at *
        have k1 : (k : Int) < (T.sc.length : Int) := by omega
        have k2 : (k : Int) < 200 := by omega
        have k3 : ((k : Nat) : Int).toNat = k := by omega
        clear hc hx hu r1
        go_wp2_with fail
        exact ⟨⟨k + 1, m + 1 + xl, q, by omega, by omega, by first | rfl | (congr 1; omega), by first | rfl | (congr 1; omega), HM2, rfl⟩, by simp [intOf]; omega⟩
      · have k1 : (k : Int) < (T.sc.length : Int) := by omega
        have k2 : ¬ (k : Int) < 200 := by omega
        have HMV : Hz (LB = (decide (6000 < m) || decide (100 < T.sc.length))) := hide (by rw [unhide HV, unhide HM, show k = 200 by omega])
        clear HV HM
        have HW : Hz (Below W.heap.size W (w0.drewN q)) := hide (below_drewNW (unhide HH).2.1 q)
        by_cases q1 : 6000 < m
        · have k4 : (6000 : Int) < (m : Int) := by omega
          go_wp2_with fail
          go_ret
          exact ⟨by rw [unhide HMV, decide_eq_true q1]; rfl, unhide HW⟩
        · have k4 : ¬ (6000 : Int) < (m : Int) := by omega
          by_cases q2 : 100 < T.sc.length
          · have k5 : (100 : Int) < (T.sc.length : Int) := by omega
            go_wp2_with fail
            go_ret
            exact ⟨by rw [unhide HMV, decide_eq_false q1, decide_eq_true q2]; first | rfl | simp [k5], unhide HW⟩
          · exact absurd (show 100 < T.sc.length by omega) q2
    · have k1 : ¬ (k : Int) < (T.sc.length : Int) := by omega
      have HMV : Hz (LB = (decide (6000 < m) || decide (100 < T.sc.length))) := hide (by rw [unhide HV, unhide HM, List.take_of_length_le (show T.sc.length ≤ k by omega), List.take_of_length_le (show T.sc.length ≤ 200 by omega)])
      clear HV HM
      have HW : Hz (Below W.heap.size W (w0.drewN q)) := hide (below_drewNW (unhide HH).2.1 q)
      by_cases q1 : 6000 < m
      · have k4 : (6000 : Int) < (m : Int) := by omega
        go_wp2_with fail
        go_ret
        exact ⟨by rw [unhide HMV, decide_eq_true q1]; rfl, unhide HW⟩
      · have k4 : ¬ (6000 : Int) < (m : Int) := by omega
        by_cases q2 : 100 < T.sc.length
        · have k5 : (100 : Int) < (T.sc.length : Int) := by omega
          go_wp2_with fail
          go_ret
          exact ⟨by rw [unhide HMV, decide_eq_false q1, decide_eq_true q2]; first | rfl | simp [k5], unhide HW⟩
        · have k5 : ¬ (100 : Int) < (T.sc.length : Int) := by omega
          go_wp2_with fail
          go_ret
          exact ⟨by rw [unhide HMV, decide_eq_false q1, decide_eq_false q2]; first | rfl | simp [k5], unhide HW⟩
end Go.Proofs.YtbefahknbdjnpaaGreatDoor
