/- Not of a set, walked. -/
import Derived.Test.YtodikfaddfojgaaSetNot
namespace Go.Proofs.Ytodikfaddfojgaa
open Go.RowKit Go.Shelf
set_option linter.unusedVariables false
set_option maxRecDepth 100000 in
set_option maxHeartbeats 4000000 in
theorem layRanks_any (B lo0 : Nat) (zs : List (Int × Int)) (f t : Int) (hn : zs.length ≤ 1000000) (hS : Spread zs) (h0 : 0 ≤ f) (h1 : 0 ≤ t ∧ t ≤ 1112064) (h2 : f ≤ 1112064) (w : World) (hG : Grows w B lo0 zs) (hl : lo0 ≤ w.heap.size) :
    Calls Try.prog 33 #[.pointer (some ⟨B, 0, none⟩), .int .i64 f, .int .i64 t] w fun e w' => (∃ r, e = .returned r) ∧ Grows w' B lo0 (layR zs f t) ∧ Below lo0 w w' ∧ Frame w w' B := by
  unfold layR
  by_cases h : f < t
  · rw [if_pos h]
    have HL := hide (lay_any B lo0 zs (rankedOf f, rankedOf (t - 1)) hn hS (layR_right h0 h1.2 h).1 w hG hl)
    have HA := hide (fun w => ranked_any f h0 (by omega) w)
    have HBb := hide (fun w => ranked_any (t - 1) (by omega) (by omega) w)
    clear hG hS
    go_enter Try.func33, Try.ntmps33
    go_wp2_with fail
    refine (unhide HA _).mono ?_
    rintro e w1 ⟨rfl, rfl⟩
    go_wp2_with fail
    refine (unhide HBb _).mono ?_
    rintro e w2 ⟨rfl, rfl⟩
    go_wp2_with fail
    refine (unhide HL).mono ?_
    rintro e w3 ⟨⟨r, rfl⟩, hg, hb, hfr⟩
    have HG := hide hg
    have HB := hide hb
    have HFr := hide hfr
    clear hg hb hfr
    go_wp2
    go_end0
    exact ⟨⟨_, rfl⟩, unhide HG, unhide HB, unhide HFr⟩
  · rw [if_neg h]
    have HG := hide hG
    clear hG hS
    go_enter Try.func33, Try.ntmps33
    go_wp2
    go_end0
    exact ⟨⟨_, rfl⟩, unhide HG, Below.refl _ _, fun X _ _ _ => rfl⟩
/-- A block that is newer than all that a set owns stays through what is laid. -/
theorem box_kept {wr w6 : World} {B lo0 : Nat} {zs : List (Int × Int)} {cs : Array Value} {t : TypeId} (hm : Made wr B lo0 zs) (hf : Frame (wr.alloc (.cells cs t)) w6 B) : Blk w6 wr.heap.size cs t := by
  obtain ⟨va, vb, h1, h2, h3⟩ := hm.form
  have hlt := h1.lt
  refine (hf wr.heap.size (by simp) (by omega) fun va' vb' hB => ?_).trans (Blk.new wr cs t)
  have e := (show (wr.alloc (.cells cs t)).heap[B]? = _ from h1.alloc (.cells cs t)).symm.trans hB
  simp at e
  obtain ⟨rfl, rfl⟩ := e
  exact ⟨fun e => by have := (h2.lt _ e).2; omega, fun e => by have := (h3.lt _ e).2; omega⟩
set_option maxRecDepth 100000 in
set_option maxHeartbeats 4000000 in
theorem not_any (B : Nat) (zs : List (Int × Int)) (hz : zs.length ≤ 100000) (w : World) (hs : SetAt w B zs) :
    Calls Try.prog 12 #[.pointer (some ⟨B, 0, none⟩)] w fun e w' => ∃ (B' lo0 : Nat) (ys : List (Int × Int)), e = .returned (.pointer (some ⟨B', 0, none⟩)) ∧ w.heap.size ≤ lo0 ∧ Made w' B' lo0 ys ∧ Spread ys ∧ ys.length ≤ zs.length + 1 ∧ (∀ r, memB ys r = (runeB r && !memB zs r)) ∧ Below w.heap.size w w' := by
  obtain ⟨⟨a, ca, b, cb, hb0, hp, ha⟩, hsp, hl⟩ := hs
  have HS := hide hsp
  have HP := hide hp
  have HBk := hide hb0
  have d0 := (hb0.alloc (.cells #[.slice none 0 0, .slice none 0 0] 54)).cell 0
  have hzi : (zs.length : Int) ≤ 100000 := by omega
  clear hsp hp ha hb0
  go_enter Try.func12, Try.ntmps12
  go_wp2
  go_loopw [4, 14] (fun fv iv wr => ∃ (k : Nat) (out : List (Int × Int)) (f : Int), iv = .int .i64 k ∧ fv = .int .i64 f ∧ k ≤ zs.length ∧ (0 ≤ f ∧ f ≤ 1112064) ∧ Hid (NotI zs k out f) ∧ Hid (Grows wr w.heap.size w.heap.size out) ∧ Hid (Below w.heap.size w wr)) (fun _ iv _ => zs.length - (intOf iv).toNat)
  case atStart => exact ⟨0, [], 0, rfl, rfl, by omega, by omega, hide (notI_start (unhide HS)), hide (grows_new w _ rfl), hide ((Below.refl _ w).alloc (Nat.le_refl _) _)⟩
  case round =>
    obtain ⟨k, out, f, rfl, rfl, hk, hf, HI, HG, HB⟩ := hrel
    have hol : out.length ≤ 1000000 := by have := (unhide HI).len; omega
    by_cases hkn : k < zs.length
    · have hk1 : (k : Int) < (zs.length : Int) := by omega
      have hk2 : ((k : Nat) : Int).toNat = k := by omega
      obtain ⟨x, hx⟩ : ∃ x, zs[k]? = some x := ⟨_, List.getElem?_eq_getElem hkn⟩
      have HI2 := hide (notI_step (unhide HS) (unhide HI) hx)
      have he := endsB_iff ((unhide HS).ends x (List.mem_of_getElem? hx)).1
      have r1 := rank_range he.1.1 he.1.2.1
      have r2 := rank_range he.2.1 he.2.2.1
      obtain ⟨g, o, rfl, hg, hc⟩ := unhide HP (by omega)
      have c0 := ((unhide HB).cell (p := ⟨g, o + k * 2, none⟩) hg).trans (hc k x hx).1
      have c1 := ((unhide HB).cell (p := ⟨g, o + k * 2 + 1, none⟩) hg).trans (hc k x hx).2
      obtain ⟨lo, hi⟩ := x
      simp only at c0 c1 he r1 r2 HI2
      have b1 := Blk.new wr #[.int .i32 lo, .int .i32 hi] 33
      have q0 := b1.cell 0
      have HB1 := hide ((unhide HB).alloc (unhide HB).size (.cells #[.int .i32 lo, .int .i32 hi] 33))
      have HG1 := hide ((unhide HG).below ((Below.refl _ wr).alloc (Nat.le_refl _) (.cells #[.int .i32 lo, .int .i32 hi] 33)))
      have HRk := hide (fun w => rank_any lo (by omega) (by omega) w)
      have HRh := hide (fun w => rank_any hi (by omega) (by omega) w)
      have HLR := hide (layRanks_any w.heap.size w.heap.size out f (rankOf lo) hol (unhide HI).spread (by omega) (by omega) (by omega) _ (unhide HG1) (unhide HB1).size)
      clear b1 hc hx
      go_wp2_with fail
      refine (unhide HRk _).mono ?_
      rintro e w5 ⟨rfl, rfl⟩
      go_wp2_with fail
      refine (unhide HLR).mono ?_
      rintro e w6 ⟨⟨r, rfl⟩, hG, hb, hfr⟩
      have hbx := box_kept (unhide HG).1 hfr
      have x1 := hbx.cell 1
      have HG2 := hide hG
      have HB2 := hide ((unhide HB1).trans hb)
      clear hG hb hfr hbx q0 c0 c1
      go_wp2_with fail
      refine (unhide HRh _).mono ?_
      rintro e w7 ⟨rfl, rfl⟩
      go_wp2
      go_roundw
      case rel => exact ⟨k + 1, _, _, by congr 1, rfl, by omega, by omega, HI2, HG2, HB2⟩
      case measure => simp [intOf]; omega
    · have hk1 : ¬ (k : Int) < (zs.length : Int) := by omega
      obtain rfl : k = zs.length := by omega
      have HE := hide (notI_end (unhide HS) (unhide HI))
      have HLR := hide (layRanks_any w.heap.size w.heap.size out f 1112064 hol (unhide HI).spread (by omega) (by omega) (by omega) wr (unhide HG) (unhide HB).size)
      have HRk := hide (fun w => rank_any 1114111 (by omega) (by omega) w)
      rw [show rankOf 1114111 = 1112063 by decide] at HRk
      go_wp2_with fail
      refine (unhide HRk _).mono ?_
      rintro e w5 ⟨rfl, rfl⟩
      go_wp2_with fail
      refine (unhide HLR).mono ?_
      rintro e w6 ⟨⟨r, rfl⟩, hG, hb, _⟩
      have HG2 := hide hG
      have HB2 := hide ((unhide HB).trans hb)
      clear hG hb
      go_wp2
      go_ret
      exact ⟨w.heap.size, w.heap.size, _, rfl, Nat.le_refl _, (unhide HG2).1, (unhide HE).1, (unhide HE).2.2, (unhide HE).2.1, unhide HB2⟩
end Go.Proofs.Ytodikfaddfojgaa
