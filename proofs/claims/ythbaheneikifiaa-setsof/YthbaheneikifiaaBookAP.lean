/- The book's Apart at lists of spans: each list is written full with marks of its own, and holds them alone. -/
import Derived.Test.YthbaheneikifiaaBookTP
import Derived.Deep.QuietTactic
import Derived.Deep.RegionWith
namespace Go.Proofs.Ythbaheneikifiaa
open Go.RowKit Go.Shelf
set_option linter.unusedVariables false

abbrev evP (z : Int × Int) : Value := spanV z
/-- A list whose first m places, its spare room too, hold what f says. -/
def FullP (W : World) (lo : Nat) (v : Value) (f : Nat → Int × Int) (m : Nat) : Prop :=
  v = .slice none 0 0 ∨ ∃ g n cap cur, v = .slice (some ⟨g, 0, none⟩) n cap ∧ lo ≤ g ∧ Blk W g cur 63 ∧ cur.size = cap * 2 ∧ cap ≤ maxLen ∧ n ≤ cap ∧ ∀ j, j < m → j < cap → cur[j * 2]? = some (.int .i32 (f j).1) ∧ cur[j * 2 + 1]? = some (.int .i32 (f j).2)
theorem full_ownP {W : World} {lo n : Nat} {v : Value} {xs : List Value} (h : W.ownsRow lo 63 2 v n xs) (f : Nat → Int × Int) : FullP W lo v f 0 := by
  rcases h.2 with ⟨rfl, _⟩ | ⟨g, cap, cur, rfl, hb, hg, h1, h2, h3, _⟩
  · exact .inl rfl
  · exact .inr ⟨g, n, cap, cur, rfl, hb, hg, by omega, h2, h1, fun j hj => by omega⟩
theorem FullP.below {W W' : World} {lo : Nat} {v : Value} {f : Nat → Int × Int} {m : Nat} (h : FullP W lo v f m) (k : Below W.heap.size W W') : FullP W' lo v f m := by
  rcases h with h | ⟨g, n, cap, cur, rfl, hl, hg, rest⟩
  · exact .inl h
  · exact .inr ⟨g, n, cap, cur, rfl, hl, hg.below k hg.lt, rest⟩
theorem FullP.other {W : World} {lo : Nat} {v : Value} {f : Nat → Int × Int} {m g i : Nat} (h : FullP W lo v f m) (hne : v.ownBlock = none ∨ v.ownBlock ≠ some g) (u : Value) : FullP (W.setCell ⟨g, i, none⟩ u) lo v f m := by
  rcases h with h | ⟨g', n, cap, cur, rfl, hl, hg, rest⟩
  · exact .inl h
  · refine .inr ⟨g', n, cap, cur, rfl, hl, hg.other (fun e => ?_) u, rest⟩
    subst e
    simp [Value.ownBlock] at hne
/-- The lists behind the first k have their marks whole, the k-th its first m. -/
def MkP (W : World) (lo : Nat) (t : List ItP) (mk : Nat → Nat → Int × Int) (k m : Nat) : Prop := ∀ i it, t[i]? = some it → FullP W lo it.v (mk i) (if i < k then maxLen else if i = k then m else 0)
theorem MkP.below {W W' : World} {lo : Nat} {t : List ItP} {mk : Nat → Nat → Int × Int} {k m : Nat} (h : MkP W lo t mk k m) (hb : Below W.heap.size W W') : MkP W' lo t mk k m := fun i it hi => (h i it hi).below hb
theorem dis_atP {t : List ItP} (hd : t.Pairwise (fun a b => a.v.ownBlock = none ∨ a.v.ownBlock ≠ b.v.ownBlock)) {i k : Nat} {x y : ItP} (hi : t[i]? = some x) (hk : t[k]? = some y) (hne : i ≠ k) : x.v.ownBlock = none ∨ x.v.ownBlock ≠ y.v.ownBlock := by
  obtain ⟨hi1, rfl⟩ := List.getElem?_eq_some_iff.1 hi
  obtain ⟨hk1, rfl⟩ := List.getElem?_eq_some_iff.1 hk
  rw [List.pairwise_iff_getElem] at hd
  rcases Nat.lt_or_gt_of_ne hne with hlt | hgt
  · exact hd i k hi1 hk1 hlt
  · exact apart_symm' (hd k i hk1 hi1 hgt)
theorem MkP.set {W : World} {lo : Nat} {t : List ItP} {mk : Nat → Nat → Int × Int} {k m : Nat} (h : MkP W lo t mk k m) (hd : t.Pairwise (fun a b => a.v.ownBlock = none ∨ a.v.ownBlock ≠ b.v.ownBlock)) {it : ItP} (hk : t[k]? = some it) {g n cap : Nat} (hv : it.v = .slice (some ⟨g, 0, none⟩) n cap) (hm : m < cap) (z : Int × Int) (hz : z = mk k m) :
    MkP ((W.setCell ⟨g, m * 2, none⟩ (.int .i32 z.1)).setCell ⟨g, m * 2 + 1, none⟩ (.int .i32 z.2)) lo t mk k (m + 1) := by
  intro i x hi
  by_cases e : i = k
  · subst e
    obtain rfl : x = it := by rw [hk] at hi; cases hi; rfl
    have := h i x hk
    simp only [Nat.lt_irrefl, if_false, if_true] at this ⊢
    rcases this with q | ⟨g', n', cap', cur, hv', hl, hg, h1, h2, h3, h4⟩
    · rw [hv] at q; cases q
    · rw [hv] at hv'
      cases hv'
      refine .inr ⟨g, n, cap, _, hv, hl, (hg.set (m * 2) (.int .i32 z.1)).set (m * 2 + 1) (.int .i32 z.2), by simpa using h1, h2, h3, fun j hj hjc => ?_⟩
      by_cases ej : j = m
      · subst ej
        constructor
        · rw [Array.getElem?_setIfInBounds_ne (by omega), Array.getElem?_setIfInBounds_self_of_lt (by omega), hz]
        · rw [Array.getElem?_setIfInBounds_self_of_lt (by simp; omega), hz]
      · constructor
        · rw [Array.getElem?_setIfInBounds_ne (by omega), Array.getElem?_setIfInBounds_ne (by omega)]
          exact (h4 j (by omega) hjc).1
        · rw [Array.getElem?_setIfInBounds_ne (by omega), Array.getElem?_setIfInBounds_ne (by omega)]
          exact (h4 j (by omega) hjc).2
  · have hne := dis_atP hd hi hk e
    rw [hv] at hne
    have := ((h i x hi).other (g := g) (i := m * 2) (by simpa [Value.ownBlock] using hne) (.int .i32 z.1)).other (g := g) (i := m * 2 + 1) (by simpa [Value.ownBlock] using hne) (.int .i32 z.2)
    by_cases h2 : i < k
    · simpa [h2] using this
    · simpa [h2, e] using this
theorem MkP.next {W : World} {lo : Nat} {t : List ItP} {mk : Nat → Nat → (Int × Int)} {k m : Nat} (h : MkP W lo t mk k m) (hm : ∀ it g n cap, t[k]? = some it → it.v = .slice (some ⟨g, 0, none⟩) n cap → cap ≤ m) : MkP W lo t mk (k + 1) 0 := by
  intro i x hi
  have := h i x hi
  by_cases e : i = k
  · subst e
    simp only [Nat.lt_irrefl, if_false, if_true] at this
    rcases this with q | ⟨g', n', cap', cur, hv', hl, hg, h1, h2, h3, h4⟩
    · exact .inl q
    · exact .inr ⟨g', n', cap', cur, hv', hl, hg, h1, h2, h3, fun j _ hjc => h4 j (by have := hm x g' n' cap' hi hv'; omega) hjc⟩
  · by_cases h2 : i < k
    · simpa [h2, show i < k + 1 by omega] using this
    · by_cases h3 : i = k + 1
      · subst h3; simpa [show ¬ k + 1 < k by omega] using this
      · simpa [h2, e, h3, show ¬ i < k + 1 by omega] using this
theorem BkP.elem {W : World} {B lo : Nat} {vs cs : List Value} {lv wv : Value} {h : Int} (b : BkP W B lo vs cs lv wv h) {g i : Nat} {cur : Array Value} (hg : Blk W g cur 63) (u : Value) : BkP (W.setCell ⟨g, i, none⟩ u) B lo vs cs lv wv h := by
  refine ⟨b.blk.other (fun e => ?_) u, b.ls.set hg (by decide) u, b.ws.set hg (by decide) u, b.ap, b.lo_le⟩
  subst e
  have := (show W.heap[B]? = _ from b.blk).symm.trans hg
  simp at this
/-- The k-th list, written out. -/
theorem MkP.form {W : World} {lo : Nat} {t : List ItP} {mk : Nat → Nat → (Int × Int)} {k m i : Nat} {it : ItP} (h : MkP W lo t mk k m) (hi : t[i]? = some it) : ∃ a n cp, it.v = .slice a n cp ∧ n ≤ cp ∧ cp ≤ maxLen ∧ (0 < cp → ∃ g, a = some ⟨g, 0, none⟩) := by
  rcases h i it hi with q | ⟨g, n, cap, cur, hv, hl, hg, h1, h2, h3, h4⟩
  · exact ⟨none, 0, 0, q, by omega, by unfold maxLen; omega, fun h => by omega⟩
  · exact ⟨_, n, cap, hv, h3, h2, fun _ => ⟨g, rfl⟩⟩
theorem MkP.blk {W : World} {lo : Nat} {t : List ItP} {mk : Nat → Nat → Int × Int} {k m i : Nat} {it : ItP} (h : MkP W lo t mk k m) (hi : t[i]? = some it) {g n cp : Nat} (hv : it.v = .slice (some ⟨g, 0, none⟩) n cp) : ∃ cur, Blk W g cur 63 ∧ cur.size = cp * 2 ∧ lo ≤ g ∧ (i < k → ∀ j, j < cp → cur[j * 2]? = some (.int .i32 (mk i j).1) ∧ cur[j * 2 + 1]? = some (.int .i32 (mk i j).2)) := by
  rcases h i it hi with q | ⟨g', n', cap, cur, hv', hl, hg, h1, h2, h3, h4⟩
  · rw [hv] at q; cases q
  · rw [hv] at hv'
    cases hv'
    exact ⟨cur, hg, h1, hl, fun hik j hj => h4 j (by rw [if_pos hik]; omega) hj⟩
set_option maxRecDepth 100000 in
set_option maxHeartbeats 8000000 in
theorem apart_anyP (mk : Nat → Nat → (Int × Int)) (hmark : ∀ (i j : Nat) (w : World), i ≤ 1001 → j ≤ maxLen → Calls Try.prog 47 #[.int .i64 i, .int .i64 j] w fun e w' => e = .returned (evP (mk i j)) ∧ Below w.heap.size w w')
    (W : World) (B lo : Nat) (t : List ItP) (lv wv : Value) (h : Int) (b : BookP W B lo t lv wv h) (hlo : lo ≤ W.heap.size) (hl : t.length ≤ 1001) :
    Calls Try.prog 46 #[.pointer (some ⟨B, 0, none⟩), .func (.func 47) #[] #[]] W fun e W' => e = .returned (.bool true) ∧ Below lo W W' := by
  have hlv : ∃ al cl, lv = .slice al t.length cl := by
    rcases b.bk.ls with ⟨rfl, h0⟩ | ⟨g, o, cap, cur, rfl, _⟩
    · exact ⟨none, 0, by rw [List.map_eq_nil_iff] at h0; rw [h0]; rfl⟩
    · exact ⟨_, cap, by rw [List.length_map]⟩
  obtain ⟨al, cl, rfl⟩ := hlv
  have HD := hide b.dis
  have HMK := hide hmark
  have HB := hide b
  clear b hmark
  go_enter Try.func46, Try.ntmps46
  go_wp2_with fail
  refine (stays_anyP W B lo t _ wv h (unhide HB) hlo hl).mono ?_
  rintro e W1 ⟨rfl, hb1, hk1⟩
  have HB1 := hide hb1.bk
  have HM1 : Hid (MkP W1 lo t mk 0 0) := hide (fun i it hi => by simpa using full_ownP (hb1.own it (List.mem_of_getElem? hi)).1 (mk i))
  have HL1 := hide hk1.2
  clear hb1 hk1
  go_wp2
  go_loopw [5] (fun i wr => ∃ k : Nat, i = .int .i64 k ∧ k ≤ t.length ∧ Hid (BkP wr B lo (t.map ItP.v) (t.map ItP.c) (.slice al t.length cl) wv h) ∧ Hid (MkP wr lo t mk k 0) ∧ Hid (Below lo W wr)) (fun i _ => t.length - (intOf i).toNat)
  case atStart => exact ⟨0, rfl, by omega, HB1, HM1, HL1⟩
  case round =>
    obtain ⟨k, rfl, hk, HBK, HM, HL⟩ := hrel
    have c0 := (unhide HBK).blk.cell 0
    by_cases hkn : k < t.length
    · have hk1 : (k : Int) < (t.length : Int) := by omega
      have hk2 : ((k : Nat) : Int).toNat = k := by omega
      obtain ⟨it, hit⟩ : ∃ it, t[k]? = some it := ⟨_, List.getElem?_eq_getElem hkn⟩
      obtain ⟨av, nv, cv, hv, hnc, hcm, hav⟩ := (unhide HM).form hit
      obtain ⟨gl, ol, cl', e1, hl1, hl2, hlc⟩ := (unhide HBK).ls.form (by rw [List.length_map]; omega)
      rw [List.length_map] at e1
      cases e1
      simp only [List.length_map] at HBK hl1
      have l0 : wr.cell? ⟨gl, ol + k, none⟩ = some (.slice av nv cv) := hlc k _ (by simp [hit, hv])
      have HIT := hide hit
      have HV := hide hv
      have HAV := hide hav
      have hcm' : (cv : Int) ≤ 9223372036854775807 := by unfold maxLen at hcm; omega
      have hlor : lo ≤ wr.heap.size := by have := (unhide HL).size; omega
      clear hlc hit hv hav
      go_wp2
      go_quiet (fail)
      go_wp2
      have HB2 : Hid (BkP (wr.drewN nq) B lo (t.map ItP.v) (t.map ItP.c) (.slice (some ⟨gl, ol, none⟩) t.length cl) wv h) := hide ⟨(unhide HBK).blk, (unhide HBK).ls, (unhide HBK).ws, (unhide HBK).ap, (unhide HBK).lo_le⟩
      have HM2 : Hid (MkP (wr.drewN nq) lo t mk k 0) := hide (unhide HM)
      have HL2 := hide (below_drewNP (unhide HL) nq)
      clear c0 l0
      generalize wr.drewN nq = Wq at *
      go_loopw [7] (fun j wr2 => ∃ m : Nat, j = .int .i64 m ∧ m ≤ cv ∧ Hid (BkP wr2 B lo (t.map ItP.v) (t.map ItP.c) (.slice (some ⟨gl, ol, none⟩) t.length cl) wv h) ∧ Hid (MkP wr2 lo t mk k m) ∧ Hid (Below lo W wr2)) (fun j _ => cv - (intOf j).toNat)
      case atStart => exact ⟨0, rfl, by omega, HB2, HM2, HL2⟩
      case round =>
        obtain ⟨m, rfl, hm, HB3, HM3, HL3⟩ := hrel
        by_cases hmc : m < cv
        · obtain ⟨g, rfl⟩ := unhide HAV (by omega)
          have hm1 : (m : Int) < (cv : Int) := by omega
          have hm2 : ((m : Nat) : Int).toNat = m := by omega
          have hlo3 : lo ≤ wr.heap.size := by have := (unhide HL3).size; omega
          go_wp2_with fail
          refine (unhide HMK k m _ (by omega) (by omega)).mono ?_
          rintro e w' ⟨rfl, hb⟩
          obtain ⟨cur, hcur, hsz, hlg, _⟩ := ((unhide HM3).below hb).blk (unhide HIT) (unhide HV)
          have q1 : w'.cell? ⟨g, m * 2, none⟩ = some (cur[m * 2]'(by omega)) := by rw [hcur.cell, Array.getElem?_eq_getElem (by omega)]
          have q2 := hcur.frozen (m * 2)
          have q3 : w'.cell? ⟨g, m * 2 + 1, none⟩ = some (cur[m * 2 + 1]'(by omega)) := by rw [hcur.cell, Array.getElem?_eq_getElem (by omega)]
          have q4 := hcur.frozen (m * 2 + 1)
          have HB4 := hide ((((unhide HB3).below hb).elem (i := m * 2) hcur (.int .i32 (mk k m).1)).elem (i := m * 2 + 1) (hcur.set (m * 2) _) (.int .i32 (mk k m).2))
          have HM4 := hide (((unhide HM3).below hb).set (unhide HD) (unhide HIT) (unhide HV) hmc (mk k m) rfl)
          have HL4 := hide ((((unhide HL3).trans (hb.mono hlo3)).setCell (p := ⟨g, m * 2, none⟩) hlg (.int .i32 (mk k m).1)).setCell (p := ⟨g, m * 2 + 1, none⟩) hlg (.int .i32 (mk k m).2))
          generalize cur[m * 2]'(by omega) = u0 at q1
          generalize cur[m * 2 + 1]'(by omega) = u1 at q3
          clear hb hcur hlg
          go_wp2
          go_roundw
          case rel => exact ⟨m + 1, by go_num, by omega, HB4, HM4, HL4⟩
          case measure => simp [intOf]; omega
        · have hm1 : ¬ (m : Int) < (cv : Int) := by omega
          have HM4 := hide ((unhide HM3).next (fun it g n cap h1 h2 => by rw [unhide HIT] at h1; cases h1; rw [unhide HV] at h2; cases h2; omega))
          go_wp2
          go_roundw
          case rel => exact ⟨k + 1, by go_num, by omega, HB3, HM4, HL3⟩
          case measure => simp [intOf]; omega
    · have hk1 : ¬ (k : Int) < (t.length : Int) := by omega
      obtain rfl : k = t.length := by omega
      go_wp2
      clear hkn hk1 hk c0
      go_loopw [8] (fun i wr2 => ∃ k : Nat, i = .int .i64 k ∧ k ≤ t.length ∧ Hid (BkP wr2 B lo (t.map ItP.v) (t.map ItP.c) (.slice al t.length cl) wv h) ∧ Hid (MkP wr2 lo t mk t.length 0) ∧ Hid (Below lo W wr2)) (fun i _ => t.length - (intOf i).toNat)
      case atStart => exact ⟨0, rfl, by omega, HBK, HM, HL⟩
      case round =>
        clear HBK HM HL
        obtain ⟨k, rfl, hk, HBK, HM, HL⟩ := hrel
        have c0 := (unhide HBK).blk.cell 0
        by_cases hkn : k < t.length
        · have hk1 : (k : Int) < (t.length : Int) := by omega
          have hk2 : ((k : Nat) : Int).toNat = k := by omega
          obtain ⟨it, hit⟩ : ∃ it, t[k]? = some it := ⟨_, List.getElem?_eq_getElem hkn⟩
          obtain ⟨av, nv, cv, hv, hnc, hcm, hav⟩ := (unhide HM).form hit
          obtain ⟨gl, ol, cl', e1, hl1, hl2, hlc⟩ := (unhide HBK).ls.form (by rw [List.length_map]; omega)
          rw [List.length_map] at e1
          cases e1
          simp only [List.length_map] at HBK hl1
          have l0 : wr.cell? ⟨gl, ol + k, none⟩ = some (.slice av nv cv) := hlc k _ (by simp [hit, hv])
          have HIT := hide hit
          have HV := hide hv
          have HAV := hide hav
          have hcm' : (cv : Int) ≤ 9223372036854775807 := by unfold maxLen at hcm; omega
          clear hlc hit hv hav
          go_wp2
          go_quiet (fail)
          go_wp2
          have HB2 : Hid (BkP (wr.drewN nq) B lo (t.map ItP.v) (t.map ItP.c) (.slice (some ⟨gl, ol, none⟩) t.length cl) wv h) := hide ⟨(unhide HBK).blk, (unhide HBK).ls, (unhide HBK).ws, (unhide HBK).ap, (unhide HBK).lo_le⟩
          have HM2 : Hid (MkP (wr.drewN nq) lo t mk t.length 0) := hide (unhide HM)
          have HL2 := hide (below_drewNP (unhide HL) nq)
          clear c0 l0
          generalize wr.drewN nq = Wq at *
          go_loopw [10] (fun j wr2 => ∃ m : Nat, j = .int .i64 m ∧ m ≤ cv ∧ Hid (BkP wr2 B lo (t.map ItP.v) (t.map ItP.c) (.slice (some ⟨gl, ol, none⟩) t.length cl) wv h) ∧ Hid (MkP wr2 lo t mk t.length 0) ∧ Hid (Below lo W wr2)) (fun j _ => cv - (intOf j).toNat)
          case atStart => exact ⟨0, rfl, by omega, HB2, HM2, HL2⟩
          case round =>
            obtain ⟨m, rfl, hm, HB3, HM3, HL3⟩ := hrel
            by_cases hmc : m < cv
            · obtain ⟨g, rfl⟩ := unhide HAV (by omega)
              have hm1 : (m : Int) < (cv : Int) := by omega
              have hm2 : ((m : Nat) : Int).toNat = m := by omega
              have hlo3 : lo ≤ wr.heap.size := by have := (unhide HL3).size; omega
              obtain ⟨cur, hcur, hsz, hlg, hfull⟩ := (unhide HM3).blk (unhide HIT) (unhide HV)
              have q1 : wr.cell? ⟨g, m * 2, none⟩ = some (.int .i32 (mk k m).1) := by rw [hcur.cell]; exact (hfull hkn m hmc).1
              have q2 : wr.cell? ⟨g, m * 2 + 1, none⟩ = some (.int .i32 (mk k m).2) := by rw [hcur.cell]; exact (hfull hkn m hmc).2
              have HC := hide (fun w => unhide HMK k m w (by omega) (by omega))
              have HQ := hide (And.intro q1 q2)
              generalize mk k m = z at q1 q2 HC HQ
              obtain ⟨z1, z2⟩ := z
              simp only at q1 q2
              have h1 : (z1 == z1) = true := by simp
              have h2 : (z2 == z2) = true := by simp
              clear hfull hcur
              go_wp2
              go_region_with ((go_at_call 47; refine (unhide HC _).mono ?_; rintro e w' ⟨rfl, hb⟩; have q3 := (Below.cell (p := ⟨g, m * 2, none⟩) (show Below wr.heap.size wr w' from ⟨hb.os, hb.tape, hb.output, hb.size, hb.block⟩) (cell_lt (unhide HQ).1)).trans (unhide HQ).1; have q4 := (Below.cell (p := ⟨g, m * 2 + 1, none⟩) (show Below wr.heap.size wr w' from ⟨hb.os, hb.tape, hb.output, hb.size, hb.block⟩) (cell_lt (unhide HQ).2)).trans (unhide HQ).2))
              all_goals
                have hb' : Below wr.heap.size wr w' := ⟨hb.os, hb.tape, hb.output, hb.size, hb.block⟩
                have HB4 := hide ((unhide HB3).below hb')
                have HM4 := hide ((unhide HM3).below hb')
                have HL4 := hide ((unhide HL3).trans (hb'.mono hlo3))
                clear hb hb'
                go_wp2
                go_roundw
                case rel => exact ⟨m + 1, by go_num, by omega, HB4, HM4, HL4⟩
                case measure => simp [intOf]; omega
            · have hm1 : ¬ (m : Int) < (cv : Int) := by omega
              go_wp2
              go_roundw
              case rel => exact ⟨k + 1, by go_num, by omega, HB3, HM3, HL3⟩
              case measure => simp [intOf]; omega
        · have hk1 : ¬ (k : Int) < (t.length : Int) := by omega
          have f0 := (unhide HBK).blk.frozen 0
          have f1 := (unhide HBK).blk.frozen 1
          have f2 := (unhide HBK).blk.frozen 2
          have c1 := (unhide HBK).blk.cell 1
          have c2 := (unhide HBK).blk.cell 2
          have HE := hide ((((unhide HL).setCell (p := ⟨B, 0, none⟩) (unhide HBK).lo_le (.slice none 0 0)).setCell (p := ⟨B, 1, none⟩) (unhide HBK).lo_le (.slice none 0 0)).setCell (p := ⟨B, 2, none⟩) (unhide HBK).lo_le (.int .i64 0))
          go_wp2
          go_ret
          exact ⟨rfl, unhide HE⟩
end Go.Proofs.Ythbaheneikifiaa
