/- The book's Apart at lists of bytes: each list is written full with marks of its own, and holds them alone. -/
import Derived.Test.YtinhmhkdofoneaaBookTB
import Derived.Deep.QuietTactic
import Derived.Deep.RegionWith
namespace Go.Proofs.Ytinhmhkdofoneaa
open Go.RowKit Go.Shelf
set_option linter.unusedVariables false

/-- A list whose first m places, its spare room too, hold what f says. -/
def FullB (W : World) (lo : Nat) (v : Value) (f : Nat → Int) (m : Nat) : Prop :=
  v = .slice none 0 0 ∨ ∃ g n cap cur, v = .slice (some ⟨g, 0, none⟩) n cap ∧ lo ≤ g ∧ Blk W g cur 5 ∧ cur.size = cap ∧ cap ≤ maxLen ∧ n ≤ cap ∧ ∀ j, j < m → j < cap → ∀ z, z = f j → cur[j]? = some (Value.int .u8 z)
theorem full_ownB {W : World} {lo n : Nat} {v : Value} {xs : List Value} (h : W.ownsRow lo 5 1 v n xs) (f : Nat → Int) : FullB W lo v f 0 := by
  rcases h.2 with ⟨rfl, _⟩ | ⟨g, cap, cur, rfl, hb, hg, h1, h2, h3, _⟩
  · exact .inl rfl
  · exact .inr ⟨g, n, cap, cur, rfl, hb, hg, by omega, h2, h1, fun j hj => by omega⟩
theorem FullB.below {W W' : World} {lo : Nat} {v : Value} {f : Nat → Int} {m : Nat} (h : FullB W lo v f m) (k : Below W.heap.size W W') : FullB W' lo v f m := by
  rcases h with h | ⟨g, n, cap, cur, rfl, hl, hg, rest⟩
  · exact .inl h
  · exact .inr ⟨g, n, cap, cur, rfl, hl, hg.below k hg.lt, rest⟩
theorem FullB.other {W : World} {lo : Nat} {v : Value} {f : Nat → Int} {m g i : Nat} (h : FullB W lo v f m) (hne : v.ownBlock = none ∨ v.ownBlock ≠ some g) (u : Value) : FullB (W.setCell ⟨g, i, none⟩ u) lo v f m := by
  rcases h with h | ⟨g', n, cap, cur, rfl, hl, hg, rest⟩
  · exact .inl h
  · refine .inr ⟨g', n, cap, cur, rfl, hl, hg.other (fun e => ?_) u, rest⟩
    subst e
    simp [Value.ownBlock] at hne
/-- The lists behind the first k have their marks whole, the k-th its first m. -/
def MkB (W : World) (lo : Nat) (t : List ItB) (mk : Nat → Nat → Int) (k m : Nat) : Prop := ∀ i it, t[i]? = some it → FullB W lo it.v (mk i) (if i < k then maxLen else if i = k then m else 0)
theorem MkB.below {W W' : World} {lo : Nat} {t : List ItB} {mk : Nat → Nat → Int} {k m : Nat} (h : MkB W lo t mk k m) (hb : Below W.heap.size W W') : MkB W' lo t mk k m := fun i it hi => (h i it hi).below hb
theorem dis_atB {t : List ItB} (hd : t.Pairwise (fun a b => a.v.ownBlock = none ∨ a.v.ownBlock ≠ b.v.ownBlock)) {i k : Nat} {x y : ItB} (hi : t[i]? = some x) (hk : t[k]? = some y) (hne : i ≠ k) : x.v.ownBlock = none ∨ x.v.ownBlock ≠ y.v.ownBlock := by
  obtain ⟨hi1, rfl⟩ := List.getElem?_eq_some_iff.1 hi
  obtain ⟨hk1, rfl⟩ := List.getElem?_eq_some_iff.1 hk
  rw [List.pairwise_iff_getElem] at hd
  rcases Nat.lt_or_gt_of_ne hne with hlt | hgt
  · exact hd i k hi1 hk1 hlt
  · exact apart_symm' (hd k i hk1 hi1 hgt)
theorem MkB.set {W : World} {lo : Nat} {t : List ItB} {mk : Nat → Nat → Int} {k m : Nat} (h : MkB W lo t mk k m) (hd : t.Pairwise (fun a b => a.v.ownBlock = none ∨ a.v.ownBlock ≠ b.v.ownBlock)) {it : ItB} (hk : t[k]? = some it) {g n cap : Nat} (hv : it.v = .slice (some ⟨g, 0, none⟩) n cap) (hm : m < cap) (z : Int) (hz : z = mk k m) :
    MkB (W.setCell ⟨g, m, none⟩ (Value.int .u8 z)) lo t mk k (m + 1) := by
  intro i x hi
  by_cases e : i = k
  · subst e
    obtain rfl : x = it := by rw [hk] at hi; cases hi; rfl
    have := h i x hk
    simp only [Nat.lt_irrefl, if_false, if_true] at this ⊢
    rcases this with q | ⟨g', n', cap', cur, hv', hl, hg, h1, h2, h3, h4⟩
    · rw [hv] at q; cases q
    · rw [hv] at hv'
      cases hv'
      refine .inr ⟨g, n, cap, _, hv, hl, hg.set m (Value.int .u8 z), by simpa using h1, h2, h3, fun j hj hjc y hy => ?_⟩
      by_cases ej : j = m
      · subst ej
        rw [Array.getElem?_setIfInBounds_self_of_lt (by omega), hy, ← hz]
      · rw [Array.getElem?_setIfInBounds_ne (by omega)]
        exact h4 j (by omega) hjc y hy
  · have hne := dis_atB hd hi hk e
    rw [hv] at hne
    have := (h i x hi).other (g := g) (i := m) (by simpa [Value.ownBlock] using hne) (Value.int .u8 z)
    by_cases h2 : i < k
    · simpa [h2] using this
    · simpa [h2, e] using this
theorem MkB.next {W : World} {lo : Nat} {t : List ItB} {mk : Nat → Nat → Int} {k m : Nat} (h : MkB W lo t mk k m) (hm : ∀ it g n cap, t[k]? = some it → it.v = .slice (some ⟨g, 0, none⟩) n cap → cap ≤ m) : MkB W lo t mk (k + 1) 0 := by
  intro i x hi
  have := h i x hi
  by_cases e : i = k
  · subst e
    simp only [Nat.lt_irrefl, if_false, if_true] at this
    rcases this with q | ⟨g', n', cap', cur, hv', hl, hg, h1, h2, h3, h4⟩
    · exact .inl q
    · exact .inr ⟨g', n', cap', cur, hv', hl, hg, h1, h2, h3, fun j _ hjc => h4 j (by have := hm x g' n' cap' hi hv'; omega) hjc⟩
  · by_cases h2 : i < k
    · simpa [h2, show i < k + 1 by omega] using this
    · by_cases h3 : i = k + 1
      · subst h3; simpa [show ¬ k + 1 < k by omega] using this
      · simpa [h2, e, h3, show ¬ i < k + 1 by omega] using this
theorem BkB.elem {W : World} {B lo : Nat} {vs cs : List Value} {lv wv : Value} {h : Int} (b : BkB W B lo vs cs lv wv h) {g i : Nat} {cur : Array Value} (hg : Blk W g cur 5) (u : Value) : BkB (W.setCell ⟨g, i, none⟩ u) B lo vs cs lv wv h := by
  refine ⟨b.blk.other (fun e => ?_) u, b.ls.set hg (by decide) u, b.ws.set hg (by decide) u, b.ap, b.lo_le⟩
  subst e
  have := (show W.heap[B]? = _ from b.blk).symm.trans hg
  simp at this
abbrev evB (z : Int) : Value := (Value.int .u8 z)
/-- The k-th list, written out. -/
theorem MkB.form {W : World} {lo : Nat} {t : List ItB} {mk : Nat → Nat → Int} {k m i : Nat} {it : ItB} (h : MkB W lo t mk k m) (hi : t[i]? = some it) : ∃ a n cp, it.v = .slice a n cp ∧ n ≤ cp ∧ cp ≤ maxLen ∧ (0 < cp → ∃ g, a = some ⟨g, 0, none⟩) := by
  rcases h i it hi with q | ⟨g, n, cap, cur, hv, hl, hg, h1, h2, h3, h4⟩
  · exact ⟨none, 0, 0, q, by omega, by unfold maxLen; omega, fun h => by omega⟩
  · exact ⟨_, n, cap, hv, h3, h2, fun _ => ⟨g, rfl⟩⟩
theorem MkB.blk {W : World} {lo : Nat} {t : List ItB} {mk : Nat → Nat → Int} {k m i : Nat} {it : ItB} (h : MkB W lo t mk k m) (hi : t[i]? = some it) {g n cp : Nat} (hv : it.v = .slice (some ⟨g, 0, none⟩) n cp) : ∃ cur, Blk W g cur 5 ∧ cur.size = cp ∧ lo ≤ g ∧ (i < k → ∀ j, j < cp → cur[j]? = some (evB (mk i j))) := by
  rcases h i it hi with q | ⟨g', n', cap, cur, hv', hl, hg, h1, h2, h3, h4⟩
  · rw [hv] at q; cases q
  · rw [hv] at hv'
    cases hv'
    exact ⟨cur, hg, h1, hl, fun hik j hj => h4 j (by rw [if_pos hik]; omega) hj _ rfl⟩
theorem ret_wf (v : Value) : True := trivial

set_option maxRecDepth 100000 in
set_option maxHeartbeats 8000000 in
theorem apart_anyB (mk : Nat → Nat → Int) (hmark : ∀ (i j : Nat) (w : World), i ≤ 1001 → j ≤ maxLen → Calls Try.prog 31 #[.int .i64 i, .int .i64 j] w fun e w' => e = .returned (evB (mk i j)) ∧ Below w.heap.size w w')
    (W : World) (B lo : Nat) (t : List ItB) (lv wv : Value) (h : Int) (b : BookB W B lo t lv wv h) (hlo : lo ≤ W.heap.size) (hl : t.length ≤ 1001) :
    Calls Try.prog 30 #[.pointer (some ⟨B, 0, none⟩), .func (.func 31) #[] #[]] W fun e W' => e = .returned (.bool true) ∧ Below lo W W' := by
  have hlv : ∃ al cl, lv = .slice al t.length cl := by
    rcases b.bk.ls with ⟨rfl, h0⟩ | ⟨g, o, cap, cur, rfl, _⟩
    · exact ⟨none, 0, by rw [List.map_eq_nil_iff] at h0; rw [h0]; rfl⟩
    · exact ⟨_, cap, by rw [List.length_map]⟩
  obtain ⟨al, cl, rfl⟩ := hlv
  have HD := hide b.dis
  have HMK := hide hmark
  have HB := hide b
  clear b hmark
  go_enter Try.func30, Try.ntmps30
  go_wp2_with fail
  refine (stays_anyB W B lo t _ wv h (unhide HB) hlo hl).mono ?_
  rintro e W1 ⟨rfl, hb1, hk1⟩
  have HB1 := hide hb1.bk
  have HM1 : Hid (MkB W1 lo t mk 0 0) := hide (fun i it hi => by simpa using full_ownB (hb1.own it (List.mem_of_getElem? hi)).1 (mk i))
  have HL1 := hide hk1.2
  clear hb1 hk1
  go_wp2
  go_loopw [5] (fun i wr => ∃ k : Nat, i = .int .i64 k ∧ k ≤ t.length ∧ Hid (BkB wr B lo (t.map ItB.v) (t.map ItB.c) (.slice al t.length cl) wv h) ∧ Hid (MkB wr lo t mk k 0) ∧ Hid (Below lo W wr)) (fun i _ => t.length - (intOf i).toNat)
  case atStart => exact ⟨0, rfl, by omega, HB1, HM1, HL1⟩
  case round =>
    obtain ⟨k, rfl, hk, HBK, HM, HL⟩ := hrel
    have c0 := (unhide HBK).blk.cell 0
    by_cases hkn : k < t.length
    · have hk1 : (k : Int) < (t.length : Int) := by omega
      have hk2 : ((k : Nat) : Int).toNat = k := by omega
      obtain ⟨it, hit⟩ : ∃ it, t[k]? = some it := ⟨_, List.getElem?_eq_getElem hkn⟩
      obtain ⟨av, nv, cv, hv, hnc, hcm, hav⟩ := (unhide HM).form hit
      obtain ⟨gl, ol, cl', e1, hl1, hl2, hlc⟩ := (unhide HBK).ls.form (by rw [List.length_map]; omega)
      rw [List.length_map] at e1
      cases e1
      simp only [List.length_map] at HBK hl1
      have l0 : wr.cell? ⟨gl, ol + k, none⟩ = some (.slice av nv cv) := hlc k _ (by simp [hit, hv])
      have HIT := hide hit
      have HV := hide hv
      have HAV := hide hav
      have hcm' : (cv : Int) ≤ 9223372036854775807 := by unfold maxLen at hcm; omega
      have hlor : lo ≤ wr.heap.size := by have := (unhide HL).size; omega
      clear hlc hit hv hav
      go_wp2
      go_quiet (fail)
      go_wp2
      have HB2 : Hid (BkB (wr.drewN nq) B lo (t.map ItB.v) (t.map ItB.c) (.slice (some ⟨gl, ol, none⟩) t.length cl) wv h) := hide ⟨(unhide HBK).blk, (unhide HBK).ls, (unhide HBK).ws, (unhide HBK).ap, (unhide HBK).lo_le⟩
      have HM2 : Hid (MkB (wr.drewN nq) lo t mk k 0) := hide (unhide HM)
      have HL2 := hide (below_drewNB (unhide HL) nq)
      clear c0 l0
      generalize wr.drewN nq = Wq at *
      go_loopw [7] (fun j wr2 => ∃ m : Nat, j = .int .i64 m ∧ m ≤ cv ∧ Hid (BkB wr2 B lo (t.map ItB.v) (t.map ItB.c) (.slice (some ⟨gl, ol, none⟩) t.length cl) wv h) ∧ Hid (MkB wr2 lo t mk k m) ∧ Hid (Below lo W wr2)) (fun j _ => cv - (intOf j).toNat)
      case atStart => exact ⟨0, rfl, by omega, HB2, HM2, HL2⟩
      case round =>
        obtain ⟨m, rfl, hm, HB3, HM3, HL3⟩ := hrel
        by_cases hmc : m < cv
        · obtain ⟨g, rfl⟩ := unhide HAV (by omega)
          have hm1 : (m : Int) < (cv : Int) := by omega
          have hm2 : ((m : Nat) : Int).toNat = m := by omega
          have hlo3 : lo ≤ wr.heap.size := by have := (unhide HL3).size; omega
          go_wp2_with fail
          refine (unhide HMK k m _ (by omega) (by omega)).mono ?_
          rintro e w' ⟨rfl, hb⟩
          obtain ⟨cur, hcur, hsz, hlg, _⟩ := ((unhide HM3).below hb).blk (unhide HIT) (unhide HV)
          have q1 : w'.cell? ⟨g, m, none⟩ = some (cur[m]'(by omega)) := by rw [hcur.cell, Array.getElem?_eq_getElem (by omega)]
          have q2 := hcur.frozen m
          have HB4 := hide (((unhide HB3).below hb).elem (i := m) hcur (evB (mk k m)))
          have HM4 := hide (((unhide HM3).below hb).set (unhide HD) (unhide HIT) (unhide HV) hmc (mk k m) rfl)
          have HL4 := hide (((unhide HL3).trans (hb.mono hlo3)).setCell (p := ⟨g, m, none⟩) hlg (evB (mk k m)))
          clear hb hcur hlg
          go_wp2
          go_roundw
          case rel => exact ⟨m + 1, by go_num, by omega, HB4, HM4, HL4⟩
          case measure => simp [intOf]; omega
        · have hm1 : ¬ (m : Int) < (cv : Int) := by omega
          have HM4 := hide ((unhide HM3).next (fun it g n cap h1 h2 => by rw [unhide HIT] at h1; cases h1; rw [unhide HV] at h2; cases h2; omega))
          go_wp2
          go_roundw
          case rel => exact ⟨k + 1, by go_num, by omega, HB3, HM4, HL3⟩
          case measure => simp [intOf]; omega
    · have hk1 : ¬ (k : Int) < (t.length : Int) := by omega
      obtain rfl : k = t.length := by omega
      go_wp2
      clear hkn hk1 hk c0
      go_loopw [8] (fun i wr2 => ∃ k : Nat, i = .int .i64 k ∧ k ≤ t.length ∧ Hid (BkB wr2 B lo (t.map ItB.v) (t.map ItB.c) (.slice al t.length cl) wv h) ∧ Hid (MkB wr2 lo t mk t.length 0) ∧ Hid (Below lo W wr2)) (fun i _ => t.length - (intOf i).toNat)
      case atStart => exact ⟨0, rfl, by omega, HBK, HM, HL⟩
      case round =>
        clear HBK HM HL
        obtain ⟨k, rfl, hk, HBK, HM, HL⟩ := hrel
        have c0 := (unhide HBK).blk.cell 0
        by_cases hkn : k < t.length
        · have hk1 : (k : Int) < (t.length : Int) := by omega
          have hk2 : ((k : Nat) : Int).toNat = k := by omega
          obtain ⟨it, hit⟩ : ∃ it, t[k]? = some it := ⟨_, List.getElem?_eq_getElem hkn⟩
          obtain ⟨av, nv, cv, hv, hnc, hcm, hav⟩ := (unhide HM).form hit
          obtain ⟨gl, ol, cl', e1, hl1, hl2, hlc⟩ := (unhide HBK).ls.form (by rw [List.length_map]; omega)
          rw [List.length_map] at e1
          cases e1
          simp only [List.length_map] at HBK hl1
          have l0 : wr.cell? ⟨gl, ol + k, none⟩ = some (.slice av nv cv) := hlc k _ (by simp [hit, hv])
          have HIT := hide hit
          have HV := hide hv
          have HAV := hide hav
          have hcm' : (cv : Int) ≤ 9223372036854775807 := by unfold maxLen at hcm; omega
          clear hlc hit hv hav
          go_wp2
          go_quiet (fail)
          go_wp2
          have HB2 : Hid (BkB (wr.drewN nq) B lo (t.map ItB.v) (t.map ItB.c) (.slice (some ⟨gl, ol, none⟩) t.length cl) wv h) := hide ⟨(unhide HBK).blk, (unhide HBK).ls, (unhide HBK).ws, (unhide HBK).ap, (unhide HBK).lo_le⟩
          have HM2 : Hid (MkB (wr.drewN nq) lo t mk t.length 0) := hide (unhide HM)
          have HL2 := hide (below_drewNB (unhide HL) nq)
          clear c0 l0
          generalize wr.drewN nq = Wq at *
          go_loopw [10] (fun j wr2 => ∃ m : Nat, j = .int .i64 m ∧ m ≤ cv ∧ Hid (BkB wr2 B lo (t.map ItB.v) (t.map ItB.c) (.slice (some ⟨gl, ol, none⟩) t.length cl) wv h) ∧ Hid (MkB wr2 lo t mk t.length 0) ∧ Hid (Below lo W wr2)) (fun j _ => cv - (intOf j).toNat)
          case atStart => exact ⟨0, rfl, by omega, HB2, HM2, HL2⟩
          case round =>
            obtain ⟨m, rfl, hm, HB3, HM3, HL3⟩ := hrel
            by_cases hmc : m < cv
            · obtain ⟨g, rfl⟩ := unhide HAV (by omega)
              have hm1 : (m : Int) < (cv : Int) := by omega
              have hm2 : ((m : Nat) : Int).toNat = m := by omega
              have hlo3 : lo ≤ wr.heap.size := by have := (unhide HL3).size; omega
              obtain ⟨cur, hcur, hsz, hlg, hfull⟩ := (unhide HM3).blk (unhide HIT) (unhide HV)
              have q1 : wr.cell? ⟨g, m, none⟩ = some (evB (mk k m)) := by rw [hcur.cell]; exact hfull hkn m hmc
              have HC := hide (fun w => unhide HMK k m w (by omega) (by omega))
              have HQ := hide q1
              generalize mk k m = z at q1 HC HQ
              have hzz : (z != z) = false := by simp
              clear hfull hcur
              go_wp2
              go_region_with ((go_at_call 31; refine (unhide HC _).mono ?_; rintro e w' ⟨rfl, hb⟩; have q3 := (Below.cell (p := ⟨g, m, none⟩) (show Below wr.heap.size wr w' from ⟨hb.os, hb.tape, hb.output, hb.size, hb.block⟩) (cell_lt (unhide HQ))).trans (unhide HQ)))
              all_goals
                have hb' : Below wr.heap.size wr w' := ⟨hb.os, hb.tape, hb.output, hb.size, hb.block⟩
                have HB4 := hide ((unhide HB3).below hb')
                have HM4 := hide ((unhide HM3).below hb')
                have HL4 := hide ((unhide HL3).trans (hb'.mono hlo3))
                clear hb hb'
                go_wp2
                go_roundw
                case rel => exact ⟨m + 1, by go_num, by omega, HB4, HM4, HL4⟩
                case measure => simp [intOf]; omega
            · have hm1 : ¬ (m : Int) < (cv : Int) := by omega
              go_wp2
              go_roundw
              case rel => exact ⟨k + 1, by go_num, by omega, HB3, HM3, HL3⟩
              case measure => simp [intOf]; omega
        · have hk1 : ¬ (k : Int) < (t.length : Int) := by omega
          have f0 := (unhide HBK).blk.frozen 0
          have f1 := (unhide HBK).blk.frozen 1
          have f2 := (unhide HBK).blk.frozen 2
          have c1 := (unhide HBK).blk.cell 1
          have c2 := (unhide HBK).blk.cell 2
          have HE := hide ((((unhide HL).setCell (p := ⟨B, 0, none⟩) (unhide HBK).lo_le (.slice none 0 0)).setCell (p := ⟨B, 1, none⟩) (unhide HBK).lo_le (.slice none 0 0)).setCell (p := ⟨B, 2, none⟩) (unhide HBK).lo_le (.int .i64 0))
          go_wp2
          go_ret
          exact ⟨rfl, unhide HE⟩
end Go.Proofs.Ytinhmhkdofoneaa
