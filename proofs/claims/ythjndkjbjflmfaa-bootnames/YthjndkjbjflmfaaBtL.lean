/- The runes that the numbers say are laid in. -/
import Derived.Test.YthjndkjbjflmfaaBtG
import Derived.Test.YthjndkjbjflmfaaBtIR
namespace Go.Proofs.Ythjndkjbjflmfaa
open Go.RowKit Go.Shelf
set_option linter.unusedVariables false
theorem own_ltB {W : World} {base e size n : Nat} {v : Value} {xs : List Value} (h : W.ownsRow base e size v n xs) : ∀ k, v.ownBlock = some k → base ≤ k ∧ k < W.heap.size := fun k hk => by
  rcases h.2 with ⟨rfl, _⟩ | ⟨g, cap, cur, rfl, hg, hh, _⟩
  · cases hk
  · cases hk; exact ⟨hg, (Array.getElem?_eq_some_iff.1 hh).1⟩
theorem width_bd {r : Int} (h : widthOf r ≠ 0) : 0 ≤ r ∧ r ≤ 1114111 := by
  unfold widthOf at h
  split at h
  · exact absurd rfl h
  · omega
theorem own_neC {W : World} {base e size n c : Nat} {v : Value} {xs : List Value} {cs : Array Value} {t : TypeId} (h : W.ownsRow base e size v n xs) (hc : Blk W c cs t) (hne : e ≠ t) : v.ownBlock ≠ some c := fun hk => by
  rcases h.2 with ⟨rfl, _⟩ | ⟨g, cap, cur, rfl, hg, hh, _⟩
  · cases hk
  · cases hk
    have := (show W.heap[g]? = _ from hc).symm.trans hh
    cases this
    exact hne rfl
theorem below_drewC {N : Nat} {A w : World} (h : Below N A w) (q : Nat) : Below N A (w.drewN q) := h.trans ⟨rfl, rfl, rfl, Nat.le_refl _, fun _ _ => rfl⟩
/-- How far the laying in has come. -/
def LyI (p : Pm) (a : ByteArray) (R : List Int × Nat × Int) (lo c : Nat) (W0 : World) (x k : Value) (wr : World) : Prop :=
  ∃ (l : List Int) (L j f : Nat) (bias d n nx : Int), l.length = L ∧ k = .int .i64 j ∧ j ≤ a.size ∧ a.size < f + j ∧ wr.ownsRow lo 21 1 x L (encRb l) ∧ CAt wr c p bias d L n nx ∧ Below lo W0 wr ∧ x.ownBlock ≠ some c ∧ lo ≤ c ∧
    (0 ≤ bias ∧ bias ≤ 4000) ∧ (1 ≤ d ∧ d ≤ 10000) ∧ L ≤ 4096 ∧ (0 ≤ n ∧ n ≤ 1114111) ∧ (0 ≤ nx ∧ nx ≤ 5000) ∧ (∀ z ∈ l, widthOf z ≠ 0) ∧ layF p a f l j bias d n nx = R
set_option maxRecDepth 100000 in
set_option maxHeartbeats 4000000 in
theorem layIn_any {p : Pm} (hp : rightP p) {lo L j0 f0 : Nat} {v : Value} {l : List Int} {W : World} (hL : l.length = L) (hown : W.ownsRow lo 21 1 v L (encRb l)) (hlo : lo ≤ W.heap.size) (hL4 : L ≤ 4096) (hwd : ∀ z ∈ l, widthOf z ≠ 0) (a : ByteArray) (ha : a.size ≤ 65536) (hj : j0 ≤ a.size) (hf : a.size < f0 + j0) :
    Calls Try.prog 29 #[.agg (cellsP p), v, .string a, .int .i64 j0] W fun e w' => ∃ v', e = .returned (.tuple #[v', .int .i64 (layF p a f0 l j0 p.bi p.da p.fi 0).2.1, .int .i64 (layF p a f0 l j0 p.bi p.da p.fi 0).2.2]) ∧ Below lo W w' ∧ ((layF p a f0 l j0 p.bi p.da p.fi 0).2.2 = 0 → w'.ownsRow lo 21 1 v' (layF p a f0 l j0 p.bi p.da p.fi 0).1.length (encRb (layF p a f0 l j0 p.bi p.da p.fi 0).1) ∧ (layF p a f0 l j0 p.bi p.da p.fi 0).1.length ≤ 4096 ∧ ∀ z ∈ (layF p a f0 l j0 p.bi p.da p.fi 0).1, widthOf z ≠ 0) := by
  have HP := hide hp
  have hfi := width_bd hp.2.2.2.2.2.2.2.2.2.2.2.2
  have hbi := hp.2.2.2.2.2.2.2.2.2.1
  have hbi2 := hp.2.2.2.2.2.2.2.2.2.2.1
  have hda := hp.2.2.2.2.2.2.2.1
  have hda2 := hp.2.2.2.2.2.2.2.2.1
  have START : ∀ (c : Nat) (w1 : World), W.heap.size ≤ c → CAt w1 c p p.bi p.da (L : Int) p.fi 0 → Below W.heap.size W w1 → LyI p a (layF p a f0 l j0 p.bi p.da p.fi 0) lo c W v (.int .i64 j0) w1 := fun c w1 h1 h2 h3 =>
    ⟨l, L, j0, f0, p.bi, p.da, p.fi, 0, hL, rfl, hj, hf, hown.kept (grown_of_below h3) (by cases v.ownBlock <;> simp), h2, h3.mono hlo, (fun e => by have := (own_ltB hown c e).2; omega), by omega, ⟨hbi, by omega⟩, ⟨by omega, hda2⟩, hL4, hfi, ⟨by omega, by omega⟩, hwd, rfl⟩
  generalize layF p a f0 l j0 p.bi p.da p.fi 0 = R at *
  have hvf : ∃ va vc, v = .slice va L vc := by
    rcases hown.2 with ⟨rfl, h0⟩ | ⟨g, cap, cur, rfl, _⟩
    · exact ⟨none, 0, by rw [h0]⟩
    · exact ⟨_, cap, rfl⟩
  obtain ⟨va, vc, rfl⟩ := hvf
  have ST := hide START
  have HLO := hide hlo
  clear START hp hwd hown hL hf hfi hbi hbi2 hda hda2 hlo
  have hbeg := fun w => begin_any p (L : Int) w
  obtain ⟨pB, pl, ph, ps, pd, pb, pf⟩ := p
  dsimp only [cellsP] at hbeg ⊢
  have HBG := hide hbeg
  clear hbeg
  go_enter Try.func29, Try.ntmps29
  go_wp2_with fail
  refine (unhide HBG _).mono ?_
  rintro e w1 ⟨c, rfl, hc1, hc2, hc3⟩
  have ST1 := hide (unhide ST c w1 (by simp at hc1; omega) hc2 (((Below.refl _ W).alloc (Nat.le_refl _) _).trans (hc3.mono (by simp))))
  clear ST hc1 hc2 hc3
  go_wp2_with fail
  go_loopw [1, 3] (fun x k wr => LyI ⟨pB, pl, ph, ps, pd, pb, pf⟩ a R lo c W x k wr) (fun _ k _ => a.size - (intOf k).toNat)
  case atStart => exact unhide ST1
  case round =>
    obtain ⟨l, L', j, f, bias, d, n, nx, g1, rfl, g2, g3, g4, g5, g6, g7, g8, g9, g10, g11, g12, g13, g14, g15⟩ := hrel
    clear ST1
    obtain ⟨xa, xc, rfl⟩ : ∃ xa xc, u1 = .slice xa L' xc := by
      rcases g4.2 with ⟨rfl, h0⟩ | ⟨g, cap, cur, rfl, _⟩
      · exact ⟨none, 0, by rw [h0]⟩
      · exact ⟨_, cap, rfl⟩
    have G1 := hide g1
    have G4 := hide g4
    have G5 := hide g5
    have G6 := hide g6
    have G7 := hide g7
    have G14 := hide g14
    have G15 := hide g15
    clear g1 g4 g5 g6 g7 g14 g15
    by_cases hja : j < a.size
    · have hj1 : (j : Int) < (a.size : Int) := by omega
      have hjn : ¬ a.size ≤ j := by omega
      obtain ⟨f, rfl⟩ : ∃ f', f = f' + 1 := ⟨f - 1, by omega⟩
      by_cases h4 : L' = 4096
      · subst h4
        have c9 : wr.cell? ⟨c, 9, none⟩ = some (.int .i64 4096) := (unhide G5).cell 9
        obtain rfl : R = ([], j, 4) := (unhide G15).symm.trans (layF_many hjn (unhide G1))
        go_wp2_with fail
        go_ret3
        exact ⟨⟨_, rfl⟩, unhide G6⟩
      · have c9 : wr.cell? ⟨c, 9, none⟩ = some (.int .i64 L') := (unhide G5).cell 9
        have h4n : ((L' : Int) == 4096) = false := by rw [beq_eq_false_iff_ne]; omega
        have RD := read_any (unhide HP) (unhide G5) g9 (by omega) g12 g13 a ha j g2
        have hok := rdN_ok (bias := bias) (h := (L' : Int)) (n := n) (nx := nx) (a := a) (unhide HP) (a.size - j) j 1 0 1 (by omega) (by omega) g2
        obtain ⟨r, hr⟩ : ∃ r, rdN ⟨pB, pl, ph, ps, pd, pb, pf⟩ bias L' n nx a (a.size - j) j 1 0 1 = r := ⟨_, rfl⟩
        rw [hr] at RD hok
        have hlb := layF_bad (p := ⟨pB, pl, ph, ps, pd, pb, pf⟩) (a := a) (f := f) (l := l) (j := j) (bias := bias) (d := d) (n := n) (nx := nx) (r := r) hjn (by rw [unhide G1]; exact h4) (by rw [unhide G1]; exact hr)
        have hlr := layF_rune (p := ⟨pB, pl, ph, ps, pd, pb, pf⟩) (a := a) (f := f) (l := l) (j := j) (bias := bias) (d := d) (n := n) (nx := nx) (r := r) hjn (by rw [unhide G1]; exact h4) (by rw [unhide G1]; exact hr)
        have hln := layF_next (p := ⟨pB, pl, ph, ps, pd, pb, pf⟩) (a := a) (f := f) (l := l) (j := j) (bias := bias) (d := d) (n := n) (nx := nx) (r := r) hjn (by rw [unhide G1]; exact h4) (by rw [unhide G1]; exact hr)
        rw [unhide G1] at hlr hln
        have HRD := hide RD
        have HLB := hide hlb
        have HLR := hide hlr
        have HLN := hide hln
        clear RD hlb hlr hln hr
        obtain ⟨rv, re, ree⟩ := r
        dsimp only at hok HRD HLB HLR HLN
        by_cases he : ree = 0
        · subst he
          obtain ⟨k0, k1, -⟩ := hok
          obtain ⟨k1, k2, k3, k4⟩ := k1 rfl
          have q1 : 1 ≤ (L' : Int) + 1 := by omega
          have q2 : 0 ≤ (rv + nx) / ((L' : Int) + 1) := Int.ediv_nonneg (by omega) (by omega)
          have q3 : 0 ≤ (rv + nx) % ((L' : Int) + 1) := Int.emod_nonneg _ (by omega)
          have q4 : (rv + nx) % ((L' : Int) + 1) < (L' : Int) + 1 := Int.emod_lt_of_pos _ (by omega)
          have k5 := not_over k4 g12.1 g13.1 ⟨by omega, by omega⟩ k3
          have SY := fun (W : World) (hC : CAt W c ⟨pB, pl, ph, ps, pd, pb, pf⟩ bias d L' n nx) => says_any (v := rv) hC (by omega) (by omega) g12 g13 (by omega)
          obtain ⟨z, hz⟩ : ∃ z, n + (rv + nx) / ((L' : Int) + 1) = z := ⟨_, rfl⟩
          obtain ⟨i, hi⟩ : ∃ i : Nat, (rv + nx) % ((L' : Int) + 1) = (i : Int) := ⟨((rv + nx) % ((L' : Int) + 1)).toNat, by omega⟩
          rw [hz, hi] at SY
          have hz2 : 0 ≤ z ∧ z ≤ 1114111 := by omega
          have hi2 : i ≤ L' := by omega
          have HSY := hide SY
          have HZ := hide hz
          have HI := hide hi
          clear SY hz hi q2 q3 q4 k4
          have e0 : ((0 : Int) != 0) = false := by decide
          by_cases hwz : widthOf z = 0
          · obtain rfl : R = ([], re, 12) := (unhide G15).symm.trans (unhide HLR rfl (by rw [unhide HZ]; exact hwz))
            have hwb : (widthOf z == 0) = true := by rw [hwz]; rfl
            go_wp2_with (first | (go_at_call 51; refine (unhide HRD).mono ?_; rintro e w2 ⟨rfl, q, rfl⟩) | (go_at_call 52; refine (unhide HSY (wr.drewN _) (unhide G5)).mono ?_; rintro e w3 ⟨rfl, q', rfl⟩) | (go_at_call 24; refine (width_any _ _).mono ?_; rintro e w4 ⟨rfl, rfl⟩))
            go_ret3
            exact ⟨⟨_, rfl⟩, below_drewC (unhide G6) _⟩
          · have hwb : (widthOf z == 0) = false := by rw [beq_eq_false_iff_ne]; exact hwz
            have G15' := hide ((unhide HLN rfl (unhide HZ) hwz (unhide HI)).symm.trans (unhide G15))
            go_wp2_with (first | (go_at_call 51; refine (unhide HRD).mono ?_; rintro e w2 ⟨rfl, q, rfl⟩) | (go_at_call 52; refine (unhide HSY (wr.drewN _) (unhide G5)).mono ?_; rintro e w3 ⟨rfl, q', rfl⟩) | (go_at_call 24; refine (width_any _ _).mono ?_; rintro e w4 ⟨rfl, rfl⟩))
            have olt := own_ltB (unhide G4)
            have clt : c < wr.heap.size := (unhide G5).lt
            have hwA : ((wr.drewN (q + q')).alloc (.cells #[.int .i32 z] 21)).heap.size = wr.heap.size + 1 := by simp
            refine (insRb_any (lo := lo) (vb := wr.heap.size) (zs := l) (x := z) (unhide G1) (World.ownsRow.alloc (w := wr.drewN (q + q')) (unhide G4) _) (by omega) (Blk.new (wr.drewN (q + q')) _ _) (fun e => by have := (olt _ e).2; omega) hi2 (by omega)).mono ?_
            rintro e w5 ⟨v', rfl, h5, h6⟩
            have C5 : CAt w5 c ⟨pB, pl, ph, ps, pd, pb, pf⟩ bias d L' n nx := Blk.kept (Blk.alloc (W := wr.drewN (q + q')) (unhide G5) _) h6 (fun e => unhide G7 e.symm)
            have B5 : Below lo W w5 := ((below_drewC (unhide G6) (q + q')).alloc (by show lo ≤ wr.heap.size; omega) _).grown h6 (by omega) (fun k e => (olt k e).1)
            have N5 : v'.ownBlock ≠ some c := own_neC h5 C5 (by decide)
            have GO := goOn_any (W := w5) (r := z) (s := (i : Int)) (unhide HP) C5 (v := rv) (by omega) (by omega) g10 (by omega)
            have hvf : ∃ va vc, v' = .slice va (L' + 1) vc := by
              rcases h5.2 with ⟨rfl, h0⟩ | ⟨g, cap, cur, rfl, _⟩
              · omega
              · exact ⟨_, cap, rfl⟩
            obtain ⟨va', vc', rfl⟩ := hvf
            have H5 := hide h5
            have HB5 := hide B5
            have HN5 := hide N5
            have HGO := hide GO
            have C5l : c < w5.heap.size := C5.lt
            clear h5 h6 C5 B5 N5 GO olt hwA
            go_wp2_with (go_at_call 49; refine (unhide HGO).mono ?_; rintro e w6 ⟨rfl, h7, h8, h9⟩)
            have H7 := hide h7
            have H9 := hide h9
            clear h7 h8 h9
            go_roundw
            case rel =>
              have e1 : ((L' : Int) + 1) = ((L' + 1 : Nat) : Int) := by omega
              have hb := adp_in (unhide HP) k3 (show rv < 2 ^ 60 by omega) q1 g10.1
              refine ⟨l.take i ++ z :: l.drop i, L' + 1, re + 1, f, _, 2, z, (i : Int) + 1, ?_, by go_num, by omega, by omega, World.ownsRow.kept (unhide H5) (unhide H7) (Or.inr (unhide HN5)), ?_, (unhide HB5).trans (grownC_below (unhide H7) g8 (by omega)), unhide HN5, g8, hb, by omega, by omega, hz2, by omega, ?_, unhide G15'⟩
              · have := unhide G1
                simp; omega
              · rw [← e1]; exact unhide H9
              · intro y hy
                rcases List.mem_append.1 hy with h | h
                · exact unhide G14 y (List.mem_of_mem_take h)
                · rcases List.mem_cons.1 h with rfl | h
                  · exact hwz
                  · exact unhide G14 y (List.mem_of_mem_drop h)
            case measure => simp [intOf]; omega
        · have he2 : (ree != 0) = true := by simpa using he
          have he3 : (ree == 0) = false := by simpa using he
          obtain rfl : R = ([], re, ree) := (unhide G15).symm.trans (unhide HLB he)
          clear hok
          go_wp2_with (go_at_call 51; refine (unhide HRD).mono ?_; rintro e w2 ⟨rfl, q, rfl⟩)
          go_ret3
          exact ⟨⟨_, rfl⟩, below_drewC (unhide G6) q⟩
    · have hj1 : ¬ (j : Int) < (a.size : Int) := by omega
      obtain rfl : R = (l, 0, 0) := (unhide G15).symm.trans (layF_end (by omega))
      go_wp2_with fail
      go_ret3
      exact ⟨_, rfl, unhide G6, by rw [unhide G1]; exact unhide G4, by rw [unhide G1]; exact g11, unhide G14⟩
end Go.Proofs.Ythjndkjbjflmfaa
