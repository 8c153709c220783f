/- A Book of tables: chains of wholes. -/
import Derived.Test.YtnnbaodillnkkaaGreatTlH
import Derived.Maps.RangeWalk
namespace Go.Proofs.YtnnbaodillnkkaaGreat
open Go.RowKit Go.Shelf Go.Maps
set_option linter.unusedVariables false
set_option maxRecDepth 100000 in
set_option maxHeartbeats 2000000 in
theorem firstRow_PairF (list : Int) (zs : List (Int × Int × Int)) (hn : zs.length ≤ 1000000) (a : Option Addr) (c G : Nat) (fs lb : Array Value) (eg : ∀ args w, (callFunc G args).run Tryz.prog w = .ok (.enter G args) w)
    (f : Nat → Int) (X : Nat → Prop) (J : Nat → World → Prop) (lo : Nat) (W : World) (hlo : lo ≤ W.heap.size) (hX : ∀ b, X b → lo ≤ b ∧ b < W.heap.size) (hr : RowC W lo a (encP3 zs)) (h0 : J 0 W)
    (hst : ∀ i w w', J i w → Below w.heap.size w w' → J i w')
    (hcall : ∀ (i : Nat) (x : (Int × Int × Int)) (w : World), zs[i]? = some x → KeptX X W w → J i w → Calls Tryz.prog G (fs ++ #[.agg #[.int .i32 x.1, .int .i32 x.2.1, .int .i32 x.2.2]] ++ lb) w fun e w' => e = .returned (.int .i64 (f i)) ∧ J (i + 1) w' ∧ KeptX X w w') :
    Calls Tryz.prog 78 #[.int .i64 list, .slice a zs.length c, .func (.func G) fs lb] W fun e w' => e = .returned (wrV (rowsW list zs.length f)) ∧ KeptX X W w' := by
  have hB0 : Below W.heap.size W (W.alloc (.cells #[.int .i64 0, .int .i64 0, .int .i64 0] 37)) := (Below.refl _ W).alloc (Nat.le_refl _) _
  have HS0 := hide (And.intro (keptX_of hB0 X) (And.intro (Blk.new W #[.int .i64 0, .int .i64 0, .int .i64 0] 37) (hst 0 _ _ h0 hB0)))
  have HA := hide hr
  have HX := hide (And.intro hlo hX)
  have HC := hide (And.intro hst hcall)
  clear hB0 hr hlo hX hst hcall h0
  go_enter Tryz.func78, Tryz.ntmps78
  go_wp2
  generalize W.alloc (.cells #[.int .i64 0, .int .i64 0, .int .i64 0] 37) = w1 at *
  go_loopw [7, 8, 9, 12] (fun _ _ _ s12 wr => ∃ k : Nat, k ≤ zs.length ∧ s12 = .int .i64 k ∧ Hz (∀ i, i < k → f i = 0) ∧ Hz (KeptX X W wr ∧ Blk wr W.heap.size #[.int .i64 0, .int .i64 0, .int .i64 0] 37 ∧ J k wr)) (fun _ _ _ s12 _ => zs.length - (intOf s12).toNat)
  case atStart => exact ⟨0, Nat.zero_le _, rfl, hide (fun i hi => absurd hi (Nat.not_lt_zero _)), HS0⟩
  case round =>
    obtain ⟨k, hk, rfl, HF, HS⟩ := hrel
    clear HS0
    by_cases hkn : k < zs.length
    · obtain ⟨x, hx⟩ : ∃ x, zs[k]? = some x := ⟨_, List.getElem?_eq_getElem hkn⟩
      obtain ⟨g, q, rfl, hg, hc⟩ := unhide HA (by rw [encP3_length]; omega)
      have e0 : W.cell? ⟨g, q + k * 3, none⟩ = some (.int .i32 x.1) := hc _ _ (encP3_at _ k x hx).1
      have e1 : W.cell? ⟨g, q + k * 3 + 1, none⟩ = some (.int .i32 x.2.1) := hc _ _ (encP3_at _ k x hx).2.1
      have e2 : W.cell? ⟨g, q + k * 3 + 2, none⟩ = some (.int .i32 x.2.2) := hc _ _ (encP3_at _ k x hx).2.2
      have hgX : ¬ X g := fun q => by have := (unhide HX).2 g q; omega
      have hgW : g < W.heap.size := by have := (unhide HX).1; omega
      have c0 : wr.cell? ⟨g, q + k * 3, none⟩ = some (.int .i32 x.1) := ((unhide HS).1.cell (p := ⟨g, q + k * 3, none⟩) hgW hgX).trans e0
      have c1 : wr.cell? ⟨g, q + k * 3 + 1, none⟩ = some (.int .i32 x.2.1) := ((unhide HS).1.cell (p := ⟨g, q + k * 3 + 1, none⟩) hgW hgX).trans e1
      have c2 : wr.cell? ⟨g, q + k * 3 + 2, none⟩ = some (.int .i32 x.2.2) := ((unhide HS).1.cell (p := ⟨g, q + k * 3 + 2, none⟩) hgW hgX).trans e2
      have hB : Below wr.heap.size wr (wr.alloc (.cells #[.int .i32 x.1, .int .i32 x.2.1, .int .i32 x.2.2] 56)) := (Below.refl _ wr).alloc (Nat.le_refl _) _
      have HL := hide (unhide HC).2
      have HCL := hide (unhide HL k x (wr.alloc (.cells #[.int .i32 x.1, .int .i32 x.2.1, .int .i32 x.2.2] 56)) hx ((unhide HS).1.trans (keptX_of hB X)) ((unhide HC).1 k _ _ (unhide HS).2.2 hB))
      have HR := hide (((unhide HS).1.trans (keptX_of hB X)))
      have HRB := hide ((unhide HS).2.1.alloc (.cells #[.int .i32 x.1, .int .i32 x.2.1, .int .i32 x.2.2] 56))
      have HRX : Hz (¬ X W.heap.size) := hide (fun q => by have := (unhide HX).2 _ q; omega)
      have hk1 : (k : Int) < (zs.length : Int) := by omega
      have hk2 : ((k : Nat) : Int).toNat = k := by omega
      have HFK : Hz (f k = 0 → ∀ i, i < k + 1 → f i = 0) := hide (fun h i hi => by
        rcases Nat.lt_or_ge i k with h1 | h1
        · exact unhide HF i h1
        · obtain rfl : i = k := by omega
          exact h)
      have HFB : Hz (f k ≠ 0 → rowsW list zs.length f = (f k, list, (k : Int))) := hide (fun h => rowsW_bad k hkn (unhide HF) h)
      obtain ⟨x1, x2, x3⟩ := x
      dsimp only at c0 c1 c2 HCL HR HRB
      clear hx hc hB HL HS HF e0 e1 e2 hgX hgW hg
      generalize f k = y at *
      by_cases hy : y = 0
      · subst hy
        have HFK2 := hide (unhide HFK rfl)
        clear HFK HFB
        go_wp2_with (go_at_fn G; refine (unhide HCL).mono ?_; rintro e w' ⟨rfl, hj', hk'⟩)
        exact ⟨⟨k + 1, by omega, by go_num, HFK2, hide ⟨(unhide HR).trans hk', hk'.blk (unhide HRB) (unhide HRX), hj'⟩⟩, by simp [intOf]; omega⟩
      · have hy1 : (y == 0) = false := by simpa using hy
        have HFB2 := hide (unhide HFB hy)
        clear HFK HFB
        go_wp2_with (go_at_fn G; refine (unhide HCL).mono ?_; rintro e w' ⟨rfl, hj', hk'⟩; have HRB2 := hide (hk'.blk (unhide HRB) (unhide HRX)); have r0 := (unhide HRB2).cell 0; have r1 := (unhide HRB2).cell 1; have r2 := (unhide HRB2).cell 2; have f0 := (unhide HRB2).frozen 0; have f1 := (unhide HRB2).frozen 1; have f2 := (unhide HRB2).frozen 2)
        rw [unhide HFB2]
        exact bodyPost_ret (v := wrV (y, list, (k : Int))) (ret3 Tryz.results78 rfl (blk3 (unhide HRB2) _ _ _) rfl) rfl ⟨rfl, ((unhide HR).trans hk').set3 (Nat.le_refl _) _ _ _⟩
    · have hk1 : ¬ (k : Int) < (zs.length : Int) := by omega
      have HO2 : Hz (rowsW list zs.length f = (0, 0, 0)) := hide (rowsW_ok (fun i hi => unhide HF i (by omega)))
      have r0 := (unhide HS).2.1.cell 0
      have r1 := (unhide HS).2.1.cell 1
      have r2 := (unhide HS).2.1.cell 2
      have f0 := (unhide HS).2.1.frozen 0
      have f1 := (unhide HS).2.1.frozen 1
      have f2 := (unhide HS).2.1.frozen 2
      go_wp2_with fail
      rw [unhide HO2]
      exact bodyPost_ret (v := wrV (0, 0, 0)) (ret3 Tryz.results78 rfl (blk3 (unhide HS).2.1 _ _ _) rfl) rfl ⟨rfl, (unhide HS).1.set3 (Nat.le_refl _) _ _ _⟩
theorem key32 {v : Value} {k : Lit} (h : keyOf Tryz.prog 21 v = some k) : ∃ r, v = .int .i32 r ∧ k = .int .i32 r ∧ R32 r := by
  rw [keyOf_int Tryz.underlying21] at h
  unfold mapKey at h
  rw [Tryz.underlying21] at h
  cases v <;> simp at h
  obtain ⟨⟨rfl, hw⟩, rfl⟩ := h
  refine ⟨_, rfl, rfl, ?_⟩
  simp [Lit.wf, IntKind.min, IntKind.max, IntKind.signed, IntKind.bits] at hw
  exact hw
theorem owns_keys {P : Program} {w : World} {k : TypeId} {R : Value → Option (DataW Unit × List MemPlace)} {b n : Nat} {es : List (Lit × DataW Unit)} (h : w.ownsMap P k R b n (.map es)) : ∀ p ∈ es, ∃ v, keyOf P k v = some p.1 := by
  obtain ⟨es0, clock, _, F, _, e⟩ := h
  injection e with e
  subst e
  intro p hp
  obtain ⟨x, hx, rfl⟩ := List.mem_map.1 (mem_sorted.1 hp)
  obtain ⟨y, hy⟩ := F.reads x hx
  exact ⟨x.key, by rw [WideElems.rg_of hy]; exact WideElems.rd_key hy⟩
/-- A map whose keys are the runes of a list, none twice: so many. -/
theorem map_size {w : World} {R : Value → Option (DataW Unit × List MemPlace)} {M n : Nat} {D : DataW Unit} (ho : w.ownsMap Tryz.prog 21 R M n D) (ks : List Int) (hnd : ks.Pairwise (· ≠ ·)) (h32 : ∀ r ∈ ks, R32 r) (hk : ∀ r, R32 r → (Maps.has D (.int .i32 r) = true ↔ r ∈ ks)) : Maps.size D = ks.length := by
  obtain ⟨es, rfl, hp, hkl⟩ := ho.entries (int_keyed Tryz.underlying21)
  have hkeys := owns_keys ho
  have e1 : (es.map (·.1)).Perm (ks.map (fun r => Lit.int .i32 r)) := by
    refine (List.perm_ext_iff_of_nodup ?_ ?_).2 (fun a => ?_)
    · rw [List.nodup_iff_pairwise_ne, List.pairwise_map]
      exact hp
    · rw [List.nodup_iff_pairwise_ne, List.pairwise_map]
      exact hnd.imp (fun h e => h (by injection e))
    · rw [List.mem_map, List.mem_map]
      constructor
      · rintro ⟨p, hpm, rfl⟩
        obtain ⟨v, hv⟩ := hkeys p hpm
        obtain ⟨r, _, e, hr⟩ := key32 hv
        refine ⟨r, (hk r hr).1 ?_, e.symm⟩
        rw [← e]
        exact List.any_eq_true.2 ⟨p, hpm, WideAt.sameKey_self (hkl p hpm)⟩
      · rintro ⟨r, hr, rfl⟩
        obtain ⟨p, hpm, hs⟩ := List.any_eq_true.1 ((hk r (h32 r hr)).2 hr)
        exact ⟨p, hpm, WideAt.sameKey_eq hs⟩
  have := e1.length_eq
  rw [List.length_map, List.length_map] at this
  exact this
theorem PaAt.len {T : TV} (hO : RowsOk T) {w : World} {M n : Nat} (h : PaAt w M n T.pr) (ty : TypeId) : (Builtin.len_ #[78] ty #[.map (some M)]).run Tryz.prog w = .ok (.int .i64 (T.pr.length : Nat)) w := by
  obtain ⟨G, ⟨D, ho, hD⟩, hg⟩ := h.mp
  rw [ho.len Tryz.underlying78 ty]
  have := map_size ho (T.pr.map (·.1)) (by rw [List.pairwise_map]; exact hO.t3) (fun r hr => by
    obtain ⟨x, hx, rfl⟩ := List.mem_map.1 hr
    exact rune32 (hO.f3 x hx).1) (fun r hr => by
    rw [(hD (.int .i32 r) trivial).1, List.mem_map]
    rcases hg r hr with ⟨h1, h2⟩ | ⟨x, hx, e, h2⟩
    · rw [h2]
      constructor
      · intro q; cases q
      · rintro ⟨x, hx, e⟩
        exact absurd e (h1 x hx)
    · rw [h2]
      exact ⟨fun _ => ⟨x, hx, e⟩, fun _ => rfl⟩)
  rw [this, List.length_map]
theorem whol_mem {T : TV} {r : Int} {q : Int × Int × Int} (h : wholP T r = some q) : q ∈ T.pr := List.mem_of_find?_eq_some h
/-- How far a chain is. -/
structure ChS (w wr : World) (B : Nat) (T : TV) (b0 : Int) (n : Nat) (cur : Int) : Prop where
  n1 : 1 ≤ n
  nl : n ≤ T.pr.length
  ch : chainF T T.pr.length b0 1 = chainF T (T.pr.length - n + 1) cur n
  bl : Below w.heap.size w wr
  bk : BookAt wr B T
set_option maxRecDepth 100000 in
set_option maxHeartbeats 4000000 in
theorem bkChain_any {T : TV} (hO : RowsOk T) (B : Nat) (x : Int × Int × Int) (hx : x ∈ T.pr) (w : World) (h : BookAt w B T) :
    Calls Tryz.prog 103 #[.pointer (some ⟨B, 0, none⟩), .agg #[.int .i32 x.1, .int .i32 x.2.1, .int .i32 x.2.2]] w fun e w' => e = .returned (.int .i64 (prR T x)) ∧ Below w.heap.size w w' := by
  have hlen : 0 < T.pr.length := List.length_pos_of_mem hx
  have hL := hO.l3
  have h2 := rune32 (hO.f3 x hx).2.1
  obtain ⟨x1, x2, x3⟩ := x
  dsimp only at h2 ⊢
  have hB : Below w.heap.size w (w.alloc (.cells #[.int .i32 x1, .int .i32 x2, .int .i32 x3] 56)) := (Below.refl _ w).alloc (Nat.le_refl _) _
  have q1 := (Blk.new w #[.int .i32 x1, .int .i32 x2, .int .i32 x3] 56).cell 1
  have HP := hide (bkPair_any hO B x2 h2 _ (h.below hB))
  have HB := hide (And.intro hB (h.below hB))
  have HPR : Hz (∀ m, chainF T T.pr.length x2 1 = m → prR T (x1, x2, x3) = match m with | none => 33 | some n => if 4 < n then 34 else 0) := hide (fun m e => by unfold prR; dsimp only; rw [e]; cases m <;> rfl)
  have HO := hide hO
  clear hB h hO h2 hx
  go_enter Tryz.func103, Tryz.ntmps103
  go_wp2_with fail
  refine (unhide HP).mono ?_
  rintro e w2 ⟨rfl, hb⟩
  have H0 : Hz (ChS w w2 B T x2 1 x2) := hide ⟨Nat.le_refl _, hlen, by rw [Nat.sub_add_cancel hlen], (unhide HB).1.trans (hb.mono (unhide HB).1.size), (unhide HB).2.below hb⟩
  clear hb HB HP q1
  unfold pairT
  obtain ⟨bs, hbs⟩ : ∃ bs, ((wholP T x2).map (·.2.1)).getD 0 = bs := ⟨_, rfl⟩
  obtain ⟨mk, hmk⟩ : ∃ mk, ((wholP T x2).map (·.2.2)).getD 0 = mk := ⟨_, rfl⟩
  obtain ⟨mo, hmo⟩ : ∃ mo, (wholP T x2).isSome = mo := ⟨_, rfl⟩
  rw [hbs, hmk, hmo]
  have H0' : Hz (∃ cur, ((wholP T cur).map (·.2.1)).getD 0 = bs ∧ (wholP T cur).isSome = mo ∧ ChS w w2 B T x2 1 cur) := hide ⟨x2, hbs, hmo, unhide H0⟩
  clear hbs hmk hmo H0
  go_wp2_with fail
  go_loopw [5, 6, 8] (fun s5 s6 s8 wr => ∃ (n : Nat) (bs : Int) (mo : Bool), n ≤ 4096 ∧ s5 = .int .i64 n ∧ s6 = .int .i32 bs ∧ s8 = .bool mo ∧ Hz (∃ cur, ((wholP T cur).map (·.2.1)).getD 0 = bs ∧ (wholP T cur).isSome = mo ∧ ChS w wr B T x2 n cur)) (fun s5 _ _ _ => T.pr.length - (intOf s5).toNat)
  case atStart => exact ⟨1, bs, mo, by omega, rfl, rfl, rfl, H0'⟩
  case round =>
    clear H0'
    obtain ⟨n, bs1, mo1, hn, rfl, rfl, rfl, HS⟩ := hrel
    obtain ⟨cur, hbs, hmo, hS⟩ := unhide HS
    clear HS
    cases hq : wholP T cur with
    | none =>
      rw [hq] at hmo
      obtain rfl : mo1 = false := hmo.symm
      have HV : Hz (prR T (x1, x2, x3) = if 4 < n then 34 else 0) := hide (unhide HPR (some n) (by
        rw [hS.ch]
        show (match wholP T cur with | none => some n | some q => _) = _
        rw [hq]))
      have HS := hide hS
      clear hS hbs hmo hq HPR
      by_cases h4 : 4 < n
      · have h4' : (4 : Int) < (n : Int) := by omega
        go_wp2_with fail
        refine (when_any true 34 _).mono ?_
        rintro e w5 ⟨rfl, hw⟩
        rw [hw]
        clear hw
        go_wp2_with fail
        go_ret
        exact ⟨by rw [unhide HV, if_pos h4]; rfl, (unhide HS).bl⟩
      · have h4' : ¬ (4 : Int) < (n : Int) := by omega
        go_wp2_with fail
        refine (when_any false 34 _).mono ?_
        rintro e w5 ⟨rfl, hw⟩
        rw [hw]
        clear hw
        go_wp2_with fail
        go_ret
        exact ⟨by rw [unhide HV, if_neg h4]; rfl, (unhide HS).bl⟩
    | some q =>
      rw [hq] at hmo hbs
      obtain rfl : mo1 = true := hmo.symm
      obtain rfl : q.2.1 = bs1 := hbs
      obtain ⟨M, mn, c13, hpa⟩ := hS.bk.pas
      have hle := hpa.len (unhide HO)
      have hch : chainF T T.pr.length x2 1 = chainF T (T.pr.length - n) q.2.1 (n + 1) := by
        rw [hS.ch]
        show (match wholP T cur with | none => some n | some q => _) = _
        rw [hq]
      have hb32 := rune32 ((unhide HO).f3 q (whol_mem hq)).2.1
      by_cases hl : n + 1 ≤ T.pr.length
      · have hl' : ¬ (T.pr.length : Int) < (n : Int) + 1 := by omega
        have HC := hide (bkPair_any (unhide HO) B q.2.1 hb32 wr hS.bk)
        have HS := hide (And.intro hch hS)
        have HL := hide hl
        obtain ⟨q1, q2, q3⟩ := q
        dsimp only at HC HS ⊢
        clear hch hS hq hmo hpa hb32 hl
        go_wp2_with fail
        refine (unhide HC).mono ?_
        rintro e w5 ⟨rfl, hb⟩
        have HN : Hz (ChS w w5 B T x2 (n + 1) q2) := hide ⟨by omega, unhide HL, by rw [(unhide HS).1]; congr 1; have := unhide HL; omega, (unhide HS).2.bl.trans (hb.mono (unhide HS).2.bl.size), (unhide HS).2.bk.below hb⟩
        clear hb HC hle c13
        unfold pairT
        obtain ⟨bs2, hbs⟩ : ∃ bs, ((wholP T q2).map (·.2.1)).getD 0 = bs := ⟨_, rfl⟩
        obtain ⟨mk, hmk⟩ : ∃ mk, ((wholP T q2).map (·.2.2)).getD 0 = mk := ⟨_, rfl⟩
        obtain ⟨mo2, hmo⟩ : ∃ mo, (wholP T q2).isSome = mo := ⟨_, rfl⟩
        rw [hbs, hmk, hmo]
        have HN' : Hz (∃ cur, ((wholP T cur).map (·.2.1)).getD 0 = bs2 ∧ (wholP T cur).isSome = mo2 ∧ ChS w w5 B T x2 (n + 1) cur) := hide ⟨q2, hbs, hmo, unhide HN⟩
        clear hbs hmk hmo HN
        go_wp2_with fail
        exact ⟨⟨n + 1, bs2, mo2, by have := unhide HL; omega, by go_num, rfl, rfl, HN'⟩, by have := unhide HL; simp [intOf]; omega⟩
      · have hl' : (T.pr.length : Int) < (n : Int) + 1 := by omega
        have HV : Hz (prR T (x1, x2, x3) = 33) := hide (unhide HPR none (by
          rw [hch, show T.pr.length - n = 0 by omega]
          rfl))
        have HS := hide hS
        clear hch hS hq hmo hpa hb32 HPR
        go_wp2_with fail
        go_ret
        exact ⟨by rw [unhide HV]; rfl, (unhide HS).bl⟩
end Go.Proofs.YtnnbaodillnkkaaGreat
