/- The law of soundness (TablesSound). -/
import Derived.Test.YtnnbaodillnkkaaGreatTmC
import Derived.Test.YtnnbaodillnkkaaGreatArgI
namespace Go.Proofs.YtnnbaodillnkkaaGreat
open Go.RowKit Go.Shelf Go.Maps
set_option linter.unusedVariables false
/-- The law at work: the table's box, the table, the runes. -/
structure SnW (W w : World) (T : TV) (a0 a1 a2 a3 a4 a5 a6 a7 : Option Addr) (c0 c1 c2 c3 c4 c5 c6 c7 : Nat) (us : List Value) (b : Option Addr) (ls : List Int) : Prop where
  bl : Below W.heap.size W w
  ti : TabIn w T a0 a1 a2 a3 a4 a5 a6 a7 us
  bx : Blk w W.heap.size #[.slice a0 T.sc.length c0, .slice a1 T.co.length c1, .slice a2 T.ma.length c2, .slice a3 T.pr.length c3, .slice a4 T.fo.length c4, .slice a5 T.lk.length c5, .slice a6 T.dr.length c6, .slice a7 T.al.length c7] 32
  rn : RnC w w.heap.size b ls
theorem SnW.below {W w w' : World} {T : TV} {a0 a1 a2 a3 a4 a5 a6 a7 : Option Addr} {c0 c1 c2 c3 c4 c5 c6 c7 : Nat} {us : List Value} {b : Option Addr} {ls : List Int} (h : SnW W w T a0 a1 a2 a3 a4 a5 a6 a7 c0 c1 c2 c3 c4 c5 c6 c7 us b ls) (hb : Below w.heap.size w w') : SnW W w' T a0 a1 a2 a3 a4 a5 a6 a7 c0 c1 c2 c3 c4 c5 c6 c7 us b ls := ⟨h.bl.trans (hb.mono h.bl.size), h.ti.lower hb, h.bx.below hb h.bx.lt, h.rn.below hb⟩
theorem wp_snG {c : Code} {Q : Exit → Act → World → Prop} {w : World} {a : Act} (B : Nat) (v1 : Value) (h : ∃ U, a = snG B v1 U) (k : ∀ U, Code.wp Tryz.prog c Q (snG B v1 U) w) : Code.wp Tryz.prog c Q a w := by
  obtain ⟨U, rfl⟩ := h
  exact k U
theorem argRow_rnC {W : World} {a : Option Addr} {m cap : Nat} {zs : List Int} (h : ArgRow .i32 W a m cap zs) : RnC W W.heap.size a (zs.take m) ∧ (zs.take m).length = m ∧ ∀ y ∈ zs.take m, R32 y := by
  obtain ⟨h1, h2, h3, h4⟩ := h
  refine ⟨fun h0 => ?_, by rw [List.length_take]; omega, fun y hy => ?_⟩
  · rw [List.length_take] at h0
    obtain ⟨g, o, e1, e2, e3⟩ := h4 (by omega)
    refine ⟨g, o, e1, e2, fun j x hx => ?_⟩
    have hj := (List.getElem?_eq_some_iff.1 hx).1
    rw [List.length_take] at hj
    rw [List.getElem?_take_of_lt (by omega)] at hx
    rw [e3 j (by omega)]
    simp [List.getD, hx]
  · exact r32_wf (h3 y (List.mem_of_mem_take hy))
set_option maxRecDepth 100000 in
set_option maxHeartbeats 16000000 in
theorem sound_any6 (T : TV) (hT : TabB T ∧ TabI T) (a0 a1 a2 a3 a4 a5 a6 a7 : Option Addr) (c0 c1 c2 c3 c4 c5 c6 c7 : Nat) (us : List Value) (b : Option Addr) (m cap : Nat) (zs : List Int) (W : World) (hA : TabIn W T a0 a1 a2 a3 a4 a5 a6 a7 us) (hZ : ArgRow .i32 W b m cap zs) :
    Calls Tryz.prog 4 #[.agg (tabV T a0 a1 a2 a3 a4 a5 a6 a7 c0 c1 c2 c3 c4 c5 c6 c7), .slice b m cap] W fun e w' => e = .returned (.bool true) ∧ Below W.heap.size W w' := by
  obtain ⟨hr, hm, hz⟩ := argRow_rnC hZ
  generalize zs.take m = ls at *
  have hB0 : Below W.heap.size W (W.alloc (.cells (tabV T a0 a1 a2 a3 a4 a5 a6 a7 c0 c1 c2 c3 c4 c5 c6 c7) 32)) := (Below.refl _ W).alloc (Nat.le_refl _) _
  have HL := hide (fun (w : World) (h : TabIn w T a0 a1 a2 a3 a4 a5 a6 a7 us) => large_any T hT.1 a0 a1 a2 a3 a4 a5 a6 a7 c0 c1 c2 c3 c4 c5 c6 c7 us w h)
  have HN := hide (fun (hk : TabOk T) (w : World) (h : TabIn w T a0 a1 a2 a3 a4 a5 a6 a7 us) => new_any6 T hk hT.2 a0 a1 a2 a3 a4 a5 a6 a7 c0 c1 c2 c3 c4 c5 c6 c7 us w h)
  have HT := hide hT.1
  have HM := hide (And.intro hm hz)
  have bA := Blk.new W (tabV T a0 a1 a2 a3 a4 a5 a6 a7 c0 c1 c2 c3 c4 c5 c6 c7) 32
  unfold tabV at hB0 HL bA ⊢
  have HH : Hz (SnW W (W.alloc (.cells #[.slice a0 T.sc.length c0, .slice a1 T.co.length c1, .slice a2 T.ma.length c2, .slice a3 T.pr.length c3, .slice a4 T.fo.length c4, .slice a5 T.lk.length c5, .slice a6 T.dr.length c6, .slice a7 T.al.length c7] 32)) T a0 a1 a2 a3 a4 a5 a6 a7 c0 c1 c2 c3 c4 c5 c6 c7 us b ls) := hide ⟨hB0, hA.lower hB0, bA, hr.below hB0⟩
  have z0 := bA.cell 0
  have z1 := bA.cell 1
  have z2 := bA.cell 2
  have z3 := bA.cell 3
  have z4 := bA.cell 4
  have z5 := bA.cell 5
  have z6 := bA.cell 6
  have z7 := bA.cell 7
  clear hA hZ hB0 bA hT hm hz hr
  go_enter Tryz.func4, Tryz.ntmps4
  refine wp_seq_k (fun K1 hK1 => ?_)
  have HK1 := hide hK1
  clear hK1
  go_wp2_with fail
  refine unhide HK1 _ _ ?_
  clear HK1 K1
  generalize W.alloc (.cells #[.slice a0 T.sc.length c0, .slice a1 T.co.length c1, .slice a2 T.ma.length c2, .slice a3 T.pr.length c3, .slice a4 T.fo.length c4, .slice a5 T.lk.length c5, .slice a6 T.dr.length c6, .slice a7 T.al.length c7] 32) = w0 at *
  refine wp_seq_k (fun K2 hK2 => ?_)
  have HK2 := hide hK2
  clear hK2
  go_wp2_with fail
  refine (unhide HL _ (unhide HH).ti).mono ?_
  rintro e w1 ⟨rfl, hb⟩
  have HH1 := hide ((unhide HH).below hb)
  clear hb HH HL z0 z1 z2 z3 z4 z5 z6 z7
  cases hLB : largeB T with
  | true =>
    have HK := hide (known_any6 w1)
    go_wp2_with fail
    refine (unhide HK).mono ?_
    rintro e wk ⟨rfl, hbk⟩
    have HB := hide ((unhide HH1).bl.trans (hbk.mono (unhide HH1).bl.size))
    clear hbk
    go_wp2_with fail
    go_ret
    exact ⟨rfl, unhide HB⟩
  | false =>
    have HO := hide ((unhide HT).ok hLB)
    clear hLB
    by_cases h4 : 400 < m
    · have h4' : (400 : Int) < (m : Int) := by omega
      have HK := hide (known_any6 w1)
      go_wp2_with fail
      refine (unhide HK).mono ?_
      rintro e wk ⟨rfl, hbk⟩
      have HB := hide ((unhide HH1).bl.trans (hbk.mono (unhide HH1).bl.size))
      clear hbk
      go_wp2_with fail
      go_ret
      exact ⟨rfl, unhide HB⟩
    · have h4' : ¬ (400 : Int) < (m : Int) := by omega
      go_wp2_with fail
      refine unhide HK2 _ _ ?_
      clear HK2 K2
      have z0 := (unhide HH1).bx.cell 0
      have z1 := (unhide HH1).bx.cell 1
      have z2 := (unhide HH1).bx.cell 2
      have z3 := (unhide HH1).bx.cell 3
      have z4 := (unhide HH1).bx.cell 4
      have z5 := (unhide HH1).bx.cell 5
      have z6 := (unhide HH1).bx.cell 6
      have z7 := (unhide HH1).bx.cell 7
      refine wp_seq_k (fun K3 hK3 => ?_)
      have HK3 := hide hK3
      clear hK3
      go_wp2_with fail
      refine (unhide HN (unhide HO) _ (unhide HH1).ti).mono ?_
      rintro e w2 ⟨p, rfl, hv⟩
      clear z0 z1 z2 z3 z4 z5 z6 z7 HN
      have hbw : Below w2.heap.size w2 (w2.alloc (.cells #[.int .i64 (checkV T).1, .int .i64 (checkV T).2.1, .int .i64 (checkV T).2.2] 37)) := (Below.refl _ w2).alloc (Nat.le_refl _) _
      have HH2 := hide (((unhide HH1).below hv.bl).below hbw)
      unfold wrV
      by_cases hck : (checkV T).1 = 0
      · obtain ⟨hO, B, rfl, _, hbk⟩ := hv.ok hck
        have HX := hide (And.intro hO (And.intro (right6_of hck) (hbk.below hbw)))
        clear hO hbk hv hbw hck
        generalize checkV T = x at *
        obtain ⟨x0, x1, x2⟩ := x
        dsimp only at HH2 HX ⊢
        go_wp2_with fail
        refine unhide HK3 _ _ ?_
        clear HK3 K3
        generalize w2.alloc (.cells #[.int .i64 x0, .int .i64 x1, .int .i64 x2] 37) = w3 at *
        refine wp_seq_k (fun K4 hK4 => ?_)
        have HK4 := hide hK4
        clear hK4
        go_wp2_with fail
        refine unhide HK4 _ _ ?_
        clear HK4 K4
        refine wp_seq_k (fun K5 hK5 => ?_)
        refine wp_snG B (.slice b m cap) (by delta snG; exact mk_act rfl) (fun U => ?_)
        refine sndG_any (unhide HX).1 B m cap b ls (unhide HM).1 (by omega) U w3 (unhide HX).2.2 (unhide HH2).rn ?_
        rintro a wn p c fs ⟨v8, v9, v10, v11, v12, v17, v18, v19, v20, v21, v27, U2, rfl⟩ hN
        obtain ⟨n1, n2, n3, n4⟩ := unhide hN
        have hl : (ls ++ fs).length ≤ 2000000 := by rw [List.length_append, (unhide HM).1]; omega
        refine hK5 _ _ (sndW_any (unhide HX).1 (unhide HX).2.1 B c p (ls ++ fs) (fun y hy => ?_) hl _ _ _ _ _ _ _ _ _ _ _ U2 wn ((unhide HX).2.2.below n2) n1 ?_)
        · rcases List.mem_append.1 hy with q | q
          · exact (unhide HM).2 y q
          · exact n3 y q
        · intro af wq e1 e2 hq
          refine bodyPost_ret (v := .bool true) (by rw [← e1]; exact results_tmp rfl _ _ _) e2 ⟨rfl, ?_⟩
          have q1 := (unhide HH2).bl.trans (n2.mono (unhide HH2).bl.size)
          exact q1.trans ((unhide hq).mono q1.size)
      · obtain rfl := hv.no hck
        clear hv hbw hck
        generalize checkV T = x at *
        obtain ⟨x0, x1, x2⟩ := x
        dsimp only at HH2 ⊢
        go_wp2_with fail
        refine unhide HK3 _ _ ?_
        clear HK3 K3
        generalize w2.alloc (.cells #[.int .i64 x0, .int .i64 x1, .int .i64 x2] 37) = w3 at *
        have HK := hide (known_any6 w3)
        go_wp2_with fail
        refine (unhide HK).mono ?_
        rintro e wk ⟨rfl, hbk⟩
        have HB := hide ((unhide HH2).bl.trans (hbk.mono (unhide HH2).bl.size))
        clear hbk
        go_wp2_with fail
        go_ret
        exact ⟨rfl, unhide HB⟩
end Go.Proofs.YtnnbaodillnkkaaGreat
