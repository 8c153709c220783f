/- RulesLimits: around the greatest length that is printed. -/
import Derived.Test.YtbefahknbdjnpaaGreatDoorM29
import Derived.Test.YtbefahknbdjnpaaGreatDoorM23
namespace Go.Proofs.YtbefahknbdjnpaaGreatDoor
open Go.RowKit Go.Shelf
set_option linter.unusedVariables false
def tabsV (v : Value) : Array Value := #[.slice none 0 0, .slice none 0 0, v, .slice none 0 0, .slice none 0 0, .slice none 0 0, .slice none 0 0, .slice none 0 0]
/-- The table that is being made: its marks. -/
structure LmSt (W0 W : World) (N : Nat) (v : Value) (xs : List (Int × Int)) : Prop where
  b : Blk W N (tabsV v) 33
  o : W.ownsRow (N + 1) 62 2 v xs.length (encM2 xs)
  gr : Below W0.heap.size W0 W
  lo : W0.heap.size ≤ N
theorem LmSt.alloc {W0 W : World} {N : Nat} {v : Value} {xs : List (Int × Int)} (h : LmSt W0 W N v xs) (o : Obj) : LmSt W0 (W.alloc o) N v xs :=
  ⟨h.b.alloc o, h.o.alloc o, h.gr.trans ((Below.refl _ W).alloc h.gr.size o), h.lo⟩
theorem LmSt.put {W0 W W1 : World} {N : Nat} {v v' : Value} {xs : List (Int × Int)} {c : Int} (h : LmSt W0 W N v xs) (ho : W1.ownsRow (N + 1) 62 2 v' (xs.length + 1) (encM2 xs ++ [.int .i32 768, .int .i64 c])) (hg : W.grownBy W1 v.ownBlock) : LmSt W0 (W1.setCell ⟨N, 2, none⟩ v') N v' (xs ++ [(768, c)]) := by
  have hb := h.b.kept hg (fun e => by have := rd_from h.o N e.symm; omega)
  have hN := h.lo
  refine ⟨hb.set 2 v', ?_, ?_, h.lo⟩
  · rw [List.length_append, encM2_app]
    exact rd_other ho (grown_set' W1 N 2 v') (.inr fun e => by have := rd_from ho N e; omega)
  · refine (h.gr.grown hg h.gr.size (fun k hk => by have := rd_from h.o k hk; omega)).setCell (p := ⟨N, 2, none⟩) h.lo v'
theorem LmSt.cls {W0 W : World} {N g cap j : Nat} (h : LmSt W0 W N (.slice (some ⟨g, 0, none⟩) 16383 cap) (limM j)) (hj : j < 16383) : LmSt W0 (W.setCell ⟨g, 2 * j + 1, none⟩ (.int .i64 10)) N (.slice (some ⟨g, 0, none⟩) 16383 cap) (limM (j + 1)) := by
  have hg := rd_from h.o g rfl
  have hN := h.lo
  have ho := h.o
  rw [limM_len (by omega)] at ho
  have r := own_set ho (2 * j + 1) (by omega) (.int .i64 10)
  rw [encM2_lim hj] at r
  refine ⟨h.b.kept (grown_set' W g (2 * j + 1) _) (fun e => by have := Option.some.inj e; omega), ?_, h.gr.setCell (p := ⟨g, 2 * j + 1, none⟩) (by show W0.heap.size ≤ g; omega) _, h.lo⟩
  rw [limM_len (by omega)]
  exact r
def mlen (W : World) (N : Nat) : Nat := match W.cell? ⟨N, 2, none⟩ with
  | some (.slice _ n _) => n
  | _ => 0
theorem field_ma (a0 a1 a2 a3 a4 a5 a6 a7 : Option Addr) (n0 n1 n2 n3 n4 n5 n6 n7 c0 c1 c2 c3 c4 c5 c6 c7 : Nat) (w : World) : (Instr.field 33 (.agg #[.slice a0 n0 c0, .slice a1 n1 c1, .slice a2 n2 c2, .slice a3 n3 c3, .slice a4 n4 c4, .slice a5 n5 c5, .slice a6 n6 c6, .slice a7 n7 c7]) 2).run Tryz.prog w = .ok (.slice a2 n2 c2) w := by kernel_rfl
theorem row0 {W : World} {hi : Nat} : RowC W hi none [] := fun h => absurd h (by decide)
theorem lim_in {W0 W : World} {N j cap : Nat} {a : Option Addr} (h : LmSt W0 W N (.slice a 16383 cap) (limM j)) (hj : j ≤ 16383) : TabIn W (limT j) none none a none none none none none [] := by
  have ho := h.o
  rw [limM_len hj] at ho
  exact ⟨rfl, row0, row0, own_rowC ho, row0, row0, row0, row0, row0, fun j x u hx => by simp [limT] at hx⟩
theorem lim_tok {j : Nat} (hj : j ≤ 16383) : TabOk (limT j) := by
  have h0 : (0 : Nat) ≤ 1000000 := by decide
  refine ⟨h0, h0, ?_, h0, h0, h0, h0, h0, by intro x hx; simp [limT] at hx, ?_, by intro x hx; simp [limT] at hx, by intro x hx; simp [limT] at hx⟩
  · show (limM j).length ≤ 1000000
    rw [limM_len hj]
    omega
  · intro x hx
    rcases limM_mem hx with rfl | rfl <;> exact ⟨by decide, by decide⟩
theorem back_le {j : Nat} (hj : j ≤ 16383) (ws : List W8) : (backT ws (limT j)).Le 1000000 := by
  have h1 := limM_len hj
  have h3 : ∀ (l : List (Int × Int)) (k : Nat), (idxL maQ k l).length = l.length := fun l => by
    induction l with
    | nil => intro k; rfl
    | cons x l ih => intro k; show _ + 1 = _ + 1; rw [ih]
  have h2 : ((idxL maQ (kT2 (limT j)) (limM j)).map (atV ws)).length ≤ 1000000 := by rw [List.length_map, h3, h1]; omega
  have h0 : (0 : Nat) ≤ 1000000 := by decide
  exact ⟨h0, h0, by show (limM j).length ≤ _; omega, h0, h0, h0, h0, h0, h0, h0, h2, h0, h0, h0, h0, h0⟩
set_option maxRecDepth 100000 in
set_option maxHeartbeats 4000000 in
theorem limits_any5 (n : Int) (m : Int) (W : World) (hE : EnvK m W) : Calls Tryz.prog 8 #[.int .i64 n] W fun e w' => e = .returned (.bool true) ∧ Below W.heap.size W w' := by
  have hmx : Tryz.prog.follows .mixedOrders = true := by kernel_rfl
  have hbig := hE.p.big
  have HE := hide hE
  have HW := hide (within_any n (-2) 2 (by decide) (by decide) (by decide) W)
  obtain ⟨im, him, hm0, hm1, hm2⟩ := info_parts infoMark
  have HIM := hide (And.intro him (And.intro hm0 (And.intro hm1 hm2)))
  clear him hm0 hm1 hm2 hE
  have hd1 := Int.emod_nonneg n (show (5 : Int) ≠ 0 by decide)
  have hd2 := Int.emod_lt_of_pos n (show (0 : Int) < 5 by decide)
  obtain ⟨j, hj, hj1, hj2⟩ : ∃ j : Nat, -2 + n % (2 - -2 + 1) = (j : Int) - 16 ∧ 14 ≤ j ∧ j ≤ 18 := ⟨(n % 5 + 14).toNat, by show -2 + n % 5 = _; omega, by omega, by omega⟩
  rw [hj] at HW
  clear hj hd1 hd2
  have b0 := Blk.new W (tabsV (.slice none 0 0)) 33
  have HS : Hz (LmSt W (W.alloc (.cells (tabsV (.slice none 0 0)) 33)) W.heap.size (.slice none 0 0) []) := hide ⟨b0, World.ownsRow_nil _ _ _ _, (Below.refl _ W).alloc (Nat.le_refl _) _, Nat.le_refl _⟩
  unfold tabsV at HS
  clear b0
  go_enter Tryz.func8, Tryz.ntmps8
  go_wp2_with fail
  refine (unhide HW).mono ?_
  rintro e w1 ⟨rfl, hw1⟩
  rw [hw1]
  clear hw1 HW
  go_wp2_with fail
  generalize W.alloc (.cells #[.slice none 0 0, .slice none 0 0, .slice none 0 0, .slice none 0 0, .slice none 0 0, .slice none 0 0, .slice none 0 0, .slice none 0 0] 33) = w0 at *
  obtain ⟨N, hN⟩ : ∃ N, N = W.heap.size := ⟨_, rfl⟩
  have hNW : Hz (N = W.heap.size) := hide hN
  rw [← hN] at HS ⊢
  clear hN
  go_loopw [12] (fun _ wr => ∃ (k : Nat) (v : Value), k ≤ 16383 ∧ Hz (LmSt W wr N v (List.replicate k (768, 1)))) (fun _ wr => 16383 - mlen wr N)
  case atStart => exact ⟨0, _, by omega, HS⟩
  case round =>
    obtain ⟨k, v, hk, H1⟩ := hrel
    obtain ⟨va, vc, rfl⟩ := own_slice (unhide H1).o
    have hlen : (List.replicate k ((768, 1) : Int × Int)).length = k := List.length_replicate
    have ho := (unhide H1).o
    rw [hlen] at ho H1
    have hNl := (unhide H1).b.lt
    by_cases hkn : k < 16383
    · have z2 : wr.cell? ⟨N, 2, none⟩ = some (.slice va k vc) := (unhide H1).b.cell 2
      have zf := (unhide H1).b.frozen 2
      have k1 : (k : Int) < 16383 := by omega
      have HO := hide ho
      have HM : Hz (mlen wr N = k) := hide (by unfold mlen; rw [show wr.cell? ⟨N, 2, none⟩ = some (.slice va k vc) from z2])
      clear ho
      go_wp2_with (at_builtin; refine append_k rfl _ _ 29 62 rfl im (.agg #[.int .i32 0, .int .i64 0]) 2 16 Tryz.underlying29 (unhide HIM) rfl (by decide) (by decide) (N + 1) _ k (encM2 (List.replicate k (768, 1))) [.int .i32 768, .int .i64 1] rfl rfl (by omega) wr rfl (by intro u hu; simp at hu; rcases hu with rfl | rfl <;> rfl) (unhide HO) (by omega) _ rfl rfl ?_)
      intro v' w' hown hgrow
      have hst := (((unhide H1).alloc (.cells #[.int .i32 768, .int .i64 1] 62)).put (c := 1) (by rw [hlen]; exact hown) hgrow)
      have bN := ((unhide H1).b.alloc (.cells #[.int .i32 768, .int .i64 1] 62)).kept hgrow (fun e => by have := rd_from (unhide HO) N e.symm; omega)
      have y2 := bN.frozen 2
      have y3 : w'.cell? ⟨N, 2, none⟩ = some (.slice va k vc) := bN.cell 2
      obtain ⟨xa, xc, rfl⟩ := own_slice hown
      rw [← List.replicate_succ'] at hst
      have HST := hide hst
      clear hst bN hown hgrow z2 zf HO
      go_wp2_with fail
      have hml : mlen (w'.setCell ⟨N, 2, none⟩ (.slice xa (k + 1) xc)) N = k + 1 := by
        unfold mlen
        rw [show (w'.setCell ⟨N, 2, none⟩ (.slice xa (k + 1) xc)).cell? ⟨N, 2, none⟩ = some (.slice xa (k + 1) xc) from (unhide HST).b.cell 2]
      exact ⟨⟨k + 1, _, by omega, HST⟩, by rw [hml, unhide HM]; omega⟩
    · obtain rfl : k = 16383 := by omega
      obtain ⟨g, rfl⟩ : ∃ g, va = some ⟨g, 0, none⟩ := by
        rcases own_some ho (fun e => absurd e (by decide)) with ⟨_, e, _⟩ | ⟨g, c', e, _⟩
        · exact absurd e (by decide)
        · injection e with e1; exact ⟨g, e1⟩
      rw [← limM_zero] at H1
      have z2 : wr.cell? ⟨N, 2, none⟩ = some (.slice (some ⟨g, 0, none⟩) 16383 vc) := (unhide H1).b.cell 2
      clear ho hlen hkn hk HS
      go_wp2_with fail
      clear z2
      obtain ⟨W2, hW2⟩ : ∃ W2, W2 = wr := ⟨_, rfl⟩
      rw [← hW2] at H1 ⊢
      clear hW2
      go_loopw [5] (fun i wr => ∃ (k : Nat), k ≤ j ∧ i = .int .i64 k ∧ Hz (LmSt W wr N (.slice (some ⟨g, 0, none⟩) 16383 vc) (limM k))) (fun i _ => j - (intOf i).toNat)
      case atStart => exact ⟨0, by omega, rfl, H1⟩
      case round =>
        obtain ⟨k, hk, rfl, H2⟩ := hrel
        have z2 : wr.cell? ⟨N, 2, none⟩ = some (.slice (some ⟨g, 0, none⟩) 16383 vc) := (unhide H2).b.cell 2
        by_cases hkj : k < j
        · have k1 : (k : Int) < 16 + ((j : Int) - 16) := by omega
          have k2 : (k : Int) < 16383 := by omega
          have k3 : ((k : Nat) : Int).toNat = k := by omega
          have HN := hide ((unhide H2).cls (show k < 16383 by omega))
          have ho := (unhide H2).o
          rw [limM_len (by omega)] at ho
          have c1 : wr.cell? ⟨g, k * 2 + 1, none⟩ = some (.int .i64 1) := by
            obtain ⟨g2, o2, e2, _, h2⟩ := own_rowC ho (by rw [encM2_length, limM_len (by omega)]; decide)
            have := h2 _ _ (encM2_at _ k _ (limM_at (show k < 16383 by omega))).2
            injection e2 with e3
            injection e3 with e4 e5
            subst e4
            subst e5
            rw [Nat.zero_add] at this
            exact this
          have f1 : wr.frozen? ⟨g, k * 2 + 1, none⟩ = false := ho.frozenAt _
          rw [show 2 * k + 1 = k * 2 + 1 by omega] at HN
          clear ho
          go_wp2_with fail
          exact ⟨⟨k + 1, by omega, by first | rfl | (congr 1; omega), HN⟩, by simp [intOf]; omega⟩
        · obtain rfl : k = j := by omega
          clear hkj hk
          have k1 : ¬ (k : Int) < 16 + ((k : Int) - 16) := by omega
          have HB2 := hide (unhide H2).gr
          have HE2 := hide ((unhide HE).below (unhide HB2))
          have HPR := hide (print_any (limT k) none none (some ⟨g, 0, none⟩) none none none none none 0 0 vc 0 0 0 0 0 [] wr (lim_in (unhide H2) (by omega)) (lim_tok (by omega)) (unhide HE2).p)
          rw [show (limT k).ma.length = 16383 from limM_len (by omega)] at HPR
          have z0 : wr.cell? ⟨N, 0, none⟩ = some (.slice none 0 0) := (unhide H2).b.cell 0
          have z1 : wr.cell? ⟨N, 1, none⟩ = some (.slice none 0 0) := (unhide H2).b.cell 1
          have z3 : wr.cell? ⟨N, 3, none⟩ = some (.slice none 0 0) := (unhide H2).b.cell 3
          have z4 : wr.cell? ⟨N, 4, none⟩ = some (.slice none 0 0) := (unhide H2).b.cell 4
          have z5 : wr.cell? ⟨N, 5, none⟩ = some (.slice none 0 0) := (unhide H2).b.cell 5
          have z6 : wr.cell? ⟨N, 6, none⟩ = some (.slice none 0 0) := (unhide H2).b.cell 6
          have z7 : wr.cell? ⟨N, 7, none⟩ = some (.slice none 0 0) := (unhide H2).b.cell 7
          have hsz := lim_size (j := k) (by omega)
          by_cases hk16 : 16 < k
          · rw [print_long (lim_ok k) (by rw [← textT_size]; omega)] at HPR
            dsimp only at HPR
            have k2 : (0 : Int) < (k : Int) - 16 := by omega
            clear hsz
            go_wp2_with fail
            refine (show Calls Tryz.prog 16 #[.agg #[.slice none 0 0, .slice none 0 0, .slice (some ⟨g, 0, none⟩) 16383 vc, .slice none 0 0, .slice none 0 0, .slice none 0 0, .slice none 0 0, .slice none 0 0]] wr _ from unhide HPR).mono ?_
            rintro e w3 ⟨rfl, hb3⟩
            have HB3 := hide ((unhide HB2).trans (hb3.mono (unhide HB2).size))
            have HK := hide (known_any5 m w3 ((unhide HE2).below hb3))
            clear hb3 HPR z0 z1 z2 z3 z4 z5 z6 z7
            go_wp2_with fail
            refine (unhide HK).mono ?_
            rintro e w4 ⟨rfl, hb4⟩
            have HB4 := hide ((unhide HB3).trans (hb4.mono (unhide HB3).size))
            clear hb4
            go_wp2_with fail
            go_ret
            exact ⟨rfl, unhide HB4⟩
          · rw [print_text (lim_ok k) (by omega)] at HPR
            dsimp only at HPR
            have k2 : ¬ (0 : Int) < (k : Int) - 16 := by omega
            have HPT := hide (parse_text (lim_ok k))
            have HBL := hide (back_le (show k ≤ 16383 by omega) (wsOf (textT (limT k))))
            have hbm : (backT (wsOf (textT (limT k))) (limT k)).ma.length = 16383 := limM_len (by omega)
            have hbs : (backT (wsOf (textT (limT k))) (limT k)).sc = [] := rfl
            generalize backT (wsOf (textT (limT k))) (limT k) = BT at *
            generalize (wsOf (textT (limT k))).length = nw at *
            generalize textT (limT k) = tx at *
            have hszI : (tx.size : Int) = 262144 + ((k : Int) - 16) := by omega
            have hszb : ((tx.size : Int) == 262144 + ((k : Int) - 16)) = true := by rw [hszI]; simp
            clear hszI
            go_wp2_with fail
            refine (show Calls Tryz.prog 16 #[.agg #[.slice none 0 0, .slice none 0 0, .slice (some ⟨g, 0, none⟩) 16383 vc, .slice none 0 0, .slice none 0 0, .slice none 0 0, .slice none 0 0, .slice none 0 0]] wr _ from unhide HPR).mono ?_
            rintro e w3 ⟨rfl, hb3⟩
            have HB3 := hide ((unhide HB2).trans (hb3.mono (unhide HB2).size))
            have HE3 := hide ((unhide HE2).below hb3)
            have hbig3 := (unhide HE3).p.big
            have HPA := hide (parse_eq tx (by omega) _ (unhide HPT) m w3 (unhide HE3).max (by omega))
            clear hb3 HPR z0 z1 z2 z3 z4 z5 z6 z7 hsz
            go_wp2_with fail
            refine (unhide HPA).mono ?_
            rintro e w4 ⟨v, er, rfl, hb4, hpa⟩
            obtain ⟨rfl, Tx, lo, vs, rfl, hTx, hlo, hTb⟩ := hpa
            have HB4 := hide ((unhide HB3).trans (hb4.mono (unhide HB3).size))
            have HE4 := hide ((unhide HE3).below hb4)
            have HTA := hide (tables_any lo Tx vs BT _ _ _ (unhide HBL) (by rw [hbs]; intro s hs; cases hs) w4 hTb)
            clear hb4 hTb HPA hTx hlo
            go_wp2_with fail
            refine (unhide HTA).mono ?_
            rintro e w5 ⟨v5, rfl, hta, hb5⟩
            obtain ⟨a0, a1, a2, a3, a4, a5, a6, a7, d0, d1, d2, d3, d4, d5, d6, d7, us, rfl, htin, hL⟩ := hta.inn
            rw [hbm, show BT.sc.length = 0 by rw [hbs]; rfl]
            have hfm := field_ma a0 a1 a2 a3 a4 a5 a6 a7 0 BT.co.length 16383 BT.pr.length BT.fo.length BT.lk.length BT.dr.length BT.al.length d0 d1 d2 d3 d4 d5 d6 d7
            have HB5 := hide ((unhide HB4).trans (hb5.mono (unhide HB4).size))
            have HK := hide (known_any5 m w5 ((unhide HE4).below hb5))
            clear hb5 hta htin hL HTA
            go_wp2_with fail
            refine (unhide HK).mono ?_
            rintro e w6 ⟨rfl, hb6⟩
            have HB6 := hide ((unhide HB5).trans (hb6.mono (unhide HB5).size))
            clear hb6
            go_wp2_with fail
            go_ret
            exact ⟨rfl, unhide HB6⟩
end Go.Proofs.YtbefahknbdjnpaaGreatDoor
