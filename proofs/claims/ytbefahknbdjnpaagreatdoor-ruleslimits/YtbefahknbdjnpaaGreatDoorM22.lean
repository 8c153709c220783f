/- Texts of this claim, one behind the other. -/
import Derived.Test.YtbefahknbdjnpaaGreatDoorM15
import Derived.Deep.RegionHeld3
import Derived.Test.YtbefahknbdjnpaaGreatDoorM18
import Derived.Test.YtbefahknbdjnpaaGreatDoorM21
import Derived.Test.YtbefahknbdjnpaaGreatDoorM17
/- A text's tables: Tables. -/
namespace Go.Proofs.YtbefahknbdjnpaaGreatDoor
open Go.RowKit Go.Shelf
set_option linter.unusedVariables false
/-- Lists that lie apart, all from lo on. -/
structure Lst (W : World) (lo : Nat) (vs : List Value) (ls : List Ln) : Prop where
  ll : ls.length = vs.length
  own : ∀ (i : Nat) (v : Value) (l : Ln), vs[i]? = some v → ls[i]? = some l → W.ownsRow lo l.E l.sz v l.n l.xs
  apart : ∀ (i j : Nat) (v u : Value), i ≠ j → vs[i]? = some v → vs[j]? = some u → v.ownBlock = none ∨ v.ownBlock ≠ u.ownBlock
theorem opt_none (a : Option Nat) : a = none ∨ a ≠ none := by cases a with | none => exact .inl rfl | some b => exact .inr (by simp)
theorem apart_symm {a b : Option Nat} (h : a = none ∨ a ≠ b) : b = none ∨ b ≠ a := by
  cases b with
  | none => exact .inl rfl
  | some y => rcases h with e | e
              · rw [e]; exact .inr (by simp)
              · exact .inr (Ne.symm e)
theorem Lst.kept {W W' : World} {lo : Nat} {vs : List Value} {ls : List Ln} {row : Option Nat} (h : Lst W lo vs ls) (hg : W.grownBy W' row) (hr : ∀ b, row = some b → b < lo) : Lst W' lo vs ls :=
  ⟨h.ll, fun i v l hv hl => rd_other (h.own i v l hv hl) hg (by
    cases hb : v.ownBlock with
    | none => exact .inl rfl
    | some b =>
      refine .inr fun e => ?_
      have := hr b e.symm
      have := rd_from (h.own i v l hv hl) b hb
      omega), h.apart⟩
theorem Lst.add {W W1 : World} {lo : Nat} {vs : List Value} {ls : List Ln} {v : Value} {l : Ln} (h : Lst W lo vs ls) (hb : Below W.heap.size W W1) (hlo : lo ≤ W.heap.size) (hn : W1.ownsRow W.heap.size l.E l.sz v l.n l.xs) : Lst W1 lo (vs ++ [v]) (ls ++ [l]) := by
  have hll := h.ll
  have h1 := h.kept (below_grown (row := none) hb) (fun b e => by cases e)
  have hA : ∀ (j : Nat) (x : Value), vs[j]? = some x → x.ownBlock = none ∨ x.ownBlock ≠ v.ownBlock := by
    intro j x hx
    obtain ⟨m, hm⟩ : ∃ m, ls[j]? = some m := ⟨_, List.getElem?_eq_getElem (by have := (List.getElem?_eq_some_iff.1 hx).1; omega)⟩
    cases hxb : x.ownBlock with
    | none => exact .inl rfl
    | some b =>
      refine .inr fun e => ?_
      have h3 := rd_from hn b e.symm
      have h4 := own_ltW (h.own j x m hx hm) b hxb
      omega
  have key : ∀ (i : Nat) (y : Value), (vs ++ [v])[i]? = some y → (i < vs.length ∧ vs[i]? = some y) ∨ (i = vs.length ∧ y = v) := by
    intro i y hy
    by_cases hi : i < vs.length
    · rw [List.getElem?_append_left hi] at hy; exact .inl ⟨hi, hy⟩
    · have hi2 := (List.getElem?_eq_some_iff.1 hy).1
      rw [List.length_append, List.length_singleton] at hi2
      obtain rfl : i = vs.length := by omega
      rw [List.getElem?_concat_length] at hy
      exact .inr ⟨rfl, (Option.some.inj hy).symm⟩
  refine ⟨by rw [List.length_append, List.length_append, hll]; rfl, ?_, ?_⟩
  · intro i y m hy hm
    rcases key i y hy with ⟨h2, h3⟩ | ⟨h2, h3⟩
    · rw [List.getElem?_append_left (by omega)] at hm
      exact h1.own i y m h3 hm
    · subst h3
      rw [h2, ← hll, List.getElem?_concat_length] at hm
      obtain rfl := Option.some.inj hm
      exact own_lower hn hlo
  · intro i j y x hij hy hx
    rcases key i y hy with ⟨h2, h3⟩ | ⟨h2, h3⟩ <;> rcases key j x hx with ⟨h4, h5⟩ | ⟨h4, h5⟩
    · exact h.apart i j y x hij h3 h5
    · subst h5; exact hA i y h3
    · subst h3; exact apart_symm (hA j x h5)
    · exact absurd (h2.trans h4.symm) hij
/-- The lists of a table as they lie: the scripts, their spans, the other seven. -/
def tsOf (T : TV) (us : List Value) : List Ln :=
  (Ln.mk 78 2 T.sc.length (encSc T.sc us) :: T.sc.map (fun s => Ln.mk 60 2 s.2.length (encS2 s.2))) ++ [Ln.mk 60 2 T.co.length (encS2 T.co)] ++ [Ln.mk 62 2 T.ma.length (encM2 T.ma)] ++ [Ln.mk 85 3 T.pr.length (encP3 T.pr)] ++ [Ln.mk 80 2 T.fo.length (encF2 T.fo)] ++ [Ln.mk 80 2 T.lk.length (encF2 T.lk)] ++ [Ln.mk 60 2 T.dr.length (encS2 T.dr)] ++ [Ln.mk 60 2 T.al.length (encS2 T.al)]
/-- A table in memory of its own. -/
def TabAt (w : World) (lo : Nat) (T : TV) (v : Value) : Prop := ∃ v0 us v1 v2 v3 v4 v5 v6 v7, v = .agg #[v0, v1, v2, v3, v4, v5, v6, v7] ∧ us.length = T.sc.length ∧ Lst w lo ((v0 :: us) ++ [v1] ++ [v2] ++ [v3] ++ [v4] ++ [v5] ++ [v6] ++ [v7]) (tsOf T us)
theorem OsPost.lst {W w' : World} {sc : List (ByteArray × List (Int × Int))} {v : Value} (h : OsPost W w' sc v) : ∃ us, us.length = sc.length ∧ Lst w' W.heap.size (v :: us) (Ln.mk 78 2 sc.length (encSc sc us) :: sc.map (fun s => Ln.mk 60 2 s.2.length (encS2 s.2))) ∧ Below W.heap.size W w' := by
  obtain ⟨us, hl, h1, h2, h3, h4⟩ := h
  refine ⟨us, hl, ⟨by rw [List.length_cons, List.length_cons, List.length_map, hl], ?_, ?_⟩, h4⟩
  · intro i x l hx hm
    cases i with
    | zero =>
      obtain rfl := Option.some.inj hx
      obtain rfl := Option.some.inj hm
      exact h1
    | succ i =>
      rw [List.getElem?_cons_succ] at hx hm
      rw [List.getElem?_map] at hm
      obtain ⟨s, hs, rfl⟩ := Option.map_eq_some_iff.1 hm
      exact h2 i x s hx hs
  · have hA : ∀ (j : Nat) (x : Value), us[j]? = some x → x.ownBlock = none ∨ x.ownBlock ≠ v.ownBlock := by
      intro j x hx
      obtain ⟨s, hs⟩ : ∃ s, sc[j]? = some s := ⟨_, List.getElem?_eq_getElem (by have := (List.getElem?_eq_some_iff.1 hx).1; omega)⟩
      exact rd_apart (h2 j x s hx hs) h1 (by decide)
    intro i j x y hij hx hy
    cases i with
    | zero => cases j with
      | zero => exact absurd rfl hij
      | succ j =>
        obtain rfl := Option.some.inj hx
        exact apart_symm (hA j y hy)
    | succ i => cases j with
      | zero =>
        obtain rfl := Option.some.inj hy
        exact hA i x hx
      | succ j => exact h3 i j x y (by omega) hx hy
theorem TbAt.fresh {W W' : World} {lo Tx : Nat} {vs : List Value} {ls : List Ln} {eb el ec : Int} (h : TbAt W lo Tx vs ls eb el ec) (hg : W.grownBy W' none) : TbAt W' lo Tx vs ls eb el ec :=
  ⟨h.lv, h.ll, h.blk.kept hg (by simp), fun i v l hv hl => rd_other (h.own i v l hv hl) hg (opt_none _), h.apart, h.lt⟩
theorem drew_grown (W : World) (row : Option Nat) : W.grownBy W.drew row := ⟨rfl, rfl, rfl, Nat.le_refl _, fun _ _ _ => rfl⟩
theorem TbAt.cell2 {W W' : World} {lo Tx N : Nat} {vs : List Value} {ls : List Ln} {eb el ec : Int} (h : TbAt W lo Tx vs ls eb el ec) (hg : W.grownBy W' (some N)) (hne : Tx ≠ N) {i : Nat} {v : Value} (hi : i < 17) (hv : vs[i]? = some v) : W'.cell? ⟨Tx, i, none⟩ = some v := hg.cell (a := ⟨Tx, i, none⟩) (h.cell hi hv) (by show some Tx ≠ some N; intro e; exact hne (Option.some.inj e))
theorem Lst.lower {W : World} {lo lo' : Nat} {vs : List Value} {ls : List Ln} (h : Lst W lo vs ls) (hl : lo' ≤ lo) : Lst W lo' vs ls := ⟨h.ll, fun i v l hv hm => own_lower (h.own i v l hv hm) hl, h.apart⟩
/-- Eight cells of a box are written, one behind the other. -/
theorem box8b {W : World} {N : Nat} {a0 a1 a2 a3 a4 a5 a6 a7 : Value} {ty : TypeId} (h : Blk W N #[a0, a1, a2, a3, a4, a5, a6, a7] ty) (v0 v1 v2 v3 v4 v5 v6 v7 : Value) : Blk ((((((((W.setCell ⟨N, 0, none⟩ v0).setCell ⟨N, 1, none⟩ v1).setCell ⟨N, 2, none⟩ v2).setCell ⟨N, 3, none⟩ v3).setCell ⟨N, 4, none⟩ v4).setCell ⟨N, 5, none⟩ v5).setCell ⟨N, 6, none⟩ v6).setCell ⟨N, 7, none⟩ v7) N #[v0, v1, v2, v3, v4, v5, v6, v7] ty := box8 h v0 v1 v2 v3 v4 v5 v6 v7
set_option maxRecDepth 100000 in
set_option maxHeartbeats 8000000 in
theorem tables_any (lo Tx : Nat) (vs : List Value) (T : TV) (eb el ec : Int) (hT : T.Le 1000000) (hsp : ∀ s ∈ T.sc, s.2.length ≤ 1000000) (W : World) (h : TbAt W lo Tx vs (lsOf T (vs.drop 17)) eb el ec) :
    Calls Tryz.prog 20 #[.pointer (some ⟨Tx, 0, none⟩)] W fun e w' => ∃ v, e = .returned v ∧ TabAt w' W.heap.size T v ∧ Below W.heap.size W w' := by
  have hlv := h.lv
  have hll := h.ll
  rw [lsOf_len] at hll
  obtain ⟨v0, hv0⟩ : ∃ v, vs[0]? = some v := ⟨_, List.getElem?_eq_getElem (by omega)⟩
  obtain ⟨v1, hv1⟩ : ∃ v, vs[1]? = some v := ⟨_, List.getElem?_eq_getElem (by omega)⟩
  obtain ⟨v2, hv2⟩ : ∃ v, vs[2]? = some v := ⟨_, List.getElem?_eq_getElem (by omega)⟩
  obtain ⟨v3, hv3⟩ : ∃ v, vs[3]? = some v := ⟨_, List.getElem?_eq_getElem (by omega)⟩
  obtain ⟨v4, hv4⟩ : ∃ v, vs[4]? = some v := ⟨_, List.getElem?_eq_getElem (by omega)⟩
  obtain ⟨v5, hv5⟩ : ∃ v, vs[5]? = some v := ⟨_, List.getElem?_eq_getElem (by omega)⟩
  obtain ⟨v6, hv6⟩ : ∃ v, vs[6]? = some v := ⟨_, List.getElem?_eq_getElem (by omega)⟩
  obtain ⟨v7, hv7⟩ : ∃ v, vs[7]? = some v := ⟨_, List.getElem?_eq_getElem (by omega)⟩
  obtain ⟨a0, c0, rfl⟩ := own_slice (h.own 0 _ _ hv0 rfl)
  obtain ⟨a1, c1, rfl⟩ := own_slice (h.own 1 _ _ hv1 rfl)
  obtain ⟨a2, c2, rfl⟩ := own_slice (h.own 2 _ _ hv2 rfl)
  obtain ⟨a3, c3, rfl⟩ := own_slice (h.own 3 _ _ hv3 rfl)
  obtain ⟨a4, c4, rfl⟩ := own_slice (h.own 4 _ _ hv4 rfl)
  obtain ⟨a5, c5, rfl⟩ := own_slice (h.own 5 _ _ hv5 rfl)
  obtain ⟨a6, c6, rfl⟩ := own_slice (h.own 6 _ _ hv6 rfl)
  obtain ⟨a7, c7, rfl⟩ := own_slice (h.own 7 _ _ hv7 rfl)
  have hmx : Tryz.prog.follows .mixedOrders = true := by kernel_rfl
  have hTlt : Tx < W.heap.size := h.blk.lt
  have hTne : Tx ≠ W.heap.size := Nat.ne_of_lt hTlt
  have HU : Hz (∀ (j : Nat) (x : Value) (s : ByteArray × List (Int × Int)), (vs.drop 17)[j]? = some x → T.sc[j]? = some s → ∀ w, TbAt w lo Tx vs (lsOf T (vs.drop 17)) eb el ec → w.ownsRow lo 60 2 x s.2.length (encS2 s.2) ∧ s.2.length ≤ 1000000) := hide (by
    intro j x s hx hs w hw
    refine ⟨?_, hsp s (List.mem_of_getElem? hs)⟩
    rw [List.getElem?_drop] at hx
    refine hw.own (17 + j) x (Ln.mk 60 2 s.2.length (encS2 s.2)) hx ?_
    unfold lsOf
    rw [Nat.add_comm]
    simp only [List.getElem?_cons_succ, List.getElem?_map, hs, Option.map_some])
  have HLD : Hz ((vs.drop 17).length = T.sc.length) := hide (by rw [List.length_drop]; omega)
  have H0 := hide ((h.fresh (World.grownBy_alloc W (.cells #[.slice none 0 0, .slice none 0 0, .slice none 0 0, .slice none 0 0, .slice none 0 0, .slice none 0 0, .slice none 0 0, .slice none 0 0] 33) none)).fresh (drew_grown _ none))
  have HBX : Hz (Blk ((W.alloc (.cells #[.slice none 0 0, .slice none 0 0, .slice none 0 0, .slice none 0 0, .slice none 0 0, .slice none 0 0, .slice none 0 0, .slice none 0 0] 33)).drew) W.heap.size #[.slice none 0 0, .slice none 0 0, .slice none 0 0, .slice none 0 0, .slice none 0 0, .slice none 0 0, .slice none 0 0, .slice none 0 0] 33) := hide (Blk.new W _ _)
  have HBW : Hz (Below W.heap.size W ((W.alloc (.cells #[.slice none 0 0, .slice none 0 0, .slice none 0 0, .slice none 0 0, .slice none 0 0, .slice none 0 0, .slice none 0 0, .slice none 0 0] 33)).drew)) := hide (((Below.refl W.heap.size W).alloc (Nat.le_refl _) _).trans ⟨rfl, rfl, rfl, Nat.le_refl _, fun _ _ => rfl⟩)
  have HSZ : Hz (((W.alloc (.cells #[.slice none 0 0, .slice none 0 0, .slice none 0 0, .slice none 0 0, .slice none 0 0, .slice none 0 0, .slice none 0 0, .slice none 0 0] 33)).drew).heap.size = W.heap.size + 1) := hide (by show (W.alloc _).heap.size = _; simp)
  obtain ⟨b_sc, b_co, b_ma, b_pr, b_fo, b_lk, b_dr, b_al, b1, b2, b3, b4, b5, b6, b7, b8⟩ := hT
  clear h b1 b2 b3 b4 b5 b6 b7 b8 hsp
  go_enter Tryz.func20, Tryz.ntmps20
  go_wp2_with fail
  have t0 := (unhide H0).cell (by omega) hv0
  have t1 := (unhide H0).cell (by omega) hv1
  have t2 := (unhide H0).cell (by omega) hv2
  have t3 := (unhide H0).cell (by omega) hv3
  have t4 := (unhide H0).cell (by omega) hv4
  have t5 := (unhide H0).cell (by omega) hv5
  have t6 := (unhide H0).cell (by omega) hv6
  have t7 := (unhide H0).cell (by omega) hv7
  go_region_held3 (fun w' => w'.cell? ⟨Tx, 0, none⟩ = some (.slice a0 T.sc.length c0) ∧ w'.cell? ⟨Tx, 1, none⟩ = some (.slice a1 T.co.length c1) ∧ w'.cell? ⟨Tx, 2, none⟩ = some (.slice a2 T.ma.length c2) ∧ w'.cell? ⟨Tx, 3, none⟩ = some (.slice a3 T.pr.length c3) ∧ w'.cell? ⟨Tx, 4, none⟩ = some (.slice a4 T.fo.length c4) ∧ w'.cell? ⟨Tx, 5, none⟩ = some (.slice a5 T.lk.length c5) ∧ w'.cell? ⟨Tx, 6, none⟩ = some (.slice a6 T.dr.length c6) ∧ w'.cell? ⟨Tx, 7, none⟩ = some (.slice a7 T.al.length c7)) (first | with_reducible exact ⟨(unhide K9).2.1.cell2 (unhide K9).2.2 (unhide K9).1 (by omega) hv0, (unhide K9).2.1.cell2 (unhide K9).2.2 (unhide K9).1 (by omega) hv1, (unhide K9).2.1.cell2 (unhide K9).2.2 (unhide K9).1 (by omega) hv2, (unhide K9).2.1.cell2 (unhide K9).2.2 (unhide K9).1 (by omega) hv3, (unhide K9).2.1.cell2 (unhide K9).2.2 (unhide K9).1 (by omega) hv4, (unhide K9).2.1.cell2 (unhide K9).2.2 (unhide K9).1 (by omega) hv5, (unhide K9).2.1.cell2 (unhide K9).2.2 (unhide K9).1 (by omega) hv6, (unhide K9).2.1.cell2 (unhide K9).2.2 (unhide K9).1 (by omega) hv7⟩ | with_reducible exact ⟨(unhide H8).cell (by omega) hv0, (unhide H8).cell (by omega) hv1, (unhide H8).cell (by omega) hv2, (unhide H8).cell (by omega) hv3, (unhide H8).cell (by omega) hv4, (unhide H8).cell (by omega) hv5, (unhide H8).cell (by omega) hv6, (unhide H8).cell (by omega) hv7⟩ | with_reducible exact ⟨(unhide H7).cell (by omega) hv0, (unhide H7).cell (by omega) hv1, (unhide H7).cell (by omega) hv2, (unhide H7).cell (by omega) hv3, (unhide H7).cell (by omega) hv4, (unhide H7).cell (by omega) hv5, (unhide H7).cell (by omega) hv6, (unhide H7).cell (by omega) hv7⟩ | with_reducible exact ⟨(unhide H6).cell (by omega) hv0, (unhide H6).cell (by omega) hv1, (unhide H6).cell (by omega) hv2, (unhide H6).cell (by omega) hv3, (unhide H6).cell (by omega) hv4, (unhide H6).cell (by omega) hv5, (unhide H6).cell (by omega) hv6, (unhide H6).cell (by omega) hv7⟩ | with_reducible exact ⟨(unhide H5).cell (by omega) hv0, (unhide H5).cell (by omega) hv1, (unhide H5).cell (by omega) hv2, (unhide H5).cell (by omega) hv3, (unhide H5).cell (by omega) hv4, (unhide H5).cell (by omega) hv5, (unhide H5).cell (by omega) hv6, (unhide H5).cell (by omega) hv7⟩ | with_reducible exact ⟨(unhide H4).cell (by omega) hv0, (unhide H4).cell (by omega) hv1, (unhide H4).cell (by omega) hv2, (unhide H4).cell (by omega) hv3, (unhide H4).cell (by omega) hv4, (unhide H4).cell (by omega) hv5, (unhide H4).cell (by omega) hv6, (unhide H4).cell (by omega) hv7⟩ | with_reducible exact ⟨(unhide H3).cell (by omega) hv0, (unhide H3).cell (by omega) hv1, (unhide H3).cell (by omega) hv2, (unhide H3).cell (by omega) hv3, (unhide H3).cell (by omega) hv4, (unhide H3).cell (by omega) hv5, (unhide H3).cell (by omega) hv6, (unhide H3).cell (by omega) hv7⟩ | with_reducible exact ⟨(unhide H2).cell (by omega) hv0, (unhide H2).cell (by omega) hv1, (unhide H2).cell (by omega) hv2, (unhide H2).cell (by omega) hv3, (unhide H2).cell (by omega) hv4, (unhide H2).cell (by omega) hv5, (unhide H2).cell (by omega) hv6, (unhide H2).cell (by omega) hv7⟩ | with_reducible exact ⟨(unhide H1).cell (by omega) hv0, (unhide H1).cell (by omega) hv1, (unhide H1).cell (by omega) hv2, (unhide H1).cell (by omega) hv3, (unhide H1).cell (by omega) hv4, (unhide H1).cell (by omega) hv5, (unhide H1).cell (by omega) hv6, (unhide H1).cell (by omega) hv7⟩ | with_reducible exact ⟨(unhide H0).cell (by omega) hv0, (unhide H0).cell (by omega) hv1, (unhide H0).cell (by omega) hv2, (unhide H0).cell (by omega) hv3, (unhide H0).cell (by omega) hv4, (unhide H0).cell (by omega) hv5, (unhide H0).cell (by omega) hv6, (unhide H0).cell (by omega) hv7⟩)
    (first
    | (go_at_call 59; refine (cloneSpan_any lo T.al.length _ (encS2 T.al) w7 ((unhide H7).own 7 _ _ hv7 rfl) (by omega) (encS2_one T.al)).mono ?_; rintro e w8 ⟨n7, rfl, ho7, hb8⟩; obtain ⟨x7, y7, rfl⟩ := own_slice ho7; have H8 := hide ((unhide H7).fresh (below_grown hb8)); have HL8 := hide ((unhide HL7).add (l := Ln.mk 60 2 T.al.length (encS2 T.al)) hb8 (unhide HB7).size ho7); have HB8 := hide ((unhide HB7).trans (hb8.mono (unhide HB7).size)); clear ho7 hb8; have q8 := (unhide HBX).kept (below_grown (row := none) (unhide HB8)) (by simp); have g9 := grown8 w8 W.heap.size (.slice x0 T.sc.length y0) (.slice x1 T.co.length y1) (.slice x2 T.ma.length y2) (.slice x3 T.pr.length y3) (.slice x4 T.fo.length y4) (.slice x5 T.lk.length y5) (.slice x6 T.dr.length y6) (.slice x7 T.al.length y7); have HQ8 := hide q8; have HG9 := hide g9; have e0 := (unhide HQ8).cell 0; have f0 := (unhide HQ8).frozen 0; have e1 := (unhide HQ8).cell 1; have f1 := (unhide HQ8).frozen 1; have e2 := (unhide HQ8).cell 2; have f2 := (unhide HQ8).frozen 2; have e3 := (unhide HQ8).cell 3; have f3 := (unhide HQ8).frozen 3; have e4 := (unhide HQ8).cell 4; have f4 := (unhide HQ8).frozen 4; have e5 := (unhide HQ8).cell 5; have f5 := (unhide HQ8).frozen 5; have e6 := (unhide HQ8).cell 6; have f6 := (unhide HQ8).frozen 6; have e7 := (unhide HQ8).cell 7; have f7 := (unhide HQ8).frozen 7; have K9 := hide (And.intro hTne (And.intro (unhide H8) (unhide HG9))); clear q8 g9)
    | (go_at_call 59; refine (cloneSpan_any lo T.dr.length _ (encS2 T.dr) w6 ((unhide H6).own 6 _ _ hv6 rfl) (by omega) (encS2_one T.dr)).mono ?_; rintro e w7 ⟨n6, rfl, ho6, hb7⟩; obtain ⟨x6, y6, rfl⟩ := own_slice ho6; have H7 := hide ((unhide H6).fresh (below_grown hb7)); have HL7 := hide ((unhide HL6).add (l := Ln.mk 60 2 T.dr.length (encS2 T.dr)) hb7 (unhide HB6).size ho6); have HB7 := hide ((unhide HB6).trans (hb7.mono (unhide HB6).size)); clear ho6 hb7)
    | (go_at_call 62; refine (cloneMap_any lo T.lk.length _ (encF2 T.lk) w5 ((unhide H5).own 5 _ _ hv5 rfl) (by omega) (encF2_one T.lk)).mono ?_; rintro e w6 ⟨n5, rfl, ho5, hb6⟩; obtain ⟨x5, y5, rfl⟩ := own_slice ho5; have H6 := hide ((unhide H5).fresh (below_grown hb6)); have HL6 := hide ((unhide HL5).add (l := Ln.mk 80 2 T.lk.length (encF2 T.lk)) hb6 (unhide HB5).size ho5); have HB6 := hide ((unhide HB5).trans (hb6.mono (unhide HB5).size)); clear ho5 hb6)
    | (go_at_call 62; refine (cloneMap_any lo T.fo.length _ (encF2 T.fo) w4 ((unhide H4).own 4 _ _ hv4 rfl) (by omega) (encF2_one T.fo)).mono ?_; rintro e w5 ⟨n4, rfl, ho4, hb5⟩; obtain ⟨x4, y4, rfl⟩ := own_slice ho4; have H5 := hide ((unhide H4).fresh (below_grown hb5)); have HL5 := hide ((unhide HL4).add (l := Ln.mk 80 2 T.fo.length (encF2 T.fo)) hb5 (unhide HB4).size ho4); have HB5 := hide ((unhide HB4).trans (hb5.mono (unhide HB4).size)); clear ho4 hb5)
    | (go_at_call 61; refine (clonePair_any lo T.pr.length _ (encP3 T.pr) w3 ((unhide H3).own 3 _ _ hv3 rfl) (by omega) (encP3_one T.pr)).mono ?_; rintro e w4 ⟨n3, rfl, ho3, hb4⟩; obtain ⟨x3, y3, rfl⟩ := own_slice ho3; have H4 := hide ((unhide H3).fresh (below_grown hb4)); have HL4 := hide ((unhide HL3).add (l := Ln.mk 85 3 T.pr.length (encP3 T.pr)) hb4 (unhide HB3).size ho3); have HB4 := hide ((unhide HB3).trans (hb4.mono (unhide HB3).size)); clear ho3 hb4)
    | (go_at_call 60; refine (cloneMark_any lo T.ma.length _ (encM2 T.ma) w2 ((unhide H2).own 2 _ _ hv2 rfl) (by omega) (encM2_one T.ma)).mono ?_; rintro e w3 ⟨n2, rfl, ho2, hb3⟩; obtain ⟨x2, y2, rfl⟩ := own_slice ho2; have H3 := hide ((unhide H2).fresh (below_grown hb3)); have HL3 := hide ((unhide HL2).add (l := Ln.mk 62 2 T.ma.length (encM2 T.ma)) hb3 (unhide HB2).size ho2); have HB3 := hide ((unhide HB2).trans (hb3.mono (unhide HB2).size)); clear ho2 hb3)
    | (go_at_call 59; refine (cloneSpan_any lo T.co.length _ (encS2 T.co) w1 ((unhide H1).own 1 _ _ hv1 rfl) (by omega) (encS2_one T.co)).mono ?_; rintro e w2 ⟨n1, rfl, ho1, hb2⟩; obtain ⟨x1, y1, rfl⟩ := own_slice ho1; have H2 := hide ((unhide H1).fresh (below_grown hb2)); have HL2 := hide ((unhide HL1).add (l := Ln.mk 60 2 T.co.length (encS2 T.co)) hb2 (unhide HB1).size ho1); have HB2 := hide ((unhide HB1).trans (hb2.mono (unhide HB1).size)); clear ho1 hb2)
    | (go_at_call 58; refine (ownScripts_any lo _ T.sc (vs.drop 17) ((W.alloc (.cells #[.slice none 0 0, .slice none 0 0, .slice none 0 0, .slice none 0 0, .slice none 0 0, .slice none 0 0, .slice none 0 0, .slice none 0 0] 33)).drew) ((unhide H0).own 0 _ _ hv0 rfl) (unhide HLD) (by omega) (fun j x s hx hs => unhide HU j x s hx hs _ (unhide H0))).mono ?_; rintro e w1 ⟨n0, rfl, hos⟩; obtain ⟨us, hus, hl1, hb1⟩ := hos.lst; obtain ⟨x0, y0, rfl⟩ := own_slice (hl1.own 0 _ _ rfl rfl); have H1 := hide ((unhide H0).fresh (below_grown hb1)); have HL1 := hide hl1; have HB1 := hide hb1; have HSU := hide hus; clear hl1 hb1 hus hos))
  all_goals
    have hN : W.heap.size < ((W.alloc (.cells #[.slice none 0 0, .slice none 0 0, .slice none 0 0, .slice none 0 0, .slice none 0 0, .slice none 0 0, .slice none 0 0, .slice none 0 0] 33)).drew).heap.size := by have := unhide HSZ; omega
    have b9 := box8b (unhide HQ8) (.slice x0 T.sc.length y0) (.slice x1 T.co.length y1) (.slice x2 T.ma.length y2) (.slice x3 T.pr.length y3) (.slice x4 T.fo.length y4) (.slice x5 T.lk.length y5) (.slice x6 T.dr.length y6) (.slice x7 T.al.length y7)
    have r0 := b9.cell 0
    have r1 := b9.cell 1
    have r2 := b9.cell 2
    have r3 := b9.cell 3
    have r4 := b9.cell 4
    have r5 := b9.cell 5
    have r6 := b9.cell 6
    have r7 := b9.cell 7
    have HL9 := hide (((unhide HL8).kept (unhide HG9) (fun b e => by have := Option.some.inj e; omega)).lower (Nat.le_of_lt hN))
    have HB9 := hide (((unhide HBW).trans ((unhide HB8).mono (Nat.le_of_lt hN))).grown (unhide HG9) (by have := (unhide HB8).size; omega) (fun k hk => by cases hk; exact Nat.le_refl _))
    clear b9 e0 e1 e2 e3 e4 e5 e6 e7 f0 f1 f2 f3 f4 f5 f6 f7 HQ8 HG9 K9
    go_wp2_with fail
    exact bodyPost_ret (v := Value.agg #[Value.slice x0 T.sc.length y0, Value.slice x1 T.co.length y1, Value.slice x2 T.ma.length y2, Value.slice x3 T.pr.length y3, Value.slice x4 T.fo.length y4, Value.slice x5 T.lk.length y5, Value.slice x6 T.dr.length y6, Value.slice x7 T.al.length y7]) (by simp [results, Tryz.results20, go_sem, r0, r1, r2, r3, r4, r5, r6, r7]) rfl ⟨_, rfl, ⟨_, us, _, _, _, _, _, _, _, rfl, unhide HSU, unhide HL9⟩, unhide HB9⟩
end Go.Proofs.YtbefahknbdjnpaaGreatDoor
/- A text of rules: Where, Find. -/
namespace Go.Proofs.YtbefahknbdjnpaaGreatDoor
open Go.RowKit Go.Shelf
set_option linter.unusedVariables false
def rowsOf (T : TV) : Nat → List (Int × Int × Int)
  | 1 => T.r1 | 2 => T.r2 | 3 => T.r3 | 4 => T.r4 | 5 => T.r5 | 6 => T.r6 | 7 => T.r7 | 8 => T.r8 | _ => []
theorem rowsOf_ls (T : TV) (us : List Value) (i : Nat) (hi : i < 9) : (lsOf T us)[8 + i]? = some (Ln.mk 56 3 (rowsOf T i).length (encA3 (rowsOf T i))) := by
  rcases (by omega : i = 0 ∨ i = 1 ∨ i = 2 ∨ i = 3 ∨ i = 4 ∨ i = 5 ∨ i = 6 ∨ i = 7 ∨ i = 8) with rfl | rfl | rfl | rfl | rfl | rfl | rfl | rfl | rfl <;> rfl
/-- Where a row stands. -/
def whereV (T : TV) (eb el ec : Int) (list row : Int) : Int × Int × Int :=
  if 0 ≤ list ∧ list < 9 ∧ 0 ≤ row then (match (rowsOf T list.toNat)[row.toNat]? with | some x => x | none => (eb, el, ec)) else (eb, el, ec)
theorem encA3_at (l : List (Int × Int × Int)) (j : Nat) (x : Int × Int × Int) (h : l[j]? = some x) : (encA3 l)[j * 3]? = some (.int .i64 x.1) ∧ (encA3 l)[j * 3 + 1]? = some (.int .i64 x.2.1) ∧ (encA3 l)[j * 3 + 2]? = some (.int .i64 x.2.2) := by
  induction l generalizing j with
  | nil => simp at h
  | cons y l ih => cases j with
    | zero => obtain rfl := Option.some.inj h; exact ⟨rfl, rfl, rfl⟩
    | succ j => have := ih j (by simpa using h); rw [show (j + 1) * 3 = j * 3 + 1 + 1 + 1 by omega]; exact this
def atV3 (x : Int × Int × Int) : Value := .agg #[.int .i64 x.1, .int .i64 x.2.1, .int .i64 x.2.2]
set_option maxRecDepth 100000 in
set_option maxHeartbeats 4000000 in
theorem whereT_any (lo Tx : Nat) (vs : List Value) (T : TV) (eb el ec list row : Int) (W : World) (h : TbAt W lo Tx vs (lsOf T (vs.drop 17)) eb el ec) (hl : -9223372036854775808 ≤ list ∧ list ≤ 9223372036854775807) (hr : -9223372036854775808 ≤ row ∧ row ≤ 9223372036854775807) (hT : ∀ i, (rowsOf T i).length ≤ 1000000) :
    Calls Tryz.prog 22 #[.pointer (some ⟨Tx, 0, none⟩), .int .i64 list, .int .i64 row] W fun e w' => e = .returned (atV3 (whereV T eb el ec list row)) ∧ Below W.heap.size W w' := by
  have hWA := World.grownBy_alloc W (.cells #[.int .i64 0, .int .i64 0, .int .i64 0] 56) none
  have h := h.fresh hWA
  have hE := h.ending
  have e0 := hE.c0
  have e1 := hE.c1
  have e2 := hE.c2
  have hbx := Blk.new W #[.int .i64 0, .int .i64 0, .int .i64 0] 56
  have hbw : Below W.heap.size W (W.alloc (.cells #[.int .i64 0, .int .i64 0, .int .i64 0] 56)) := (Below.refl _ W).alloc (Nat.le_refl _) _
  have x0 := hbx.cell 0
  have x1 := hbx.cell 1
  have x2 := hbx.cell 2
  have f0 := hbx.frozen 0
  have f1 := hbx.frozen 1
  have f2 := hbx.frozen 2
  have hmx : Tryz.prog.follows .mixedOrders = true := by kernel_rfl
  have key : ∀ (u0 u1 u2 : Int), (∀ (A : World), True) → Blk ((((W.alloc (.cells #[.int .i64 0, .int .i64 0, .int .i64 0] 56)).setCell ⟨W.heap.size, 0, none⟩ (.int .i64 u0)).setCell ⟨W.heap.size, 1, none⟩ (.int .i64 u1)).setCell ⟨W.heap.size, 2, none⟩ (.int .i64 u2)) W.heap.size #[.int .i64 u0, .int .i64 u1, .int .i64 u2] 56 ∧ Below W.heap.size W ((((W.alloc (.cells #[.int .i64 0, .int .i64 0, .int .i64 0] 56)).setCell ⟨W.heap.size, 0, none⟩ (.int .i64 u0)).setCell ⟨W.heap.size, 1, none⟩ (.int .i64 u1)).setCell ⟨W.heap.size, 2, none⟩ (.int .i64 u2)) := fun u0 u1 u2 _ => ⟨((hbx.set 0 _).set 1 _).set 2 _, ((hbw.setCell (p := ⟨W.heap.size, 0, none⟩) (Nat.le_refl _) _).setCell (p := ⟨W.heap.size, 1, none⟩) (Nat.le_refl _) _).setCell (p := ⟨W.heap.size, 2, none⟩) (Nat.le_refl _) _⟩
  have KEY := hide key
  clear key hbx hbw hWA
  by_cases h1 : 0 ≤ list ∧ list < 9 ∧ 0 ≤ row
  · obtain ⟨i, rfl⟩ : ∃ i : Nat, list = (i : Int) := ⟨list.toNat, by omega⟩
    obtain ⟨j, rfl⟩ : ∃ j : Nat, row = (j : Int) := ⟨row.toNat, by omega⟩
    have hi : i < 9 := by omega
    obtain ⟨v, hv⟩ : ∃ v, vs[8 + i]? = some v := ⟨_, List.getElem?_eq_getElem (by have := h.lv; omega)⟩
    have ho := h.own (8 + i) v _ hv (rowsOf_ls T _ i hi)
    have t0 := h.cell (i := 8 + i) (by omega) hv
    obtain ⟨a, c, rfl⟩ := own_slice ho
    dsimp only at t0 ho
    have hlen := hT i
    obtain ⟨l, hl2⟩ : ∃ l, l = rowsOf T i := ⟨_, rfl⟩
    rw [← hl2] at ho t0 hlen
    have i0 : (0 : Int) ≤ (i : Int) := by omega
    have i9 : (i : Int) < 9 := by omega
    have j0 : (0 : Int) ≤ (j : Int) := by omega
    by_cases hj : j < l.length
    · obtain ⟨x, hx⟩ : ∃ x, l[j]? = some x := ⟨_, List.getElem?_eq_getElem hj⟩
      have HV : Hz (whereV T eb el ec (i : Int) (j : Int) = x) := hide (by unfold whereV; rw [if_pos h1]; simp only [Int.toNat_natCast]; rw [← hl2, hx])
      rcases own_some ho (fun e => by omega) with ⟨_, e, _⟩ | ⟨g, c', e, _, _, _, hcs⟩
      · omega
      · injection e with e3 e4 e5
        subst e3
        have hat := encA3_at l j x hx
        have ad : ∀ k, (⟨g, 0, none⟩ : Addr).add k = ⟨g, k, none⟩ := fun k => by cases k <;> simp [Addr.add]
        have d0 := hcs _ _ hat.1
        have d1 := hcs _ _ hat.2.1
        have d2 := hcs _ _ hat.2.2
        rw [ad] at d0 d1 d2
        obtain ⟨y0, y1, y2⟩ := x
        dsimp only at d0 d1 d2
        have jl : (j : Int) < (l.length : Int) := by omega
        have K1 := unhide KEY y0 y1 y2 (fun _ => trivial)
        have r0 := K1.1.cell 0
        have r1 := K1.1.cell 1
        have r2 := K1.1.cell 2
        have HK := hide K1.2
        clear h ho hv hcs hat hx hl2 h1 hl hr hT hj K1 KEY hE
        go_enter Tryz.func22, Tryz.ntmps22
        go_wp2_with fail
        rw [unhide HV]
        exact bodyPost_ret (v := .agg #[.int .i64 y0, .int .i64 y1, .int .i64 y2]) (by simp [results, Tryz.results22, go_sem]) rfl ⟨rfl, (Below.refl _ W).alloc (Nat.le_refl _) _⟩
    · have HV : Hz (whereV T eb el ec (i : Int) (j : Int) = (eb, el, ec)) := hide (by unfold whereV; rw [if_pos h1]; simp only [Int.toNat_natCast]; rw [← hl2, List.getElem?_eq_none (by omega)])
      have jl : ¬ ((j : Int) < (l.length : Int)) := by omega
      have K1 := unhide KEY eb el ec (fun _ => trivial)
      have r0 := K1.1.cell 0
      have r1 := K1.1.cell 1
      have r2 := K1.1.cell 2
      have HK := hide K1.2
      clear h ho hv hl2 h1 hl hr hT hj K1 KEY hE
      go_enter Tryz.func22, Tryz.ntmps22
      go_wp2_with fail
      rw [unhide HV]
      exact bodyPost_ret (v := .agg #[.int .i64 eb, .int .i64 el, .int .i64 ec]) (by simp [results, Tryz.results22, go_sem]) rfl ⟨rfl, (Below.refl _ W).alloc (Nat.le_refl _) _⟩
  · have HV : Hz (whereV T eb el ec list row = (eb, el, ec)) := hide (by unfold whereV; rw [if_neg h1])
    have K1 := unhide KEY eb el ec (fun _ => trivial)
    have r0 := K1.1.cell 0
    have r1 := K1.1.cell 1
    have r2 := K1.1.cell 2
    have HK := hide K1.2
    clear h hl hr hT K1 KEY hE
    by_cases ha : list < 0
    · clear h1
      go_enter Tryz.func22, Tryz.ntmps22
      go_wp2_with fail
      rw [unhide HV]
      exact bodyPost_ret (v := .agg #[.int .i64 eb, .int .i64 el, .int .i64 ec]) (by simp [results, Tryz.results22, go_sem]) rfl ⟨rfl, (Below.refl _ W).alloc (Nat.le_refl _) _⟩
    · by_cases hb : list < 9
      · have hc : row < 0 := by omega
        clear h1
        go_enter Tryz.func22, Tryz.ntmps22
        go_wp2_with fail
        rw [unhide HV]
        exact bodyPost_ret (v := .agg #[.int .i64 eb, .int .i64 el, .int .i64 ec]) (by simp [results, Tryz.results22, go_sem]) rfl ⟨rfl, (Below.refl _ W).alloc (Nat.le_refl _) _⟩
      · clear h1
        go_enter Tryz.func22, Tryz.ntmps22
        go_wp2_with fail
        rw [unhide HV]
        exact bodyPost_ret (v := .agg #[.int .i64 eb, .int .i64 el, .int .i64 ec]) (by simp [results, Tryz.results22, go_sem]) rfl ⟨rfl, (Below.refl _ W).alloc (Nat.le_refl _) _⟩
end Go.Proofs.YtbefahknbdjnpaaGreatDoor
/- Chapter 5's runs: what a table of one's own is to Print. -/
namespace Go.Proofs.YtbefahknbdjnpaaGreatDoor
open Go.RowKit Go.Shelf
set_option linter.unusedVariables false
theorem own_rowC {W : World} {lo E sz n : Nat} {a : Option Addr} {c : Nat} {xs : List Value} (h : W.ownsRow lo E sz (.slice a n c) n xs) : RowC W W.heap.size a xs := by
  intro h0
  have hl := h.1
  have hn : n ≠ 0 := fun e => by rw [e, Nat.zero_mul] at hl; omega
  rcases own_some h (fun e => absurd e hn) with ⟨_, e, _⟩ | ⟨g, c', e, _, _, _, hx⟩
  · exact absurd e hn
  · injection e with e1
    refine ⟨g, 0, e1, own_ltW h g (by rw [e1]; rfl), fun j u hu => ?_⟩
    have := hx j u hu
    rw [show (⟨g, 0, none⟩ : Addr).add j = ⟨g, 0 + j, none⟩ by cases j <;> simp [Addr.add]] at this
    exact this
/-- A table that was made is one that lies in memory. -/
theorem TabAt.inn {W : World} {lo : Nat} {T : TV} {v : Value} (h : TabAt W lo T v) : ∃ a0 a1 a2 a3 a4 a5 a6 a7 c0 c1 c2 c3 c4 c5 c6 c7 us, v = .agg #[.slice a0 T.sc.length c0, .slice a1 T.co.length c1, .slice a2 T.ma.length c2, .slice a3 T.pr.length c3, .slice a4 T.fo.length c4, .slice a5 T.lk.length c5, .slice a6 T.dr.length c6, .slice a7 T.al.length c7] ∧ TabIn W T a0 a1 a2 a3 a4 a5 a6 a7 us ∧ Lst W lo ((.slice a0 T.sc.length c0 :: us) ++ [.slice a1 T.co.length c1] ++ [.slice a2 T.ma.length c2] ++ [.slice a3 T.pr.length c3] ++ [.slice a4 T.fo.length c4] ++ [.slice a5 T.lk.length c5] ++ [.slice a6 T.dr.length c6] ++ [.slice a7 T.al.length c7]) (tsOf T us) := by
  obtain ⟨v0, us, v1, v2, v3, v4, v5, v6, v7, rfl, hu, hL⟩ := h
  have hM : (T.sc.map (fun s => Ln.mk 60 2 s.2.length (encS2 s.2))).length = us.length := by rw [List.length_map, hu]
  have key : ∀ (k : Nat) (x : Value) (l : Ln), ((v0 :: us) ++ [v1] ++ [v2] ++ [v3] ++ [v4] ++ [v5] ++ [v6] ++ [v7])[k]? = some x → (tsOf T us)[k]? = some l → W.ownsRow lo l.E l.sz x l.n l.xs := fun k x l hx hl => hL.own k x l hx hl
  have A : ∀ (k : Nat), ((v0 :: us) ++ [v1] ++ [v2] ++ [v3] ++ [v4] ++ [v5] ++ [v6] ++ [v7])[us.length + 1 + k]? = [v1, v2, v3, v4, v5, v6, v7][k]? := fun k => by
    rw [show (v0 :: us) ++ [v1] ++ [v2] ++ [v3] ++ [v4] ++ [v5] ++ [v6] ++ [v7] = (v0 :: us) ++ [v1, v2, v3, v4, v5, v6, v7] by simp, List.getElem?_append_right (by simp)]
    congr 1
    simp
  have B : ∀ (k : Nat), (tsOf T us)[us.length + 1 + k]? = [Ln.mk 60 2 T.co.length (encS2 T.co), Ln.mk 62 2 T.ma.length (encM2 T.ma), Ln.mk 85 3 T.pr.length (encP3 T.pr), Ln.mk 80 2 T.fo.length (encF2 T.fo), Ln.mk 80 2 T.lk.length (encF2 T.lk), Ln.mk 60 2 T.dr.length (encS2 T.dr), Ln.mk 60 2 T.al.length (encS2 T.al)][k]? := fun k => by
    unfold tsOf
    rw [show ∀ (a : List Ln) (b c d e f g h : Ln), a ++ [b] ++ [c] ++ [d] ++ [e] ++ [f] ++ [g] ++ [h] = a ++ [b, c, d, e, f, g, h] from fun a b c d e f g h => by simp, List.getElem?_append_right (by rw [List.length_cons, hM]; omega)]
    congr 1
    rw [List.length_cons, hM]
    omega
  have o0 := key 0 v0 _ rfl rfl
  have o1 := key _ v1 _ (A 0) (B 0)
  have o2 := key _ v2 _ (A 1) (B 1)
  have o3 := key _ v3 _ (A 2) (B 2)
  have o4 := key _ v4 _ (A 3) (B 3)
  have o5 := key _ v5 _ (A 4) (B 4)
  have o6 := key _ v6 _ (A 5) (B 5)
  have o7 := key _ v7 _ (A 6) (B 6)
  obtain ⟨a0, c0, rfl⟩ := own_slice o0
  obtain ⟨a1, c1, rfl⟩ := own_slice o1
  obtain ⟨a2, c2, rfl⟩ := own_slice o2
  obtain ⟨a3, c3, rfl⟩ := own_slice o3
  obtain ⟨a4, c4, rfl⟩ := own_slice o4
  obtain ⟨a5, c5, rfl⟩ := own_slice o5
  obtain ⟨a6, c6, rfl⟩ := own_slice o6
  obtain ⟨a7, c7, rfl⟩ := own_slice o7
  refine ⟨a0, a1, a2, a3, a4, a5, a6, a7, c0, c1, c2, c3, c4, c5, c6, c7, us, rfl, ⟨hu, own_rowC o0, own_rowC o1, own_rowC o2, own_rowC o3, own_rowC o4, own_rowC o5, own_rowC o6, own_rowC o7, ?_⟩, hL⟩
  intro j x u hx hu2
  have oj := key (j + 1) u (Ln.mk 60 2 x.2.length (encS2 x.2)) (by
    rw [show ∀ (a : List Value) (b c d e f g h : Value), a ++ [b] ++ [c] ++ [d] ++ [e] ++ [f] ++ [g] ++ [h] = a ++ [b, c, d, e, f, g, h] from fun a b c d e f g h => by simp, List.getElem?_append_left (by have := (List.getElem?_eq_some_iff.1 hu2).1; simp; omega), List.getElem?_cons_succ]
    exact hu2) (by
    unfold tsOf
    rw [show ∀ (a : List Ln) (b c d e f g h : Ln), a ++ [b] ++ [c] ++ [d] ++ [e] ++ [f] ++ [g] ++ [h] = a ++ [b, c, d, e, f, g, h] from fun a b c d e f g h => by simp, List.getElem?_append_left (by rw [List.length_cons, hM]; have := (List.getElem?_eq_some_iff.1 hu2).1; omega), List.getElem?_cons_succ, List.getElem?_map, hx]
    rfl)
  obtain ⟨b, d, rfl⟩ := own_slice oj
  exact ⟨b, d, rfl, own_rowC oj⟩
end Go.Proofs.YtbefahknbdjnpaaGreatDoor
/- Chapter 5's runs, walked. -/
namespace Go.Proofs.YtbefahknbdjnpaaGreatDoor
open Go.RowKit Go.Shelf
set_option linter.unusedVariables false
/-- What the walks of layer 5 want of the world. -/
structure EnvK (m : Int) (W : World) : Prop where
  p : EnvP W
  max : W.cell? ⟨7, 0, none⟩ = some (.int .i64 m)
  et : W.cell? ⟨4, 0, none⟩ = some (.iface 222 (.agg #[.pointer (some ⟨12, 44, none⟩)]))
theorem EnvK.below {m : Int} {W W' : World} (h : EnvK m W) (hb : Below W.heap.size W W') : EnvK m W' := by
  have hbig := h.p.big
  have hc : ∀ {b i : Nat} {v : Value}, b < W.heap.size → W.cell? ⟨b, i, none⟩ = some v → W'.cell? ⟨b, i, none⟩ = some v := fun {b i v} h1 h2 => (hb.cell (p := ⟨b, i, none⟩) h1).trans h2
  have hs := hb.size
  exact ⟨⟨hc (by omega) h.p.t64, tab_fr (lo := W.heap.size) (N := W.heap.size) ⟨hb.os, hb.tape, hb.output, hb.size, fun i hi _ _ => hb.block i hi⟩ (by omega) (by omega) h.p.pow, ⟨fun c h2 => hc (by omega) (h.p.utf.1 c h2), fun i hi => ⟨hc (by omega) (h.p.utf.2 i hi).1, hc (by omega) (h.p.utf.2 i hi).2⟩⟩, by omega⟩, hc (by omega) h.max, hc (by omega) h.et⟩
theorem TV_ext (X Y : TV) (h_sc : X.sc = Y.sc) (h_co : X.co = Y.co) (h_ma : X.ma = Y.ma) (h_pr : X.pr = Y.pr) (h_fo : X.fo = Y.fo) (h_lk : X.lk = Y.lk) (h_dr : X.dr = Y.dr) (h_al : X.al = Y.al) (h_r1 : X.r1 = Y.r1) (h_r2 : X.r2 = Y.r2) (h_r3 : X.r3 = Y.r3) (h_r4 : X.r4 = Y.r4) (h_r5 : X.r5 = Y.r5) (h_r6 : X.r6 = Y.r6) (h_r7 : X.r7 = Y.r7) (h_r8 : X.r8 = Y.r8) : X = Y := by
  obtain ⟨x1, x2, x3, x4, x5, x6, x7, x8, y1, y2, y3, y4, y5, y6, y7, y8⟩ := X
  dsimp only at h_sc h_co h_ma h_pr h_fo h_lk h_dr h_al h_r1 h_r2 h_r3 h_r4 h_r5 h_r6 h_r7 h_r8
  subst h_sc h_co h_ma h_pr h_fo h_lk h_dr h_al h_r1 h_r2 h_r3 h_r4 h_r5 h_r6 h_r7 h_r8
  rfl
theorem Ps_ext (P : Ps) (T : TV) (hb : P.bad.isNone = true) (hT : P.T = T) : P = ⟨P.k, none, T⟩ := by
  obtain ⟨k, bad, X⟩ := P
  subst hT
  cases bad with
  | none => rfl
  | some z => cases hb
theorem kn1_co : (parseA kn1).T.co = knT.co := by decide +kernel
theorem kn1_ma : (parseA kn1).T.ma = knT.ma := by decide +kernel
theorem kn1_pr : (parseA kn1).T.pr = knT.pr := by decide +kernel
theorem kn1_fo : (parseA kn1).T.fo = knT.fo := by decide +kernel
theorem kn1_lk : (parseA kn1).T.lk = knT.lk := by decide +kernel
theorem kn1_dr : (parseA kn1).T.dr = knT.dr := by decide +kernel
theorem kn1_al : (parseA kn1).T.al = knT.al := by decide +kernel
theorem kn1_r1 : (parseA kn1).T.r1 = knT.r1 := by decide +kernel
theorem kn1_r2 : (parseA kn1).T.r2 = knT.r2 := by decide +kernel
theorem kn1_r3 : (parseA kn1).T.r3 = knT.r3 := by decide +kernel
theorem kn1_r4 : (parseA kn1).T.r4 = knT.r4 := by decide +kernel
theorem kn1_r5 : (parseA kn1).T.r5 = knT.r5 := by decide +kernel
theorem kn1_r6 : (parseA kn1).T.r6 = knT.r6 := by decide +kernel
theorem kn1_r7 : (parseA kn1).T.r7 = knT.r7 := by decide +kernel
theorem kn1_r8 : (parseA kn1).T.r8 = knT.r8 := by decide +kernel
theorem kn1_eq : parseA kn1 = ⟨(parseA kn1).k, none, knT⟩ := Ps_ext _ _ kn1_bad (TV_ext _ _ kn1_sc kn1_co kn1_ma kn1_pr kn1_fo kn1_lk kn1_dr kn1_al kn1_r1 kn1_r2 kn1_r3 kn1_r4 kn1_r5 kn1_r6 kn1_r7 kn1_r8)
theorem Ps_no (P : Ps) (b l c w : Int) (h : P.bad.map (fun r => (r.b, r.l, r.c, r.why)) = some (b, l, c, w)) : ∃ k T, P = ⟨k, some ⟨b, l, c, w⟩, T⟩ := by
  obtain ⟨k, bad, T⟩ := P
  refine ⟨k, T, ?_⟩
  cases bad with
  | none => cases h
  | some z =>
    obtain ⟨b', l', c', w'⟩ := z
    simp only [Option.map_some, Option.some.injEq, Prod.mk.injEq] at h
    obtain ⟨rfl, rfl, rfl, rfl⟩ := h
    rfl
theorem kn2_eq : ∃ k T, parseA kn2 = ⟨k, some ⟨11, 1, 12, 5⟩, T⟩ := Ps_no _ _ _ _ _ kn2_bad
theorem knT_le : knT.Le 1000000 := ⟨by decide, by decide, by decide, by decide, by decide, by decide, by decide, by decide, by decide, by decide, by decide, by decide, by decide, by decide, by decide, by decide⟩
theorem knT_ok : TabOk knT := ⟨by decide, by decide, by decide, by decide, by decide, by decide, by decide, by decide, by intro x hx; simp [knT] at hx; subst hx; exact ⟨by unfold maxLen; decide, by decide⟩, by intro x hx; simp [knT] at hx, by intro x hx; simp [knT] at hx; subst hx; unfold maxLen; decide, by intro x hx; simp [knT] at hx⟩
end Go.Proofs.YtbefahknbdjnpaaGreatDoor
