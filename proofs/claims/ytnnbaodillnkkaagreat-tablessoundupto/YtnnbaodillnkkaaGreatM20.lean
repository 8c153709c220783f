/- Texts of this claim, one behind the other. -/
import Derived.Test.YtnnbaodillnkkaaGreatM19
import Derived.BigRegion
import Derived.Lib.AppendZeros
import Derived.Test.YtnnbaodillnkkaaGreatM13
/- Meet of two sets. -/
namespace Go.Proofs.YtnnbaodillnkkaaGreat
open Go.RowKit Go.Shelf
set_option linter.unusedVariables false
theorem alloc1 {w : World} {a : Addr} {v : Value} (h : w.cell? a = some v) : ∀ o : Obj, (w.alloc o).cell? a = some v := fun o => alloc_cell o h
theorem alloc2 {w : World} {a : Addr} {v : Value} (h : w.cell? a = some v) : ∀ o o' : Obj, ((w.alloc o).alloc o').cell? a = some v := fun o o' => alloc_cell o' (alloc_cell o h)
theorem some_nil (w : World) : Calls Tryz.prog 158 #[.pointer none] w fun e w' => e = .returned (.pointer (some ⟨w.heap.size, 0, none⟩)) ∧ w' = w.alloc (.cells #[.slice none 0 0, .slice none 0 0] 107) := by
  go_enter Tryz.func158, Tryz.ntmps158
  go_wp2
  go_ret
  exact ⟨rfl, rfl⟩
theorem two_boxes (w : World) (xs ys : Array Value) : Blk ((w.alloc (.cells xs 68)).alloc (.cells ys 68)).drew w.heap.size xs 68 ∧ Blk ((w.alloc (.cells xs 68)).alloc (.cells ys 68)).drew (w.heap.size + 1) ys 68 ∧ Below w.heap.size w ((w.alloc (.cells xs 68)).alloc (.cells ys 68)).drew := by
  refine ⟨(Blk.new w xs 68).alloc _, ?_, (((Below.refl w.heap.size w).alloc (Nat.le_refl _) _).alloc (by simp) _).drew⟩
  have := Blk.new (w.alloc (.cells xs 68)) ys 68
  rw [World.size_alloc] at this
  exact this
theorem grows_two (w : World) : Grows ((w.alloc (.cells #[.slice none 0 0, .slice none 0 0] 107)).alloc (.cells #[.slice none 0 0, .slice none 0 0] 107)).drew w.heap.size w.heap.size [] ∧ Grows ((w.alloc (.cells #[.slice none 0 0, .slice none 0 0] 107)).alloc (.cells #[.slice none 0 0, .slice none 0 0] 107)).drew (w.heap.size + 1) w.heap.size [] ∧ Below w.heap.size w ((w.alloc (.cells #[.slice none 0 0, .slice none 0 0] 107)).alloc (.cells #[.slice none 0 0, .slice none 0 0] 107)).drew := by
  have b : Blk ((w.alloc (.cells #[.slice none 0 0, .slice none 0 0] 107)).alloc (.cells #[.slice none 0 0, .slice none 0 0] 107)).drew (w.heap.size + 1) #[.slice none 0 0, .slice none 0 0] 107 := by
    have := Blk.new (w.alloc (.cells #[.slice none 0 0, .slice none 0 0] 107)) #[.slice none 0 0, .slice none 0 0] 107
    rw [World.size_alloc] at this
    exact this
  exact ⟨(grows_new w _ rfl).below ((Below.refl _ _).alloc (Nat.le_refl _) _).drew, ⟨⟨⟨_, _, b, World.ownsRow_nil _ _ _ _, World.ownsRow_nil _ _ _ _⟩, Nat.le_succ _⟩, fun _ => b⟩, (((Below.refl w.heap.size w).alloc (Nat.le_refl _) _).alloc (by simp) _).drew⟩
def SomeAt (w : World) (p : Option Addr) (ys : List (Int × Int)) : Prop := (p = none ∧ ys = []) ∨ ∃ C, p = some ⟨C, 0, none⟩ ∧ SetAt w C ys
theorem SomeAt.spread {w : World} {p : Option Addr} {ys : List (Int × Int)} (h : SomeAt w p ys) : Spread ys := by
  rcases h with ⟨_, rfl⟩ | ⟨C, _, h⟩
  · exact ⟨fun x h => by simp at h, fun i j x y _ h => by simp at h⟩
  · exact h.spread
theorem meet_len {zs ys out : List (Int × Int)} {i j : Nat} (h : MeetI zs ys i j out) (hi : i ≤ zs.length) (hj : j ≤ ys.length) : out.length ≤ zs.length + ys.length := by have := h.len; omega
set_option maxRecDepth 100000 in
set_option maxHeartbeats 4000000 in
theorem meet_any (B : Nat) (p : Option Addr) (zs ys : List (Int × Int)) (hz : zs.length ≤ 10000) (hy : ys.length ≤ 10000) (w : World) (hs : SetAt w B zs) (ht : SomeAt w p ys) :
    Calls Tryz.prog 159 #[.pointer (some ⟨B, 0, none⟩), .pointer p] w fun e w' => ∃ (B' lo0 : Nat) (us : List (Int × Int)), e = .returned (.pointer (some ⟨B', 0, none⟩)) ∧ w.heap.size ≤ lo0 ∧ Made w' B' lo0 us ∧ Spread us ∧ us.length ≤ zs.length + ys.length ∧ (∀ r, memB us r = (memB zs r && memB ys r)) ∧ Below w.heap.size w w' := by
  have HS := hide hs.spread
  have HY := hide ht.spread
  have HT := hide ht
  obtain ⟨⟨a, ca, b, cb, hb0, hp, _⟩, _, _⟩ := hs
  have HP := hide hp
  have HBk := hide hb0
  clear hp hb0 ht
  go_enter Tryz.func159, Tryz.ntmps159
  go_wp2
  rename_i K1 hK1
  have key : ∀ (w1 : World) (a2 : Act) (Bm : Nat) (oa : Option Addr) (oc : Nat), (∃ U : Nat → Value, a2 = { tmps := #[.pointer (some ⟨B, 0, none⟩), .pointer p, U 2, U 3, .pointer none, .pointer (some ⟨Bm, 0, none⟩), .slice oa ys.length oc, U 7, U 8, U 9, U 10, U 11, U 12, U 13, U 14, U 15, U 16, U 17, U 18, U 19, U 20, U 21, U 22, U 23, U 24, U 25, U 26, U 27, U 28, U 29, U 30, U 31, U 32, U 33, U 34, U 35, U 36, U 37, U 38, U 39, U 40, U 41, U 42, U 43, U 44, U 45, U 46, U 47, U 48, U 49, U 50, U 51, U 52, U 53, U 54, U 55, U 56, U 57, U 58, U 59, U 60, U 61, U 62, U 63, U 64, U 65, U 66, U 67, U 68, U 69], defers := [] }) → Grows w1 Bm w.heap.size [] → Below w.heap.size w w1 → RowP w oa ys → K1 a2 w1 := by
    rintro w1 a2 Bm oa oc ⟨U, rfl⟩ hG hB hQ
    have HG1 := hide hG
    have HB1 := hide hB
    have HQ := hide hQ
    apply hK1
    clear hK1 hG hB hQ HT
    go_wp2
    go_loopw [7, 8] (fun iv jv wr => ∃ (i j : Nat) (out : List (Int × Int)), iv = .int .i64 i ∧ jv = .int .i64 j ∧ i ≤ zs.length ∧ j ≤ ys.length ∧ Hz (MeetI zs ys i j out) ∧ Hz (Grows wr Bm w.heap.size out) ∧ Hz (Below w.heap.size w wr)) (fun iv jv _ => zs.length + ys.length - ((intOf iv).toNat + (intOf jv).toNat))
    case atStart => exact ⟨0, 0, [], rfl, rfl, by omega, by omega, hide (meetI_start zs ys), HG1, HB1⟩
    case round =>
      obtain ⟨i, j, out, rfl, rfl, hi, hj, HI, HG, HB⟩ := hrel
      have d0 := ((unhide HBk).below (unhide HB) (unhide HBk).lt).cell 0
      clear HG1 HB1
      by_cases hin : i < zs.length
      · have hi1 : (i : Int) < (zs.length : Int) := by omega
        have hi2 : ((i : Nat) : Int).toNat = i := by omega
        by_cases hjn : j < ys.length
        · have hj1 : (j : Int) < (ys.length : Int) := by omega
          have hj2 : ((j : Nat) : Int).toNat = j := by omega
          obtain ⟨x, hx⟩ : ∃ x, zs[i]? = some x := ⟨_, List.getElem?_eq_getElem hin⟩
          obtain ⟨y, hy'⟩ : ∃ y, ys[j]? = some y := ⟨_, List.getElem?_eq_getElem hjn⟩
          obtain ⟨g, o, rfl, hg, hc⟩ := unhide HP (by omega)
          obtain ⟨g', o', rfl, hg', hc'⟩ := unhide HQ (by omega)
          have c0 := ((unhide HB).cell (p := ⟨g, o + i * 2, none⟩) hg).trans (hc i x hx).1
          have c1 := ((unhide HB).cell (p := ⟨g, o + i * 2 + 1, none⟩) hg).trans (hc i x hx).2
          have e0 := ((unhide HB).cell (p := ⟨g', o' + j * 2, none⟩) hg').trans (hc' j y hy').1
          have e1 := ((unhide HB).cell (p := ⟨g', o' + j * 2 + 1, none⟩) hg').trans (hc' j y hy').2
          have HLa := hide (meetI_lay (unhide HS) (unhide HY) (unhide HI) hx hy')
          have HLl := hide (fun h => meetI_left (unhide HS) (unhide HY) (unhide HI) hx hy' h)
          have HLr := hide (fun h => meetI_right (unhide HS) (unhide HY) (unhide HI) hx hy' h)
          have hol : out.length ≤ 1000000 := by have := meet_len (unhide HI) hi hj; omega
          have HSo := hide (unhide HI).spread
          obtain ⟨al, ah⟩ := x
          obtain ⟨bl, bh⟩ := y
          simp only at c0 c1 e0 e1
          clear hc hc' hx hy' HP HQ HS HY HI
          have c01 := alloc1 c0
          have c02 := alloc2 c0
          have c11 := alloc1 c1
          have c12 := alloc2 c1
          have e01 := alloc1 e0
          have e02 := alloc2 e0
          have e11 := alloc1 e1
          have e12 := alloc2 e1
          have d01 := alloc1 d0
          have d02 := alloc2 d0
          go_wp2_with fail
          rename_i K2 hK2
          have key2 : ∀ (w2 : World) (a2 : Act) (Pa Pb : Nat), (∃ V : Nat → Value, a2 = { tmps := #[.pointer (some ⟨B, 0, none⟩), .pointer p, U 2, U 3, .pointer none, .pointer (some ⟨Bm, 0, none⟩), .slice (some ⟨g', o', none⟩) ys.length oc, .int .i64 i, .int .i64 j, .pointer (some ⟨Pa, 0, none⟩), .pointer (some ⟨Pb, 0, none⟩), V 11, U 12, U 13, U 14, U 15, U 16, U 17, U 18, V 19, V 20, V 21, V 22, V 23, V 24, V 25, V 26, V 27, V 28, V 29, V 30, V 31, V 32, V 33, V 34, V 35, V 36, V 37, V 38, V 39, V 40, V 41, V 42, V 43, V 44, V 45, V 46, V 47, V 48, V 49, V 50, V 51, V 52, V 53, V 54, V 55, V 56, V 57, V 58, V 59, V 60, V 61, V 62, V 63, V 64, V 65, V 66, V 67, V 68, U 69], defers := [] }) → Blk w2 Pa #[.int .i32 al, .int .i32 ah] 68 → Blk w2 Pb #[.int .i32 bl, .int .i32 bh] 68 → wr.heap.size ≤ Pa → wr.heap.size ≤ Pb → Below wr.heap.size wr w2 → K2 a2 w2 := by
            rintro w2 a2 Pa Pb ⟨V, rfl⟩ ha hb hpa hpb hB2
            apply hK2
            clear hK2 c0 c1 e0 e1 c01 c02 c11 c12 e01 e02 e11 e12 d0 d01 d02
            have a0 := ha.cell 0
            have a1 := ha.cell 1
            have b0 := hb.cell 0
            have b1 := hb.cell 1
            have HA := hide ha
            have HBb := hide hb
            have HB2 := hide hB2
            have HPa := hide hpa
            have HPb := hide hpb
            clear ha hb hB2 hpa hpb
            have HX := hide (Blk.new w2 #[.int .i32 (max al bl), .int .i32 (min ah bh)] 68)
            have HAl := hide ((Below.refl w2.heap.size w2).alloc (Nat.le_refl _) (.cells #[.int .i32 (max al bl), .int .i32 (min ah bh)] 68))
            have HFa := hide (fun w => falling_any (max al bl, min ah bh) w)
            by_cases hf : min ah bh < max al bl
            · have hd : decide (min ah bh < max al bl) = true := decide_eq_true hf
              have HM : Hz (meetL out (al, ah) (bl, bh) = out) := hide (by unfold meetL bothOf; rw [if_neg]; simp only; omega)
              rw [unhide HM] at HLl HLr
              clear hf
              go_wp2_with fail
              refine (unhide HFa _).mono ?_
              rintro e w3 ⟨rfl, hb3⟩
              have hb23 := (unhide HAl).trans (hb3.mono (unhide HAl).size)
              have HB3 := hide ((unhide HB2).trans (hb23.mono (unhide HB2).size))
              have f1 := ((unhide HA).below hb23 (unhide HA).lt).cell 1
              have g1 := ((unhide HBb).below hb23 (unhide HBb).lt).cell 1
              have HG3 := hide ((unhide HG).below (unhide HB3))
              have HB4 := hide ((unhide HB).trans ((unhide HB3).mono (unhide HB).size))
              clear hb3 hb23 a0 a1 b0 b1
              by_cases hlt : ah < bh
              · have HN := hide (unhide HLl hlt)
                go_wp2
                go_roundw
                case rel => exact ⟨i + 1, j, out, by congr 1, rfl, by omega, by omega, HN, HG3, HB4⟩
                case measure => simp [intOf]; omega
              · have HN := hide (unhide HLr (by omega))
                go_wp2
                go_roundw
                case rel => exact ⟨i, j + 1, out, rfl, by congr 1, by omega, by omega, HN, HG3, HB4⟩
                case measure => simp [intOf]; omega
            · have hd : decide (min ah bh < max al bl) = false := decide_eq_false hf
              have HM : Hz (meetL out (al, ah) (bl, bh) = layL out (max al bl, min ah bh)) := hide (by unfold meetL bothOf; rw [if_pos]; simp only; omega)
              have HE : Hz (endsB (max al bl, min ah bh) = true) := hide (unhide HLa).2.2.2
              rw [unhide HM] at HLl HLr
              clear hf
              go_wp2_with fail
              refine (unhide HFa _).mono ?_
              rintro e w3 ⟨rfl, hb3⟩
              have hb23 := (unhide HAl).trans (hb3.mono (unhide HAl).size)
              have HB3 := hide ((unhide HB2).trans (hb23.mono (unhide HB2).size))
              have hA3 := (unhide HA).below hb23 (unhide HA).lt
              have hB3 := (unhide HBb).below hb23 (unhide HBb).lt
              have hX3 := (unhide HX).below hb3 (unhide HX).lt
              have HA3 := hide hA3
              have HBb3 := hide hB3
              have x0 := hX3.cell 0
              have x1 := hX3.cell 1
              have HG3 := hide ((unhide HG).below (unhide HB3))
              have HB4 := hide ((unhide HB).trans ((unhide HB3).mono (unhide HB).size))
              have HLy := hide (lay_any Bm w.heap.size out (max al bl, min ah bh) hol (unhide HSo) (unhide HE) w3 (unhide HG3) (unhide HB4).size)
              clear hb3 hb23 a0 a1 b0 b1 hA3 hB3 hX3
              go_wp2_with fail
              refine (unhide HLy).mono ?_
              rintro e w5 ⟨⟨r, rfl⟩, hG5, hb5, hfr⟩
              have f1 := (frame_kept (unhide HG).1 (unhide HB3) (unhide HA3) (unhide HPa) hfr).cell 1
              have g1 := (frame_kept (unhide HG).1 (unhide HB3) (unhide HBb3) (unhide HPb) hfr).cell 1
              have HG5 := hide hG5
              have HB5 := hide ((unhide HB4).trans hb5)
              clear hG5 hb5 hfr x0 x1
              by_cases hlt : ah < bh
              · have HN := hide (unhide HLl hlt)
                go_wp2
                go_roundw
                case rel => exact ⟨i + 1, j, _, by congr 1, rfl, by omega, by omega, HN, HG5, HB5⟩
                case measure => simp [intOf]; omega
              · have HN := hide (unhide HLr (by omega))
                go_wp2
                go_roundw
                case rel => exact ⟨i, j + 1, _, rfl, by congr 1, by omega, by omega, HN, HG5, HB5⟩
                case measure => simp [intOf]; omega
          have KEY2 := hide key2
          clear key2 hK2
          go_big_region
          · have hP := two_boxes wr #[.int .i32 al, .int .i32 ah] #[.int .i32 bl, .int .i32 bh]
            exact unhide KEY2 _ _ wr.heap.size (wr.heap.size + 1) (mk_act rfl) hP.1 hP.2.1 (by omega) (by omega) hP.2.2
          · have hP := two_boxes wr #[.int .i32 bl, .int .i32 bh] #[.int .i32 al, .int .i32 ah]
            exact unhide KEY2 _ _ (wr.heap.size + 1) wr.heap.size (mk_act rfl) hP.2.1 hP.1 (by omega) (by omega) hP.2.2
        · have hj1 : ¬ (j : Int) < (ys.length : Int) := by omega
          have HE := hide (meetI_end (unhide HI) (.inr (by omega)))
          have HLn := hide (meet_len (unhide HI) hi hj)
          go_wp2
          go_ret
          exact ⟨Bm, rfl, w.heap.size, Nat.le_refl _, out, (unhide HG).1, (unhide HI).spread, unhide HLn, unhide HE, unhide HB⟩
      · have hi1 : ¬ (i : Int) < (zs.length : Int) := by omega
        have HE := hide (meetI_end (unhide HI) (.inl (by omega)))
        have HLn := hide (meet_len (unhide HI) hi hj)
        go_wp2
        go_ret
        exact ⟨Bm, rfl, w.heap.size, Nat.le_refl _, out, (unhide HG).1, (unhide HI).spread, unhide HLn, unhide HE, unhide HB⟩
  have KEY := hide key
  clear key hK1
  have hmx2 : Tryz.prog.follows .mixedOrders = true := by kernel_rfl
  rcases unhide HT with ⟨rfl, rfl⟩ | ⟨C, rfl, hC⟩
  · have HSo := hide (fun w => some_nil w)
    have d0 := (Blk.new w #[.slice none 0 0, .slice none 0 0] 107).cell 0
    have d1 := alloc1 d0
    have d2 : ∀ o : Obj, ((w.alloc o).alloc (.cells #[.slice none 0 0, .slice none 0 0] 107)).cell? ⟨w.heap.size + 1, 0, none⟩ = some (.slice none 0 0) := fun o => by
      have := (Blk.new (w.alloc o) #[.slice none 0 0, .slice none 0 0] 107).cell 0
      rw [World.size_alloc] at this
      exact this
    go_region_law (go_simp; refine (unhide HSo _).mono ?_; rintro e w2 ⟨rfl, rfl⟩)
    all_goals first
      | exact unhide KEY _ _ w.heap.size none 0 (mk_act rfl) (grows_two w).1 (grows_two w).2.2 (fun h => by simp at h)
      | exact unhide KEY _ _ (w.heap.size + 1) none 0 (mk_act rfl) (grows_two w).2.1 (grows_two w).2.2 (fun h => by simp at h)
  · obtain ⟨⟨c, cc, d, cd, hc0, hq, _⟩, _, _⟩ := hC
    have HQ := hide hq
    have HSo := hide (fun w => some_any C w)
    have d0 := hc0.cell 0
    have d1 := alloc1 d0
    clear hq hc0
    go_region_law (go_simp; refine (unhide HSo _).mono ?_; rintro e w2 ⟨rfl, rfl⟩)
    all_goals exact unhide KEY _ _ w.heap.size _ _ (mk_act rfl) ((grows_new w _ rfl).below (Below.refl _ _).drew) ((Below.refl _ w).alloc (Nat.le_refl _) _).drew (unhide HQ)
end Go.Proofs.YtnnbaodillnkkaaGreat
namespace Go.Proofs.YtnnbaodillnkkaaGreat
open Go.RowKit Go.Shelf
set_option linter.unusedVariables false
set_option linter.unusedSimpArgs false
theorem appendP_run (W : World) (lo : Nat) (v : Value) (xs ys : List (Int × Int)) (b : Option Addr) (cb : Nat) (hx : xs.length ≤ 1000000) (hy : ys.length ≤ 1000000) (hv : W.ownsRow lo 68 2 v xs.length (encP xs)) (hr : RowP W b ys) (hlo : lo ≤ W.heap.size) :
    ∃ v1 W1, (Builtin.append_ #[27, 27] 27 #[v, .slice b ys.length cb]).run Tryz.prog W = .ok v1 W1 ∧ W1.ownsRow lo 68 2 v1 (xs ++ ys).length (encP (xs ++ ys)) ∧ W.grownBy W1 v.ownBlock := by
  obtain ⟨iP, hi0, hi1, hi2, hi3⟩ := info_parts infoP
  have hcells : ∀ p, b = some p → ∀ j u, (encP ys)[j]? = some u → W.cell? (p.add j) = some u := fun p hp j u hu => by
    have hl := (List.getElem?_eq_some_iff.1 hu).1
    rw [encP_length] at hl
    obtain ⟨g, o, h, hg, hc⟩ := hr (by omega)
    rw [hp] at h
    cases h
    rw [add_none']
    exact encP_cells hc j u hu
  cases b with
  | none =>
    have h0 : ys = [] := by
      by_cases e : 0 < ys.length
      · obtain ⟨g, o, h, _⟩ := hr e; cases h
      · exact List.eq_nil_of_length_eq_zero (by omega)
    subst h0
    refine ⟨v, W, ?_, by simpa using hv, ⟨rfl, rfl, rfl, Nat.le_refl _, fun _ _ _ => rfl⟩⟩
    rcases hv.2 with ⟨rfl, _⟩ | ⟨g, cap, cur, rfl, _, hg, h1, _⟩
    · simp [Builtin.append_, run_underlying Tryz.underlying27, sizeOf, typeInfo, hi0, Builtin.lenOf, Builtin.firstCells, loadCells, loadCellsFrom]
    · simp [Builtin.append_, run_underlying Tryz.underlying27, sizeOf, typeInfo, hi0, Builtin.lenOf, Builtin.firstCells, loadCells, loadCellsFrom, h1, storeCells]
  | some p =>
    obtain ⟨v2, w2, hr2, ho2, hg2, _⟩ := run_append_own (P := Tryz.prog) W lo 27 27 68 iP (.agg #[.int .i32 0, .int .i32 0]) 2 8 Tryz.underlying27 hi0 hi1 hi2 hi3 rfl (by decide) v xs.length (encP xs) hv p ys.length cb (encP ys) (encP_length ys) (hcells p rfl) (encP_one ys) (by unfold maxLen; omega) (by omega) hlo
    exact ⟨v2, w2, hr2, by rw [encP_append, List.length_append]; exact ho2, hg2⟩
set_option maxRecDepth 100000 in
set_option maxHeartbeats 2000000 in
theorem growP_any (n : Nat) (hn : n ≤ 2000000) (w : World) : Calls Tryz.prog 174 #[.slice none 0 0, .int .i64 n] w fun e w' => ∃ v, e = .returned v ∧ w'.ownsRow w.heap.size 68 2 v 0 [] ∧ Below w.heap.size w w' := by
  by_cases h0 : 0 < n
  · obtain ⟨i0, hi, hz0, hz1, hz2⟩ := info_parts infoP
    have kz := Lib.run_append_nil_zeros (P := Tryz.prog) w 27 3 27 68 i0 (.agg #[.int .i32 0, .int .i32 0]) .i64 .i64 Tryz.underlying27 Tryz.underlying3 hi hz0 n h0 (by rw [hz1]; omega) (by omega) (by rw [hz2]; omega)
    have hge := grownCap_ge w n 0 68
    have hle := grownCap_le_maxLen w n 0 68 (by unfold maxLen; omega)
    have hcz : ∀ m, (Builtin.zeroCells (Value.agg #[.int .i32 0, .int .i32 0]).cells m).size = 2 * m := fun m => by rw [size_zeroCells]; simp [Value.cells]; omega
    have hsz : (Builtin.zeroCells (Value.agg #[.int .i32 0, .int .i32 0]).cells n ++ Builtin.zeroCells (Value.agg #[.int .i32 0, .int .i32 0]).cells (grownCap w n 0 68 - n)).size = 2 * grownCap w n 0 68 := by rw [Array.size_append, hcz, hcz]; omega
    generalize Builtin.zeroCells (Value.agg #[.int .i32 0, .int .i32 0]).cells n ++ Builtin.zeroCells (Value.agg #[.int .i32 0, .int .i32 0]).cells (grownCap w n 0 68 - n) = cs at *
    generalize grownCap w n 0 68 = cap at *
    have h1 : (0 : Int) < (n : Int) := by omega
    have h2 : (n : Int) ≤ 4194304 := by omega
    have HSZ := hide hsz
    have hcap : (0 : Int) ≤ (cap : Int) := by omega
    have HLE := hide hle
    have HGE := hide hge
    clear hi hz0 hz1 hz2 hcz hsz hle hge
    go_enter Tryz.func174, Tryz.ntmps174
    go_wp2_with (at_builtin; refine Lib.wpList_append_run _ rfl _ _ 27 3 rfl (.slice none 0 0) (.int .i64 n) rfl rfl _ _ kz ?_)
    go_ret
    refine ⟨_, rfl, ⟨by simp, .inr ⟨w.heap.size, cap, cs, rfl, Nat.le_refl _, World.alloc_heap_new w.drew _, by omega, unhide HLE, by rw [unhide HSZ]; omega, by simp⟩⟩, ((Below.refl _ _).drew).alloc (Nat.le_refl _) _⟩
  · obtain rfl : n = 0 := by omega
    clear h0 hn
    go_enter Tryz.func174, Tryz.ntmps174
    go_wp2
    go_ret
    exact ⟨_, rfl, World.ownsRow_nil _ _ _ _, Below.refl _ _⟩
set_option maxRecDepth 100000 in
set_option maxHeartbeats 4000000 in
theorem concatP_any (G : Nat) (a b : Option Addr) (c1 c2 : Nat) (xs ys : List (Int × Int)) (hx : xs.length ≤ 1000000) (hy : ys.length ≤ 1000000) (w : World) (hB : Blk w G #[.slice a xs.length c1, .slice b ys.length c2] 27) (h1 : RowP w a xs) (h2 : RowP w b ys) :
    Calls Tryz.prog 157 #[.slice (some ⟨G, 0, none⟩) 2 2] w fun e w' => ∃ v, e = .returned v ∧ w'.ownsRow w.heap.size 68 2 v (xs ++ ys).length (encP (xs ++ ys)) ∧ Below w.heap.size w w' := by
  have d0 := hB.cell 0
  have d1 := hB.cell 1
  have HBk := hide hB
  have H1 := hide h1
  have H2 := hide h2
  have hxi : (xs.length : Int) ≤ 1000000 := by omega
  have hyi : (ys.length : Int) ≤ 1000000 := by omega
  clear hB h1 h2
  have hgr := growP_any (xs.length + ys.length) (by omega)
  rw [show ((xs.length + ys.length : Nat) : Int) = (xs.length : Int) + (ys.length : Int) by omega] at hgr
  have HG := hide hgr
  have hs1 : ¬ (xs.length : Int) < 0 := by omega
  have hs2 : ¬ (xs.length : Int) + (ys.length : Int) < 0 := by omega
  clear hgr
  go_enter Tryz.func157, Tryz.ntmps157
  go_wp2_with fail
  refine wp_loop_rounds 3 ?_
  rw [rounds_succ]
  go_wp2_with fail
  rw [rounds_succ]
  go_wp2_with fail
  rw [rounds_succ]
  go_wp2_with fail
  refine (unhide HG _).mono ?_
  rintro e w1 ⟨v, rfl, hown, hb⟩
  have hlt1 := hb.size
  have K1 := (unhide H1).below hb
  obtain ⟨v2, w2, hr2, ho2, hg2⟩ := appendP_run w1 w.heap.size v [] xs a c1 (by simp) hx (show w1.ownsRow w.heap.size 68 2 v 0 [] from hown) K1 hlt1
  rw [List.nil_append] at ho2
  have hb2 : Below w.heap.size w w2 := hb.grown hg2 hlt1 (fun k hk => (hown.lt k hk).1)
  have hBk := (unhide HBk).below hb (unhide HBk).lt
  clear d0 d1
  have d0 := hBk.cell 0
  have d1 := hBk.cell 1
  have hBk2 := (unhide HBk).below hb2 (unhide HBk).lt
  have f1 := hBk2.cell 1
  have hlt2 := hb2.size
  have K2 := (unhide H2).below hb2
  obtain ⟨v3, w3, hr3, ho3, hg3⟩ := appendP_run w2 w.heap.size v2 xs ys b c2 hx hy ho2 K2 hlt2
  have hb3 : Below w.heap.size w w3 := hb2.grown hg3 hlt2 (fun k hk => (ho2.lt k hk).1)
  have HE := hide ho3
  have HBE := hide hb3
  have HR2 := hide hr2
  have HR3 := hide hr3
  clear hown hb hBk K1 hr2 ho2 hg2 hb2 hBk2 K2 hr3 ho3 hg3 hb3 hs1 hs2 HG
  go_wp2_with fail
  refine wp_loop_rounds 3 ?_
  rw [rounds_succ]
  go_wp2_with (at_builtin; refine Lib.wpList_append_run _ rfl _ _ 27 27 rfl v (.slice a xs.length c1) rfl rfl v2 w2 (unhide HR2) ?_)
  rw [rounds_succ]
  go_wp2_with (at_builtin; refine Lib.wpList_append_run _ rfl _ _ 27 27 rfl v2 (.slice b ys.length c2) rfl rfl v3 w3 (unhide HR3) ?_)
  rw [rounds_succ]
  go_wp2
  go_ret
  exact ⟨_, rfl, unhide HE, unhide HBE⟩
end Go.Proofs.YtnnbaodillnkkaaGreat
namespace Go.Proofs.YtnnbaodillnkkaaGreat
open Go.RowKit Go.Shelf
set_option linter.unusedVariables false
theorem right_both {zs ys : List (Int × Int)} (h : Spread zs) (g : Spread ys) : RightL (zs ++ ys) := fun x hx => by
  rcases List.mem_append.1 hx with e | e
  · exact h.ends x e
  · exact g.ends x e
set_option maxRecDepth 100000 in
set_option maxHeartbeats 4000000 in
theorem union_any (B : Nat) (p : Option Addr) (zs ys : List (Int × Int)) (hz : zs.length ≤ 10000) (hy : ys.length ≤ 10000) (w : World) (hs : SetAt w B zs) (ht : SomeAt w p ys) :
    Calls Tryz.prog 114 #[.pointer (some ⟨B, 0, none⟩), .pointer p] w fun e w' => ∃ (B' lo0 : Nat) (us : List (Int × Int)), e = .returned (.pointer (some ⟨B', 0, none⟩)) ∧ w.heap.size ≤ lo0 ∧ Made w' B' lo0 us ∧ Spread us ∧ us.length ≤ zs.length + ys.length ∧ (∀ r, memB us r = (memB zs r || memB ys r)) ∧ Below w.heap.size w w' := by
  have hRt := right_both hs.spread ht.spread
  obtain ⟨⟨a, ca, b, cb, hb0, hp, ha⟩, hsp, hl⟩ := hs
  have d0 := hb0.cell 0
  have d1 := alloc1 d0
  have hmx2 : Tryz.prog.follows .mixedOrders = true := by kernel_rfl
  have hmem : ∀ r, memB (zs ++ ys) r = (memB zs r || memB ys r) := memB_append zs ys
  have hlen : (zs ++ ys).length = zs.length + ys.length := List.length_append
  rcases ht with ⟨rfl, rfl⟩ | ⟨C, rfl, hC⟩
  · have HSo := hide (fun w => some_nil w)
    have x0 := (Blk.new w #[.slice none 0 0, .slice none 0 0] 107).cell 0
    obtain ⟨W1, hW1⟩ : ∃ W1, W1 = ((w.alloc (.cells #[.slice none 0 0, .slice none 0 0] 107)).alloc (.cells #[.slice a zs.length ca, .slice none 0 0] 27)).drew := ⟨_, rfl⟩
    have hb1 : Below w.heap.size w W1 := by rw [hW1]; exact (((Below.refl w.heap.size w).alloc (Nat.le_refl _) _).alloc (by simp) _).drew
    have hG : Blk W1 (w.heap.size + 1) #[.slice a zs.length ca, .slice none 0 0] 27 := by
      have := Blk.new (w.alloc (.cells #[.slice none 0 0, .slice none 0 0] 107)) #[.slice a zs.length ca, .slice none 0 0] 27
      rw [World.size_alloc] at this
      rw [hW1]
      exact this
    have hCo := concatP_any (w.heap.size + 1) a none ca 0 zs [] (by omega) (by simp) W1 hG (hp.below hb1) (fun h => by simp at h)
    generalize zs ++ [] = us at *
    have HCo := hide hCo
    have HB1 := hide hb1
    have HRt := hide hRt
    have HMe := hide hmem
    have HLe := hide hlen
    rw [hW1] at HCo
    clear hp ha hsp hb0 hl hb1 hG hCo hRt hmem hlen
    go_enter Tryz.func114, Tryz.ntmps114
    go_wp2_with fail
    go_region_law (first
      | (go_simp; refine (unhide HSo _).mono ?_; rintro e w2 ⟨rfl, rfl⟩)
      | (go_simp; refine (unhide HCo).mono ?_; rintro e w2 ⟨v, rfl, hown, hb⟩; obtain ⟨av, cv, rfl, hrow, _, _⟩ := own_row hown; have HRow := hide hrow; have HBc := hide hb; clear hown hrow hb)
      | (go_simp; refine (of_right av cv us (by have := unhide HLe; simp at this; omega) (unhide HRt) _ (unhide HRow)).mono ?_; rintro e w3 ⟨B', lo0, os, rfl, h1, h2, h3, h4, h5, h6⟩; have HE := hide (And.intro h1 (And.intro h2 (And.intro h3 (And.intro h4 (And.intro h5 h6))))); clear h1 h2 h3 h4 h5 h6))
    all_goals
      rw [← hW1] at HBc
      go_wp2
      go_ret
      obtain ⟨h1, h2, h3, h4, h5, h6⟩ := unhide HE
      have s1 := (unhide HB1).size
      have s2 := (unhide HBc).size
      have hle := unhide HLe
      have hle2 : us.length = zs.length := by simpa using hle
      exact ⟨B', rfl, lo0, by omega, os, h2, h3, by first | omega | (simp; omega), fun r => by rw [h5 r, unhide HMe r], (unhide HB1).trans (((unhide HBc).trans (h6.mono s2)).mono s1)⟩
  · obtain ⟨⟨c, cc, d, cd, hc0, hq, _⟩, _, hl'⟩ := hC
    have e0 := hc0.cell 0
    have e1 := alloc1 e0
    have HSo := hide (fun w => some_any C w)
    obtain ⟨W1, hW1⟩ : ∃ W1, W1 = (w.alloc (.cells #[.slice a zs.length ca, .slice c ys.length cc] 27)).drew := ⟨_, rfl⟩
    have hb1 : Below w.heap.size w W1 := by rw [hW1]; exact ((Below.refl w.heap.size w).alloc (Nat.le_refl _) _).drew
    have hG : Blk W1 w.heap.size #[.slice a zs.length ca, .slice c ys.length cc] 27 := by
      rw [hW1]
      exact Blk.new w #[.slice a zs.length ca, .slice c ys.length cc] 27
    have hCo := concatP_any w.heap.size a c ca cc zs ys (by omega) (by omega) W1 hG (hp.below hb1) (hq.below hb1)
    generalize zs ++ ys = us at *
    have HCo := hide hCo
    have HB1 := hide hb1
    have HRt := hide hRt
    have HMe := hide hmem
    have HLe := hide hlen
    rw [hW1] at HCo
    clear hp ha hsp hb0 hl hb1 hG hCo hRt hmem hlen hc0 hq hl'
    go_enter Tryz.func114, Tryz.ntmps114
    go_wp2_with fail
    go_region_law (first
      | (go_simp; refine (unhide HSo _).mono ?_; rintro e w2 ⟨rfl, rfl⟩)
      | (go_simp; refine (unhide HCo).mono ?_; rintro e w2 ⟨v, rfl, hown, hb⟩; obtain ⟨av, cv, rfl, hrow, _, _⟩ := own_row hown; have HRow := hide hrow; have HBc := hide hb; clear hown hrow hb)
      | (go_simp; refine (of_right av cv us (by have := unhide HLe; omega) (unhide HRt) _ (unhide HRow)).mono ?_; rintro e w3 ⟨B', lo0, os, rfl, h1, h2, h3, h4, h5, h6⟩; have HE := hide (And.intro h1 (And.intro h2 (And.intro h3 (And.intro h4 (And.intro h5 h6))))); clear h1 h2 h3 h4 h5 h6))
    all_goals
      rw [← hW1] at HBc
      go_wp2
      go_ret
      obtain ⟨h1, h2, h3, h4, h5, h6⟩ := unhide HE
      have s1 := (unhide HB1).size
      have s2 := (unhide HBc).size
      have hle := unhide HLe
      exact ⟨B', rfl, lo0, by omega, os, h2, h3, by omega, fun r => by rw [h5 r, unhide HMe r], (unhide HB1).trans (((unhide HBc).trans (h6.mono s2)).mono s1)⟩
theorem SetAt.empty {w : World} {B : Nat} (h : Blk w B #[.slice none 0 0, .slice none 0 0] 107) : SetAt w B [] := ⟨⟨none, 0, none, 0, h, fun h => by simp at h, fun h => by simp at h⟩, ⟨fun x h => by simp at h, fun i j x y _ h => by simp at h⟩, by simp⟩
theorem some_set (p : Option Addr) (ys : List (Int × Int)) (w : World) (ht : SomeAt w p ys) : Calls Tryz.prog 158 #[.pointer p] w fun e w' => ∃ C, e = .returned (.pointer (some ⟨C, 0, none⟩)) ∧ SetAt w' C ys ∧ Below w.heap.size w w' := by
  rcases ht with ⟨rfl, rfl⟩ | ⟨C, rfl, hC⟩
  · exact (some_nil w).mono fun e w' ⟨h1, h2⟩ => ⟨_, h1, by rw [h2]; exact SetAt.empty (Blk.new w _ _), by rw [h2]; exact (Below.refl _ _).alloc (Nat.le_refl _) _⟩
  · exact (some_any C w).mono fun e w' ⟨h1, h2⟩ => ⟨_, h1, by rw [h2]; exact hC, by rw [h2]; exact Below.refl _ _⟩
theorem mem_minus (zs ys ns : List (Int × Int)) (h : ∀ r, memB ns r = (runeB r && !memB ys r)) (r : Int) : (memB zs r && memB ns r) = (memB zs r && !memB ys r) := by
  rw [h r]
  cases hz : memB zs r with
  | false => rfl
  | true => rw [((memB_iff _ _).1 hz).2]; rfl
set_option maxRecDepth 100000 in
set_option maxHeartbeats 4000000 in
theorem minus_any (B : Nat) (p : Option Addr) (zs ys : List (Int × Int)) (hz : zs.length ≤ 5000) (hy : ys.length ≤ 5000) (w : World) (hs : SetAt w B zs) (ht : SomeAt w p ys) :
    Calls Tryz.prog 115 #[.pointer (some ⟨B, 0, none⟩), .pointer p] w fun e w' => ∃ (B' lo0 : Nat) (us : List (Int × Int)), e = .returned (.pointer (some ⟨B', 0, none⟩)) ∧ w.heap.size ≤ lo0 ∧ Made w' B' lo0 us ∧ Spread us ∧ us.length ≤ zs.length + ys.length + 1 ∧ (∀ r, memB us r = (memB zs r && !memB ys r)) ∧ Below w.heap.size w w' := by
  have HS := hide hs
  have HSo := hide (some_set p ys w ht)
  clear hs ht
  go_enter Tryz.func115, Tryz.ntmps115
  go_wp2_with fail
  refine (unhide HSo).mono ?_
  rintro e w1 ⟨C, rfl, hC, hb1⟩
  have HC := hide hC
  have HB1 := hide hb1
  have HS1 := hide ((unhide HS).below hb1)
  clear hC hb1
  go_wp2_with fail
  refine (not_any C ys (by omega) w1 (unhide HC)).mono ?_
  rintro e w2 ⟨D, lo1, ns, rfl, h1, h2, h3, h4, h5, h6⟩
  have HD := hide (h2.set h3 (by omega))
  have HB2 := hide ((unhide HB1).trans (h6.mono (unhide HB1).size))
  have HS2 := hide ((unhide HS1).below h6)
  have HN := hide h5
  have hnl : ns.length ≤ 5001 := by omega
  have HNL := hide h4
  clear h1 h2 h3 h4 h5 h6
  go_wp2_with fail
  refine (meet_any B _ zs ns (by omega) (by omega) w2 (unhide HS2) (.inr ⟨D, rfl, unhide HD⟩)).mono ?_
  rintro e w3 ⟨B', lo0, us, rfl, h1, h2, h3, h4, h5, h6⟩
  have HE := hide (And.intro h1 (And.intro h2 (And.intro h3 (And.intro h4 (And.intro h5 h6)))))
  clear h1 h2 h3 h4 h5 h6
  go_wp2
  go_ret
  obtain ⟨h1, h2, h3, h4, h5, h6⟩ := unhide HE
  have s1 := (unhide HB2).size
  have hle := unhide HNL
  exact ⟨B', lo0, us, rfl, by omega, h2, h3, by omega, fun r => by rw [h5 r, mem_minus zs ys ns (unhide HN) r], (unhide HB2).trans (h6.mono s1)⟩
end Go.Proofs.YtnnbaodillnkkaaGreat
