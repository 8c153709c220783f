/- Meet of two sets. -/
import Derived.Test.YtodikfaddfojgaaSetMeetM
import Derived.BigRegion
namespace Go.Proofs.Ytodikfaddfojgaa
open Go.RowKit Go.Shelf
set_option linter.unusedVariables false
theorem alloc1 {w : World} {a : Addr} {v : Value} (h : w.cell? a = some v) : ∀ o : Obj, (w.alloc o).cell? a = some v := fun o => alloc_cell o h
theorem alloc2 {w : World} {a : Addr} {v : Value} (h : w.cell? a = some v) : ∀ o o' : Obj, ((w.alloc o).alloc o').cell? a = some v := fun o o' => alloc_cell o' (alloc_cell o h)
theorem some_nil (w : World) : Calls Try.prog 30 #[.pointer none] w fun e w' => e = .returned (.pointer (some ⟨w.heap.size, 0, none⟩)) ∧ w' = w.alloc (.cells #[.slice none 0 0, .slice none 0 0] 54) := by
  go_enter Try.func30, Try.ntmps30
  go_wp2
  go_ret
  exact ⟨rfl, rfl⟩
theorem two_boxes (w : World) (xs ys : Array Value) : Blk ((w.alloc (.cells xs 33)).alloc (.cells ys 33)).drew w.heap.size xs 33 ∧ Blk ((w.alloc (.cells xs 33)).alloc (.cells ys 33)).drew (w.heap.size + 1) ys 33 ∧ Below w.heap.size w ((w.alloc (.cells xs 33)).alloc (.cells ys 33)).drew := by
  refine ⟨(Blk.new w xs 33).alloc _, ?_, (((Below.refl w.heap.size w).alloc (Nat.le_refl _) _).alloc (by simp) _).drew⟩
  have := Blk.new (w.alloc (.cells xs 33)) ys 33
  rw [World.size_alloc] at this
  exact this
theorem grows_two (w : World) : Grows ((w.alloc (.cells #[.slice none 0 0, .slice none 0 0] 54)).alloc (.cells #[.slice none 0 0, .slice none 0 0] 54)).drew w.heap.size w.heap.size [] ∧ Grows ((w.alloc (.cells #[.slice none 0 0, .slice none 0 0] 54)).alloc (.cells #[.slice none 0 0, .slice none 0 0] 54)).drew (w.heap.size + 1) w.heap.size [] ∧ Below w.heap.size w ((w.alloc (.cells #[.slice none 0 0, .slice none 0 0] 54)).alloc (.cells #[.slice none 0 0, .slice none 0 0] 54)).drew := by
  have b : Blk ((w.alloc (.cells #[.slice none 0 0, .slice none 0 0] 54)).alloc (.cells #[.slice none 0 0, .slice none 0 0] 54)).drew (w.heap.size + 1) #[.slice none 0 0, .slice none 0 0] 54 := by
    have := Blk.new (w.alloc (.cells #[.slice none 0 0, .slice none 0 0] 54)) #[.slice none 0 0, .slice none 0 0] 54
    rw [World.size_alloc] at this
    exact this
  exact ⟨(grows_new w _ rfl).below ((Below.refl _ _).alloc (Nat.le_refl _) _).drew, ⟨⟨⟨_, _, b, World.ownsRow_nil _ _ _ _, World.ownsRow_nil _ _ _ _⟩, Nat.le_succ _⟩, fun _ => b⟩, (((Below.refl w.heap.size w).alloc (Nat.le_refl _) _).alloc (by simp) _).drew⟩
/-- A set, or none: an empty one. -/
def SomeAt (w : World) (p : Option Addr) (ys : List (Int × Int)) : Prop := (p = none ∧ ys = []) ∨ ∃ C, p = some ⟨C, 0, none⟩ ∧ SetAt w C ys
theorem SomeAt.spread {w : World} {p : Option Addr} {ys : List (Int × Int)} (h : SomeAt w p ys) : Spread ys := by
  rcases h with ⟨_, rfl⟩ | ⟨C, _, h⟩
  · exact ⟨fun x h => by simp at h, fun i j x y _ h => by simp at h⟩
  · exact h.spread
theorem meet_len {zs ys out : List (Int × Int)} {i j : Nat} (h : MeetI zs ys i j out) (hi : i ≤ zs.length) (hj : j ≤ ys.length) : out.length ≤ zs.length + ys.length := by have := h.len; omega
set_option maxRecDepth 100000 in
set_option maxHeartbeats 4000000 in
theorem meet_any (B : Nat) (p : Option Addr) (zs ys : List (Int × Int)) (hz : zs.length ≤ 10000) (hy : ys.length ≤ 10000) (w : World) (hs : SetAt w B zs) (ht : SomeAt w p ys) :
    Calls Try.prog 10 #[.pointer (some ⟨B, 0, none⟩), .pointer p] w fun e w' => ∃ (B' lo0 : Nat) (us : List (Int × Int)), e = .returned (.pointer (some ⟨B', 0, none⟩)) ∧ w.heap.size ≤ lo0 ∧ Made w' B' lo0 us ∧ Spread us ∧ us.length ≤ zs.length + ys.length ∧ (∀ r, memB us r = (memB zs r && memB ys r)) ∧ Below w.heap.size w w' := by
  have HS := hide hs.spread
  have HY := hide ht.spread
  have HT := hide ht
  obtain ⟨⟨a, ca, b, cb, hb0, hp, _⟩, _, _⟩ := hs
  have HP := hide hp
  have HBk := hide hb0
  clear hp hb0 ht
  go_enter Try.func10, Try.ntmps10
  go_wp2
  rename_i K1 hK1
  have key : ∀ (w1 : World) (a2 : Act) (Bm : Nat) (oa : Option Addr) (oc : Nat), (∃ U : Nat → Value, a2 = { tmps := #[.pointer (some ⟨B, 0, none⟩), .pointer p, U 2, U 3, .pointer none, .pointer (some ⟨Bm, 0, none⟩), .slice oa ys.length oc, U 7, U 8, U 9, U 10, U 11, U 12, U 13, U 14, U 15, U 16, U 17, U 18, U 19, U 20, U 21, U 22, U 23, U 24, U 25, U 26, U 27, U 28, U 29, U 30, U 31, U 32, U 33, U 34, U 35, U 36, U 37, U 38, U 39, U 40, U 41, U 42, U 43, U 44, U 45, U 46, U 47, U 48, U 49, U 50, U 51, U 52, U 53, U 54, U 55, U 56, U 57, U 58, U 59, U 60, U 61, U 62, U 63, U 64, U 65, U 66, U 67, U 68, U 69], defers := [] }) → Grows w1 Bm w.heap.size [] → Below w.heap.size w w1 → RowP w oa ys → K1 a2 w1 := by
    rintro w1 a2 Bm oa oc ⟨U, rfl⟩ hG hB hQ
    have HG1 := hide hG
    have HB1 := hide hB
    have HQ := hide hQ
    apply hK1
    clear hK1 hG hB hQ HT
    go_wp2
    go_loopw [7, 8] (fun iv jv wr => ∃ (i j : Nat) (out : List (Int × Int)), iv = .int .i64 i ∧ jv = .int .i64 j ∧ i ≤ zs.length ∧ j ≤ ys.length ∧ Hid (MeetI zs ys i j out) ∧ Hid (Grows wr Bm w.heap.size out) ∧ Hid (Below w.heap.size w wr)) (fun iv jv _ => zs.length + ys.length - ((intOf iv).toNat + (intOf jv).toNat))
    case atStart => exact ⟨0, 0, [], rfl, rfl, by omega, by omega, hide (meetI_start zs ys), HG1, HB1⟩
    case round =>
      obtain ⟨i, j, out, rfl, rfl, hi, hj, HI, HG, HB⟩ := hrel
      have d0 := ((unhide HBk).below (unhide HB) (unhide HBk).lt).cell 0
      clear HG1 HB1
      by_cases hin : i < zs.length
      · have hi1 : (i : Int) < (zs.length : Int) := by omega
        have hi2 : ((i : Nat) : Int).toNat = i := by omega
        by_cases hjn : j < ys.length
        · have hj1 : (j : Int) < (ys.length : Int) := by omega
          have hj2 : ((j : Nat) : Int).toNat = j := by omega
          obtain ⟨x, hx⟩ : ∃ x, zs[i]? = some x := ⟨_, List.getElem?_eq_getElem hin⟩
          obtain ⟨y, hy'⟩ : ∃ y, ys[j]? = some y := ⟨_, List.getElem?_eq_getElem hjn⟩
          obtain ⟨g, o, rfl, hg, hc⟩ := unhide HP (by omega)
          obtain ⟨g', o', rfl, hg', hc'⟩ := unhide HQ (by omega)
          have c0 := ((unhide HB).cell (p := ⟨g, o + i * 2, none⟩) hg).trans (hc i x hx).1
          have c1 := ((unhide HB).cell (p := ⟨g, o + i * 2 + 1, none⟩) hg).trans (hc i x hx).2
          have e0 := ((unhide HB).cell (p := ⟨g', o' + j * 2, none⟩) hg').trans (hc' j y hy').1
          have e1 := ((unhide HB).cell (p := ⟨g', o' + j * 2 + 1, none⟩) hg').trans (hc' j y hy').2
          have HLa := hide (meetI_lay (unhide HS) (unhide HY) (unhide HI) hx hy')
          have HLl := hide (fun h => meetI_left (unhide HS) (unhide HY) (unhide HI) hx hy' h)
          have HLr := hide (fun h => meetI_right (unhide HS) (unhide HY) (unhide HI) hx hy' h)
          have hol : out.length ≤ 1000000 := by have := meet_len (unhide HI) hi hj; omega
          have HSo := hide (unhide HI).spread
          obtain ⟨al, ah⟩ := x
          obtain ⟨bl, bh⟩ := y
          simp only at c0 c1 e0 e1
          clear hc hc' hx hy' HP HQ HS HY HI
          have c01 := alloc1 c0
          have c02 := alloc2 c0
          have c11 := alloc1 c1
          have c12 := alloc2 c1
          have e01 := alloc1 e0
          have e02 := alloc2 e0
          have e11 := alloc1 e1
          have e12 := alloc2 e1
          have d01 := alloc1 d0
          have d02 := alloc2 d0
          go_wp2_with fail
          rename_i K2 hK2
          have key2 : ∀ (w2 : World) (a2 : Act) (Pa Pb : Nat), (∃ V : Nat → Value, a2 = { tmps := #[.pointer (some ⟨B, 0, none⟩), .pointer p, U 2, U 3, .pointer none, .pointer (some ⟨Bm, 0, none⟩), .slice (some ⟨g', o', none⟩) ys.length oc, .int .i64 i, .int .i64 j, .pointer (some ⟨Pa, 0, none⟩), .pointer (some ⟨Pb, 0, none⟩), V 11, U 12, U 13, U 14, U 15, U 16, U 17, U 18, V 19, V 20, V 21, V 22, V 23, V 24, V 25, V 26, V 27, V 28, V 29, V 30, V 31, V 32, V 33, V 34, V 35, V 36, V 37, V 38, V 39, V 40, V 41, V 42, V 43, V 44, V 45, V 46, V 47, V 48, V 49, V 50, V 51, V 52, V 53, V 54, V 55, V 56, V 57, V 58, V 59, V 60, V 61, V 62, V 63, V 64, V 65, V 66, V 67, V 68, U 69], defers := [] }) → Blk w2 Pa #[.int .i32 al, .int .i32 ah] 33 → Blk w2 Pb #[.int .i32 bl, .int .i32 bh] 33 → wr.heap.size ≤ Pa → wr.heap.size ≤ Pb → Below wr.heap.size wr w2 → K2 a2 w2 := by
            rintro w2 a2 Pa Pb ⟨V, rfl⟩ ha hb hpa hpb hB2
            apply hK2
            clear hK2 c0 c1 e0 e1 c01 c02 c11 c12 e01 e02 e11 e12 d0 d01 d02
            have a0 := ha.cell 0
            have a1 := ha.cell 1
            have b0 := hb.cell 0
            have b1 := hb.cell 1
            have HA := hide ha
            have HBb := hide hb
            have HB2 := hide hB2
            have HPa := hide hpa
            have HPb := hide hpb
            clear ha hb hB2 hpa hpb
            have HX := hide (Blk.new w2 #[.int .i32 (max al bl), .int .i32 (min ah bh)] 33)
            have HAl := hide ((Below.refl w2.heap.size w2).alloc (Nat.le_refl _) (.cells #[.int .i32 (max al bl), .int .i32 (min ah bh)] 33))
            have HFa := hide (fun w => falling_any (max al bl, min ah bh) w)
            by_cases hf : min ah bh < max al bl
            · have hd : decide (min ah bh < max al bl) = true := decide_eq_true hf
              have HM : Hid (meetL out (al, ah) (bl, bh) = out) := hide (by unfold meetL bothOf; rw [if_neg]; simp only; omega)
              rw [unhide HM] at HLl HLr
              clear hf
              go_wp2_with fail
              refine (unhide HFa _).mono ?_
              rintro e w3 ⟨rfl, hb3⟩
              have hb23 := (unhide HAl).trans (hb3.mono (unhide HAl).size)
              have HB3 := hide ((unhide HB2).trans (hb23.mono (unhide HB2).size))
              have f1 := ((unhide HA).below hb23 (unhide HA).lt).cell 1
              have g1 := ((unhide HBb).below hb23 (unhide HBb).lt).cell 1
              have HG3 := hide ((unhide HG).below (unhide HB3))
              have HB4 := hide ((unhide HB).trans ((unhide HB3).mono (unhide HB).size))
              clear hb3 hb23 a0 a1 b0 b1
              by_cases hlt : ah < bh
              · have HN := hide (unhide HLl hlt)
                go_wp2
                go_roundw
                case rel => exact ⟨i + 1, j, out, by congr 1, rfl, by omega, by omega, HN, HG3, HB4⟩
                case measure => simp [intOf]; omega
              · have HN := hide (unhide HLr (by omega))
                go_wp2
                go_roundw
                case rel => exact ⟨i, j + 1, out, rfl, by congr 1, by omega, by omega, HN, HG3, HB4⟩
                case measure => simp [intOf]; omega
            · have hd : decide (min ah bh < max al bl) = false := decide_eq_false hf
              have HM : Hid (meetL out (al, ah) (bl, bh) = layL out (max al bl, min ah bh)) := hide (by unfold meetL bothOf; rw [if_pos]; simp only; omega)
              have HE : Hid (endsB (max al bl, min ah bh) = true) := hide (unhide HLa).2.2.2
              rw [unhide HM] at HLl HLr
              clear hf
              go_wp2_with fail
              refine (unhide HFa _).mono ?_
              rintro e w3 ⟨rfl, hb3⟩
              have hb23 := (unhide HAl).trans (hb3.mono (unhide HAl).size)
              have HB3 := hide ((unhide HB2).trans (hb23.mono (unhide HB2).size))
              have hA3 := (unhide HA).below hb23 (unhide HA).lt
              have hB3 := (unhide HBb).below hb23 (unhide HBb).lt
              have hX3 := (unhide HX).below hb3 (unhide HX).lt
              have HA3 := hide hA3
              have HBb3 := hide hB3
              have x0 := hX3.cell 0
              have x1 := hX3.cell 1
              have HG3 := hide ((unhide HG).below (unhide HB3))
              have HB4 := hide ((unhide HB).trans ((unhide HB3).mono (unhide HB).size))
              have HLy := hide (lay_any Bm w.heap.size out (max al bl, min ah bh) hol (unhide HSo) (unhide HE) w3 (unhide HG3) (unhide HB4).size)
              clear hb3 hb23 a0 a1 b0 b1 hA3 hB3 hX3
              go_wp2_with fail
              refine (unhide HLy).mono ?_
              rintro e w5 ⟨⟨r, rfl⟩, hG5, hb5, hfr⟩
              have f1 := (frame_kept (unhide HG).1 (unhide HB3) (unhide HA3) (unhide HPa) hfr).cell 1
              have g1 := (frame_kept (unhide HG).1 (unhide HB3) (unhide HBb3) (unhide HPb) hfr).cell 1
              have HG5 := hide hG5
              have HB5 := hide ((unhide HB4).trans hb5)
              clear hG5 hb5 hfr x0 x1
              by_cases hlt : ah < bh
              · have HN := hide (unhide HLl hlt)
                go_wp2
                go_roundw
                case rel => exact ⟨i + 1, j, _, by congr 1, rfl, by omega, by omega, HN, HG5, HB5⟩
                case measure => simp [intOf]; omega
              · have HN := hide (unhide HLr (by omega))
                go_wp2
                go_roundw
                case rel => exact ⟨i, j + 1, _, rfl, by congr 1, by omega, by omega, HN, HG5, HB5⟩
                case measure => simp [intOf]; omega
          have KEY2 := hide key2
          clear key2 hK2
          go_big_region
          · have hP := two_boxes wr #[.int .i32 al, .int .i32 ah] #[.int .i32 bl, .int .i32 bh]
            exact unhide KEY2 _ _ wr.heap.size (wr.heap.size + 1) (mk_act rfl) hP.1 hP.2.1 (by omega) (by omega) hP.2.2
          · have hP := two_boxes wr #[.int .i32 bl, .int .i32 bh] #[.int .i32 al, .int .i32 ah]
            exact unhide KEY2 _ _ (wr.heap.size + 1) wr.heap.size (mk_act rfl) hP.2.1 hP.1 (by omega) (by omega) hP.2.2
        · have hj1 : ¬ (j : Int) < (ys.length : Int) := by omega
          have HE := hide (meetI_end (unhide HI) (.inr (by omega)))
          have HLn := hide (meet_len (unhide HI) hi hj)
          go_wp2
          go_ret
          exact ⟨Bm, rfl, w.heap.size, Nat.le_refl _, out, (unhide HG).1, (unhide HI).spread, unhide HLn, unhide HE, unhide HB⟩
      · have hi1 : ¬ (i : Int) < (zs.length : Int) := by omega
        have HE := hide (meetI_end (unhide HI) (.inl (by omega)))
        have HLn := hide (meet_len (unhide HI) hi hj)
        go_wp2
        go_ret
        exact ⟨Bm, rfl, w.heap.size, Nat.le_refl _, out, (unhide HG).1, (unhide HI).spread, unhide HLn, unhide HE, unhide HB⟩
  have KEY := hide key
  clear key hK1
  have hmx2 : Try.prog.follows .mixedOrders = true := by kernel_rfl
  rcases unhide HT with ⟨rfl, rfl⟩ | ⟨C, rfl, hC⟩
  · have HSo := hide (fun w => some_nil w)
    have d0 := (Blk.new w #[.slice none 0 0, .slice none 0 0] 54).cell 0
    have d1 := alloc1 d0
    have d2 : ∀ o : Obj, ((w.alloc o).alloc (.cells #[.slice none 0 0, .slice none 0 0] 54)).cell? ⟨w.heap.size + 1, 0, none⟩ = some (.slice none 0 0) := fun o => by
      have := (Blk.new (w.alloc o) #[.slice none 0 0, .slice none 0 0] 54).cell 0
      rw [World.size_alloc] at this
      exact this
    go_region_law (go_simp; refine (unhide HSo _).mono ?_; rintro e w2 ⟨rfl, rfl⟩)
    all_goals first
      | exact unhide KEY _ _ w.heap.size none 0 (mk_act rfl) (grows_two w).1 (grows_two w).2.2 (fun h => by simp at h)
      | exact unhide KEY _ _ (w.heap.size + 1) none 0 (mk_act rfl) (grows_two w).2.1 (grows_two w).2.2 (fun h => by simp at h)
  · obtain ⟨⟨c, cc, d, cd, hc0, hq, _⟩, _, _⟩ := hC
    have HQ := hide hq
    have HSo := hide (fun w => some_any C w)
    have d0 := hc0.cell 0
    have d1 := alloc1 d0
    clear hq hc0
    go_region_law (go_simp; refine (unhide HSo _).mono ?_; rintro e w2 ⟨rfl, rfl⟩)
    all_goals exact unhide KEY _ _ w.heap.size _ _ (mk_act rfl) ((grows_new w _ rfl).below (Below.refl _ _).drew) ((Below.refl _ w).alloc (Nat.le_refl _) _).drew (unhide HQ)
end Go.Proofs.Ytodikfaddfojgaa
