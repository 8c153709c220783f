/- Texts of this claim, one behind the other. -/
import Derived.Test.YtbefahknbdjnpaaGreatDoorM32
import Derived.Test.YtbefahknbdjnpaaGreatDoorM24
import Derived.Test.YtbefahknbdjnpaaGreatDoorM25
/- The reference's Where. -/
namespace Go.Proofs.YtbefahknbdjnpaaGreatDoor
open Go.RowKit Go.Shelf
set_option linter.unusedVariables false
theorem sequence_any (s : ByteArray) (hs : s.size ≤ 1099511627776) (a : Nat) (ha : a ≤ 1099511627776) (w : World) : Calls Tryz.prog 91 #[.string s, .int .i64 a] w fun e w' => e = .returned (seqR4 a (seq4V (rst s a))) ∧ w' = w := by
  by_cases h : a < s.size
  · by_cases h0 : (secOf (bt s a)).1 = 0
    · exact sequence_small s hs a ha (.inr ⟨h, by omega⟩) w
    · exact sequence_long s hs a h h0 w
  · exact sequence_small s hs a ha (.inl (by omega)) w
/-- How the reference's Where lies in memory. -/
structure WhSt (s : ByteArray) (w W : World) (k i : Nat) : Prop where
  res : Blk W w.heap.size #[.int .i64 0, .int .i64 0, .int .i64 0] 56
  cur : Blk W (w.heap.size + 1) #[.int .i64 k, .int .i64 (lcAt s i).1, .int .i64 (lcAt s i).2] 56
  bel : Below w.heap.size w W
  bd : bdB s i = true
theorem lcR_le : ∀ (zs : List Int) (x : Nat × Nat), (lcR x zs).1 ≤ x.1 + zs.length ∧ (lcR x zs).2 ≤ max x.2 1 + zs.length
  | [], x => ⟨Nat.le_refl _, by rw [lcR_nil]; simp; omega⟩
  | z :: zs, x => by
    rw [lcR_cons, List.length_cons]
    have := lcR_le zs (if z = 10 then (x.1 + 1, 1) else (x.1, x.2 + 1))
    split at this <;> (rename_i h; simp only [h, if_true, if_false] at this ⊢; omega)
theorem lcAt_le (s : ByteArray) (i : Nat) : (lcAt s i).1 ≤ 1 + min i s.size ∧ (lcAt s i).2 ≤ 1 + min i s.size := by
  have h := lcR_le (runesL (s.extract 0 i)) (1, 1)
  have h2 := starts_length (s.extract 0 i)
  rw [runesL_length] at h
  have hz : (s.extract 0 i).size = min i s.size := by rw [ByteArray.size_extract]; omega
  unfold lcAt
  simp only [] at h
  omega
set_option maxRecDepth 100000 in
set_option maxHeartbeats 4000000 in
theorem refWhere_in (s : ByteArray) (hs : s.size ≤ 1099511627776) (k : Nat) (hk : k ≤ s.size) (z : Int) (hz : (z < 0 ∧ k = 0) ∨ (¬ z < 0 ∧ (s.size : Int) < z ∧ k = s.size) ∨ (¬ z < 0 ∧ ¬ (s.size : Int) < z ∧ z = k)) (w : World) : Calls Tryz.prog 65 #[.string s, .int .i64 z] w fun e w' => e = .returned (.agg (atA k (whL s k))) ∧ Below w.heap.size w w' := by
  have HWD := hide (fun i hi => seq4_wd s i hi)
  have HST := hide (fun i h hi => lcAt_step s i h hi)
  rcases hz with ⟨h1, rfl⟩ | ⟨h1, h2, rfl⟩ | ⟨h1, h2, rfl⟩
  · clear hk
    have hw1 : whL s 0 = (1, 1) := whL_zero s
    go_enter Tryz.func65, Tryz.ntmps65
    go_wp2_with fail
    have bR : Blk ((w.alloc (.cells #[.int .i64 0, .int .i64 0, .int .i64 0] 56)).alloc (.cells #[.int .i64 0, .int .i64 1, .int .i64 1] 56)) w.heap.size #[.int .i64 0, .int .i64 0, .int .i64 0] 56 := (Blk.new w _ _).alloc _
    have bW : Blk ((w.alloc (.cells #[.int .i64 0, .int .i64 0, .int .i64 0] 56)).alloc (.cells #[.int .i64 0, .int .i64 1, .int .i64 1] 56)) (w.heap.size + 1) #[.int .i64 0, .int .i64 1, .int .i64 1] 56 := by
      have := Blk.new (w.alloc (.cells #[.int .i64 0, .int .i64 0, .int .i64 0] 56)) #[.int .i64 0, .int .i64 1, .int .i64 1] 56
      rwa [World.size_alloc] at this
    have hbl : Below w.heap.size w ((w.alloc (.cells #[.int .i64 0, .int .i64 0, .int .i64 0] 56)).alloc (.cells #[.int .i64 0, .int .i64 1, .int .i64 1] 56)) := ((Below.refl _ w).alloc (Nat.le_refl _) _).alloc (by simp) _
    generalize ((w.alloc (.cells #[.int .i64 0, .int .i64 0, .int .i64 0] 56)).alloc (.cells #[.int .i64 0, .int .i64 1, .int .i64 1] 56)) = w0 at *
    have r0 := bR.cell 0
    have r1 := bR.cell 1
    have r2 := bR.cell 2
    have rf0 := bR.frozen 0
    have rf1 := bR.frozen 1
    have rf2 := bR.frozen 2
    have c0 := bW.cell 0
    have c1 := bW.cell 1
    have c2 := bW.cell 2
    have hE := (bR.set 0 (.int .i64 0)).set 1 (.int .i64 1) |>.set 2 (.int .i64 1)
    have hBE := ((hbl.setCell (p := ⟨w.heap.size, 0, none⟩) (Nat.le_refl _) (.int .i64 0)).setCell (p := ⟨w.heap.size, 1, none⟩) (Nat.le_refl _) (.int .i64 1)).setCell (p := ⟨w.heap.size, 2, none⟩) (Nat.le_refl _) (.int .i64 1)
    have e0 := hE.cell 0
    have e1 := hE.cell 1
    have e2 := hE.cell 2
    have HBE := hide hBE
    clear hE hBE bR bW hbl
    refine wp_loop_rounds 1 ?_
    rw [rounds_succ]
    go_wp2_with fail
    exact bodyPost_ret (v := .agg #[.int .i64 0, .int .i64 1, .int .i64 1]) (by simp [results, Tryz.results65, go_sem, e0, e1, e2]) rfl ⟨by rw [hw1]; rfl, unhide HBE⟩
  · clear hk
    go_enter Tryz.func65, Tryz.ntmps65
    go_wp2_with fail
    have bR : Blk ((w.alloc (.cells #[.int .i64 0, .int .i64 0, .int .i64 0] 56)).alloc (.cells #[.int .i64 (s.size : Nat), .int .i64 1, .int .i64 1] 56)) w.heap.size #[.int .i64 0, .int .i64 0, .int .i64 0] 56 := (Blk.new w _ _).alloc _
    have bW : Blk ((w.alloc (.cells #[.int .i64 0, .int .i64 0, .int .i64 0] 56)).alloc (.cells #[.int .i64 (s.size : Nat), .int .i64 1, .int .i64 1] 56)) (w.heap.size + 1) #[.int .i64 (s.size : Nat), .int .i64 1, .int .i64 1] 56 := by
      have := Blk.new (w.alloc (.cells #[.int .i64 0, .int .i64 0, .int .i64 0] 56)) #[.int .i64 (s.size : Nat), .int .i64 1, .int .i64 1] 56
      rwa [World.size_alloc] at this
    have hbl : Below w.heap.size w ((w.alloc (.cells #[.int .i64 0, .int .i64 0, .int .i64 0] 56)).alloc (.cells #[.int .i64 (s.size : Nat), .int .i64 1, .int .i64 1] 56)) := ((Below.refl _ w).alloc (Nat.le_refl _) _).alloc (by simp) _
    generalize ((w.alloc (.cells #[.int .i64 0, .int .i64 0, .int .i64 0] 56)).alloc (.cells #[.int .i64 (s.size : Nat), .int .i64 1, .int .i64 1] 56)) = w0 at *
    have HI : Hz (WhSt s w w0 s.size 0) := hide ⟨bR, by rw [lcAt_zero]; exact bW, hbl, bd_zero s⟩
    clear bR bW hbl
    go_loopw [6, 7, 8, 9] (fun i _ _ _ wr => ∃ I : Nat, I ≤ s.size ∧ i = .int .i64 I ∧ Hz (WhSt s w wr s.size I)) (fun i _ _ _ _ => s.size - (intOf i).toNat)
    case atStart => exact ⟨0, by omega, rfl, HI⟩
    case round =>
      obtain ⟨I, hI, rfl, HS⟩ := hrel
      obtain ⟨w2, rfl⟩ : ∃ w2, w2 = wr := ⟨_, rfl⟩
      have hbR := (unhide HS).res
      have hbW := (unhide HS).cur
      have r0 := hbR.cell 0
      have r1 := hbR.cell 1
      have r2 := hbR.cell 2
      have rf0 := hbR.frozen 0
      have rf1 := hbR.frozen 1
      have rf2 := hbR.frozen 2
      by_cases hik : I < s.size
      · have hik' : (I : Int) < (s.size : Int) := by omega
        have his : (I : Int) < (s.size : Int) := by omega
        have hIs : I < s.size := by omega
        have hwd := unhide HWD I hIs
        have hst := unhide HST I (unhide HS).bd hIs
        have hsq := sequence_any s hs I (by omega)
        have hgb := bt_get s I hIs
        obtain ⟨b, eb⟩ : ∃ b, (s[I]'hIs).toNat = b := ⟨_, rfl⟩
        rw [hgb, eb] at hst
        have hwp := wd_pos s I
        have hnx := fun h => bd_step s I (unhide HS).bd h
        have hcu := fun h => cutAt_in s I s.size (unhide HS).bd (by omega) h
        obtain ⟨r, n, o, hv⟩ : ∃ r n o, seq4V (rst s I) = (r, n, o) := ⟨_, _, _, rfl⟩
        rw [hv] at hwd hsq
        obtain ⟨d, hd⟩ : ∃ d, d = wd s I := ⟨_, rfl⟩
        rw [← hd] at hwd hst hwp hnx hcu
        have hroom := wd_room s I hIs
        rw [← hd] at hroom
        obtain ⟨l, c, hlc⟩ : ∃ l c, lcAt s I = (l, c) := ⟨_, _, rfl⟩
        rw [hlc] at hbW hst
        have hb2 : (I : Int) + (d : Int) ≤ (s.size : Int) := by omega
        have hll := lcAt_le s I
        rw [hlc] at hll
        have hl2 : l ≤ s.size + 1 ∧ c ≤ s.size + 1 := by
          have : min I s.size ≤ s.size := by omega
          omega
        have HST2 := hide hst
        have HNX := hide (hnx hIs)
        have HCU := hide hcu
        have HLC := hide hlc
        have HSQ := hide hsq
        clear hgb hv hd hst hnx hcu hlc hsq hll
        have c0 := hbW.cell 0
        have c1 := hbW.cell 1
        have c2 := hbW.cell 2
        have f1 := hbW.frozen 1
        have f2 := hbW.frozen 2
        have HBW := hide hbW
        have HBR := hide hbR
        clear hbW hbR
        by_cases hend : s.size < I + d
        · exfalso; omega
        · have hend' : ¬ (s.size : Int) < (I : Int) + (d : Int) := by omega
          clear r0 r1 r2 rf0 rf1 rf2
          by_cases hb10 : b = 10
          · have hb10' : ((b : Int) == 10) = true := by rw [beq_iff_eq]; omega
            have hnew : lcAt s (I + d) = (l + 1, 1) := by rw [unhide HST2, if_pos hb10]
            have p2 := (unhide HBW).set 2 (.int .i64 ((c : Int) + 1))
            have p21 := p2.cell 1
            have p2f := p2.frozen 1
            have p3 := p2.set 1 (.int .i64 ((l : Int) + 1))
            have p3f := p3.frozen 2
            have p4 := p3.set 2 (.int .i64 1)
            have HNEW : Hz (WhSt s w (((w2.setCell ⟨w.heap.size + 1, 2, none⟩ (.int .i64 ((c : Int) + 1))).setCell ⟨w.heap.size + 1, 1, none⟩ (.int .i64 ((l : Int) + 1))).setCell ⟨w.heap.size + 1, 2, none⟩ (.int .i64 1)) s.size (I + d)) := hide ⟨(((unhide HBR).other (by omega) _).other (by omega) _).other (by omega) _, by rw [hnew]; exact p4, (((unhide HS).bel.setCell (p := ⟨w.heap.size + 1, 2, none⟩) (by simp) _).setCell (p := ⟨w.heap.size + 1, 1, none⟩) (by simp) _).setCell (p := ⟨w.heap.size + 1, 2, none⟩) (by simp) _, unhide HNX⟩
            clear hnew p2 p3 p4 HST2 HNX HCU HLC hb10
            cases o
            · have hd1 : d = 1 := by have q : I + 1 = I + d := hwd; omega
              subst hd1
              clear hwd
              go_wp2_with fail
              refine (unhide HSQ _).mono ?_
              rintro e w3 ⟨rfl, rfl⟩
              go_wp2_with fail
              go_roundw
              case rel => exact ⟨_, by omega, by go_num, HNEW⟩
              case measure => simp [intOf]; omega
            · have hd1 : d = n := by have q : I + n = I + d := hwd; omega
              subst hd1
              clear hwd
              go_wp2_with fail
              refine (unhide HSQ _).mono ?_
              rintro e w3 ⟨rfl, rfl⟩
              go_wp2_with fail
              go_roundw
              case rel => exact ⟨_, by omega, by go_num, HNEW⟩
              case measure => simp [intOf]; omega
          · have hb10' : ((b : Int) == 10) = false := by rw [beq_eq_false_iff_ne]; omega
            have hnew : lcAt s (I + d) = (l, c + 1) := by rw [unhide HST2, if_neg hb10]
            have p2 := (unhide HBW).set 2 (.int .i64 ((c : Int) + 1))
            have HNEW : Hz (WhSt s w (w2.setCell ⟨w.heap.size + 1, 2, none⟩ (.int .i64 ((c : Int) + 1))) s.size (I + d)) := hide ⟨(unhide HBR).other (by omega) _, by rw [hnew]; exact p2, (unhide HS).bel.setCell (p := ⟨w.heap.size + 1, 2, none⟩) (by simp) _, unhide HNX⟩
            clear hnew p2 HST2 HNX HCU HLC hb10
            cases o
            · have hd1 : d = 1 := by have q : I + 1 = I + d := hwd; omega
              subst hd1
              clear hwd
              go_wp2_with fail
              refine (unhide HSQ _).mono ?_
              rintro e w3 ⟨rfl, rfl⟩
              go_wp2_with fail
              go_roundw
              case rel => exact ⟨_, by omega, by go_num, HNEW⟩
              case measure => simp [intOf]; omega
            · have hd1 : d = n := by have q : I + n = I + d := hwd; omega
              subst hd1
              clear hwd
              go_wp2_with fail
              refine (unhide HSQ _).mono ?_
              rintro e w3 ⟨rfl, rfl⟩
              go_wp2_with fail
              go_roundw
              case rel => exact ⟨_, by omega, by go_num, HNEW⟩
              case measure => simp [intOf]; omega
      · have hik' : ¬ (I : Int) < (s.size : Int) := by omega
        have hIk : I = s.size := by omega
        obtain ⟨l, c, hlc⟩ : ∃ l c, lcAt s I = (l, c) := ⟨_, _, rfl⟩
        have hw1 : whL s s.size = (l, c) := by rw [whL_bd s s.size (hIk ▸ (unhide HS).bd), ← hIk, hlc]
        rw [hlc] at hbW
        have HW1 := hide hw1
        have c0 := hbW.cell 0
        have c1 := hbW.cell 1
        have c2 := hbW.cell 2
        have hE := (hbR.set 0 (.int .i64 (s.size : Nat))).set 1 (.int .i64 l) |>.set 2 (.int .i64 c)
        have hBE := (((unhide HS).bel.setCell (p := ⟨w.heap.size, 0, none⟩) (Nat.le_refl _) (.int .i64 (s.size : Nat))).setCell (p := ⟨w.heap.size, 1, none⟩) (Nat.le_refl _) (.int .i64 l)).setCell (p := ⟨w.heap.size, 2, none⟩) (Nat.le_refl _) (.int .i64 c)
        have e0 := hE.cell 0
        have e1 := hE.cell 1
        have e2 := hE.cell 2
        have HBE := hide hBE
        clear hE hBE hw1 hlc hIk hbR hbW
        go_wp2_with fail
        exact bodyPost_ret (v := .agg #[.int .i64 (s.size : Nat), .int .i64 l, .int .i64 c]) (by simp [results, Tryz.results65, go_sem, e0, e1, e2]) rfl ⟨by rw [unhide HW1], unhide HBE⟩
  · skip
    go_enter Tryz.func65, Tryz.ntmps65
    go_wp2_with fail
    have bR : Blk ((w.alloc (.cells #[.int .i64 0, .int .i64 0, .int .i64 0] 56)).alloc (.cells #[.int .i64 (k : Nat), .int .i64 1, .int .i64 1] 56)) w.heap.size #[.int .i64 0, .int .i64 0, .int .i64 0] 56 := (Blk.new w _ _).alloc _
    have bW : Blk ((w.alloc (.cells #[.int .i64 0, .int .i64 0, .int .i64 0] 56)).alloc (.cells #[.int .i64 (k : Nat), .int .i64 1, .int .i64 1] 56)) (w.heap.size + 1) #[.int .i64 (k : Nat), .int .i64 1, .int .i64 1] 56 := by
      have := Blk.new (w.alloc (.cells #[.int .i64 0, .int .i64 0, .int .i64 0] 56)) #[.int .i64 (k : Nat), .int .i64 1, .int .i64 1] 56
      rwa [World.size_alloc] at this
    have hbl : Below w.heap.size w ((w.alloc (.cells #[.int .i64 0, .int .i64 0, .int .i64 0] 56)).alloc (.cells #[.int .i64 (k : Nat), .int .i64 1, .int .i64 1] 56)) := ((Below.refl _ w).alloc (Nat.le_refl _) _).alloc (by simp) _
    generalize ((w.alloc (.cells #[.int .i64 0, .int .i64 0, .int .i64 0] 56)).alloc (.cells #[.int .i64 (k : Nat), .int .i64 1, .int .i64 1] 56)) = w0 at *
    have HI : Hz (WhSt s w w0 k 0) := hide ⟨bR, by rw [lcAt_zero]; exact bW, hbl, bd_zero s⟩
    clear bR bW hbl
    go_loopw [6, 7, 8, 9] (fun i _ _ _ wr => ∃ I : Nat, I ≤ k ∧ i = .int .i64 I ∧ Hz (WhSt s w wr k I)) (fun i _ _ _ _ => k - (intOf i).toNat)
    case atStart => exact ⟨0, by omega, rfl, HI⟩
    case round =>
      obtain ⟨I, hI, rfl, HS⟩ := hrel
      obtain ⟨w2, rfl⟩ : ∃ w2, w2 = wr := ⟨_, rfl⟩
      have hbR := (unhide HS).res
      have hbW := (unhide HS).cur
      have r0 := hbR.cell 0
      have r1 := hbR.cell 1
      have r2 := hbR.cell 2
      have rf0 := hbR.frozen 0
      have rf1 := hbR.frozen 1
      have rf2 := hbR.frozen 2
      by_cases hik : I < k
      · have hik' : (I : Int) < (k : Int) := by omega
        have his : (I : Int) < (s.size : Int) := by omega
        have hIs : I < s.size := by omega
        have hwd := unhide HWD I hIs
        have hst := unhide HST I (unhide HS).bd hIs
        have hsq := sequence_any s hs I (by omega)
        have hgb := bt_get s I hIs
        obtain ⟨b, eb⟩ : ∃ b, (s[I]'hIs).toNat = b := ⟨_, rfl⟩
        rw [hgb, eb] at hst
        have hwp := wd_pos s I
        have hnx := fun h => bd_step s I (unhide HS).bd h
        have hcu := fun h => cutAt_in s I k (unhide HS).bd (by omega) h
        obtain ⟨r, n, o, hv⟩ : ∃ r n o, seq4V (rst s I) = (r, n, o) := ⟨_, _, _, rfl⟩
        rw [hv] at hwd hsq
        obtain ⟨d, hd⟩ : ∃ d, d = wd s I := ⟨_, rfl⟩
        rw [← hd] at hwd hst hwp hnx hcu
        have hroom := wd_room s I hIs
        rw [← hd] at hroom
        obtain ⟨l, c, hlc⟩ : ∃ l c, lcAt s I = (l, c) := ⟨_, _, rfl⟩
        rw [hlc] at hbW hst
        have hb2 : (I : Int) + (d : Int) ≤ (s.size : Int) := by omega
        have hll := lcAt_le s I
        rw [hlc] at hll
        have hl2 : l ≤ s.size + 1 ∧ c ≤ s.size + 1 := by
          have : min I s.size ≤ s.size := by omega
          omega
        have HST2 := hide hst
        have HNX := hide (hnx hIs)
        have HCU := hide hcu
        have HLC := hide hlc
        have HSQ := hide hsq
        clear hgb hv hd hst hnx hcu hlc hsq hll
        have c0 := hbW.cell 0
        have c1 := hbW.cell 1
        have c2 := hbW.cell 2
        have f1 := hbW.frozen 1
        have f2 := hbW.frozen 2
        have HBW := hide hbW
        have HBR := hide hbR
        clear hbW hbR
        by_cases hend : k < I + d
        · have hend' : (k : Int) < (I : Int) + (d : Int) := by omega
          have hw1 : whL s k = (l, c) := by rw [whL_at, unhide HCU hend, unhide HLC]
          have HW1 := hide hw1
          clear hw1 HST2 HNX
          have hE := ((unhide HBR).set 0 (.int .i64 (k : Nat))).set 1 (.int .i64 l) |>.set 2 (.int .i64 c)
          have hBE := (((unhide HS).bel.setCell (p := ⟨w.heap.size, 0, none⟩) (Nat.le_refl _) (.int .i64 (k : Nat))).setCell (p := ⟨w.heap.size, 1, none⟩) (Nat.le_refl _) (.int .i64 l)).setCell (p := ⟨w.heap.size, 2, none⟩) (Nat.le_refl _) (.int .i64 c)
          have e0 := hE.cell 0
          have e1 := hE.cell 1
          have e2 := hE.cell 2
          have HBE := hide hBE
          clear hE hBE
          cases o
          · exfalso
            have q : I + 1 = I + d := hwd
            omega
          · have hd1 : d = n := by have q : I + n = I + d := hwd; omega
            subst hd1
            clear hwd
            go_wp2_with fail
            refine (unhide HSQ _).mono ?_
            rintro e w3 ⟨rfl, rfl⟩
            go_wp2_with fail
            exact bodyPost_ret (v := .agg #[.int .i64 (k : Nat), .int .i64 l, .int .i64 c]) (by simp [results, Tryz.results65, go_sem, e0, e1, e2]) rfl ⟨by rw [unhide HW1], unhide HBE⟩
        · have hend' : ¬ (k : Int) < (I : Int) + (d : Int) := by omega
          clear r0 r1 r2 rf0 rf1 rf2
          by_cases hb10 : b = 10
          · have hb10' : ((b : Int) == 10) = true := by rw [beq_iff_eq]; omega
            have hnew : lcAt s (I + d) = (l + 1, 1) := by rw [unhide HST2, if_pos hb10]
            have p2 := (unhide HBW).set 2 (.int .i64 ((c : Int) + 1))
            have p21 := p2.cell 1
            have p2f := p2.frozen 1
            have p3 := p2.set 1 (.int .i64 ((l : Int) + 1))
            have p3f := p3.frozen 2
            have p4 := p3.set 2 (.int .i64 1)
            have HNEW : Hz (WhSt s w (((w2.setCell ⟨w.heap.size + 1, 2, none⟩ (.int .i64 ((c : Int) + 1))).setCell ⟨w.heap.size + 1, 1, none⟩ (.int .i64 ((l : Int) + 1))).setCell ⟨w.heap.size + 1, 2, none⟩ (.int .i64 1)) k (I + d)) := hide ⟨(((unhide HBR).other (by omega) _).other (by omega) _).other (by omega) _, by rw [hnew]; exact p4, (((unhide HS).bel.setCell (p := ⟨w.heap.size + 1, 2, none⟩) (by simp) _).setCell (p := ⟨w.heap.size + 1, 1, none⟩) (by simp) _).setCell (p := ⟨w.heap.size + 1, 2, none⟩) (by simp) _, unhide HNX⟩
            clear hnew p2 p3 p4 HST2 HNX HCU HLC hb10
            cases o
            · have hd1 : d = 1 := by have q : I + 1 = I + d := hwd; omega
              subst hd1
              clear hwd
              go_wp2_with fail
              refine (unhide HSQ _).mono ?_
              rintro e w3 ⟨rfl, rfl⟩
              go_wp2_with fail
              go_roundw
              case rel => exact ⟨_, by omega, by go_num, HNEW⟩
              case measure => simp [intOf]; omega
            · have hd1 : d = n := by have q : I + n = I + d := hwd; omega
              subst hd1
              clear hwd
              go_wp2_with fail
              refine (unhide HSQ _).mono ?_
              rintro e w3 ⟨rfl, rfl⟩
              go_wp2_with fail
              go_roundw
              case rel => exact ⟨_, by omega, by go_num, HNEW⟩
              case measure => simp [intOf]; omega
          · have hb10' : ((b : Int) == 10) = false := by rw [beq_eq_false_iff_ne]; omega
            have hnew : lcAt s (I + d) = (l, c + 1) := by rw [unhide HST2, if_neg hb10]
            have p2 := (unhide HBW).set 2 (.int .i64 ((c : Int) + 1))
            have HNEW : Hz (WhSt s w (w2.setCell ⟨w.heap.size + 1, 2, none⟩ (.int .i64 ((c : Int) + 1))) k (I + d)) := hide ⟨(unhide HBR).other (by omega) _, by rw [hnew]; exact p2, (unhide HS).bel.setCell (p := ⟨w.heap.size + 1, 2, none⟩) (by simp) _, unhide HNX⟩
            clear hnew p2 HST2 HNX HCU HLC hb10
            cases o
            · have hd1 : d = 1 := by have q : I + 1 = I + d := hwd; omega
              subst hd1
              clear hwd
              go_wp2_with fail
              refine (unhide HSQ _).mono ?_
              rintro e w3 ⟨rfl, rfl⟩
              go_wp2_with fail
              go_roundw
              case rel => exact ⟨_, by omega, by go_num, HNEW⟩
              case measure => simp [intOf]; omega
            · have hd1 : d = n := by have q : I + n = I + d := hwd; omega
              subst hd1
              clear hwd
              go_wp2_with fail
              refine (unhide HSQ _).mono ?_
              rintro e w3 ⟨rfl, rfl⟩
              go_wp2_with fail
              go_roundw
              case rel => exact ⟨_, by omega, by go_num, HNEW⟩
              case measure => simp [intOf]; omega
      · have hik' : ¬ (I : Int) < (k : Int) := by omega
        have hIk : I = k := by omega
        obtain ⟨l, c, hlc⟩ : ∃ l c, lcAt s I = (l, c) := ⟨_, _, rfl⟩
        have hw1 : whL s k = (l, c) := by rw [whL_bd s k (hIk ▸ (unhide HS).bd), ← hIk, hlc]
        rw [hlc] at hbW
        have HW1 := hide hw1
        have c0 := hbW.cell 0
        have c1 := hbW.cell 1
        have c2 := hbW.cell 2
        have hE := (hbR.set 0 (.int .i64 (k : Nat))).set 1 (.int .i64 l) |>.set 2 (.int .i64 c)
        have hBE := (((unhide HS).bel.setCell (p := ⟨w.heap.size, 0, none⟩) (Nat.le_refl _) (.int .i64 (k : Nat))).setCell (p := ⟨w.heap.size, 1, none⟩) (Nat.le_refl _) (.int .i64 l)).setCell (p := ⟨w.heap.size, 2, none⟩) (Nat.le_refl _) (.int .i64 c)
        have e0 := hE.cell 0
        have e1 := hE.cell 1
        have e2 := hE.cell 2
        have HBE := hide hBE
        clear hE hBE hw1 hlc hIk hbR hbW
        go_wp2_with fail
        exact bodyPost_ret (v := .agg #[.int .i64 (k : Nat), .int .i64 l, .int .i64 c]) (by simp [results, Tryz.results65, go_sem, e0, e1, e2]) rfl ⟨by rw [unhide HW1], unhide HBE⟩
end Go.Proofs.YtbefahknbdjnpaaGreatDoor
/- The reference's blank. -/
namespace Go.Proofs.YtbefahknbdjnpaaGreatDoor
open Go.RowKit Go.Shelf
set_option linter.unusedVariables false
/-- What is left of the blanks and remarks at a place. -/
def blA (s : ByteArray) (r : Bool) (p : Nat) : Nat × Bool := if r = true then remA s p else gapA s p
theorem blA_end (s : ByteArray) (r : Bool) (p : Nat) (h : p = s.size) : blA s r p = (p, true) := by
  unfold blA
  split
  · exact remA_end s p h
  · exact gapA_end s p (by omega) (by omega)
theorem seq4_cases (s : ByteArray) (p : Nat) (h : p < s.size) : (badB s p = true ∧ seq4V (rst s p) = (0, begLen (rst s p), false)) ∨ (badB s p = false ∧ seq4V (rst s p) = (rn s p, wd s p, true)) := by
  have hd : Utf8.decode (rst s p) 0 = Utf8.decode s p := decode_suffix s p 0 (by omega)
  have hb : badB (rst s p) 0 = badB s p := by unfold badB; simp only [rn, wd, hd]
  have hz := rst_size s p
  cases q : badB s p with
  | true => exact .inl ⟨rfl, by unfold seq4V; rw [if_neg (by omega), hb, q, if_pos rfl]⟩
  | false => exact .inr ⟨rfl, by unfold seq4V; rw [if_neg (by omega), hb, q, if_neg (by decide)]; simp only [rn, wd, hd]⟩
theorem blA_seq_bad (s : ByteArray) (p : Nat) (h : p < s.size) (r n : Nat) (hv : seq4V (rst s p) = (r, n, false)) : blA s true p = (p + n, false) := by
  rcases seq4_cases s p h with ⟨h1, h2⟩ | ⟨h1, h2⟩
  · rw [hv, Prod.mk.injEq, Prod.mk.injEq] at h2
    unfold blA
    rw [if_pos rfl, remA_bad s p h h1, h2.2.1]
  · rw [hv, Prod.mk.injEq, Prod.mk.injEq] at h2
    cases h2.2.2
theorem blA_seq_ok (s : ByteArray) (p : Nat) (h : p < s.size) (r n : Nat) (hv : seq4V (rst s p) = (r, n, true)) : 1 ≤ n ∧ p + n ≤ s.size ∧ blA s true p = blA s (!decide (bt s p = 10)) (p + n) := by
  rcases seq4_cases s p h with ⟨h1, h2⟩ | ⟨h1, h2⟩
  · rw [hv, Prod.mk.injEq, Prod.mk.injEq] at h2
    cases h2.2.2
  · rw [hv, Prod.mk.injEq, Prod.mk.injEq] at h2
    have hn : n = wd s p := h2.2.1
    have hr := wd_room s p h
    have hp := wd_pos s p
    refine ⟨by omega, by omega, ?_⟩
    unfold blA
    rw [if_pos rfl, hn]
    by_cases e : bt s p = 10
    · have hw : wd s p = 1 := by
        rcases Nat.lt_or_ge (wd s p) 2 with q | q
        · omega
        · have := wd_lead s p q; omega
      rw [decide_eq_true e, hw, if_neg (by decide)]
      exact remA_nl s p h e
    · rw [decide_eq_false e, if_pos (by decide)]
      exact remA_spot s p h e h1
set_option maxRecDepth 100000 in
set_option maxHeartbeats 8000000 in
theorem blank_any (s : ByteArray) (hs : s.size ≤ 1099511627776) (a : Nat) (ha : a ≤ s.size) (w : World) : Calls Tryz.prog 89 #[.string s, .int .i64 a] w fun e w' => e = .returned (.tuple #[.int .i64 (gapA s a).1, .bool (gapA s a).2]) ∧ w' = w := by
  obtain ⟨q, o, hq⟩ : ∃ q o, gapA s a = (q, o) := ⟨_, _, rfl⟩
  rw [hq]
  have HQ := hide hq
  clear hq
  go_enter Tryz.func89, Tryz.ntmps89
  go_wp2_with fail
  go_loop [1, 6, 7, 8, 9] (fun x r _ _ _ => ∃ (p : Nat) (b : Bool), p ≤ s.size ∧ x = .int .i64 p ∧ r = .bool b ∧ Hz (blA s b p = (q, o))) (fun x _ _ _ _ => s.size - (intOf x).toNat)
  case atStart => exact ⟨a, false, ha, rfl, rfl, hide (by unfold blA; rw [if_neg (by decide)]; exact unhide HQ)⟩
  case round =>
    obtain ⟨p, b, hp, rfl, rfl, HB⟩ := hrel
    by_cases hps : p < s.size
    · have hps' : (p : Int) < (s.size : Int) := by omega
      have hgb := bt_get s p hps
      obtain ⟨c, ec⟩ : ∃ c, (s[p]'hps).toNat = c := ⟨_, rfl⟩
      rw [ec] at hgb
      cases b
      · have hcase : (c = 9 ∨ c = 10 ∨ c = 13 ∨ c = 32) ∨ c = 35 ∨ (c ≠ 9 ∧ c ≠ 10 ∧ c ≠ 13 ∧ c ≠ 32 ∧ c ≠ 35) := by omega
        rcases hcase with hc | hc | hc
        · have HN : Hz (blA s false (p + 1) = (q, o)) := hide (by
            have := unhide HB
            unfold blA at this ⊢
            rw [if_neg (by decide)] at this ⊢
            rw [← gapA_blank s p hps (by rw [hgb]; unfold blankB; exact decide_eq_true hc)]
            exact this)
          clear hgb HB HQ
          rcases hc with rfl | rfl | rfl | rfl
          all_goals
            go_wp2_with fail
            go_round
            case rel => exact ⟨p + 1, false, by omega, by go_num, rfl, HN⟩
            case measure => simp [intOf]; omega
        · have HN : Hz (blA s true (p + 1) = (q, o)) := hide (by
            have := unhide HB
            unfold blA at this ⊢
            rw [if_neg (by decide)] at this
            rw [if_pos rfl, ← gapA_rem s p hps (by rw [hgb]; exact hc)]
            exact this)
          clear hgb HB HQ
          subst hc
          go_wp2_with fail
          go_round
          case rel => exact ⟨p + 1, true, by omega, by go_num, rfl, HN⟩
          case measure => simp [intOf]; omega
        · have hq : (p, true) = (q, o) := by
            have := unhide HB
            unfold blA at this
            rw [if_neg (by decide), gapA_stop s p hps (by rw [hgb]; unfold blankB; exact decide_eq_false (by omega)) (by rw [hgb]; exact hc.2.2.2.2)] at this
            exact this
          obtain ⟨rfl, rfl⟩ := Prod.mk.inj hq
          obtain ⟨c1, c2, c3, c4, c5⟩ := hc
          have d1 : ((c : Int) != 9) = true := by simp; omega
          have d2 : ((c : Int) != 10) = true := by simp; omega
          have d3 : ((c : Int) != 13) = true := by simp; omega
          have d4 : ((c : Int) != 32) = true := by simp; omega
          have d5 : ((c : Int) != 35) = true := by simp; omega
          clear hgb HB HQ hq c1 c2 c3 c4 c5
          go_wp2_with fail
          go_ret2
          exact ⟨rfl, rfl⟩
      · obtain ⟨r, n, ok, hv⟩ : ∃ r n ok, seq4V (rst s p) = (r, n, ok) := ⟨_, _, _, rfl⟩
        have HSQ := hide (sequence_any s hs p (by omega))
        rw [hv] at HSQ
        cases ok
        · have hq := blA_seq_bad s p hps r n hv
          rw [unhide HB] at hq
          obtain ⟨rfl, rfl⟩ := Prod.mk.inj hq
          clear hgb HB HQ hq hv
          go_wp2_with fail
          refine (unhide HSQ _).mono ?_
          rintro e w1 ⟨rfl, rfl⟩
          go_wp2_with fail
          go_ret2
          exact ⟨rfl, rfl⟩
        · obtain ⟨hn1, hn2, hn3⟩ := blA_seq_ok s p hps r n hv
          rw [unhide HB, hgb] at hn3
          have hnb : (p : Int) + (n : Int) ≤ (s.size : Int) := by omega
          by_cases h10 : c = 10
          · rw [decide_eq_true h10] at hn3
            have HN : Hz (blA s false (p + n) = (q, o)) := hide hn3.symm
            subst h10
            clear hgb HB HQ hn3 hv
            go_wp2_with fail
            refine (unhide HSQ _).mono ?_
            rintro e w1 ⟨rfl, rfl⟩
            go_wp2_with fail
            go_round
            case rel => exact ⟨p + n, false, by omega, by go_num, rfl, HN⟩
            case measure => simp [intOf]; omega
          · rw [decide_eq_false h10] at hn3
            have HN : Hz (blA s true (p + n) = (q, o)) := hide hn3.symm
            have d2 : ((c : Int) != 10) = true := by simp; omega
            clear hgb HB HQ hn3 hv h10
            go_wp2_with fail
            refine (unhide HSQ _).mono ?_
            rintro e w1 ⟨rfl, rfl⟩
            go_wp2_with fail
            go_round
            case rel => exact ⟨p + n, true, by omega, by go_num, rfl, HN⟩
            case measure => simp [intOf]; omega
    · have hps' : ¬ (p : Int) < (s.size : Int) := by omega
      have hq := blA_end s b p (by omega)
      rw [unhide HB] at hq
      obtain ⟨rfl, rfl⟩ := Prod.mk.inj hq
      clear HB HQ hq
      go_wp2_with fail
      go_ret2
      exact ⟨rfl, rfl⟩
end Go.Proofs.YtbefahknbdjnpaaGreatDoor
/- The reference's small, digit, hex, close, scalar, number, quoted. -/
namespace Go.Proofs.YtbefahknbdjnpaaGreatDoor
open Go.RowKit Go.Shelf
set_option linter.unusedVariables false
theorem small_ref (c : Nat) (hc : c < 256) (w : World) : Calls Tryz.prog 136 #[.int .u8 c] w fun e w' => e = .returned (.bool (smallB c)) ∧ w' = w := by
  by_cases h1 : 97 ≤ c
  · by_cases h2 : c ≤ 122
    · rw [show smallB c = true from decide_eq_true ⟨h1, h2⟩]
      go_enter Tryz.func136, Tryz.ntmps136
      go_wp2
      go_ret
      exact ⟨by first | rfl | (simp; omega), rfl⟩
    · rw [show smallB c = false from decide_eq_false (by omega)]
      go_enter Tryz.func136, Tryz.ntmps136
      go_wp2
      go_ret
      exact ⟨by first | rfl | (simp; omega), rfl⟩
  · rw [show smallB c = false from decide_eq_false (by omega)]
    go_enter Tryz.func136, Tryz.ntmps136
    go_wp2
    go_ret
    exact ⟨by first | rfl | (simp; omega), rfl⟩
theorem digit_ref (c : Nat) (hc : c < 256) (w : World) : Calls Tryz.prog 137 #[.int .u8 c] w fun e w' => e = .returned (.bool (digB c)) ∧ w' = w := by
  by_cases h1 : 48 ≤ c
  · by_cases h2 : c ≤ 57
    · rw [show digB c = true from decide_eq_true ⟨h1, h2⟩]
      go_enter Tryz.func137, Tryz.ntmps137
      go_wp2
      go_ret
      exact ⟨by first | rfl | (simp; omega), rfl⟩
    · rw [show digB c = false from decide_eq_false (by omega)]
      go_enter Tryz.func137, Tryz.ntmps137
      go_wp2
      go_ret
      exact ⟨by first | rfl | (simp; omega), rfl⟩
  · rw [show digB c = false from decide_eq_false (by omega)]
    go_enter Tryz.func137, Tryz.ntmps137
    go_wp2
    go_ret
    exact ⟨by first | rfl | (simp; omega), rfl⟩
def hexB (c : Nat) : Bool := digB c || decide (65 ≤ c ∧ c ≤ 70)
theorem hexB_iff (c : Nat) : hexB c = true ↔ 0 ≤ hexI c := by
  unfold hexB digB hexI
  simp only [Bool.or_eq_true, decide_eq_true_eq]
  constructor
  · intro h; split <;> (try split) <;> omega
  · intro h; split at h <;> (try split at h) <;> omega
theorem hex_ref (c : Nat) (hc : c < 256) (w : World) : Calls Tryz.prog 166 #[.int .u8 c] w fun e w' => e = .returned (.bool (hexB c)) ∧ w' = w := by
  have HD := hide (digit_ref c hc)
  unfold hexB
  cases hd : digB c
  · rw [hd] at HD
    by_cases h1 : 65 ≤ c
    · by_cases h2 : c ≤ 70
      · rw [decide_eq_true ⟨h1, h2⟩]
        go_enter Tryz.func166, Tryz.ntmps166
        go_wp2_with fail
        refine (unhide HD _).mono ?_
        rintro e w1 ⟨rfl, rfl⟩
        go_wp2
        go_ret
        exact ⟨by first | rfl | (simp; omega), rfl⟩
      · rw [decide_eq_false (by omega)]
        go_enter Tryz.func166, Tryz.ntmps166
        go_wp2_with fail
        refine (unhide HD _).mono ?_
        rintro e w1 ⟨rfl, rfl⟩
        go_wp2
        go_ret
        exact ⟨by first | rfl | (simp; omega), rfl⟩
    · rw [decide_eq_false (by omega)]
      go_enter Tryz.func166, Tryz.ntmps166
      go_wp2_with fail
      refine (unhide HD _).mono ?_
      rintro e w1 ⟨rfl, rfl⟩
      go_wp2
      go_ret
      exact ⟨by first | rfl | (simp; omega), rfl⟩
  · rw [hd] at HD
    go_enter Tryz.func166, Tryz.ntmps166
    go_wp2_with fail
    refine (unhide HD _).mono ?_
    rintro e w1 ⟨rfl, rfl⟩
    go_wp2
    go_ret
    exact ⟨by first | rfl | (simp; omega), rfl⟩
set_option maxRecDepth 100000 in
set_option maxHeartbeats 4000000 in
theorem close_ref (c : Nat) (hc : c < 256) (w : World) : Calls Tryz.prog 141 #[.int .u8 c] w fun e w' => e = .returned (.bool (stkB c)) ∧ w' = w := by
  have HS := hide (small_ref c hc)
  have HD := hide (digit_ref c hc)
  have hv : stkB c = (smallB c || (digB c || decide ((65 ≤ c ∧ c ≤ 90) ∨ c = 45 ∨ c = 95))) := by
    unfold stkB inNB
    cases smallB c <;> cases digB c <;> simp <;> (try omega)
    by_cases a : c = 45 <;> by_cases b : 65 ≤ c ∧ c ≤ 90 <;> by_cases d : c = 95 <;> simp_all
  rw [hv]
  clear hv
  cases hs : smallB c
  · rw [hs] at HS
    cases hd : digB c
    · rw [hd] at HD
      have hcase : (65 ≤ c ∧ c ≤ 90) ∨ (¬ 65 ≤ c ∧ c = 45) ∨ (65 ≤ c ∧ ¬ c ≤ 90 ∧ c = 95) ∨ (¬ 65 ≤ c ∧ c ≠ 45) ∨ (65 ≤ c ∧ ¬ c ≤ 90 ∧ c ≠ 95) := by omega
      have hR : ∀ b : Bool, decide ((65 ≤ c ∧ c ≤ 90) ∨ c = 45 ∨ c = 95) = b → (false || (false || decide ((65 ≤ c ∧ c ≤ 90) ∨ c = 45 ∨ c = 95))) = b := fun b h => by simpa using h
      rcases hcase with ⟨h1, h2⟩ | ⟨h1, rfl⟩ | ⟨h1, h2, rfl⟩ | ⟨h1, h2⟩ | ⟨h1, h2, h3⟩
      · rw [hR true (decide_eq_true (.inl ⟨h1, h2⟩))]
        clear hR
        go_enter Tryz.func141, Tryz.ntmps141
        go_wp2_with fail
        refine (unhide HS _).mono ?_
        rintro e w1 ⟨rfl, rfl⟩
        go_wp2_with fail
        refine (unhide HD _).mono ?_
        rintro e w1 ⟨rfl, rfl⟩
        go_wp2
        go_ret
        exact ⟨by first | rfl | (simp; omega), rfl⟩
      · rw [hR true (by decide)]
        clear hR
        go_enter Tryz.func141, Tryz.ntmps141
        go_wp2_with fail
        refine (unhide HS _).mono ?_
        rintro e w1 ⟨rfl, rfl⟩
        go_wp2_with fail
        refine (unhide HD _).mono ?_
        rintro e w1 ⟨rfl, rfl⟩
        go_wp2
        go_ret
        exact ⟨by first | rfl | (simp; omega), rfl⟩
      · rw [hR true (by decide)]
        clear hR
        go_enter Tryz.func141, Tryz.ntmps141
        go_wp2_with fail
        refine (unhide HS _).mono ?_
        rintro e w1 ⟨rfl, rfl⟩
        go_wp2_with fail
        refine (unhide HD _).mono ?_
        rintro e w1 ⟨rfl, rfl⟩
        go_wp2
        go_ret
        exact ⟨by first | rfl | (simp; omega), rfl⟩
      · rw [hR false (decide_eq_false (by omega))]
        have d1 : ((c : Int) == 45) = false := by simp; omega
        have d2 : ((c : Int) == 95) = false := by simp; omega
        clear hR h2
        go_enter Tryz.func141, Tryz.ntmps141
        go_wp2_with fail
        refine (unhide HS _).mono ?_
        rintro e w1 ⟨rfl, rfl⟩
        go_wp2_with fail
        refine (unhide HD _).mono ?_
        rintro e w1 ⟨rfl, rfl⟩
        go_wp2
        go_ret
        exact ⟨by first | rfl | (simp; omega), rfl⟩
      · rw [hR false (decide_eq_false (by omega))]
        have d1 : ((c : Int) == 45) = false := by simp; omega
        have d2 : ((c : Int) == 95) = false := by simp; omega
        clear hR h3
        go_enter Tryz.func141, Tryz.ntmps141
        go_wp2_with fail
        refine (unhide HS _).mono ?_
        rintro e w1 ⟨rfl, rfl⟩
        go_wp2_with fail
        refine (unhide HD _).mono ?_
        rintro e w1 ⟨rfl, rfl⟩
        go_wp2
        go_ret
        exact ⟨by first | rfl | (simp; omega), rfl⟩
    · rw [hd] at HD
      go_enter Tryz.func141, Tryz.ntmps141
      go_wp2_with fail
      refine (unhide HS _).mono ?_
      rintro e w1 ⟨rfl, rfl⟩
      go_wp2_with fail
      refine (unhide HD _).mono ?_
      rintro e w1 ⟨rfl, rfl⟩
      go_wp2
      go_ret
      exact ⟨by first | rfl | (simp; omega), rfl⟩
  · rw [hs] at HS
    go_enter Tryz.func141, Tryz.ntmps141
    go_wp2_with fail
    refine (unhide HS _).mono ?_
    rintro e w1 ⟨rfl, rfl⟩
    go_wp2
    go_ret
    exact ⟨by first | rfl | (simp; omega), rfl⟩
end Go.Proofs.YtbefahknbdjnpaaGreatDoor
