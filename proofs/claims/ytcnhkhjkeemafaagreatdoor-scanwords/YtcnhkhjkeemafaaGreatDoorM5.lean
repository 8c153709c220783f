/- Texts of this claim, one behind the other. -/
import Derived.Test.YtcnhkhjkeemafaaGreatDoorM4
/- The reference's Where. -/
namespace Go.Proofs.YtcnhkhjkeemafaaGreatDoor
open Go.RowKit Go.Shelf
set_option linter.unusedVariables false
theorem sequence_any (s : ByteArray) (hs : s.size ≤ 1099511627776) (a : Nat) (ha : a ≤ 1099511627776) (w : World) : Calls Tryz.prog 26 #[.string s, .int .i64 a] w fun e w' => e = .returned (seqR4 a (seq4V (rst s a))) ∧ w' = w := by
  by_cases h : a < s.size
  · by_cases h0 : (secOf (bt s a)).1 = 0
    · exact sequence_small s hs a ha (.inr ⟨h, by omega⟩) w
    · exact sequence_long s hs a h h0 w
  · exact sequence_small s hs a ha (.inl (by omega)) w
/-- How the reference's Where lies in memory. -/
structure WhSt (s : ByteArray) (w W : World) (k i : Nat) : Prop where
  res : Blk W w.heap.size #[.int .i64 0, .int .i64 0, .int .i64 0] 35
  cur : Blk W (w.heap.size + 1) #[.int .i64 k, .int .i64 (lcAt s i).1, .int .i64 (lcAt s i).2] 35
  bel : Below w.heap.size w W
  bd : bdB s i = true
theorem lcR_le : ∀ (zs : List Int) (x : Nat × Nat), (lcR x zs).1 ≤ x.1 + zs.length ∧ (lcR x zs).2 ≤ max x.2 1 + zs.length
  | [], x => ⟨Nat.le_refl _, by rw [lcR_nil]; simp; omega⟩
  | z :: zs, x => by
    rw [lcR_cons, List.length_cons]
    have := lcR_le zs (if z = 10 then (x.1 + 1, 1) else (x.1, x.2 + 1))
    split at this <;> (rename_i h; simp only [h, if_true, if_false] at this ⊢; omega)
theorem lcAt_le (s : ByteArray) (i : Nat) : (lcAt s i).1 ≤ 1 + min i s.size ∧ (lcAt s i).2 ≤ 1 + min i s.size := by
  have h := lcR_le (runesL (s.extract 0 i)) (1, 1)
  have h2 := starts_length (s.extract 0 i)
  rw [runesL_length] at h
  have hz : (s.extract 0 i).size = min i s.size := by rw [ByteArray.size_extract]; omega
  unfold lcAt
  simp only [] at h
  omega
set_option maxRecDepth 100000 in
set_option maxHeartbeats 4000000 in
theorem refWhere_in (s : ByteArray) (hs : s.size ≤ 1099511627776) (k : Nat) (hk : k ≤ s.size) (z : Int) (hz : (z < 0 ∧ k = 0) ∨ (¬ z < 0 ∧ (s.size : Int) < z ∧ k = s.size) ∨ (¬ z < 0 ∧ ¬ (s.size : Int) < z ∧ z = k)) (w : World) : Calls Tryz.prog 15 #[.string s, .int .i64 z] w fun e w' => e = .returned (.agg (atA k (whL s k))) ∧ Below w.heap.size w w' := by
  have HWD := hide (fun i hi => seq4_wd s i hi)
  have HST := hide (fun i h hi => lcAt_step s i h hi)
  rcases hz with ⟨h1, rfl⟩ | ⟨h1, h2, rfl⟩ | ⟨h1, h2, rfl⟩
  · clear hk
    have hw1 : whL s 0 = (1, 1) := whL_zero s
    go_enter Tryz.func15, Tryz.ntmps15
    go_wp2_with fail
    have bR : Blk ((w.alloc (.cells #[.int .i64 0, .int .i64 0, .int .i64 0] 35)).alloc (.cells #[.int .i64 0, .int .i64 1, .int .i64 1] 35)) w.heap.size #[.int .i64 0, .int .i64 0, .int .i64 0] 35 := (Blk.new w _ _).alloc _
    have bW : Blk ((w.alloc (.cells #[.int .i64 0, .int .i64 0, .int .i64 0] 35)).alloc (.cells #[.int .i64 0, .int .i64 1, .int .i64 1] 35)) (w.heap.size + 1) #[.int .i64 0, .int .i64 1, .int .i64 1] 35 := by
      have := Blk.new (w.alloc (.cells #[.int .i64 0, .int .i64 0, .int .i64 0] 35)) #[.int .i64 0, .int .i64 1, .int .i64 1] 35
      rwa [World.size_alloc] at this
    have hbl : Below w.heap.size w ((w.alloc (.cells #[.int .i64 0, .int .i64 0, .int .i64 0] 35)).alloc (.cells #[.int .i64 0, .int .i64 1, .int .i64 1] 35)) := ((Below.refl _ w).alloc (Nat.le_refl _) _).alloc (by simp) _
    generalize ((w.alloc (.cells #[.int .i64 0, .int .i64 0, .int .i64 0] 35)).alloc (.cells #[.int .i64 0, .int .i64 1, .int .i64 1] 35)) = w0 at *
    have r0 := bR.cell 0
    have r1 := bR.cell 1
    have r2 := bR.cell 2
    have rf0 := bR.frozen 0
    have rf1 := bR.frozen 1
    have rf2 := bR.frozen 2
    have c0 := bW.cell 0
    have c1 := bW.cell 1
    have c2 := bW.cell 2
    have hE := (bR.set 0 (.int .i64 0)).set 1 (.int .i64 1) |>.set 2 (.int .i64 1)
    have hBE := ((hbl.setCell (p := ⟨w.heap.size, 0, none⟩) (Nat.le_refl _) (.int .i64 0)).setCell (p := ⟨w.heap.size, 1, none⟩) (Nat.le_refl _) (.int .i64 1)).setCell (p := ⟨w.heap.size, 2, none⟩) (Nat.le_refl _) (.int .i64 1)
    have e0 := hE.cell 0
    have e1 := hE.cell 1
    have e2 := hE.cell 2
    have HBE := hide hBE
    clear hE hBE bR bW hbl
    refine wp_loop_rounds 1 ?_
    rw [rounds_succ]
    go_wp2_with fail
    exact bodyPost_ret (v := .agg #[.int .i64 0, .int .i64 1, .int .i64 1]) (by simp [results, Tryz.results15, go_sem, e0, e1, e2]) rfl ⟨by rw [hw1]; rfl, unhide HBE⟩
  · clear hk
    go_enter Tryz.func15, Tryz.ntmps15
    go_wp2_with fail
    have bR : Blk ((w.alloc (.cells #[.int .i64 0, .int .i64 0, .int .i64 0] 35)).alloc (.cells #[.int .i64 (s.size : Nat), .int .i64 1, .int .i64 1] 35)) w.heap.size #[.int .i64 0, .int .i64 0, .int .i64 0] 35 := (Blk.new w _ _).alloc _
    have bW : Blk ((w.alloc (.cells #[.int .i64 0, .int .i64 0, .int .i64 0] 35)).alloc (.cells #[.int .i64 (s.size : Nat), .int .i64 1, .int .i64 1] 35)) (w.heap.size + 1) #[.int .i64 (s.size : Nat), .int .i64 1, .int .i64 1] 35 := by
      have := Blk.new (w.alloc (.cells #[.int .i64 0, .int .i64 0, .int .i64 0] 35)) #[.int .i64 (s.size : Nat), .int .i64 1, .int .i64 1] 35
      rwa [World.size_alloc] at this
    have hbl : Below w.heap.size w ((w.alloc (.cells #[.int .i64 0, .int .i64 0, .int .i64 0] 35)).alloc (.cells #[.int .i64 (s.size : Nat), .int .i64 1, .int .i64 1] 35)) := ((Below.refl _ w).alloc (Nat.le_refl _) _).alloc (by simp) _
    generalize ((w.alloc (.cells #[.int .i64 0, .int .i64 0, .int .i64 0] 35)).alloc (.cells #[.int .i64 (s.size : Nat), .int .i64 1, .int .i64 1] 35)) = w0 at *
    have HI : Hz (WhSt s w w0 s.size 0) := hide ⟨bR, by rw [lcAt_zero]; exact bW, hbl, bd_zero s⟩
    clear bR bW hbl
    go_loopw [6, 7, 8, 9] (fun i _ _ _ wr => ∃ I : Nat, I ≤ s.size ∧ i = .int .i64 I ∧ Hz (WhSt s w wr s.size I)) (fun i _ _ _ _ => s.size - (intOf i).toNat)
    case atStart => exact ⟨0, by omega, rfl, HI⟩
    case round =>
      obtain ⟨I, hI, rfl, HS⟩ := hrel
      obtain ⟨w2, rfl⟩ : ∃ w2, w2 = wr := ⟨_, rfl⟩
      have hbR := (unhide HS).res
      have hbW := (unhide HS).cur
      have r0 := hbR.cell 0
      have r1 := hbR.cell 1
      have r2 := hbR.cell 2
      have rf0 := hbR.frozen 0
      have rf1 := hbR.frozen 1
      have rf2 := hbR.frozen 2
      by_cases hik : I < s.size
      · have hik' : (I : Int) < (s.size : Int) := by omega
        have his : (I : Int) < (s.size : Int) := by omega
        have hIs : I < s.size := by omega
        have hwd := unhide HWD I hIs
        have hst := unhide HST I (unhide HS).bd hIs
        have hsq := sequence_any s hs I (by omega)
        have hgb := bt_get s I hIs
        obtain ⟨b, eb⟩ : ∃ b, (s[I]'hIs).toNat = b := ⟨_, rfl⟩
        rw [hgb, eb] at hst
        have hwp := wd_pos s I
        have hnx := fun h => bd_step s I (unhide HS).bd h
        have hcu := fun h => cutAt_in s I s.size (unhide HS).bd (by omega) h
        obtain ⟨r, n, o, hv⟩ : ∃ r n o, seq4V (rst s I) = (r, n, o) := ⟨_, _, _, rfl⟩
        rw [hv] at hwd hsq
        obtain ⟨d, hd⟩ : ∃ d, d = wd s I := ⟨_, rfl⟩
        rw [← hd] at hwd hst hwp hnx hcu
        have hroom := wd_room s I hIs
        rw [← hd] at hroom
        obtain ⟨l, c, hlc⟩ : ∃ l c, lcAt s I = (l, c) := ⟨_, _, rfl⟩
        rw [hlc] at hbW hst
        have hb2 : (I : Int) + (d : Int) ≤ (s.size : Int) := by omega
        have hll := lcAt_le s I
        rw [hlc] at hll
        have hl2 : l ≤ s.size + 1 ∧ c ≤ s.size + 1 := by
          have : min I s.size ≤ s.size := by omega
          omega
        have HST2 := hide hst
        have HNX := hide (hnx hIs)
        have HCU := hide hcu
        have HLC := hide hlc
        have HSQ := hide hsq
        clear hgb hv hd hst hnx hcu hlc hsq hll
        have c0 := hbW.cell 0
        have c1 := hbW.cell 1
        have c2 := hbW.cell 2
        have f1 := hbW.frozen 1
        have f2 := hbW.frozen 2
        have HBW := hide hbW
        have HBR := hide hbR
        clear hbW hbR
        by_cases hend : s.size < I + d
        · exfalso; omega
        · have hend' : ¬ (s.size : Int) < (I : Int) + (d : Int) := by omega
          clear r0 r1 r2 rf0 rf1 rf2
          by_cases hb10 : b = 10
          · have hb10' : ((b : Int) == 10) = true := by rw [beq_iff_eq]; omega
            have hnew : lcAt s (I + d) = (l + 1, 1) := by rw [unhide HST2, if_pos hb10]
            have p2 := (unhide HBW).set 2 (.int .i64 ((c : Int) + 1))
            have p21 := p2.cell 1
            have p2f := p2.frozen 1
            have p3 := p2.set 1 (.int .i64 ((l : Int) + 1))
            have p3f := p3.frozen 2
            have p4 := p3.set 2 (.int .i64 1)
            have HNEW : Hz (WhSt s w (((w2.setCell ⟨w.heap.size + 1, 2, none⟩ (.int .i64 ((c : Int) + 1))).setCell ⟨w.heap.size + 1, 1, none⟩ (.int .i64 ((l : Int) + 1))).setCell ⟨w.heap.size + 1, 2, none⟩ (.int .i64 1)) s.size (I + d)) := hide ⟨(((unhide HBR).other (by omega) _).other (by omega) _).other (by omega) _, by rw [hnew]; exact p4, (((unhide HS).bel.setCell (p := ⟨w.heap.size + 1, 2, none⟩) (by simp) _).setCell (p := ⟨w.heap.size + 1, 1, none⟩) (by simp) _).setCell (p := ⟨w.heap.size + 1, 2, none⟩) (by simp) _, unhide HNX⟩
            clear hnew p2 p3 p4 HST2 HNX HCU HLC hb10
            cases o
            · have hd1 : d = 1 := by have q : I + 1 = I + d := hwd; omega
              subst hd1
              clear hwd
              go_wp2_with fail
              refine (unhide HSQ _).mono ?_
              rintro e w3 ⟨rfl, rfl⟩
              go_wp2_with fail
              go_roundw
              case rel => exact ⟨_, by omega, by go_num, HNEW⟩
              case measure => simp [intOf]; omega
            · have hd1 : d = n := by have q : I + n = I + d := hwd; omega
              subst hd1
              clear hwd
              go_wp2_with fail
              refine (unhide HSQ _).mono ?_
              rintro e w3 ⟨rfl, rfl⟩
              go_wp2_with fail
              go_roundw
              case rel => exact ⟨_, by omega, by go_num, HNEW⟩
              case measure => simp [intOf]; omega
          · have hb10' : ((b : Int) == 10) = false := by rw [beq_eq_false_iff_ne]; omega
            have hnew : lcAt s (I + d) = (l, c + 1) := by rw [unhide HST2, if_neg hb10]
            have p2 := (unhide HBW).set 2 (.int .i64 ((c : Int) + 1))
            have HNEW : Hz (WhSt s w (w2.setCell ⟨w.heap.size + 1, 2, none⟩ (.int .i64 ((c : Int) + 1))) s.size (I + d)) := hide ⟨(unhide HBR).other (by omega) _, by rw [hnew]; exact p2, (unhide HS).bel.setCell (p := ⟨w.heap.size + 1, 2, none⟩) (by simp) _, unhide HNX⟩
            clear hnew p2 HST2 HNX HCU HLC hb10
            cases o
            · have hd1 : d = 1 := by have q : I + 1 = I + d := hwd; omega
              subst hd1
              clear hwd
              go_wp2_with fail
              refine (unhide HSQ _).mono ?_
              rintro e w3 ⟨rfl, rfl⟩
              go_wp2_with fail
              go_roundw
              case rel => exact ⟨_, by omega, by go_num, HNEW⟩
              case measure => simp [intOf]; omega
            · have hd1 : d = n := by have q : I + n = I + d := hwd; omega
              subst hd1
              clear hwd
              go_wp2_with fail
              refine (unhide HSQ _).mono ?_
              rintro e w3 ⟨rfl, rfl⟩
              go_wp2_with fail
              go_roundw
              case rel => exact ⟨_, by omega, by go_num, HNEW⟩
              case measure => simp [intOf]; omega
      · have hik' : ¬ (I : Int) < (s.size : Int) := by omega
        have hIk : I = s.size := by omega
        obtain ⟨l, c, hlc⟩ : ∃ l c, lcAt s I = (l, c) := ⟨_, _, rfl⟩
        have hw1 : whL s s.size = (l, c) := by rw [whL_bd s s.size (hIk ▸ (unhide HS).bd), ← hIk, hlc]
        rw [hlc] at hbW
        have HW1 := hide hw1
        have c0 := hbW.cell 0
        have c1 := hbW.cell 1
        have c2 := hbW.cell 2
        have hE := (hbR.set 0 (.int .i64 (s.size : Nat))).set 1 (.int .i64 l) |>.set 2 (.int .i64 c)
        have hBE := (((unhide HS).bel.setCell (p := ⟨w.heap.size, 0, none⟩) (Nat.le_refl _) (.int .i64 (s.size : Nat))).setCell (p := ⟨w.heap.size, 1, none⟩) (Nat.le_refl _) (.int .i64 l)).setCell (p := ⟨w.heap.size, 2, none⟩) (Nat.le_refl _) (.int .i64 c)
        have e0 := hE.cell 0
        have e1 := hE.cell 1
        have e2 := hE.cell 2
        have HBE := hide hBE
        clear hE hBE hw1 hlc hIk hbR hbW
        go_wp2_with fail
        exact bodyPost_ret (v := .agg #[.int .i64 (s.size : Nat), .int .i64 l, .int .i64 c]) (by simp [results, Tryz.results15, go_sem, e0, e1, e2]) rfl ⟨by rw [unhide HW1], unhide HBE⟩
  · skip
    go_enter Tryz.func15, Tryz.ntmps15
    go_wp2_with fail
    have bR : Blk ((w.alloc (.cells #[.int .i64 0, .int .i64 0, .int .i64 0] 35)).alloc (.cells #[.int .i64 (k : Nat), .int .i64 1, .int .i64 1] 35)) w.heap.size #[.int .i64 0, .int .i64 0, .int .i64 0] 35 := (Blk.new w _ _).alloc _
    have bW : Blk ((w.alloc (.cells #[.int .i64 0, .int .i64 0, .int .i64 0] 35)).alloc (.cells #[.int .i64 (k : Nat), .int .i64 1, .int .i64 1] 35)) (w.heap.size + 1) #[.int .i64 (k : Nat), .int .i64 1, .int .i64 1] 35 := by
      have := Blk.new (w.alloc (.cells #[.int .i64 0, .int .i64 0, .int .i64 0] 35)) #[.int .i64 (k : Nat), .int .i64 1, .int .i64 1] 35
      rwa [World.size_alloc] at this
    have hbl : Below w.heap.size w ((w.alloc (.cells #[.int .i64 0, .int .i64 0, .int .i64 0] 35)).alloc (.cells #[.int .i64 (k : Nat), .int .i64 1, .int .i64 1] 35)) := ((Below.refl _ w).alloc (Nat.le_refl _) _).alloc (by simp) _
    generalize ((w.alloc (.cells #[.int .i64 0, .int .i64 0, .int .i64 0] 35)).alloc (.cells #[.int .i64 (k : Nat), .int .i64 1, .int .i64 1] 35)) = w0 at *
    have HI : Hz (WhSt s w w0 k 0) := hide ⟨bR, by rw [lcAt_zero]; exact bW, hbl, bd_zero s⟩
    clear bR bW hbl
    go_loopw [6, 7, 8, 9] (fun i _ _ _ wr => ∃ I : Nat, I ≤ k ∧ i = .int .i64 I ∧ Hz (WhSt s w wr k I)) (fun i _ _ _ _ => k - (intOf i).toNat)
    case atStart => exact ⟨0, by omega, rfl, HI⟩
    case round =>
      obtain ⟨I, hI, rfl, HS⟩ := hrel
      obtain ⟨w2, rfl⟩ : ∃ w2, w2 = wr := ⟨_, rfl⟩
      have hbR := (unhide HS).res
      have hbW := (unhide HS).cur
      have r0 := hbR.cell 0
      have r1 := hbR.cell 1
      have r2 := hbR.cell 2
      have rf0 := hbR.frozen 0
      have rf1 := hbR.frozen 1
      have rf2 := hbR.frozen 2
      by_cases hik : I < k
      · have hik' : (I : Int) < (k : Int) := by omega
        have his : (I : Int) < (s.size : Int) := by omega
        have hIs : I < s.size := by omega
        have hwd := unhide HWD I hIs
        have hst := unhide HST I (unhide HS).bd hIs
        have hsq := sequence_any s hs I (by omega)
        have hgb := bt_get s I hIs
        obtain ⟨b, eb⟩ : ∃ b, (s[I]'hIs).toNat = b := ⟨_, rfl⟩
        rw [hgb, eb] at hst
        have hwp := wd_pos s I
        have hnx := fun h => bd_step s I (unhide HS).bd h
        have hcu := fun h => cutAt_in s I k (unhide HS).bd (by omega) h
        obtain ⟨r, n, o, hv⟩ : ∃ r n o, seq4V (rst s I) = (r, n, o) := ⟨_, _, _, rfl⟩
        rw [hv] at hwd hsq
        obtain ⟨d, hd⟩ : ∃ d, d = wd s I := ⟨_, rfl⟩
        rw [← hd] at hwd hst hwp hnx hcu
        have hroom := wd_room s I hIs
        rw [← hd] at hroom
        obtain ⟨l, c, hlc⟩ : ∃ l c, lcAt s I = (l, c) := ⟨_, _, rfl⟩
        rw [hlc] at hbW hst
        have hb2 : (I : Int) + (d : Int) ≤ (s.size : Int) := by omega
        have hll := lcAt_le s I
        rw [hlc] at hll
        have hl2 : l ≤ s.size + 1 ∧ c ≤ s.size + 1 := by
          have : min I s.size ≤ s.size := by omega
          omega
        have HST2 := hide hst
        have HNX := hide (hnx hIs)
        have HCU := hide hcu
        have HLC := hide hlc
        have HSQ := hide hsq
        clear hgb hv hd hst hnx hcu hlc hsq hll
        have c0 := hbW.cell 0
        have c1 := hbW.cell 1
        have c2 := hbW.cell 2
        have f1 := hbW.frozen 1
        have f2 := hbW.frozen 2
        have HBW := hide hbW
        have HBR := hide hbR
        clear hbW hbR
        by_cases hend : k < I + d
        · have hend' : (k : Int) < (I : Int) + (d : Int) := by omega
          have hw1 : whL s k = (l, c) := by rw [whL_at, unhide HCU hend, unhide HLC]
          have HW1 := hide hw1
          clear hw1 HST2 HNX
          have hE := ((unhide HBR).set 0 (.int .i64 (k : Nat))).set 1 (.int .i64 l) |>.set 2 (.int .i64 c)
          have hBE := (((unhide HS).bel.setCell (p := ⟨w.heap.size, 0, none⟩) (Nat.le_refl _) (.int .i64 (k : Nat))).setCell (p := ⟨w.heap.size, 1, none⟩) (Nat.le_refl _) (.int .i64 l)).setCell (p := ⟨w.heap.size, 2, none⟩) (Nat.le_refl _) (.int .i64 c)
          have e0 := hE.cell 0
          have e1 := hE.cell 1
          have e2 := hE.cell 2
          have HBE := hide hBE
          clear hE hBE
          cases o
          · exfalso
            have q : I + 1 = I + d := hwd
            omega
          · have hd1 : d = n := by have q : I + n = I + d := hwd; omega
            subst hd1
            clear hwd
            go_wp2_with fail
            refine (unhide HSQ _).mono ?_
            rintro e w3 ⟨rfl, rfl⟩
            go_wp2_with fail
            exact bodyPost_ret (v := .agg #[.int .i64 (k : Nat), .int .i64 l, .int .i64 c]) (by simp [results, Tryz.results15, go_sem, e0, e1, e2]) rfl ⟨by rw [unhide HW1], unhide HBE⟩
        · have hend' : ¬ (k : Int) < (I : Int) + (d : Int) := by omega
          clear r0 r1 r2 rf0 rf1 rf2
          by_cases hb10 : b = 10
          · have hb10' : ((b : Int) == 10) = true := by rw [beq_iff_eq]; omega
            have hnew : lcAt s (I + d) = (l + 1, 1) := by rw [unhide HST2, if_pos hb10]
            have p2 := (unhide HBW).set 2 (.int .i64 ((c : Int) + 1))
            have p21 := p2.cell 1
            have p2f := p2.frozen 1
            have p3 := p2.set 1 (.int .i64 ((l : Int) + 1))
            have p3f := p3.frozen 2
            have p4 := p3.set 2 (.int .i64 1)
            have HNEW : Hz (WhSt s w (((w2.setCell ⟨w.heap.size + 1, 2, none⟩ (.int .i64 ((c : Int) + 1))).setCell ⟨w.heap.size + 1, 1, none⟩ (.int .i64 ((l : Int) + 1))).setCell ⟨w.heap.size + 1, 2, none⟩ (.int .i64 1)) k (I + d)) := hide ⟨(((unhide HBR).other (by omega) _).other (by omega) _).other (by omega) _, by rw [hnew]; exact p4, (((unhide HS).bel.setCell (p := ⟨w.heap.size + 1, 2, none⟩) (by simp) _).setCell (p := ⟨w.heap.size + 1, 1, none⟩) (by simp) _).setCell (p := ⟨w.heap.size + 1, 2, none⟩) (by simp) _, unhide HNX⟩
            clear hnew p2 p3 p4 HST2 HNX HCU HLC hb10
            cases o
            · have hd1 : d = 1 := by have q : I + 1 = I + d := hwd; omega
              subst hd1
              clear hwd
              go_wp2_with fail
              refine (unhide HSQ _).mono ?_
              rintro e w3 ⟨rfl, rfl⟩
              go_wp2_with fail
              go_roundw
              case rel => exact ⟨_, by omega, by go_num, HNEW⟩
              case measure => simp [intOf]; omega
            · have hd1 : d = n := by have q : I + n = I + d := hwd; omega
              subst hd1
              clear hwd
              go_wp2_with fail
              refine (unhide HSQ _).mono ?_
              rintro e w3 ⟨rfl, rfl⟩
              go_wp2_with fail
              go_roundw
              case rel => exact ⟨_, by omega, by go_num, HNEW⟩
              case measure => simp [intOf]; omega
          · have hb10' : ((b : Int) == 10) = false := by rw [beq_eq_false_iff_ne]; omega
            have hnew : lcAt s (I + d) = (l, c + 1) := by rw [unhide HST2, if_neg hb10]
            have p2 := (unhide HBW).set 2 (.int .i64 ((c : Int) + 1))
            have HNEW : Hz (WhSt s w (w2.setCell ⟨w.heap.size + 1, 2, none⟩ (.int .i64 ((c : Int) + 1))) k (I + d)) := hide ⟨(unhide HBR).other (by omega) _, by rw [hnew]; exact p2, (unhide HS).bel.setCell (p := ⟨w.heap.size + 1, 2, none⟩) (by simp) _, unhide HNX⟩
            clear hnew p2 HST2 HNX HCU HLC hb10
            cases o
            · have hd1 : d = 1 := by have q : I + 1 = I + d := hwd; omega
              subst hd1
              clear hwd
              go_wp2_with fail
              refine (unhide HSQ _).mono ?_
              rintro e w3 ⟨rfl, rfl⟩
              go_wp2_with fail
              go_roundw
              case rel => exact ⟨_, by omega, by go_num, HNEW⟩
              case measure => simp [intOf]; omega
            · have hd1 : d = n := by have q : I + n = I + d := hwd; omega
              subst hd1
              clear hwd
              go_wp2_with fail
              refine (unhide HSQ _).mono ?_
              rintro e w3 ⟨rfl, rfl⟩
              go_wp2_with fail
              go_roundw
              case rel => exact ⟨_, by omega, by go_num, HNEW⟩
              case measure => simp [intOf]; omega
      · have hik' : ¬ (I : Int) < (k : Int) := by omega
        have hIk : I = k := by omega
        obtain ⟨l, c, hlc⟩ : ∃ l c, lcAt s I = (l, c) := ⟨_, _, rfl⟩
        have hw1 : whL s k = (l, c) := by rw [whL_bd s k (hIk ▸ (unhide HS).bd), ← hIk, hlc]
        rw [hlc] at hbW
        have HW1 := hide hw1
        have c0 := hbW.cell 0
        have c1 := hbW.cell 1
        have c2 := hbW.cell 2
        have hE := (hbR.set 0 (.int .i64 (k : Nat))).set 1 (.int .i64 l) |>.set 2 (.int .i64 c)
        have hBE := (((unhide HS).bel.setCell (p := ⟨w.heap.size, 0, none⟩) (Nat.le_refl _) (.int .i64 (k : Nat))).setCell (p := ⟨w.heap.size, 1, none⟩) (Nat.le_refl _) (.int .i64 l)).setCell (p := ⟨w.heap.size, 2, none⟩) (Nat.le_refl _) (.int .i64 c)
        have e0 := hE.cell 0
        have e1 := hE.cell 1
        have e2 := hE.cell 2
        have HBE := hide hBE
        clear hE hBE hw1 hlc hIk hbR hbW
        go_wp2_with fail
        exact bodyPost_ret (v := .agg #[.int .i64 (k : Nat), .int .i64 l, .int .i64 c]) (by simp [results, Tryz.results15, go_sem, e0, e1, e2]) rfl ⟨by rw [unhide HW1], unhide HBE⟩
end Go.Proofs.YtcnhkhjkeemafaaGreatDoor
/- Blanks and remarks, place by place: plain mathematics. -/
namespace Go.Proofs.YtcnhkhjkeemafaaGreatDoor
open Go.RowKit Go.Shelf
set_option linter.unusedVariables false
theorem rst_rst (s : ByteArray) (a k : Nat) (h : a ≤ s.size) : (rst s a).extract k (rst s a).size = rst s (a + k) := by
  unfold rst
  rw [ByteArray.size_extract, ByteArray.extract_extract, Nat.min_self]
  congr 1
  omega
theorem rst_at (s : ByteArray) (a k : Nat) (h : a ≤ s.size) : bt (rst s a) k = bt s (a + k) := by unfold bt; rw [get_suffix s a k h]
theorem gap_shift (t : ByteArray) (a : Nat) (ha : a ≤ t.size) : ∀ f k, gapGo t f (a + k) = (a + (gapGo (rst t a) f k).1, (gapGo (rst t a) f k).2)
  | 0, k => by
    unfold gapGo
    rw [rst_size, Prod.mk.injEq]
    exact ⟨by show t.size = a + (t.size - a); omega, rfl⟩
  | f + 1, k => by
    unfold gapGo
    rw [rst_at t a k ha, rst_rst t a k ha, rst_size]
    by_cases h : a + k < t.size
    · rw [if_pos h, if_pos (show k < t.size - a by omega)]
      by_cases hb : blankB (bt t (a + k)) = true
      · rw [if_pos hb, if_pos hb]
        exact gap_shift t a ha f (k + 1)
      · rw [if_neg hb, if_neg hb]
        by_cases hr : bt t (a + k) = 35
        · rw [if_pos hr, if_pos hr]
          show (if (remV (rst t (a + k))).2 = true then _ else _) = _
          by_cases ho : (remV (rst t (a + k))).2 = true
          · rw [if_pos ho, if_pos ho, Nat.add_assoc]
            exact gap_shift t a ha f _
          · rw [if_neg ho, if_neg ho, Nat.add_assoc]
        · rw [if_neg hr, if_neg hr]
    · rw [if_neg h, if_neg (show ¬ k < t.size - a by omega), Prod.mk.injEq]
      exact ⟨by show t.size = a + (t.size - a); omega, rfl⟩
theorem nlAt_pos (t : ByteArray) (h : 0 < t.size) (hb : bt t 0 ≠ 10) : 1 ≤ nlAt t := by
  unfold nlAt
  rw [scanTo_go h (by simp [hb])]
  exact (scanTo_le _ (by omega)).1
theorem remV_pos2 (t : ByteArray) (h : 0 < t.size) (hb : bt t 0 ≠ 10) (ho : (remV t).2 = true) : 1 ≤ (remV t).1 ∧ (remV t).1 ≤ t.size := by
  have h1 := nlAt_pos t h hb
  have h2 := nlAt_le t
  unfold remV at ho ⊢
  split at ho
  · rename_i e
    show 1 ≤ (t.extract 0 (nlAt t)).size ∧ (t.extract 0 (nlAt t)).size ≤ _
    rw [ByteArray.size_extract]
    omega
  · cases ho
theorem gap_fuel (t : ByteArray) : ∀ f g n, t.size ≤ n + f → t.size ≤ n + g → n ≤ t.size → gapGo t f n = gapGo t g n
  | 0, 0, n, _, _, _ => rfl
  | 0, g + 1, n, h, _, _ => by unfold gapGo; rw [if_neg (by omega)]
  | f + 1, 0, n, _, h, _ => by unfold gapGo; rw [if_neg (by omega)]
  | f + 1, g + 1, n, h1, h2, hn => by
    unfold gapGo
    by_cases h : n < t.size
    · rw [if_pos h, if_pos h]
      by_cases hb : blankB (bt t n) = true
      · rw [if_pos hb, if_pos hb]
        exact gap_fuel t f g (n + 1) (by omega) (by omega) (by omega)
      · rw [if_neg hb, if_neg hb]
        by_cases hr : bt t n = 35
        · rw [if_pos hr, if_pos hr]
          by_cases ho : (remV (t.extract n t.size)).2 = true
          · rw [if_pos ho, if_pos ho]
            have hz : 0 < (rst t n).size := by rw [rst_size]; omega
            have h0 : bt (rst t n) 0 = 35 := by rw [rst_at t n 0 (by omega)]; exact hr
            have hp := remV_pos2 (rst t n) hz (by rw [h0]; decide) ho
            rw [rst_size] at hp
            show gapGo t f (n + (remV (rst t n)).1) = gapGo t g (n + (remV (rst t n)).1)
            exact gap_fuel t f g _ (by omega) (by omega) (by omega)
          · rw [if_neg ho, if_neg ho]
        · rw [if_neg hr, if_neg hr]
    · rw [if_neg h, if_neg h]
/-- Behind blanks and remarks, from a place on. -/
def gapA (s : ByteArray) (p : Nat) : Nat × Bool := (p + (gapV (rst s p)).1, (gapV (rst s p)).2)
theorem gapA_from (s : ByteArray) (p k f : Nat) (hp : p + k ≤ s.size) (hf : s.size ≤ p + k + f) : (p + (gapGo (rst s p) f k).1, (gapGo (rst s p) f k).2) = gapA s (p + k) := by
  unfold gapA gapV
  have h := gap_shift (rst s p) k (by rw [rst_size]; omega) f 0
  rw [Nat.add_zero] at h
  have e : rst (rst s p) k = rst s (p + k) := rst_rst s p k (by omega)
  rw [e] at h
  rw [h, gap_fuel (rst s (p + k)) f (rst s (p + k)).size 0 (by rw [rst_size]; omega) (by omega) (by omega), Prod.mk.injEq]
  exact ⟨by show p + (k + _) = _; omega, rfl⟩
theorem gapA_end (s : ByteArray) (p : Nat) (h : s.size ≤ p) (h2 : p ≤ s.size) : gapA s p = (p, true) := by
  obtain rfl : p = s.size := by omega
  unfold gapA
  have e : rst s s.size = ByteArray.empty := toList_nil _ (by rw [rst_size]; omega)
  rw [e]
  rfl
theorem gapA_blank (s : ByteArray) (p : Nat) (h : p < s.size) (hb : blankB (bt s p) = true) : gapA s p = gapA s (p + 1) := by
  rw [← gapA_from s p 1 (s.size - p - 1) (by omega) (by omega)]
  unfold gapA gapV
  have hz := rst_size s p
  obtain ⟨f, hf⟩ : ∃ f, s.size - p = f + 1 := ⟨s.size - p - 1, by omega⟩
  have e : gapGo (rst s p) (rst s p).size 0 = gapGo (rst s p) (s.size - p - 1) 1 := by
    rw [hz, show s.size - p - 1 = f by omega, hf]
    conv => lhs; unfold gapGo
    rw [if_pos (by omega), rst_at s p 0 (by omega), Nat.add_zero, if_pos hb]
  rw [e]
theorem gapA_stop (s : ByteArray) (p : Nat) (h : p < s.size) (hb : blankB (bt s p) = false) (hr : bt s p ≠ 35) : gapA s p = (p, true) := by
  unfold gapA
  have hg : gapV (rst s p) = (0, true) := by
    have hz := rst_size s p
    unfold gapV
    obtain ⟨f, hf⟩ : ∃ f, s.size - p = f + 1 := ⟨s.size - p - 1, by omega⟩
    rw [hz, hf]
    unfold gapGo
    rw [if_pos (by omega), rst_at s p 0 (by omega), Nat.add_zero, if_neg (by rw [hb]; decide), if_neg hr]
  rw [hg]
  rfl
theorem gapA_sharp (s : ByteArray) (p : Nat) (h : p < s.size) (hr : bt s p = 35) : gapA s p = if (remV (rst s p)).2 = true then gapA s (p + (remV (rst s p)).1) else (p + (remV (rst s p)).1, false) := by
  have hz := rst_size s p
  obtain ⟨f, hf⟩ : ∃ f, s.size - p = f + 1 := ⟨s.size - p - 1, by omega⟩
  have h0 : bt (rst s p) 0 = 35 := by rw [rst_at s p 0 (by omega)]; exact hr
  have e : gapGo (rst s p) (rst s p).size 0 = if (remV (rst s p)).2 = true then gapGo (rst s p) f ((remV (rst s p)).1) else ((remV (rst s p)).1, false) := by
    rw [hz, hf]
    conv => lhs; unfold gapGo
    have hx : (rst s p).extract 0 (rst s p).size = rst s p := ByteArray.extract_zero_size
    rw [if_pos (by omega), h0, if_neg (by decide), if_pos rfl, hx, Nat.zero_add]
  by_cases ho : (remV (rst s p)).2 = true
  · have hp := remV_pos2 (rst s p) (by omega) (by rw [h0]; decide) ho
    rw [if_pos ho] at e ⊢
    rw [← gapA_from s p _ f (by omega) (by omega)]
    show (p + (gapGo (rst s p) (rst s p).size 0).1, (gapGo (rst s p) (rst s p).size 0).2) = _
    rw [e]
  · rw [if_neg ho] at e ⊢
    show (p + (gapGo (rst s p) (rst s p).size 0).1, (gapGo (rst s p) (rst s p).size 0).2) = _
    rw [e]
/-- Where the line ends. -/
def lnEnd (s : ByteArray) (p : Nat) : Nat := p + nlAt (rst s p)
/-- In a remark, from a place on. -/
def remA (s : ByteArray) (p : Nat) : Nat × Bool := match badOf (s.extract p (lnEnd s p)) with
  | none => gapA s (lnEnd s p)
  | some x => (p + x + begLen ((s.extract p (lnEnd s p)).extract x (s.extract p (lnEnd s p)).size), false)
theorem lnEnd_le (s : ByteArray) (p : Nat) (h : p ≤ s.size) : p ≤ lnEnd s p ∧ lnEnd s p ≤ s.size := by
  have := nlAt_le (rst s p)
  rw [rst_size] at this
  unfold lnEnd
  omega
theorem scanTo_shift (q : Nat → Bool) (hi a : Nat) : ∀ k n, hi ≤ n + k → scanTo q (a + hi) (a + n) = a + scanTo (fun j => q (a + j)) hi n
  | 0, n, h => by rw [scanTo_end (by omega), scanTo_end (by omega)]
  | k + 1, n, h => by
    by_cases hn : n < hi
    · cases hp : q (a + n) with
      | true => rw [scanTo_go (by omega) hp, scanTo_go (p := fun j => q (a + j)) hn hp]; exact scanTo_shift q hi a k (n + 1) (by omega)
      | false => rw [scanTo_no hp, scanTo_no (p := fun j => q (a + j)) hp]
    · rw [scanTo_end (by omega), scanTo_end hn]
theorem lnEnd_eq (s : ByteArray) (p : Nat) (h : p ≤ s.size) : lnEnd s p = scanTo (fun n => !decide (bt s n = 10)) s.size p := by
  unfold lnEnd nlAt
  rw [rst_size]
  have := scanTo_shift (fun n => !decide (bt s n = 10)) (s.size - p) p (s.size - p) 0 (by omega)
  rw [Nat.add_zero, show p + (s.size - p) = s.size by omega] at this
  have hf : (fun n => !decide (bt (rst s p) n = 10)) = (fun j => !decide (bt s (p + j) = 10)) := by funext j; rw [rst_at s p j h]
  rw [this, hf]
theorem scanTo_stop (q : Nat → Bool) (hi : Nat) : ∀ k n, hi ≤ n + k → scanTo q hi n < hi → q (scanTo q hi n) = false
  | 0, n, h, hl => by rw [scanTo_end (by omega)] at hl; omega
  | k + 1, n, h, hl => by
    by_cases hn : n < hi
    · cases hp : q n with
      | true => rw [scanTo_go hn hp] at hl ⊢; exact scanTo_stop q hi k (n + 1) (by omega) hl
      | false => rw [scanTo_no hp]; exact hp
    · rw [scanTo_end hn] at hl; omega
theorem lnEnd_on (s : ByteArray) (p d : Nat) (h : p + d ≤ s.size) (hn : ∀ j, p ≤ j → j < p + d → bt s j ≠ 10) : lnEnd s p = lnEnd s (p + d) := by
  rw [lnEnd_eq s p (by omega), lnEnd_eq s (p + d) h]
  exact scanTo_all (p := fun n => !decide (bt s n = 10)) d p rfl h (fun j h1 h2 => by simp [hn j h1 h2])
theorem remA_end (s : ByteArray) (p : Nat) (h : p = s.size) : remA s p = (p, true) := by
  subst h
  have e := lnEnd_le s s.size (Nat.le_refl _)
  have e1 : lnEnd s s.size = s.size := by omega
  unfold remA
  have e2 : s.extract s.size (lnEnd s s.size) = ByteArray.empty := toList_nil _ (by rw [ByteArray.size_extract]; omega)
  rw [e2, e1]
  exact gapA_end s s.size (Nat.le_refl _) (Nat.le_refl _)
theorem remA_nl (s : ByteArray) (p : Nat) (h : p < s.size) (hb : bt s p = 10) : remA s p = gapA s (p + 1) := by
  have e1 : lnEnd s p = p := by rw [lnEnd_eq s p (by omega)]; exact scanTo_no (by simp [hb])
  unfold remA
  have e2 : s.extract p (lnEnd s p) = ByteArray.empty := toList_nil _ (by rw [ByteArray.size_extract]; omega)
  rw [e2, e1]
  exact gapA_blank s p h (by rw [hb]; decide)
theorem find_map {α β : Type} (f : α → β) (q : β → Bool) : ∀ l : List α, (l.map f).find? q = (l.find? (fun a => q (f a))).map f
  | [] => rfl
  | a :: l => by
    rw [List.map_cons]
    by_cases h : q (f a) = true
    · rw [List.find?_cons_of_pos h, List.find?_cons_of_pos (p := fun a => q (f a)) h]; rfl
    · rw [List.find?_cons_of_neg h, List.find?_cons_of_neg (p := fun a => q (f a)) h]; exact find_map f q l
/-- A text that begins with a right spot: its first bad place is that of what is behind. -/
theorem badOf_behind (v u : ByteArray) (hb : bdB (v ++ u) v.size = true) (hv : ∀ i ∈ starts v, badB v i = false) : badOf (v ++ u) = (badOf u).map (v.size + ·) := by
  obtain ⟨e, hd⟩ := starts_both v u hb
  unfold badOf
  rw [e, List.find?_append]
  have h1 : (starts v).find? (badB (v ++ u)) = none := by
    rw [List.find?_eq_none]
    intro i hi
    have e2 : badB (v ++ u) i = badB v i := by unfold badB; simp only [rn, wd, hd i hi]
    rw [e2, hv i hi]
    decide
  rw [h1, Option.none_or, find_map]
  congr 2
  funext j
  unfold badB
  simp only [rn, wd, decode_behind]
theorem remA_behind (s : ByteArray) (p d : Nat) (hd : p + d ≤ s.size) (hn : ∀ j, p ≤ j → j < p + d → bt s j ≠ 10) (hv : ∀ i ∈ starts (s.extract p (p + d)), badB (s.extract p (p + d)) i = false) : remA s p = remA s (p + d) := by
  have e0 := lnEnd_on s p d hd hn
  have hl := lnEnd_le s (p + d) hd
  have hcat : s.extract p (p + d) ++ s.extract (p + d) (lnEnd s (p + d)) = s.extract p (lnEnd s (p + d)) := by
    rw [ByteArray.extract_append_extract]
    congr 1 <;> omega
  have hz : (s.extract p (p + d)).size = d := by rw [ByteArray.size_extract]; omega
  have hj := joins_valid_left (s.extract p (p + d)) (s.extract (p + d) (lnEnd s (p + d))) hv
  rw [joins_bd] at hj
  have hbo := badOf_behind _ _ hj hv
  rw [hcat, hz] at hbo
  unfold remA
  rw [e0, hbo]
  cases hq : badOf (s.extract (p + d) (lnEnd s (p + d))) with
  | none => rfl
  | some x =>
    show (p + (d + x) + begLen _, false) = (p + d + x + begLen _, false)
    have e1 : (s.extract p (lnEnd s (p + d))).extract (d + x) (s.extract p (lnEnd s (p + d))).size = (s.extract (p + d) (lnEnd s (p + d))).extract x (s.extract (p + d) (lnEnd s (p + d))).size := by
      rw [ByteArray.size_extract, ByteArray.size_extract, ByteArray.extract_extract, ByteArray.extract_extract]
      congr 1 <;> omega
    rw [e1, Nat.add_assoc p d x]
theorem remA_spot (s : ByteArray) (p : Nat) (h : p < s.size) (hb : bt s p ≠ 10) (hg : badB s p = false) : remA s p = remA s (p + wd s p) := by
  have hr := wd_room s p h
  have hz : (s.extract p (p + wd s p)).size = wd s p := by rw [ByteArray.size_extract]; have := wd_pos s p; omega
  refine remA_behind s p (wd s p) hr (fun j h1 h2 => ?_) ?_
  · by_cases e : j = p
    · rw [e]; exact hb
    · have := wd_cont s p (j - p) (by omega) (by omega)
      rw [show p + (j - p) = j by omega] at this
      omega
  · have hcat : s.extract p (p + wd s p) ++ s.extract (p + wd s p) s.size = rst s p := by
      rw [ByteArray.extract_append_extract]
      congr 1 <;> omega
    have hd : Utf8.decode (rst s p) 0 = Utf8.decode s p := decode_suffix s p 0 (by omega)
    have hp := wd_pos s p
    have e := decode_part (s.extract p (p + wd s p)) (s.extract (p + wd s p) s.size) 0 (by omega) (by rw [hcat, hz]; unfold wd; rw [hd]; omega)
    rw [hcat, hd] at e
    have hs : starts (s.extract p (p + wd s p)) = [0] := by
      unfold starts
      obtain ⟨m, hm⟩ : ∃ m, (s.extract p (p + wd s p)).size = m + 1 := ⟨wd s p - 1, by omega⟩
      rw [hm, startsFrom_cons _ m 0 (by omega), startsFrom_end _ _ _ (by show ¬ 0 + (Utf8.decode _ 0).2 < _; rw [e]; show ¬ 0 + wd s p < _; omega)]
    intro i hi
    rw [hs] at hi
    obtain rfl : i = 0 := by simpa using hi
    unfold badB rn wd at hg ⊢
    rw [e]
    exact hg
theorem badB_ascii' (s : ByteArray) (i : Nat) (h : bt s i < 128) : badB s i = false := by
  have t := at_told s i
  unfold badB
  refine decide_eq_false ?_
  rintro ⟨a, b⟩
  rcases t.one b with q | q
  · omega
  · simp only [rn] at a; omega
theorem gapA_rem (s : ByteArray) (p : Nat) (h : p < s.size) (hr : bt s p = 35) : gapA s p = remA s (p + 1) := by
  have hb : badB s p = false := badB_ascii' s p (by omega)
  have hw : wd s p = 1 := by
    rcases Nat.lt_or_ge (wd s p) 2 with q | q
    · have := wd_pos s p; omega
    · have := wd_lead s p q; omega
  rw [← hw, ← remA_spot s p h (by omega) hb, gapA_sharp s p h hr]
  have hl := lnEnd_le s p (by omega)
  have e1 : (rst s p).extract 0 (nlAt (rst s p)) = s.extract p (lnEnd s p) := by
    unfold lnEnd rst
    rw [ByteArray.extract_extract, Nat.add_zero]
    congr 1
    have := nlAt_le (rst s p)
    rw [rst_size] at this
    unfold rst at this
    omega
  have hz : (s.extract p (lnEnd s p)).size = lnEnd s p - p := by rw [ByteArray.size_extract]; omega
  have e2 : remV (rst s p) = match badOf (s.extract p (lnEnd s p)) with
    | none => (lnEnd s p - p, true)
    | some x => (x + begLen ((s.extract p (lnEnd s p)).extract x (s.extract p (lnEnd s p)).size), false) := by
    unfold remV
    rw [e1]
    cases badOf (s.extract p (lnEnd s p)) with
    | none => show (_, true) = (_, true); rw [hz]
    | some x => rfl
  unfold remA
  cases hq : badOf (s.extract p (lnEnd s p)) with
  | none =>
    rw [hq] at e2
    rw [e2]
    show (if true = true then gapA s (p + (lnEnd s p - p)) else _) = _
    rw [if_pos rfl, show p + (lnEnd s p - p) = lnEnd s p by omega]
  | some x =>
    rw [hq] at e2
    rw [e2]
    show (if false = true then _ else (p + (x + begLen _), false)) = (p + x + begLen _, false)
    rw [if_neg (by decide), Nat.add_assoc]
theorem first_bad (t : ByteArray) (h : 0 < t.size) (hs : (secOf (bt t 0)).1 ≠ 0) (hb : badB t 0 = true) : ∃ k, 1 ≤ k ∧ k < szOf (bt t 0) ∧ (∀ j, 1 ≤ j → j < k → good4 t j = true) ∧ good4 t k = false := by
  have hne : ¬ ∀ j, 1 ≤ j → j < szOf (bt t 0) → good4 t j = true := fun q => by
    have e := seq4_good h hs q
    unfold seq4V at e
    rw [if_neg (by omega), if_pos hb] at e
    exact absurd (congrArg (fun x => x.2.2) e) (by simp)
  have hsz := szOf_cases (bt t 0)
  cases g1 : good4 t 1 with
  | false => exact ⟨1, by omega, by omega, fun j a b => by omega, g1⟩
  | true =>
    by_cases h3 : szOf (bt t 0) = 2
    · exact absurd (fun j a b => by obtain rfl : j = 1 := by omega
                                    exact g1) hne
    · cases g2 : good4 t 2 with
      | false => exact ⟨2, by omega, by omega, fun j a b => by obtain rfl : j = 1 := by omega
                                                               exact g1, g2⟩
      | true =>
        by_cases h4 : szOf (bt t 0) = 3
        · refine absurd (fun j a b => ?_) hne
          have : j = 1 ∨ j = 2 := by omega
          rcases this with rfl | rfl
          · exact g1
          · exact g2
        · cases g3 : good4 t 3 with
          | false =>
            refine ⟨3, by omega, by omega, fun j a b => ?_, g3⟩
            have : j = 1 ∨ j = 2 := by omega
            rcases this with rfl | rfl
            · exact g1
            · exact g2
          | true =>
            refine absurd (fun j a b => ?_) hne
            have : j = 1 ∨ j = 2 ∨ j = 3 := by omega
            rcases this with rfl | rfl | rfl
            · exact g1
            · exact g2
            · exact g3
theorem begLen_line (t : ByteArray) (m : Nat) (h1 : 1 ≤ m) (hm : m ≤ t.size) (he : m = t.size ∨ bt t m = 10) (hb : badB t 0 = true) : begLen (t.extract 0 m) = begLen t := by
  have hz : (t.extract 0 m).size = m := by rw [ByteArray.size_extract]; omega
  have h0 : bt (t.extract 0 m) 0 = bt t 0 := bt_pre t m 0 (by omega) hm
  by_cases hs : (secOf (bt t 0)).1 = 0
  · rw [begLen_none t (by omega) hs, begLen_none _ (by omega) (by rw [h0]; exact hs)]
  · obtain ⟨k, k1, k2, k3, k4⟩ := first_bad t (by omega) hs hb
    have hq := secOf_lo _ hs
    have hkm : k ≤ m := by
      rcases Nat.lt_or_ge m k with q | q
      · have g := good4_iff.1 (k3 m h1 q)
        rcases he with e | e
        · omega
        · rw [e] at g
          split at g <;> omega
      · exact q
    rw [begLen_some t hs k k1 k2 k3 k4 (by omega)]
    refine begLen_some _ (by rw [h0]; exact hs) k k1 (by rw [h0]; exact k2) (fun j a b => ?_) ?_ (by omega)
    · have g := good4_iff.1 (k3 j a b)
      refine good4_iff.2 ⟨by omega, ?_⟩
      rw [h0, bt_pre t m j (by omega) hm]
      exact g.2
    · rw [Bool.eq_false_iff]
      intro g
      have g := good4_iff.1 g
      rw [h0, bt_pre t m k (by omega) hm] at g
      rw [good4_iff.2 ⟨by omega, g.2⟩] at k4
      cases k4
theorem bad_line (s : ByteArray) (p L : Nat) (hln : p < L) (hl : L ≤ s.size) (hend : L = s.size ∨ bt s L = 10) (hb : badB s p = true) : badOf (s.extract p L) = some 0 ∧ begLen (s.extract p L) = begLen (rst s p) := by
  have hz : (s.extract p L).size = L - p := by rw [ByteArray.size_extract]; omega
  have e1 : (rst s p).extract 0 (L - p) = s.extract p L := by
    unfold rst
    rw [ByteArray.extract_extract, Nat.add_zero, show min (p + (L - p)) s.size = L by omega]
  have hd : Utf8.decode (rst s p) 0 = Utf8.decode s p := decode_suffix s p 0 (by omega)
  have hbt : badB (rst s p) 0 = true := by unfold badB rn wd at hb ⊢; rw [hd]; exact hb
  have hbu : badB (s.extract p L) 0 = true := by
    cases q : badB (s.extract p L) 0 with
    | true => rfl
    | false =>
      have hg : ¬ (rn (s.extract p L) 0 = 65533 ∧ wd (s.extract p L) 0 = 1) := by simpa [badB] using q
      have hcat : s.extract p L ++ s.extract L s.size = rst s p := by rw [ByteArray.extract_append_extract, Nat.min_eq_left (by omega), Nat.max_eq_right hl]
      have := decode_grow (s.extract p L) (s.extract L s.size) 0 (by omega) hg
      rw [hcat] at this
      have e : badB (rst s p) 0 = badB (s.extract p L) 0 := by unfold badB; simp only [rn, wd, this]
      rw [e, q] at hbt
      exact hbt
  refine ⟨?_, ?_⟩
  · unfold badOf
    obtain ⟨r, hr⟩ := starts_head (s.extract p L) (by omega)
    rw [hr, List.find?_cons_of_pos hbu]
  · have := begLen_line (rst s p) (L - p) (by omega) (by rw [rst_size]; omega) (by
      rcases hend with e | e
      · left; rw [rst_size, e]
      · right; rw [rst_at s p _ (by omega), show p + (L - p) = L by omega]; exact e) hbt
    rwa [e1] at this
theorem remA_bad (s : ByteArray) (p : Nat) (h : p < s.size) (hb : badB s p = true) : remA s p = (p + begLen (rst s p), false) := by
  have hb10 : bt s p ≠ 10 := fun e => by rw [badB_ascii' s p (by omega)] at hb; cases hb
  have hln : p < lnEnd s p := by
    have := nlAt_pos (rst s p) (by rw [rst_size]; omega) (by rw [rst_at s p 0 (by omega)]; exact hb10)
    unfold lnEnd
    omega
  have hl := lnEnd_le s p (by omega)
  have hend : lnEnd s p = s.size ∨ bt s (lnEnd s p) = 10 := by
    by_cases q : lnEnd s p < s.size
    · right
      have := scanTo_stop (fun n => !decide (bt s n = 10)) s.size (s.size - p) p (by omega)
      rw [← lnEnd_eq s p (by omega)] at this
      simpa using this q
    · left; omega
  unfold remA
  generalize lnEnd s p = L at *
  obtain ⟨e1, e2⟩ := bad_line s p L hln hl.2 hend hb
  rw [e1]
  show (p + 0 + begLen ((s.extract p L).extract 0 (s.extract p L).size), false) = _
  rw [ByteArray.extract_zero_size, e2, Nat.add_zero]
end Go.Proofs.YtcnhkhjkeemafaaGreatDoor
/- The reference's blank. -/
namespace Go.Proofs.YtcnhkhjkeemafaaGreatDoor
open Go.RowKit Go.Shelf
set_option linter.unusedVariables false
/-- What is left of the blanks and remarks at a place. -/
def blA (s : ByteArray) (r : Bool) (p : Nat) : Nat × Bool := if r = true then remA s p else gapA s p
theorem blA_end (s : ByteArray) (r : Bool) (p : Nat) (h : p = s.size) : blA s r p = (p, true) := by
  unfold blA
  split
  · exact remA_end s p h
  · exact gapA_end s p (by omega) (by omega)
theorem seq4_cases (s : ByteArray) (p : Nat) (h : p < s.size) : (badB s p = true ∧ seq4V (rst s p) = (0, begLen (rst s p), false)) ∨ (badB s p = false ∧ seq4V (rst s p) = (rn s p, wd s p, true)) := by
  have hd : Utf8.decode (rst s p) 0 = Utf8.decode s p := decode_suffix s p 0 (by omega)
  have hb : badB (rst s p) 0 = badB s p := by unfold badB; simp only [rn, wd, hd]
  have hz := rst_size s p
  cases q : badB s p with
  | true => exact .inl ⟨rfl, by unfold seq4V; rw [if_neg (by omega), hb, q, if_pos rfl]⟩
  | false => exact .inr ⟨rfl, by unfold seq4V; rw [if_neg (by omega), hb, q, if_neg (by decide)]; simp only [rn, wd, hd]⟩
theorem blA_seq_bad (s : ByteArray) (p : Nat) (h : p < s.size) (r n : Nat) (hv : seq4V (rst s p) = (r, n, false)) : blA s true p = (p + n, false) := by
  rcases seq4_cases s p h with ⟨h1, h2⟩ | ⟨h1, h2⟩
  · rw [hv, Prod.mk.injEq, Prod.mk.injEq] at h2
    unfold blA
    rw [if_pos rfl, remA_bad s p h h1, h2.2.1]
  · rw [hv, Prod.mk.injEq, Prod.mk.injEq] at h2
    cases h2.2.2
theorem blA_seq_ok (s : ByteArray) (p : Nat) (h : p < s.size) (r n : Nat) (hv : seq4V (rst s p) = (r, n, true)) : 1 ≤ n ∧ p + n ≤ s.size ∧ blA s true p = blA s (!decide (bt s p = 10)) (p + n) := by
  rcases seq4_cases s p h with ⟨h1, h2⟩ | ⟨h1, h2⟩
  · rw [hv, Prod.mk.injEq, Prod.mk.injEq] at h2
    cases h2.2.2
  · rw [hv, Prod.mk.injEq, Prod.mk.injEq] at h2
    have hn : n = wd s p := h2.2.1
    have hr := wd_room s p h
    have hp := wd_pos s p
    refine ⟨by omega, by omega, ?_⟩
    unfold blA
    rw [if_pos rfl, hn]
    by_cases e : bt s p = 10
    · have hw : wd s p = 1 := by
        rcases Nat.lt_or_ge (wd s p) 2 with q | q
        · omega
        · have := wd_lead s p q; omega
      rw [decide_eq_true e, hw, if_neg (by decide)]
      exact remA_nl s p h e
    · rw [decide_eq_false e, if_pos (by decide)]
      exact remA_spot s p h e h1
set_option maxRecDepth 100000 in
set_option maxHeartbeats 8000000 in
theorem blank_any (s : ByteArray) (hs : s.size ≤ 1099511627776) (a : Nat) (ha : a ≤ s.size) (w : World) : Calls Tryz.prog 24 #[.string s, .int .i64 a] w fun e w' => e = .returned (.tuple #[.int .i64 (gapA s a).1, .bool (gapA s a).2]) ∧ w' = w := by
  obtain ⟨q, o, hq⟩ : ∃ q o, gapA s a = (q, o) := ⟨_, _, rfl⟩
  rw [hq]
  have HQ := hide hq
  clear hq
  go_enter Tryz.func24, Tryz.ntmps24
  go_wp2_with fail
  go_loop [1, 6, 7, 8, 9] (fun x r _ _ _ => ∃ (p : Nat) (b : Bool), p ≤ s.size ∧ x = .int .i64 p ∧ r = .bool b ∧ Hz (blA s b p = (q, o))) (fun x _ _ _ _ => s.size - (intOf x).toNat)
  case atStart => exact ⟨a, false, ha, rfl, rfl, hide (by unfold blA; rw [if_neg (by decide)]; exact unhide HQ)⟩
  case round =>
    obtain ⟨p, b, hp, rfl, rfl, HB⟩ := hrel
    by_cases hps : p < s.size
    · have hps' : (p : Int) < (s.size : Int) := by omega
      have hgb := bt_get s p hps
      obtain ⟨c, ec⟩ : ∃ c, (s[p]'hps).toNat = c := ⟨_, rfl⟩
      rw [ec] at hgb
      cases b
      · have hcase : (c = 9 ∨ c = 10 ∨ c = 13 ∨ c = 32) ∨ c = 35 ∨ (c ≠ 9 ∧ c ≠ 10 ∧ c ≠ 13 ∧ c ≠ 32 ∧ c ≠ 35) := by omega
        rcases hcase with hc | hc | hc
        · have HN : Hz (blA s false (p + 1) = (q, o)) := hide (by
            have := unhide HB
            unfold blA at this ⊢
            rw [if_neg (by decide)] at this ⊢
            rw [← gapA_blank s p hps (by rw [hgb]; unfold blankB; exact decide_eq_true hc)]
            exact this)
          clear hgb HB HQ
          rcases hc with rfl | rfl | rfl | rfl
          all_goals
            go_wp2_with fail
            go_round
            case rel => exact ⟨p + 1, false, by omega, by go_num, rfl, HN⟩
            case measure => simp [intOf]; omega
        · have HN : Hz (blA s true (p + 1) = (q, o)) := hide (by
            have := unhide HB
            unfold blA at this ⊢
            rw [if_neg (by decide)] at this
            rw [if_pos rfl, ← gapA_rem s p hps (by rw [hgb]; exact hc)]
            exact this)
          clear hgb HB HQ
          subst hc
          go_wp2_with fail
          go_round
          case rel => exact ⟨p + 1, true, by omega, by go_num, rfl, HN⟩
          case measure => simp [intOf]; omega
        · have hq : (p, true) = (q, o) := by
            have := unhide HB
            unfold blA at this
            rw [if_neg (by decide), gapA_stop s p hps (by rw [hgb]; unfold blankB; exact decide_eq_false (by omega)) (by rw [hgb]; exact hc.2.2.2.2)] at this
            exact this
          obtain ⟨rfl, rfl⟩ := Prod.mk.inj hq
          obtain ⟨c1, c2, c3, c4, c5⟩ := hc
          have d1 : ((c : Int) != 9) = true := by simp; omega
          have d2 : ((c : Int) != 10) = true := by simp; omega
          have d3 : ((c : Int) != 13) = true := by simp; omega
          have d4 : ((c : Int) != 32) = true := by simp; omega
          have d5 : ((c : Int) != 35) = true := by simp; omega
          clear hgb HB HQ hq c1 c2 c3 c4 c5
          go_wp2_with fail
          go_ret2
          exact ⟨rfl, rfl⟩
      · obtain ⟨r, n, ok, hv⟩ : ∃ r n ok, seq4V (rst s p) = (r, n, ok) := ⟨_, _, _, rfl⟩
        have HSQ := hide (sequence_any s hs p (by omega))
        rw [hv] at HSQ
        cases ok
        · have hq := blA_seq_bad s p hps r n hv
          rw [unhide HB] at hq
          obtain ⟨rfl, rfl⟩ := Prod.mk.inj hq
          clear hgb HB HQ hq hv
          go_wp2_with fail
          refine (unhide HSQ _).mono ?_
          rintro e w1 ⟨rfl, rfl⟩
          go_wp2_with fail
          go_ret2
          exact ⟨rfl, rfl⟩
        · obtain ⟨hn1, hn2, hn3⟩ := blA_seq_ok s p hps r n hv
          rw [unhide HB, hgb] at hn3
          have hnb : (p : Int) + (n : Int) ≤ (s.size : Int) := by omega
          by_cases h10 : c = 10
          · rw [decide_eq_true h10] at hn3
            have HN : Hz (blA s false (p + n) = (q, o)) := hide hn3.symm
            subst h10
            clear hgb HB HQ hn3 hv
            go_wp2_with fail
            refine (unhide HSQ _).mono ?_
            rintro e w1 ⟨rfl, rfl⟩
            go_wp2_with fail
            go_round
            case rel => exact ⟨p + n, false, by omega, by go_num, rfl, HN⟩
            case measure => simp [intOf]; omega
          · rw [decide_eq_false h10] at hn3
            have HN : Hz (blA s true (p + n) = (q, o)) := hide hn3.symm
            have d2 : ((c : Int) != 10) = true := by simp; omega
            clear hgb HB HQ hn3 hv h10
            go_wp2_with fail
            refine (unhide HSQ _).mono ?_
            rintro e w1 ⟨rfl, rfl⟩
            go_wp2_with fail
            go_round
            case rel => exact ⟨p + n, true, by omega, by go_num, rfl, HN⟩
            case measure => simp [intOf]; omega
    · have hps' : ¬ (p : Int) < (s.size : Int) := by omega
      have hq := blA_end s b p (by omega)
      rw [unhide HB] at hq
      obtain ⟨rfl, rfl⟩ := Prod.mk.inj hq
      clear HB HQ hq
      go_wp2_with fail
      go_ret2
      exact ⟨rfl, rfl⟩
end Go.Proofs.YtcnhkhjkeemafaaGreatDoor
/- The reference's small, digit, hex, close, scalar, number, quoted. -/
namespace Go.Proofs.YtcnhkhjkeemafaaGreatDoor
open Go.RowKit Go.Shelf
set_option linter.unusedVariables false
theorem small_ref (c : Nat) (hc : c < 256) (w : World) : Calls Tryz.prog 52 #[.int .u8 c] w fun e w' => e = .returned (.bool (smallB c)) ∧ w' = w := by
  by_cases h1 : 97 ≤ c
  · by_cases h2 : c ≤ 122
    · rw [show smallB c = true from decide_eq_true ⟨h1, h2⟩]
      go_enter Tryz.func52, Tryz.ntmps52
      go_wp2
      go_ret
      exact ⟨by first | rfl | (simp; omega), rfl⟩
    · rw [show smallB c = false from decide_eq_false (by omega)]
      go_enter Tryz.func52, Tryz.ntmps52
      go_wp2
      go_ret
      exact ⟨by first | rfl | (simp; omega), rfl⟩
  · rw [show smallB c = false from decide_eq_false (by omega)]
    go_enter Tryz.func52, Tryz.ntmps52
    go_wp2
    go_ret
    exact ⟨by first | rfl | (simp; omega), rfl⟩
theorem digit_ref (c : Nat) (hc : c < 256) (w : World) : Calls Tryz.prog 53 #[.int .u8 c] w fun e w' => e = .returned (.bool (digB c)) ∧ w' = w := by
  by_cases h1 : 48 ≤ c
  · by_cases h2 : c ≤ 57
    · rw [show digB c = true from decide_eq_true ⟨h1, h2⟩]
      go_enter Tryz.func53, Tryz.ntmps53
      go_wp2
      go_ret
      exact ⟨by first | rfl | (simp; omega), rfl⟩
    · rw [show digB c = false from decide_eq_false (by omega)]
      go_enter Tryz.func53, Tryz.ntmps53
      go_wp2
      go_ret
      exact ⟨by first | rfl | (simp; omega), rfl⟩
  · rw [show digB c = false from decide_eq_false (by omega)]
    go_enter Tryz.func53, Tryz.ntmps53
    go_wp2
    go_ret
    exact ⟨by first | rfl | (simp; omega), rfl⟩
def hexB (c : Nat) : Bool := digB c || decide (65 ≤ c ∧ c ≤ 70)
theorem hexB_iff (c : Nat) : hexB c = true ↔ 0 ≤ hexI c := by
  unfold hexB digB hexI
  simp only [Bool.or_eq_true, decide_eq_true_eq]
  constructor
  · intro h; split <;> (try split) <;> omega
  · intro h; split at h <;> (try split at h) <;> omega
theorem hex_ref (c : Nat) (hc : c < 256) (w : World) : Calls Tryz.prog 83 #[.int .u8 c] w fun e w' => e = .returned (.bool (hexB c)) ∧ w' = w := by
  have HD := hide (digit_ref c hc)
  unfold hexB
  cases hd : digB c
  · rw [hd] at HD
    by_cases h1 : 65 ≤ c
    · by_cases h2 : c ≤ 70
      · rw [decide_eq_true ⟨h1, h2⟩]
        go_enter Tryz.func83, Tryz.ntmps83
        go_wp2_with fail
        refine (unhide HD _).mono ?_
        rintro e w1 ⟨rfl, rfl⟩
        go_wp2
        go_ret
        exact ⟨by first | rfl | (simp; omega), rfl⟩
      · rw [decide_eq_false (by omega)]
        go_enter Tryz.func83, Tryz.ntmps83
        go_wp2_with fail
        refine (unhide HD _).mono ?_
        rintro e w1 ⟨rfl, rfl⟩
        go_wp2
        go_ret
        exact ⟨by first | rfl | (simp; omega), rfl⟩
    · rw [decide_eq_false (by omega)]
      go_enter Tryz.func83, Tryz.ntmps83
      go_wp2_with fail
      refine (unhide HD _).mono ?_
      rintro e w1 ⟨rfl, rfl⟩
      go_wp2
      go_ret
      exact ⟨by first | rfl | (simp; omega), rfl⟩
  · rw [hd] at HD
    go_enter Tryz.func83, Tryz.ntmps83
    go_wp2_with fail
    refine (unhide HD _).mono ?_
    rintro e w1 ⟨rfl, rfl⟩
    go_wp2
    go_ret
    exact ⟨by first | rfl | (simp; omega), rfl⟩
set_option maxRecDepth 100000 in
set_option maxHeartbeats 4000000 in
theorem close_ref (c : Nat) (hc : c < 256) (w : World) : Calls Tryz.prog 57 #[.int .u8 c] w fun e w' => e = .returned (.bool (stkB c)) ∧ w' = w := by
  have HS := hide (small_ref c hc)
  have HD := hide (digit_ref c hc)
  have hv : stkB c = (smallB c || (digB c || decide ((65 ≤ c ∧ c ≤ 90) ∨ c = 45 ∨ c = 95))) := by
    unfold stkB inNB
    cases smallB c <;> cases digB c <;> simp <;> (try omega)
    by_cases a : c = 45 <;> by_cases b : 65 ≤ c ∧ c ≤ 90 <;> by_cases d : c = 95 <;> simp_all
  rw [hv]
  clear hv
  cases hs : smallB c
  · rw [hs] at HS
    cases hd : digB c
    · rw [hd] at HD
      have hcase : (65 ≤ c ∧ c ≤ 90) ∨ (¬ 65 ≤ c ∧ c = 45) ∨ (65 ≤ c ∧ ¬ c ≤ 90 ∧ c = 95) ∨ (¬ 65 ≤ c ∧ c ≠ 45) ∨ (65 ≤ c ∧ ¬ c ≤ 90 ∧ c ≠ 95) := by omega
      have hR : ∀ b : Bool, decide ((65 ≤ c ∧ c ≤ 90) ∨ c = 45 ∨ c = 95) = b → (false || (false || decide ((65 ≤ c ∧ c ≤ 90) ∨ c = 45 ∨ c = 95))) = b := fun b h => by simpa using h
      rcases hcase with ⟨h1, h2⟩ | ⟨h1, rfl⟩ | ⟨h1, h2, rfl⟩ | ⟨h1, h2⟩ | ⟨h1, h2, h3⟩
      · rw [hR true (decide_eq_true (.inl ⟨h1, h2⟩))]
        clear hR
        go_enter Tryz.func57, Tryz.ntmps57
        go_wp2_with fail
        refine (unhide HS _).mono ?_
        rintro e w1 ⟨rfl, rfl⟩
        go_wp2_with fail
        refine (unhide HD _).mono ?_
        rintro e w1 ⟨rfl, rfl⟩
        go_wp2
        go_ret
        exact ⟨by first | rfl | (simp; omega), rfl⟩
      · rw [hR true (by decide)]
        clear hR
        go_enter Tryz.func57, Tryz.ntmps57
        go_wp2_with fail
        refine (unhide HS _).mono ?_
        rintro e w1 ⟨rfl, rfl⟩
        go_wp2_with fail
        refine (unhide HD _).mono ?_
        rintro e w1 ⟨rfl, rfl⟩
        go_wp2
        go_ret
        exact ⟨by first | rfl | (simp; omega), rfl⟩
      · rw [hR true (by decide)]
        clear hR
        go_enter Tryz.func57, Tryz.ntmps57
        go_wp2_with fail
        refine (unhide HS _).mono ?_
        rintro e w1 ⟨rfl, rfl⟩
        go_wp2_with fail
        refine (unhide HD _).mono ?_
        rintro e w1 ⟨rfl, rfl⟩
        go_wp2
        go_ret
        exact ⟨by first | rfl | (simp; omega), rfl⟩
      · rw [hR false (decide_eq_false (by omega))]
        have d1 : ((c : Int) == 45) = false := by simp; omega
        have d2 : ((c : Int) == 95) = false := by simp; omega
        clear hR h2
        go_enter Tryz.func57, Tryz.ntmps57
        go_wp2_with fail
        refine (unhide HS _).mono ?_
        rintro e w1 ⟨rfl, rfl⟩
        go_wp2_with fail
        refine (unhide HD _).mono ?_
        rintro e w1 ⟨rfl, rfl⟩
        go_wp2
        go_ret
        exact ⟨by first | rfl | (simp; omega), rfl⟩
      · rw [hR false (decide_eq_false (by omega))]
        have d1 : ((c : Int) == 45) = false := by simp; omega
        have d2 : ((c : Int) == 95) = false := by simp; omega
        clear hR h3
        go_enter Tryz.func57, Tryz.ntmps57
        go_wp2_with fail
        refine (unhide HS _).mono ?_
        rintro e w1 ⟨rfl, rfl⟩
        go_wp2_with fail
        refine (unhide HD _).mono ?_
        rintro e w1 ⟨rfl, rfl⟩
        go_wp2
        go_ret
        exact ⟨by first | rfl | (simp; omega), rfl⟩
    · rw [hd] at HD
      go_enter Tryz.func57, Tryz.ntmps57
      go_wp2_with fail
      refine (unhide HS _).mono ?_
      rintro e w1 ⟨rfl, rfl⟩
      go_wp2_with fail
      refine (unhide HD _).mono ?_
      rintro e w1 ⟨rfl, rfl⟩
      go_wp2
      go_ret
      exact ⟨by first | rfl | (simp; omega), rfl⟩
  · rw [hs] at HS
    go_enter Tryz.func57, Tryz.ntmps57
    go_wp2_with fail
    refine (unhide HS _).mono ?_
    rintro e w1 ⟨rfl, rfl⟩
    go_wp2
    go_ret
    exact ⟨by first | rfl | (simp; omega), rfl⟩
end Go.Proofs.YtcnhkhjkeemafaaGreatDoor
/- The reference's number and quoted. -/
namespace Go.Proofs.YtcnhkhjkeemafaaGreatDoor
open Go.RowKit Go.Shelf
set_option linter.unusedVariables false
/-- May what ends here end? No digit goes on. -/
def noDig (s : ByteArray) (p : Nat) : Bool := !(decide (p < s.size) && digB (bt s p))
/-- Where a number's reading stands. -/
def NumSt (t : ByteArray) (v k : Nat) : Prop := (k = 0 ∧ v = 0) ∨ (1 ≤ k ∧ numV t = numGo t v k)
set_option maxRecDepth 100000 in
set_option maxHeartbeats 8000000 in
theorem number_ref (s : ByteArray) (hs : s.size ≤ 1099511627776) (a : Nat) (ha : a < s.size) (hd : digB (bt s a) = true) (w : World) : Calls Tryz.prog 54 #[.string s, .int .i64 a] w fun e w' => e = .returned (.tuple #[.int .i64 (if noDig s (a + (numV (rst s a)).2) = true then (numV (rst s a)).1 else 0 : Nat), .int .i64 ((a + (numV (rst s a)).2 : Nat) : Int), .bool (noDig s (a + (numV (rst s a)).2))]) ∧ w' = w := by
  have hrb : ∀ k, bt (rst s a) k = bt s (a + k) := fun k => rst_at s a k (by omega)
  have hz := rst_size s a
  obtain ⟨V, N, hV⟩ : ∃ V N, numV (rst s a) = (V, N) := ⟨_, _, rfl⟩
  have hini : numV (rst s a) = numGo (rst s a) (bt s a - 48) 1 := by unfold numV; rw [hrb 0]; rfl
  have hend : ∀ v k, 1 ≤ k → numV (rst s a) = numGo (rst s a) v k → ¬ (a + k < s.size ∧ digB (bt s (a + k)) = true ∧ 0 < v ∧ v * 10 + (bt s (a + k) - 48) ≤ 65535) → V = v ∧ N = k := fun v k h1 h2 h3 => by
    rw [hV, numGo_stop (by rw [hrb]; intro q; exact h3 ⟨by omega, q.2⟩), Prod.mk.injEq] at h2
    exact h2
  have hstep : ∀ v k, 1 ≤ k → numV (rst s a) = numGo (rst s a) v k → (a + k < s.size ∧ digB (bt s (a + k)) = true ∧ 0 < v ∧ v * 10 + (bt s (a + k) - 48) ≤ 65535) → numV (rst s a) = numGo (rst s a) (v * 10 + (bt s (a + k) - 48)) (k + 1) := fun v k h1 h2 h3 => by
    rw [h2, numGo_go (by omega) (by rw [hrb]; exact h3.2.1) h3.2.2.1 (by rw [hrb]; exact h3.2.2.2), hrb]
  rw [hV]
  obtain ⟨R, hR⟩ : ∃ R, R = Value.tuple #[.int .i64 (if noDig s (a + N) = true then V else 0 : Nat), .int .i64 ((a + N : Nat) : Int), .bool (noDig s (a + N))] := ⟨_, rfl⟩
  show Calls Tryz.prog 54 #[.string s, .int .i64 a] w fun e w' => e = .returned (Value.tuple #[.int .i64 (if noDig s (a + N) = true then V else 0 : Nat), .int .i64 ((a + N : Nat) : Int), .bool (noDig s (a + N))]) ∧ w' = w
  rw [← hR]
  have hok : ∀ v k, V = v ∧ N = k → noDig s (a + k) = true → R = .tuple #[.int .i64 v, .int .i64 ((a + k : Nat) : Int), .bool true] := fun v k ⟨h1, h2⟩ h3 => by rw [hR, h1, h2, h3, if_pos rfl]
  have hno : ∀ v k, V = v ∧ N = k → noDig s (a + k) = false → R = .tuple #[.int .i64 0, .int .i64 ((a + k : Nat) : Int), .bool false] := fun v k ⟨h1, h2⟩ h3 => by rw [hR, h2, h3, if_neg (by decide)]; rfl
  have HOK := hide hok
  have HNO := hide hno
  have HV := hide hV
  have HINI := hide hini
  have HEND := hide hend
  have HSTEP := hide hstep
  have HD0 := hide hd
  clear hV hini hend hstep hrb hz hd hR hok hno
  go_enter Tryz.func54, Tryz.ntmps54
  go_wp2_with fail
  go_loop [1, 7] (fun x n => ∃ p v k : Nat, p ≤ s.size ∧ a ≤ p ∧ v ≤ 65535 ∧ x = .int .i64 p ∧ n = .int .i64 v ∧ Hz (p = a + k) ∧ Hz (NumSt (rst s a) v k)) (fun x _ => s.size - (intOf x).toNat)
  case atStart => exact ⟨a, 0, 0, by omega, by omega, by omega, rfl, rfl, hide rfl, hide (.inl ⟨rfl, rfl⟩)⟩
  case round =>
    obtain ⟨p, v, k, hp, hap, hv, rfl, rfl, HPK, HS⟩ := hrel
    by_cases hps : p < s.size
    · have hps' : (p : Int) < (s.size : Int) := by omega
      have hgb := bt_get s p hps
      have hcl := bt_lt s p
      obtain ⟨c, ec⟩ : ∃ c, (s[p]'hps).toNat = c := ⟨_, rfl⟩
      rw [hgb, ec] at hcl
      rw [ec] at hgb
      have HDG := hide (digit_ref c hcl)
      cases hdc : digB c
      · rw [hdc] at HDG
        have hk1 : 1 ≤ k ∧ numV (rst s a) = numGo (rst s a) v k := by
          rcases unhide HS with h | h
          · exfalso
            have := unhide HD0
            have e := unhide HPK
            rw [h.1, Nat.add_zero] at e
            rw [← e, hgb, hdc] at this
            cases this
          · exact h
        have hq := unhide HEND v k hk1.1 hk1.2 (by rw [← unhide HPK, hgb, hdc]; exact fun q => by cases q.2.1)
        have HF := hide (unhide HOK v k hq (by rw [← unhide HPK]; unfold noDig; rw [hgb, hdc]; simp))
        rw [← unhide HPK] at HF
        clear hgb hk1 hq hdc
        go_wp2_with fail
        refine (unhide HDG _).mono ?_
        rintro e w1 ⟨rfl, rfl⟩
        go_wp2_with fail
        go_ret3
        exact ⟨by rw [unhide HF]; rfl, rfl⟩
      · rw [hdc] at HDG
        have hc2 := digB_iff.1 hdc
        have hnd : noDig s p = false := by unfold noDig; rw [hgb, hdc, decide_eq_true hps]; rfl
        by_cases hk0 : k = 0
        · have hv0 : v = 0 := by
            rcases unhide HS with h | h
            · exact h.2
            · omega
          have hpa : p = a := by have := unhide HPK; omega
          subst hv0
          subst hpa
          have HN : Hz (NumSt (rst s p) (c - 48) 1) := hide (.inr ⟨by omega, by rw [unhide HINI, hgb]⟩)
          have hc3 : ((c - 48 : Nat) : Int) = (c : Int) - 48 := by omega
          have hc4 : ¬ (65535 : Int) < (c : Int) - 48 := by omega
          clear hgb hnd HS hdc
          go_wp2_with fail
          refine (unhide HDG _).mono ?_
          rintro e w1 ⟨rfl, rfl⟩
          go_wp2_with fail
          go_round
          case rel => exact ⟨p + 1, c - 48, 1, by omega, by omega, by omega, by go_num, by rw [hc3], hide rfl, HN⟩
          case measure => simp [intOf]; omega
        · have hk1 : 1 ≤ k ∧ numV (rst s a) = numGo (rst s a) v k := by
            rcases unhide HS with h | h
            · omega
            · exact h
          have hap' : (a : Int) < (p : Int) := by have := unhide HPK; omega
          have hc3 : ((c - 48 : Nat) : Int) = (c : Int) - 48 := by omega
          by_cases hv0 : v = 0
          · subst hv0
            have hq := unhide HEND 0 k hk1.1 hk1.2 (by omega)
            have HF := hide (unhide HNO 0 k hq (by rw [← unhide HPK]; exact hnd))
            rw [← unhide HPK] at HF
            clear hgb hnd HS hdc hk1 hq
            go_wp2_with fail
            refine (unhide HDG _).mono ?_
            rintro e w1 ⟨rfl, rfl⟩
            go_wp2_with fail
            go_ret3
            exact ⟨by rw [unhide HF]; rfl, rfl⟩
          · have hv0' : ((v : Int) == 0) = false := by simp; omega
            by_cases hbig : 65535 < v * 10 + (c - 48)
            · have hbig' : (65535 : Int) < (v : Int) * 10 + ((c : Int) - 48) := by omega
              have hq := unhide HEND v k hk1.1 hk1.2 (by rw [← unhide HPK, hgb]; omega)
              have HF := hide (unhide HNO v k hq (by rw [← unhide HPK]; exact hnd))
              rw [← unhide HPK] at HF
              clear hgb hnd HS hdc hk1 hq hbig hv0
              go_wp2_with fail
              refine (unhide HDG _).mono ?_
              rintro e w1 ⟨rfl, rfl⟩
              go_wp2_with fail
              go_ret3
              exact ⟨by rw [unhide HF]; rfl, rfl⟩
            · have hbig' : ¬ (65535 : Int) < (v : Int) * 10 + ((c : Int) - 48) := by omega
              have hq := unhide HSTEP v k hk1.1 hk1.2 (by rw [← unhide HPK, hgb]; exact ⟨hps, hdc, by omega, by omega⟩)
              rw [← unhide HPK, hgb] at hq
              have HN : Hz (NumSt (rst s a) (v * 10 + (c - 48)) (k + 1)) := hide (.inr ⟨by omega, hq⟩)
              have HPK2 : Hz (p + 1 = a + (k + 1)) := hide (by have := unhide HPK; omega)
              have hc5 : ((v * 10 + (c - 48) : Nat) : Int) = (v : Int) * 10 + ((c : Int) - 48) := by omega
              have HC5 := hide hc5
              have hbd : v * 10 + (c - 48) ≤ 65535 := by omega
              have HBD := hide hbd
              clear hgb hnd HS hdc hk1 hq hbig hv0 hc5 hbd hc3
              go_wp2_with fail
              refine (unhide HDG _).mono ?_
              rintro e w1 ⟨rfl, rfl⟩
              go_wp2_with fail
              go_round
              case rel => exact ⟨p + 1, v * 10 + (c - 48), k + 1, by omega, by omega, unhide HBD, by go_num, by rw [unhide HC5], HPK2, HN⟩
              case measure => simp [intOf]; omega
    · have hps' : ¬ (p : Int) < (s.size : Int) := by omega
      have hk1 : 1 ≤ k ∧ numV (rst s a) = numGo (rst s a) v k := by
        rcases unhide HS with h | h
        · have e := unhide HPK; omega
        · exact h
      have hq := unhide HEND v k hk1.1 hk1.2 (by rw [← unhide HPK]; omega)
      have HF := hide (unhide HOK v k hq (by rw [← unhide HPK]; unfold noDig; rw [decide_eq_false hps]; rfl))
      rw [← unhide HPK] at HF
      clear hk1 hq
      go_wp2_with fail
      go_ret3
      exact ⟨by rw [unhide HF]; rfl, rfl⟩
end Go.Proofs.YtcnhkhjkeemafaaGreatDoor
/- A rune between two quotes, as the reference reads it: plain mathematics. -/
namespace Go.Proofs.YtcnhkhjkeemafaaGreatDoor
open Go.RowKit Go.Shelf
set_option linter.unusedVariables false
theorem rn_39 (s : ByteArray) (i : Nat) : rn s i = 39 ↔ bt s i = 39 := by
  have t := at_told s i
  constructor
  · intro h
    have hg : ¬ (rn s i = 65533 ∧ wd s i = 1) := by omega
    rcases t.width hg with h1 | h1 | h1 | h1
    · rcases t.one h1.1 with h2 | h2 <;> (simp only [rn] at h; omega)
    all_goals (simp only [rn] at h; omega)
  · intro h
    rcases Nat.lt_or_ge (wd s i) 2 with h1 | h1
    · have : wd s i = 1 := by have := wd_pos s i; omega
      rcases t.one this with h2 | h2 <;> (simp only [rn]; omega)
    · have := wd_lead s i h1; omega
/-- What quoted makes, by what stands behind the quote. -/
theorem quo_cases (s : ByteArray) (a : Nat) (h : a < s.size) : (∃ n, seq4V (rst s (a + 1)) = (0, n, false) ∧ quoV (rst s a) = (0, 1 + n, false)) ∨
    (∃ r n, seq4V (rst s (a + 1)) = (r, n, true) ∧ 1 ≤ n ∧ a + 1 + n ≤ s.size ∧ r ≤ 1114111 ∧ quoV (rst s a) = if r < 32 ∨ r = 39 ∨ r = 127 then (0, 1, false) else if a + 1 + n < s.size ∧ bt s (a + 1 + n) = 39 then (r, n + 2, true) else (0, 1 + n, false)) := by
  have ht : tl1 (rst s a) = rst s (a + 1) := rst_rst s a 1 (by omega)
  have hz := rst_size s a
  have hz1 := rst_size s (a + 1)
  obtain ⟨u, hu⟩ : ∃ u, u = rst s (a + 1) := ⟨_, rfl⟩
  have hq : quoV (rst s a) = if u.size = 0 then (0, (rst s a).size, false) else if rn u 0 < 32 ∨ rn u 0 = 39 ∨ rn u 0 = 127 then (0, 1, false) else if wholeB u = false then (0, 1 + begLen u, false) else if ¬ wd u 0 < u.size then (0, (rst s a).size, false) else if rn u (wd u 0) = 39 then (rn u 0, wd u 0 + 2, true) else (0, 1 + wd u 0, false) := by unfold quoV; rw [ht, hu]
  rw [← hu] at hz1 ⊢
  by_cases h0 : u.size = 0
  · left
    refine ⟨0, by unfold seq4V; rw [if_pos h0], ?_⟩
    rw [hq, if_pos h0, show (rst s a).size = 1 + 0 by omega]
  · rw [if_neg h0] at hq
    cases hb : badB u 0 with
    | true =>
      left
      have hr := of_decide_eq_true hb
      refine ⟨begLen u, by unfold seq4V; rw [if_neg h0, hb, if_pos rfl], ?_⟩
      rw [hq, if_neg (by omega), if_pos (by unfold wholeB; rw [hb]; simp)]
    | false =>
      right
      have hr := wd_room u 0 (by omega)
      have hp := wd_pos u 0
      have hs := (at_told u 0).small
      refine ⟨rn u 0, wd u 0, by unfold seq4V; rw [if_neg h0, hb, if_neg (by decide)], hp, by omega, hs, ?_⟩
      rw [hq]
      by_cases hl : rn u 0 < 32 ∨ rn u 0 = 39 ∨ rn u 0 = 127
      · rw [if_pos hl, if_pos hl]
      · rw [if_neg hl, if_neg hl, if_neg (by unfold wholeB; rw [hb, decide_eq_true (by omega)]; decide)]
        have hbt : bt u (wd u 0) = bt s (a + 1 + wd u 0) := by rw [hu]; exact rst_at s (a + 1) _ (by omega)
        by_cases hw : wd u 0 < u.size
        · rw [if_neg (fun q => q hw)]
          by_cases h39 : rn u (wd u 0) = 39
          · rw [if_pos h39, if_pos ⟨by omega, by rw [← hbt]; exact (rn_39 u _).1 h39⟩]
          · rw [if_neg h39, if_neg (fun q => h39 ((rn_39 u _).2 (by rw [hbt]; exact q.2)))]
        · rw [if_pos hw, if_neg (by omega), show (rst s a).size = 1 + wd u 0 by omega]
end Go.Proofs.YtcnhkhjkeemafaaGreatDoor
/- The reference's quoted. -/
namespace Go.Proofs.YtcnhkhjkeemafaaGreatDoor
open Go.RowKit Go.Shelf
set_option linter.unusedVariables false
set_option maxRecDepth 100000 in
set_option maxHeartbeats 8000000 in
theorem quoted_ref (s : ByteArray) (hs : s.size ≤ 1099511627776) (a : Nat) (ha : a < s.size) (w : World) : Calls Tryz.prog 56 #[.string s, .int .i64 a] w fun e w' => e = .returned (seqR4 a (quoV (rst s a))) ∧ w' = w := by
  have hsq := sequence_any s hs (a + 1) (by omega)
  have hcast : ((a + 1 : Nat) : Int) = (a : Int) + 1 := by omega
  rw [hcast] at hsq
  rcases quo_cases s a ha with ⟨n, hv, hq⟩ | ⟨r, n, hv, hn, hns, hr, hq⟩
  · rw [hv] at hsq
    have hc2 : ((a + 1 + n : Nat) : Int) = (a : Int) + (1 + n : Nat) := by omega
    have HSQ := hide hsq
    have HQ := hide hq
    have HC := hide hc2
    clear hsq hq hcast hv hc2
    go_enter Tryz.func56, Tryz.ntmps56
    go_wp2_with fail
    refine (unhide HSQ _).mono ?_
    rintro e w1 ⟨rfl, rfl⟩
    go_wp2_with fail
    go_ret3
    exact ⟨by rw [unhide HQ]; show Ending.returned (Value.tuple #[_, Value.int .i64 ((a + 1 + n : Nat) : Int), _]) = _; rw [unhide HC]; rfl, rfl⟩
  · rw [hv] at hsq
    have HSQ := hide hsq
    have hcase : (r < 32) ∨ (¬ r < 32 ∧ r = 39) ∨ (¬ r < 32 ∧ r ≠ 39 ∧ r = 127) ∨ (¬ r < 32 ∧ r ≠ 39 ∧ r ≠ 127) := by omega
    have hrb : (r : Int) ≤ 1114111 := by omega
    have hnb : (a : Int) + 1 + (n : Int) ≤ (s.size : Int) := by omega
    clear hsq hcast hv hr
    rcases hcase with h1 | ⟨h1, h2⟩ | ⟨h1, h2, h3⟩ | ⟨h1, h2, h3⟩
    · rw [if_pos (.inl h1)] at hq
      have HQ := hide hq
      have h1' : (r : Int) < 32 := by omega
      clear hq h1
      go_enter Tryz.func56, Tryz.ntmps56
      go_wp2_with fail
      refine (unhide HSQ _).mono ?_
      rintro e w1 ⟨rfl, rfl⟩
      go_wp2_with fail
      go_ret3
      exact ⟨by rw [unhide HQ]; rfl, rfl⟩
    · rw [if_pos (.inr (.inl h2))] at hq
      have HQ := hide hq
      have h1' : ¬ (r : Int) < 32 := by omega
      have h2' : ((r : Int) == 39) = true := by simp; omega
      clear hq h1 h2
      go_enter Tryz.func56, Tryz.ntmps56
      go_wp2_with fail
      refine (unhide HSQ _).mono ?_
      rintro e w1 ⟨rfl, rfl⟩
      go_wp2_with fail
      go_ret3
      exact ⟨by rw [unhide HQ]; rfl, rfl⟩
    · rw [if_pos (.inr (.inr h3))] at hq
      have HQ := hide hq
      have h1' : ¬ (r : Int) < 32 := by omega
      have h2' : ((r : Int) == 39) = false := by simp; omega
      have h3' : ((r : Int) == 127) = true := by simp; omega
      clear hq h1 h2 h3
      go_enter Tryz.func56, Tryz.ntmps56
      go_wp2_with fail
      refine (unhide HSQ _).mono ?_
      rintro e w1 ⟨rfl, rfl⟩
      go_wp2_with fail
      go_ret3
      exact ⟨by rw [unhide HQ]; rfl, rfl⟩
    · rw [if_neg (by omega)] at hq
      have h1' : ¬ (r : Int) < 32 := by omega
      have h2' : ((r : Int) == 39) = false := by simp; omega
      have h3' : ((r : Int) == 127) = false := by simp; omega
      obtain ⟨p, hp⟩ : ∃ p, p = a + 1 + n := ⟨_, rfl⟩
      have hpi : ((a + 1 + n : Nat) : Int) = (p : Int) := by omega
      have HPI := hide (show (p : Int) = (a : Int) + (1 + n : Nat) by omega)
      have hpb : p ≤ s.size := by omega
      have hHSQ := unhide HSQ
      have HSQ2 : Hz (∀ w, Calls Tryz.prog 26 #[.string s, .int .i64 ((a : Int) + 1)] w fun e w' => e = .returned (.tuple #[.int .i32 r, .int .i64 (p : Int), .bool true]) ∧ w' = w) := hide (fun w => by rw [← hpi]; exact hHSQ w)
      rw [← hp] at hq
      clear hHSQ HSQ h1 h2 h3 hns hnb hpi
      by_cases hl : p < s.size
      · have hl' : ¬ (s.size : Int) ≤ (p : Int) := by omega
        have hl2 : (p : Int) < (s.size : Int) := by omega
        have hgb := bt_get s p hl
        obtain ⟨c, ec⟩ : ∃ c, (s[p]'hl).toNat = c := ⟨_, rfl⟩
        rw [ec] at hgb
        rw [hgb] at hq
        by_cases h39 : c = 39
        · rw [if_pos ⟨hl, h39⟩] at hq
          have HQ := hide hq
          have hc' : ((c : Int) != 39) = false := by simp; omega
          have HP1 := hide (show (p : Int) + 1 = ((a + (n + 2) : Nat) : Int) by have := unhide HPI; omega)
          clear hq hgb h39 hp
          go_enter Tryz.func56, Tryz.ntmps56
          go_wp2_with fail
          refine (unhide HSQ2 _).mono ?_
          rintro e w1 ⟨rfl, rfl⟩
          go_wp2_with fail
          go_ret3
          exact ⟨by rw [unhide HQ]; show Ending.returned (Value.tuple #[_, Value.int .i64 ((p : Int) + 1), _]) = _; rw [unhide HP1]; rfl, rfl⟩
        · rw [if_neg (fun q => h39 q.2)] at hq
          have HQ := hide hq
          have hc' : ((c : Int) != 39) = true := by simp; omega
          clear hq hgb h39 hp
          go_enter Tryz.func56, Tryz.ntmps56
          go_wp2_with fail
          refine (unhide HSQ2 _).mono ?_
          rintro e w1 ⟨rfl, rfl⟩
          go_wp2_with fail
          go_ret3
          exact ⟨by rw [unhide HQ]; show Ending.returned (Value.tuple #[_, Value.int .i64 (p : Int), _]) = _; rw [unhide HPI]; rfl, rfl⟩
      · rw [if_neg (fun q => hl q.1)] at hq
        have HQ := hide hq
        have hl' : (s.size : Int) ≤ (p : Int) := by omega
        clear hq hp hl
        go_enter Tryz.func56, Tryz.ntmps56
        go_wp2_with fail
        refine (unhide HSQ2 _).mono ?_
        rintro e w1 ⟨rfl, rfl⟩
        go_wp2_with fail
        go_ret3
        exact ⟨by rw [unhide HQ]; show Ending.returned (Value.tuple #[_, Value.int .i64 (p : Int), _]) = _; rw [unhide HPI]; rfl, rfl⟩
end Go.Proofs.YtcnhkhjkeemafaaGreatDoor
/- A rune with U+, as the reference reads it: plain mathematics. -/
namespace Go.Proofs.YtcnhkhjkeemafaaGreatDoor
open Go.RowKit Go.Shelf
set_option linter.unusedVariables false
def hxB (c : Nat) : Bool := decide ((48 ≤ c ∧ c ≤ 57) ∨ (65 ≤ c ∧ c ≤ 70))
theorem hxB_hexI {c : Nat} : hxB c = true ↔ 0 ≤ hexI c := by
  unfold hxB hexI
  rw [decide_eq_true_iff]
  constructor
  · intro h; split <;> (try split) <;> omega
  · intro h; split at h <;> (try split at h) <;> omega
theorem hexI_nat {c : Nat} (h : hxB c = true) : (hexI c).toNat ≤ 15 ∧ ((hexI c).toNat : Int) = hexI c ∧ ((hexI c).toNat = 0 ↔ c = 48) ∧ ((hexI c).toNat = 1 ↔ c = 49) := by
  have h1 := of_decide_eq_true h
  unfold hexI
  split
  · omega
  · split
    · omega
    · omega
/-- The number of the first k hexadecimal digits. -/
def hxV (d : ByteArray) : Nat → Nat
  | 0 => 0
  | k + 1 => hxV d k * 16 + (hexI (bt d k)).toNat
theorem hxV_lt (d : ByteArray) : ∀ k, (∀ i, i < k → hxB (bt d i) = true) → hxV d k < 16 ^ k
  | 0, _ => by show 0 < 1; decide
  | k + 1, h => by
    have h1 := hxV_lt d k (fun i hi => h i (by omega))
    have h2 := (hexI_nat (h k (by omega))).1
    show hxV d k * 16 + _ < _
    rw [Nat.pow_succ]
    omega
/-- Where the reading of a rune with U+ stands: behind j digits. -/
structure PlSt (s : ByteArray) (a j : Nat) : Prop where
  room : a + 2 + j ≤ s.size
  hex : ∀ i, i < j → hxB (bt (rst s (a + 2)) i) = true
  go : numdGo (rst s a) 0 2 = numdGo (rst s a) (hxV (rst s (a + 2)) j) (2 + j)
  five : 5 ≤ j → bt (rst s (a + 2)) 0 ≠ 48
  six : 6 ≤ j → bt (rst s (a + 2)) 0 = 49 ∧ bt (rst s (a + 2)) 1 = 48
  max : j ≤ 6
theorem pl_bt (s : ByteArray) (a k : Nat) (h : a + 2 ≤ s.size) : bt (rst s a) (2 + k) = bt (rst s (a + 2)) k := by
  rw [rst_at s a (2 + k) (by omega), rst_at s (a + 2) k h]
  congr 1
  rw [Nat.add_assoc]
theorem hxV_five (d : ByteArray) : hxV d 5 = ((((hexI (bt d 0)).toNat * 16 + (hexI (bt d 1)).toNat) * 16 + (hexI (bt d 2)).toNat) * 16 + (hexI (bt d 3)).toNat) * 16 + (hexI (bt d 4)).toNat := by simp [hxV]
theorem five_iff {d0 d1 d2 d3 d4 d5 : Nat} (h1 : d1 ≤ 15) (h2 : d2 ≤ 15) (h3 : d3 ≤ 15) (h4 : d4 ≤ 15) (h5 : d5 ≤ 15) (h0 : d0 ≠ 0) : ((((d0 * 16 + d1) * 16 + d2) * 16 + d3) * 16 + d4) * 16 + d5 ≤ 1114111 ↔ d0 = 1 ∧ d1 = 0 := by omega
theorem six_no {d0 d1 d2 d3 d4 d5 d6 : Nat} (h0 : d0 = 1) : ¬ (((((d0 * 16 + d1) * 16 + d2) * 16 + d3) * 16 + d4) * 16 + d5) * 16 + d6 ≤ 1114111 := by omega
/-- Does the reference go on? -/
def plGo (d : ByteArray) (j : Nat) : Prop := j < 4 ∨ (j = 4 ∧ bt d 0 ≠ 48) ∨ (j = 5 ∧ bt d 0 = 49 ∧ bt d 1 = 48)
theorem pl_iff {s : ByteArray} {a j : Nat} (st : PlSt s a j) (hj : a + 2 + j < s.size) (hx : hxB (bt (rst s (a + 2)) j) = true) : plGo (rst s (a + 2)) j ↔ (2 + j < (rst s a).size ∧ (2 + j < 6 ∨ bt (rst s a) 2 ≠ 48) ∧ 0 ≤ hexI (bt (rst s a) (2 + j)) ∧ hxV (rst s (a + 2)) j * 16 + (hexI (bt (rst s a) (2 + j))).toNat ≤ 1114111) := by
  have hz := rst_size s a
  have hb := pl_bt s a j (by omega)
  have hb0 : bt (rst s a) 2 = bt (rst s (a + 2)) 0 := pl_bt s a 0 (by omega)
  have hh := hxB_hexI.1 hx
  have hd := (hexI_nat hx).1
  rw [hb, hb0]
  have hlt := hxV_lt (rst s (a + 2)) j st.hex
  have hmx := st.max
  have hc : j = 0 ∨ j = 1 ∨ j = 2 ∨ j = 3 ∨ j = 4 ∨ j = 5 ∨ j = 6 := by omega
  unfold plGo
  rcases hc with rfl | rfl | rfl | rfl | rfl | rfl | rfl
  iterate 4
    · refine ⟨fun _ => ⟨by omega, .inl (by omega), hh, ?_⟩, fun _ => .inl (by omega)⟩
      generalize (hexI (bt (rst s (a + 2)) _)).toNat = x at hd ⊢
      generalize hxV (rst s (a + 2)) _ = y at hlt ⊢
      omega
  · constructor
    · intro h
      refine ⟨by omega, .inr (by omega), hh, ?_⟩
      generalize (hexI (bt (rst s (a + 2)) _)).toNat = x at hd ⊢
      generalize hxV (rst s (a + 2)) _ = y at hlt ⊢
      omega
    · intro h
      exact .inr (.inl ⟨rfl, by rcases h.2.1 with q | q; · omega
                                · exact q⟩)
  · have h5 := st.five (by omega)
    have g0 := hexI_nat (st.hex 0 (by omega))
    have g1 := hexI_nat (st.hex 1 (by omega))
    have g2 := hexI_nat (st.hex 2 (by omega))
    have g3 := hexI_nat (st.hex 3 (by omega))
    have g4 := hexI_nat (st.hex 4 (by omega))
    have k0 : (hexI (bt (rst s (a + 2)) 0)).toNat ≠ 0 := fun q => h5 (g0.2.2.1.1 q)
    have key := five_iff g1.1 g2.1 g3.1 g4.1 hd k0
    rw [← hxV_five (rst s (a + 2))] at key
    constructor
    · intro h
      have h1 : bt (rst s (a + 2)) 0 = 49 ∧ bt (rst s (a + 2)) 1 = 48 := by
        rcases h with q | q | q
        · omega
        · omega
        · exact q.2
      exact ⟨by omega, .inr h5, hh, key.2 ⟨g0.2.2.2.2 h1.1, g1.2.2.1.2 h1.2⟩⟩
    · intro h
      have q := key.1 h.2.2.2
      exact .inr (.inr ⟨rfl, g0.2.2.2.1 q.1, g1.2.2.1.1 q.2⟩)
  · have h6 := st.six (by omega)
    have g0 := hexI_nat (st.hex 0 (by omega))
    have key := @six_no _ (hexI (bt (rst s (a + 2)) 1)).toNat (hexI (bt (rst s (a + 2)) 2)).toNat (hexI (bt (rst s (a + 2)) 3)).toNat (hexI (bt (rst s (a + 2)) 4)).toNat (hexI (bt (rst s (a + 2)) 5)).toNat (hexI (bt (rst s (a + 2)) 6)).toNat (g0.2.2.2.2 h6.1)
    rw [← hxV_five (rst s (a + 2))] at key
    constructor
    · intro h
      exfalso
      rcases h with q | q | q <;> omega
    · intro h
      exact absurd h.2.2.2 key
theorem pl_step {s : ByteArray} {a j : Nat} (st : PlSt s a j) (hj : a + 2 + j < s.size) (hx : hxB (bt (rst s (a + 2)) j) = true) (hg : plGo (rst s (a + 2)) j) : PlSt s a (j + 1) := by
  have hn := (pl_iff st hj hx).1 hg
  have hb := pl_bt s a j (by omega)
  refine ⟨by omega, fun i hi => ?_, ?_, fun h => ?_, fun h => ?_, ?_⟩
  · by_cases e : i = j
    · rw [e]; exact hx
    · exact st.hex i (by omega)
  · rw [st.go, numdGo_go hn, hb]
    rfl
  · unfold plGo at hg
    by_cases e : j = 4
    · omega
    · exact st.five (by omega)
  · unfold plGo at hg
    by_cases e : j = 5
    · omega
    · have := st.max; omega
  · unfold plGo at hg
    omega
theorem pl_stop {s : ByteArray} {a j : Nat} (st : PlSt s a j) (h : ¬ (a + 2 + j < s.size ∧ hxB (bt (rst s (a + 2)) j) = true ∧ plGo (rst s (a + 2)) j)) : numdGo (rst s a) 0 2 = (hxV (rst s (a + 2)) j, 2 + j) := by
  have hr := st.room
  rw [st.go]
  refine numdGo_stop (fun q => h ?_)
  have hz := rst_size s a
  have hb := pl_bt s a j (by omega)
  have hj : a + 2 + j < s.size := by omega
  have hx : hxB (bt (rst s (a + 2)) j) = true := hxB_hexI.2 (by rw [← hb]; exact q.2.2.1)
  exact ⟨hj, hx, (pl_iff st hj hx).2 q⟩
theorem pl_zero {s : ByteArray} {a : Nat} (h : a + 2 ≤ s.size) : PlSt s a 0 := ⟨h, fun i hi => by omega, rfl, fun h => by omega, fun h => by omega, by omega⟩
end Go.Proofs.YtcnhkhjkeemafaaGreatDoor
/- The reference's value, scalar, plus. -/
namespace Go.Proofs.YtcnhkhjkeemafaaGreatDoor
open Go.RowKit Go.Shelf
set_option linter.unusedVariables false
theorem hexB_hxB (c : Nat) : hexB c = hxB c := by
  cases h : hxB c with
  | true => exact (hexB_iff c).2 (hxB_hexI.1 h)
  | false =>
    cases h2 : hexB c with
    | true => rw [hxB_hexI.2 ((hexB_iff c).1 h2)] at h; cases h
    | false => rfl
set_option maxRecDepth 100000 in
set_option maxHeartbeats 8000000 in
theorem scalar_ref (n : Int) (w : World) : Calls Tryz.prog 21 #[.int .i64 n] w fun e w' => e = .returned (.bool (decide (widthOf n ≠ 0))) ∧ w' = w := by
  have hw : decide (widthOf n ≠ 0) = decide (0 ≤ n ∧ n ≤ 1114111 ∧ (n < 55296 ∨ 57343 < n)) := by
    apply decide_eq_decide.2
    unfold widthOf
    constructor
    · intro h; repeat' split at h
      all_goals omega
    · intro h
      rw [if_neg (by omega)]
      repeat' split
      all_goals decide
  rw [hw]
  clear hw
  have hcase : (n < 0) ∨ (0 ≤ n ∧ 1114111 < n) ∨ (0 ≤ n ∧ n ≤ 1114111 ∧ n < 55296) ∨ (0 ≤ n ∧ n ≤ 1114111 ∧ ¬ n < 55296 ∧ 57343 < n) ∨ (0 ≤ n ∧ n ≤ 1114111 ∧ ¬ n < 55296 ∧ ¬ 57343 < n) := by omega
  rcases hcase with h | ⟨h1, h2⟩ | ⟨h1, h2, h3⟩ | ⟨h1, h2, h3, h4⟩ | ⟨h1, h2, h3, h4⟩
  · rw [decide_eq_false (by omega)]
    go_enter Tryz.func21, Tryz.ntmps21
    go_wp2
    go_ret
    exact ⟨by first | rfl | (simp; omega), rfl⟩
  · rw [decide_eq_false (by omega)]
    go_enter Tryz.func21, Tryz.ntmps21
    go_wp2
    go_ret
    exact ⟨by first | rfl | (simp; omega), rfl⟩
  · rw [decide_eq_true (by omega)]
    go_enter Tryz.func21, Tryz.ntmps21
    go_wp2
    go_ret
    exact ⟨by first | rfl | (simp; omega), rfl⟩
  · rw [decide_eq_true (by omega)]
    go_enter Tryz.func21, Tryz.ntmps21
    go_wp2
    go_ret
    exact ⟨by first | rfl | (simp; omega), rfl⟩
  · rw [decide_eq_false (by omega)]
    go_enter Tryz.func21, Tryz.ntmps21
    go_wp2
    go_ret
    exact ⟨by first | rfl | (simp; omega), rfl⟩
set_option maxRecDepth 100000 in
set_option maxHeartbeats 8000000 in
theorem value_ref (u : ByteArray) (hu : u.size ≤ 6) (hx : ∀ i, i < u.size → hxB (bt u i) = true) (w : World) : Calls Tryz.prog 84 #[.string u] w fun e w' => e = .returned (.int .i64 (hxV u u.size)) ∧ w' = w := by
  have HX := hide hx
  clear hx
  go_enter Tryz.func84, Tryz.ntmps84
  go_wp2_with fail
  go_loop [3, 4] (fun n i => ∃ k v : Nat, k ≤ u.size ∧ i = .int .i64 k ∧ n = .int .i64 v ∧ Hz (v = hxV u k) ∧ Hz (v < 16 ^ k)) (fun _ i => u.size - (intOf i).toNat)
  case atStart => exact ⟨0, 0, by omega, rfl, rfl, hide rfl, hide (by decide)⟩
  case round =>
    obtain ⟨k, v, hk, rfl, rfl, HV, HL⟩ := hrel
    by_cases hks : k < u.size
    · have hks' : (k : Int) < (u.size : Int) := by omega
      have hgb := bt_get u k hks
      have hcl := bt_lt u k
      have hxk := unhide HX k hks
      obtain ⟨c, ec⟩ : ∃ c, (u[k]'hks).toNat = c := ⟨_, rfl⟩
      rw [hgb, ec] at hcl hxk
      rw [ec] at hgb
      have hvb : v < 1048576 := Nat.lt_of_lt_of_le (unhide HL) (Nat.le_trans (Nat.pow_le_pow_right (by decide) (show k ≤ 5 by omega)) (by decide))
      have hst : hxV u (k + 1) = v * 16 + (hexI c).toNat := by show hxV u k * 16 + (hexI (bt u k)).toNat = _; rw [← unhide HV, hgb]
      have hd := (hexI_nat hxk).1
      have HL2 : Hz (v * 16 + (hexI c).toNat < 16 ^ (k + 1)) := hide (by rw [Nat.pow_succ]; have := unhide HL; omega)
      have HDG := hide (digit_ref c hcl)
      have hx2 := of_decide_eq_true hxk
      by_cases h57 : c ≤ 57
      · have hdc : digB c = true := decide_eq_true (by omega)
        have hI : (hexI c).toNat = c - 48 := by unfold hexI; rw [if_pos (by omega)]; omega
        have hc48 : 48 ≤ c := by omega
        rw [hdc] at HDG
        rw [hI] at hst HL2
        have HST := hide hst
        have HC := hide (show ((v * 16 + (c - 48) : Nat) : Int) = (v : Int) * 16 + ((c : Int) - 48) by omega)
        clear hst hI hgb hxk hx2 hdc hd
        go_wp2_with fail
        refine (unhide HDG _).mono ?_
        rintro e w1 ⟨rfl, rfl⟩
        go_wp2_with fail
        go_round
        case rel => exact ⟨k + 1, v * 16 + (c - 48), by omega, by go_num, by rw [unhide HC], hide (unhide HST).symm, HL2⟩
        case measure => simp [intOf]; omega
      · have hdc : digB c = false := decide_eq_false (by omega)
        have hI : (hexI c).toNat = c - 55 := by unfold hexI; rw [if_neg (by omega), if_pos (by omega)]; omega
        have hc65 : 65 ≤ c := by omega
        rw [hdc] at HDG
        rw [hI] at hst HL2
        have HST := hide hst
        have HC := hide (show ((v * 16 + (c - 55) : Nat) : Int) = (v : Int) * 16 + ((c : Int) - 65) + 10 by omega)
        clear hst hI hgb hxk hx2 hdc hd
        go_wp2_with fail
        refine (unhide HDG _).mono ?_
        rintro e w1 ⟨rfl, rfl⟩
        go_wp2_with fail
        go_round
        case rel => exact ⟨k + 1, v * 16 + (c - 55), by omega, by go_num, by rw [unhide HC], hide (unhide HST).symm, HL2⟩
        case measure => simp [intOf]; omega
    · have hks' : ¬ (k : Int) < (u.size : Int) := by omega
      have HF : Hz (v = hxV u u.size) := hide (by rw [show u.size = k by omega]; exact unhide HV)
      go_wp2_with fail
      go_ret
      exact ⟨by rw [← unhide HF]; rfl, rfl⟩
end Go.Proofs.YtcnhkhjkeemafaaGreatDoor
