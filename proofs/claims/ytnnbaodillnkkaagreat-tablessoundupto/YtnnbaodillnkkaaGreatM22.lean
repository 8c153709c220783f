/- Texts of this claim, one behind the other. -/
import Derived.Test.YtnnbaodillnkkaaGreatTlN
import Derived.Test.YtnnbaodillnkkaaGreatM15
/- A Book of tables: what every table says alike, walked. -/
namespace Go.Proofs.YtnnbaodillnkkaaGreat
open Go.RowKit Go.Shelf Go.Maps
set_option linter.unusedVariables false
structure UlB (W w : World) (R B : Nat) (T : TV) (a0 a1 a2 a3 a4 a5 a6 a7 : Option Addr) (c0 c1 c2 c3 c4 c5 c6 c7 : Nat) (us : List Value) (Cc Ca : Nat) : Prop where
  bl : Below W.heap.size W w
  st : StG w R B T a0 a1 a2 a3 a4 a5 a6 a7 c0 c1 c2 c3 c4 c5 c6 c7 us
  cc : w.cell? ⟨B, 9, none⟩ = some (.pointer (some ⟨Cc, 0, none⟩))
  co : SetV w T.co Cc
  ca : w.cell? ⟨B, 11, none⟩ = some (.pointer (some ⟨Ca, 0, none⟩))
  ao : SetV w T.al Ca
theorem UlB.below {W w w' : World} {R B : Nat} {T : TV} {a0 a1 a2 a3 a4 a5 a6 a7 : Option Addr} {c0 c1 c2 c3 c4 c5 c6 c7 : Nat} {us : List Value} {Cc Ca : Nat} (h : UlB W w R B T a0 a1 a2 a3 a4 a5 a6 a7 c0 c1 c2 c3 c4 c5 c6 c7 us Cc Ca) (hb : Below w.heap.size w w') : UlB W w' R B T a0 a1 a2 a3 a4 a5 a6 a7 c0 c1 c2 c3 c4 c5 c6 c7 us Cc Ca :=
  ⟨h.bl.trans (hb.mono h.bl.size), h.st.below hb, (hb.cell (p := ⟨B, 9, none⟩) h.st.tb.lt).trans h.cc, h.co.below hb, (hb.cell (p := ⟨B, 11, none⟩) h.st.tb.lt).trans h.ca, h.ao.below hb⟩
theorem stp_new {w : World} {C : Nat} {l : List (Int × Int)} (h : SetV w l C) : StP (w.alloc (.cells #[.pointer (some ⟨C, 0, none⟩)] 76)) w.heap.size C l := ⟨Blk.new w _ _, h.below ((Below.refl _ w).alloc (Nat.le_refl _) _)⟩
theorem al1 (w : World) (x : Obj) : Below w.heap.size w (w.alloc x) := (Below.refl _ w).alloc (Nat.le_refl _) _
theorem al2 (w : World) (x y : Obj) : Below w.heap.size w ((w.alloc x).alloc y) := ((Below.refl _ w).alloc (Nat.le_refl _) _).alloc (by simp) _
theorem dr1 (w : World) : Below w.heap.size w w.drew := ⟨rfl, rfl, rfl, Nat.le_refl _, fun _ _ => rfl⟩
set_option maxRecDepth 100000 in
set_option maxHeartbeats 8000000 in
theorem bkUnlike_any {T : TV} (hO : RowsOk T) (hz : (∀ x ∈ T.fo, x.2.size ≤ 1048576) ∧ ∀ x ∈ T.lk, x.2.size ≤ 1048576) (B : Nat) (W : World) (h : BookAt W B T) : Calls Tryz.prog 60 #[.pointer (some ⟨B, 0, none⟩)] W fun e w' => e = .returned (wrV (houseV T)) ∧ Below W.heap.size W w' := by
  have hmx : Tryz.prog.follows .mixedOrders = true := by kernel_rfl
  obtain ⟨a0, a1, a2, a3, a4, a5, a6, a7, c0, c1, c2, c3, c4, c5, c6, c7, us, tb⟩ := h.tabs
  obtain ⟨Cc, kc, sc⟩ := h.cos
  obtain ⟨Ca, ka, sa⟩ := h.als
  have hB1 := al1 W (.cells #[.int .i64 0, .int .i64 0, .int .i64 0] 37)
  have H1 : UlB W (W.alloc (.cells #[.int .i64 0, .int .i64 0, .int .i64 0] 37)) W.heap.size B T a0 a1 a2 a3 a4 a5 a6 a7 c0 c1 c2 c3 c4 c5 c6 c7 us Cc Ca := ⟨hB1, ⟨h.below hB1, Blk.new W _ _, tb.below hB1⟩, (hB1.cell (p := ⟨B, 9, none⟩) tb.lt).trans kc, sc.below hB1, (hB1.cell (p := ⟨B, 11, none⟩) tb.lt).trans ka, sa.below hB1⟩
  have HO := hide hO
  have HZ := hide hz
  have b2 : Blk ((W.alloc (.cells #[.int .i64 0, .int .i64 0, .int .i64 0] 37)).alloc (.cells #[.int .i32 0, .int .i32 127] 68)) (W.heap.size + 1) #[.int .i32 0, .int .i32 127] 68 := by
    have h := Blk.new (W.alloc (.cells #[.int .i64 0, .int .i64 0, .int .i64 0] 37)) #[.int .i32 0, .int .i32 127] 68
    rw [World.size_alloc] at h
    exact h
  have HC := hide (setLit_any [(0, 127)] 1 rfl (by decide) (by unfold RightL; decide) _ _ _ _ b2 rfl)
  have HS := hide (H1.below (al1 _ (.cells #[.int .i32 0, .int .i32 127] 68)))
  clear hO hz tb kc sc ka sa hB1 H1 b2 h
  go_enter Tryz.func60, Tryz.ntmps60
  go_wp2_with fail
  refine (unhide HC).mono ?_
  rintro e w3 ⟨C3, rfl, hs, hb⟩
  have HS3 := hide (And.intro ((unhide HS).below hb) hs)
  clear hs hb HC HS
  have HC := hide (setLit_any [(65533, 65533)] 1 rfl (by decide) (by unfold RightL; decide) _ _ _ _ (Blk.new w3 #[.int .i32 65533, .int .i32 65533] 68) rfl)
  have HS := hide (And.intro ((unhide HS3).1.below (al1 w3 (.cells #[.int .i32 65533, .int .i32 65533] 68))) ((unhide HS3).2.below (al1 w3 (.cells #[.int .i32 65533, .int .i32 65533] 68))))
  clear HS3
  go_wp2_with fail
  refine (unhide HC).mono ?_
  rintro e w4 ⟨Cx, rfl, hs, hb⟩
  have HS4 := hide (And.intro ((unhide HS).1.below hb) ((unhide HS).2.below hb))
  have HC := hide (unionV_any (by decide) (by decide) (unhide HS4).2 hs)
  clear hs hb HS
  go_wp2_with fail
  refine (unhide HC).mono ?_
  rintro e w5 ⟨C4, rfl, hs, hb⟩
  have hn := al1 w5 (.cells #[.pointer (some ⟨C4, 0, none⟩)] 76)
  have HS := hide (And.intro (((unhide HS4).1.below hb).below hn) (And.intro (((unhide HS4).2.below hb).below hn) (stp_new hs)))
  clear hs hb hn HC HS4
  go_wp2_with fail
  generalize w5.alloc (.cells #[.pointer (some ⟨C4, 0, none⟩)] 76) = w6 at *
  obtain ⟨g4, hg4⟩ : ∃ g4, g4 = w5.heap.size := ⟨_, rfl⟩
  rw [← hg4] at HS ⊢
  clear hg4
  have HF : Hz (∀ w1, Below w6.drew.heap.size w6.drew w1 → StP w1 g4 C4 lowL) := hide (fun w1 hb => ((unhide HS).2.2.below (dr1 w6)).below hb)
  refine ulReg3_any hmx HF ?_
  intro U g5 C5 w7 HN
  have HS7 := hide (And.intro ((unhide HS).1.below (unhide HN).2) (And.intro ((unhide HS).2.1.below (unhide HN).2) (And.intro ((unhide HS).2.2.below (unhide HN).2) (unhide HN).1)))
  clear HF HS HN
  have hn := al1 w7 (.cells #[.int .i32 0, .int .i32 31, .int .i32 45, .int .i32 46, .int .i32 65533, .int .i32 65533] 68)
  have HC := hide (setLit_any stiL 3 rfl (by decide) (by unfold RightL; decide) _ _ _ _ (Blk.new w7 #[.int .i32 0, .int .i32 31, .int .i32 45, .int .i32 46, .int .i32 65533, .int .i32 65533] 68) rfl)
  have HS := hide (And.intro ((unhide HS7).1.below hn) (And.intro ((unhide HS7).2.1.below hn) (And.intro ((unhide HS7).2.2.1.below hn) ((unhide HS7).2.2.2.below hn))))
  clear hn HS7
  go_wp2_with fail
  refine (unhide HC).mono ?_
  rintro e w8 ⟨C6, rfl, hs, hb⟩
  have hn : Below w8.heap.size w8 (w8.alloc (.cells #[.pointer (some ⟨C6, 0, none⟩)] 76)) := al1 _ _
  have hm : Below w8.heap.size w8 ((w8.alloc (.cells #[.pointer (some ⟨C6, 0, none⟩)] 76)).alloc (.cells #[.int .i32 45, .int .i32 46, .int .i32 48, .int .i32 57] 68)) := al2 _ _ _
  have HS8 := hide (And.intro (((unhide HS).1.below hb).below hm) (And.intro (((unhide HS).2.1.below hb).below hm) (And.intro (((unhide HS).2.2.1.below hb).below hm) (And.intro (((unhide HS).2.2.2.below hb).below hm) ((stp_new hs).below (al1 _ (.cells #[.int .i32 45, .int .i32 46, .int .i32 48, .int .i32 57] 68)))))))
  have b9 : Blk ((w8.alloc (.cells #[.pointer (some ⟨C6, 0, none⟩)] 76)).alloc (.cells #[.int .i32 45, .int .i32 46, .int .i32 48, .int .i32 57] 68)) (w8.heap.size + 1) #[.int .i32 45, .int .i32 46, .int .i32 48, .int .i32 57] 68 := by
    have h := Blk.new (w8.alloc (.cells #[.pointer (some ⟨C6, 0, none⟩)] 76)) #[.int .i32 45, .int .i32 46, .int .i32 48, .int .i32 57] 68
    rw [World.size_alloc] at h
    exact h
  have HC := hide (setLit_any comS 2 rfl (by decide) (by unfold RightL; decide) _ _ _ _ b9 rfl)
  clear hs hb hn hm HS b9
  go_wp2_with fail
  refine (unhide HC).mono ?_
  rintro e w9 ⟨C7, rfl, hs, hb⟩
  have hn := al1 w9 (.cells #[.int .i32 45, .int .i32 45, .int .i32 48, .int .i32 57, .int .i32 97, .int .i32 122] 68)
  obtain ⟨g6, hg6⟩ : ∃ g6, g6 = w8.heap.size := ⟨_, rfl⟩
  rw [← hg6] at HS8 ⊢
  clear hg6
  have HS9 := hide (And.intro (((unhide HS8).1.below hb).below hn) (And.intro (((unhide HS8).2.1.below hb).below hn) (And.intro (((unhide HS8).2.2.1.below hb).below hn) (And.intro (((unhide HS8).2.2.2.1.below hb).below hn) (And.intro (((unhide HS8).2.2.2.2.below hb).below hn) (hs.below hn))))))
  have HC := hide (setLit_any labS 3 rfl (by decide) (by unfold RightL; decide) _ _ _ _ (Blk.new w9 #[.int .i32 45, .int .i32 45, .int .i32 48, .int .i32 57, .int .i32 97, .int .i32 122] 68) rfl)
  clear hs hb hn HS8
  go_wp2_with fail
  refine (unhide HC).mono ?_
  rintro e w10 ⟨C8, rfl, hs, hb⟩
  have HS10 := hide (And.intro ((unhide HS9).1.below hb) (And.intro ((unhide HS9).2.1.below hb) (And.intro ((unhide HS9).2.2.1.below hb) (And.intro ((unhide HS9).2.2.2.1.below hb) (And.intro ((unhide HS9).2.2.2.2.1.below hb) (And.intro ((unhide HS9).2.2.2.2.2.below hb) hs))))))
  have HC := hide (minusV_any (l := nevL) (by decide) (by decide) (by decide) nev_min (unhide HS10).2.1 (unhide HS10).2.2.2.2.2.2)
  clear hs hb HS9
  go_wp2_with fail
  refine (unhide HC).mono ?_
  rintro e w11 ⟨C9, rfl, hs, hb⟩
  have hn := al1 w11 (.cells #[.pointer (some ⟨C9, 0, none⟩)] 76)
  have HS11 : Hz (UlF (w11.alloc (.cells #[.pointer (some ⟨C9, 0, none⟩)] 76)) W.heap.size B T a0 a1 a2 a3 a4 a5 a6 a7 c0 c1 c2 c3 c4 c5 c6 c7 us Cc Ca g4 C4 g5 C5 g6 C6 C7 C8 w11.heap.size C9 ∧ Below W.heap.size W (w11.alloc (.cells #[.pointer (some ⟨C9, 0, none⟩)] 76))) := hide (by
    have u := ((unhide HS10).1.below hb).below hn
    exact ⟨⟨u.st, u.cc, u.co, u.ca, u.ao, ((unhide HS10).2.2.1.below hb).below hn, ((unhide HS10).2.2.2.1.below hb).below hn, ((unhide HS10).2.2.2.2.1.below hb).below hn, ((unhide HS10).2.2.2.2.2.1.below hb).below hn, ((unhide HS10).2.2.2.2.2.2.below hb).below hn, stp_new hs⟩, u.bl⟩)
  clear hs hb hn HS10 HC
  go_wp2_with fail
  generalize w11.alloc (.cells #[.pointer (some ⟨C9, 0, none⟩)] 76) = w12 at *
  have HF : Hz (∀ w1, Below w12.drew.heap.size w12.drew w1 → UlF w1 W.heap.size B T a0 a1 a2 a3 a4 a5 a6 a7 c0 c1 c2 c3 c4 c5 c6 c7 us Cc Ca g4 C4 g5 C5 g6 C6 C7 C8 w11.heap.size C9) := hide (fun w1 hb => ((unhide HS11).1.below (dr1 w12)).below hb)
  have HB : Hz (Below W.heap.size W w12.drew ∧ W.heap.size ≤ W.heap.size) := hide ⟨(unhide HS11).2.trans ((dr1 w12).mono (unhide HS11).2.size), Nat.le_refl _⟩
  refine ulReg8_any (unhide HO) (unhide HZ) hmx HF HB ?_
  intro U2 y0 y1 y2 wn HN
  go_wp2_with fail
  exact bodyPost_ret (v := wrV (y0, y1, y2)) (ret3 Tryz.results60 rfl (unhide HN).2.2 rfl) rfl ⟨by rw [(unhide HN).1], (unhide HN).2.1⟩
def wrL (T : TV) : List (Int × Int × Int) := [pairsV T, ringV T, dropsV T, plainV T, tosV T, houseV T]
theorem wrL_ok (T : TV) : ∀ x ∈ wrL T, OkW x := by
  intro x hx
  unfold wrL at hx
  simp only [List.mem_cons, List.not_mem_nil, or_false] at hx
  rcases hx with rfl | rfl | rfl | rfl | rfl | rfl
  · exact eachW_okW _ _ _ _
  · exact eachW_okW _ _ _ _
  all_goals exact orW_okW _
structure WrS (W w : World) (B : Nat) (T : TV) : Prop where
  bl : Below W.heap.size W w
  rs : Blk w W.heap.size #[.int .i64 0, .int .i64 0, .int .i64 0] 37
  fs : Blk w (W.heap.size + 1) #[.func (.func 55) #[.pointer (some ⟨B, 0, none⟩)] #[], .func (.func 56) #[.pointer (some ⟨B, 0, none⟩)] #[], .func (.func 57) #[.pointer (some ⟨B, 0, none⟩)] #[], .func (.func 58) #[.pointer (some ⟨B, 0, none⟩)] #[], .func (.func 59) #[.pointer (some ⟨B, 0, none⟩)] #[], .func (.func 60) #[.pointer (some ⟨B, 0, none⟩)] #[]] 74
  bk : BookAt w B T
theorem WrS.below {W w w' : World} {B : Nat} {T : TV} (h : WrS W w B T) (hb : Below w.heap.size w w') : WrS W w' B T := ⟨h.bl.trans (hb.mono h.bl.size), h.rs.below hb h.rs.lt, h.fs.below hb h.fs.lt, h.bk.below hb⟩
set_option maxRecDepth 100000 in
set_option maxHeartbeats 8000000 in
theorem bkWrong_any {T : TV} (hO : RowsOk T) (hz : (∀ x ∈ T.fo, x.2.size ≤ 1048576) ∧ ∀ x ∈ T.lk, x.2.size ≤ 1048576) (B : Nat) (W : World) (h : BookAt W B T) : Calls Tryz.prog 30 #[.pointer (some ⟨B, 0, none⟩)] W fun e w' => e = .returned (wrV (orW (wrL T))) ∧ Below W.heap.size W w' := by
  have hmf : ∀ (fn : Fn) (first cap : Array Value) (w : World), (Instr.makeFunc fn first cap).run Tryz.prog w = .ok (.func fn first cap) w := fun _ _ _ _ => rfl
  have hB0 : Below W.heap.size W ((W.alloc (.cells #[.int .i64 0, .int .i64 0, .int .i64 0] 37)).alloc (.cells #[.func (.func 55) #[.pointer (some ⟨B, 0, none⟩)] #[], .func (.func 56) #[.pointer (some ⟨B, 0, none⟩)] #[], .func (.func 57) #[.pointer (some ⟨B, 0, none⟩)] #[], .func (.func 58) #[.pointer (some ⟨B, 0, none⟩)] #[], .func (.func 59) #[.pointer (some ⟨B, 0, none⟩)] #[], .func (.func 60) #[.pointer (some ⟨B, 0, none⟩)] #[]] 74)) := ((Below.refl _ W).alloc (Nat.le_refl _) _).alloc (by simp) _
  have bF : Blk ((W.alloc (.cells #[.int .i64 0, .int .i64 0, .int .i64 0] 37)).alloc (.cells #[.func (.func 55) #[.pointer (some ⟨B, 0, none⟩)] #[], .func (.func 56) #[.pointer (some ⟨B, 0, none⟩)] #[], .func (.func 57) #[.pointer (some ⟨B, 0, none⟩)] #[], .func (.func 58) #[.pointer (some ⟨B, 0, none⟩)] #[], .func (.func 59) #[.pointer (some ⟨B, 0, none⟩)] #[], .func (.func 60) #[.pointer (some ⟨B, 0, none⟩)] #[]] 74)) (W.heap.size + 1) #[.func (.func 55) #[.pointer (some ⟨B, 0, none⟩)] #[], .func (.func 56) #[.pointer (some ⟨B, 0, none⟩)] #[], .func (.func 57) #[.pointer (some ⟨B, 0, none⟩)] #[], .func (.func 58) #[.pointer (some ⟨B, 0, none⟩)] #[], .func (.func 59) #[.pointer (some ⟨B, 0, none⟩)] #[], .func (.func 60) #[.pointer (some ⟨B, 0, none⟩)] #[]] 74 := by
    have h := Blk.new (W.alloc (.cells #[.int .i64 0, .int .i64 0, .int .i64 0] 37)) #[.func (.func 55) #[.pointer (some ⟨B, 0, none⟩)] #[], .func (.func 56) #[.pointer (some ⟨B, 0, none⟩)] #[], .func (.func 57) #[.pointer (some ⟨B, 0, none⟩)] #[], .func (.func 58) #[.pointer (some ⟨B, 0, none⟩)] #[], .func (.func 59) #[.pointer (some ⟨B, 0, none⟩)] #[], .func (.func 60) #[.pointer (some ⟨B, 0, none⟩)] #[]] 74
    rw [World.size_alloc] at h
    exact h
  have H0 : Hz (WrS W ((W.alloc (.cells #[.int .i64 0, .int .i64 0, .int .i64 0] 37)).alloc (.cells #[.func (.func 55) #[.pointer (some ⟨B, 0, none⟩)] #[], .func (.func 56) #[.pointer (some ⟨B, 0, none⟩)] #[], .func (.func 57) #[.pointer (some ⟨B, 0, none⟩)] #[], .func (.func 58) #[.pointer (some ⟨B, 0, none⟩)] #[], .func (.func 59) #[.pointer (some ⟨B, 0, none⟩)] #[], .func (.func 60) #[.pointer (some ⟨B, 0, none⟩)] #[]] 74)) B T) := hide ⟨hB0, (Blk.new W _ _).alloc _, bF, h.below hB0⟩
  have HO := hide hO
  have HZ := hide hz
  have HK := hide (wrL_ok T)
  clear hB0 bF h hO hz
  go_enter Tryz.func30, Tryz.ntmps30
  go_wp2_with fail
  generalize ((W.alloc (.cells #[.int .i64 0, .int .i64 0, .int .i64 0] 37)).alloc (.cells #[.func (.func 55) #[.pointer (some ⟨B, 0, none⟩)] #[], .func (.func 56) #[.pointer (some ⟨B, 0, none⟩)] #[], .func (.func 57) #[.pointer (some ⟨B, 0, none⟩)] #[], .func (.func 58) #[.pointer (some ⟨B, 0, none⟩)] #[], .func (.func 59) #[.pointer (some ⟨B, 0, none⟩)] #[], .func (.func 60) #[.pointer (some ⟨B, 0, none⟩)] #[]] 74)) = u0 at *
  clear hmf
  go_loopw [4, 5, 20] (fun _ _ s20 wr => ∃ k : Nat, k ≤ 6 ∧ s20 = .int .i64 k ∧ Hz (orW (wrL T) = orW ((wrL T).drop k)) ∧ Hz (WrS W wr B T)) (fun _ _ s20 _ => 6 - (intOf s20).toNat)
  case atStart => exact ⟨0, Nat.zero_le _, rfl, hide (by rw [List.drop_zero]), H0⟩
  case round =>
    obtain ⟨k, hk, rfl, HD, HS⟩ := hrel
    clear H0
    obtain rfl | rfl | rfl | rfl | rfl | rfl | rfl : k = 0 ∨ k = 1 ∨ k = 2 ∨ k = 3 ∨ k = 4 ∨ k = 5 ∨ k = 6 := by omega
    · have g0 := (unhide HS).fs.cell 0
      have HC := hide (bkMispaired_any (unhide HO) B wr (unhide HS).bk)
      obtain ⟨x, hx⟩ : ∃ x, pairsV T = x := ⟨_, rfl⟩
      have HX : Hz (orW (wrL T) = orW (x :: (wrL T).drop 1) ∧ OkW x) := hide ⟨by rw [unhide HD, ← hx]; rfl, unhide HK x (by rw [← hx]; unfold wrL; simp)⟩
      rw [hx] at HC
      clear hx HD
      obtain ⟨x0, x1, x2⟩ := x
      unfold wrV at HC
      dsimp only at HC
      by_cases hz0 : x0 = 0
      · obtain ⟨h0, hh⟩ := Prod.mk.inj ((unhide HX).2 hz0)
        obtain ⟨rfl, rfl⟩ := Prod.mk.inj hh
        subst h0
        have HD2 : Hz (orW (wrL T) = orW ((wrL T).drop 1)) := hide (by rw [(unhide HX).1, orW_cons0 rfl])
        clear hz0 hh HX
        go_wp2_with (go_at_call 55; refine (unhide HC).mono ?_; rintro e w5 ⟨rfl, hb⟩; have HS2 := hide (((unhide HS).below hb).below ((Below.refl _ w5).alloc (Nat.le_refl _) (.cells #[.int .i64 0, .int .i64 0, .int .i64 0] 37))); clear hb)
        exact ⟨⟨1, by omega, by go_num, HD2, HS2⟩, by simp [intOf]⟩
      · have n0 : (x0 == 0) = false := by simpa using hz0
        have n1 : (x0 != 0) = true := by simpa using hz0
        have HV : Hz (orW (wrL T) = (x0, x1, x2)) := hide (by rw [(unhide HX).1, orW_cons1 hz0])
        clear HX
        go_wp2_with (go_at_call 55; refine (unhide HC).mono ?_; rintro e w5 ⟨rfl, hb⟩; have HS2 := hide (((unhide HS).below hb).below ((Below.refl _ w5).alloc (Nat.le_refl _) (.cells #[.int .i64 x0, .int .i64 x1, .int .i64 x2] 37))); have r0 := (unhide HS2).rs.cell 0; have r1 := (unhide HS2).rs.cell 1; have r2 := (unhide HS2).rs.cell 2; have f0 := (unhide HS2).rs.frozen 0; have f1 := (unhide HS2).rs.frozen 1; have f2 := (unhide HS2).rs.frozen 2; clear hb)
        rw [unhide HV]
        exact bodyPost_ret (v := wrV (x0, x1, x2)) (ret3 Tryz.results30 rfl (blk3 (unhide HS2).rs _ _ _) rfl) rfl ⟨rfl, below3 (unhide HS2).bl (Nat.le_refl _) (unhide HS2).bl.size _ _ _⟩
    · have g0 := (unhide HS).fs.cell 1
      have HC := hide (bkEndless_any (unhide HO) B wr (unhide HS).bk)
      obtain ⟨x, hx⟩ : ∃ x, ringV T = x := ⟨_, rfl⟩
      have HX : Hz (orW (wrL T) = orW (x :: (wrL T).drop 2) ∧ OkW x) := hide ⟨by rw [unhide HD, ← hx]; rfl, unhide HK x (by rw [← hx]; unfold wrL; simp)⟩
      rw [hx] at HC
      clear hx HD
      obtain ⟨x0, x1, x2⟩ := x
      unfold wrV at HC
      dsimp only at HC
      by_cases hz0 : x0 = 0
      · obtain ⟨h0, hh⟩ := Prod.mk.inj ((unhide HX).2 hz0)
        obtain ⟨rfl, rfl⟩ := Prod.mk.inj hh
        subst h0
        have HD2 : Hz (orW (wrL T) = orW ((wrL T).drop 2)) := hide (by rw [(unhide HX).1, orW_cons0 rfl])
        clear hz0 hh HX
        go_wp2_with (go_at_call 56; refine (unhide HC).mono ?_; rintro e w5 ⟨rfl, hb⟩; have HS2 := hide (((unhide HS).below hb).below ((Below.refl _ w5).alloc (Nat.le_refl _) (.cells #[.int .i64 0, .int .i64 0, .int .i64 0] 37))); clear hb)
        exact ⟨⟨2, by omega, by go_num, HD2, HS2⟩, by simp [intOf]⟩
      · have n0 : (x0 == 0) = false := by simpa using hz0
        have n1 : (x0 != 0) = true := by simpa using hz0
        have HV : Hz (orW (wrL T) = (x0, x1, x2)) := hide (by rw [(unhide HX).1, orW_cons1 hz0])
        clear HX
        go_wp2_with (go_at_call 56; refine (unhide HC).mono ?_; rintro e w5 ⟨rfl, hb⟩; have HS2 := hide (((unhide HS).below hb).below ((Below.refl _ w5).alloc (Nat.le_refl _) (.cells #[.int .i64 x0, .int .i64 x1, .int .i64 x2] 37))); have r0 := (unhide HS2).rs.cell 0; have r1 := (unhide HS2).rs.cell 1; have r2 := (unhide HS2).rs.cell 2; have f0 := (unhide HS2).rs.frozen 0; have f1 := (unhide HS2).rs.frozen 1; have f2 := (unhide HS2).rs.frozen 2; clear hb)
        rw [unhide HV]
        exact bodyPost_ret (v := wrV (x0, x1, x2)) (ret3 Tryz.results30 rfl (blk3 (unhide HS2).rs _ _ _) rfl) rfl ⟨rfl, below3 (unhide HS2).bl (Nat.le_refl _) (unhide HS2).bl.size _ _ _⟩
    · have g0 := (unhide HS).fs.cell 2
      have HC := hide (bkUnseen_any (unhide HO) B wr (unhide HS).bk)
      obtain ⟨x, hx⟩ : ∃ x, dropsV T = x := ⟨_, rfl⟩
      have HX : Hz (orW (wrL T) = orW (x :: (wrL T).drop 3) ∧ OkW x) := hide ⟨by rw [unhide HD, ← hx]; rfl, unhide HK x (by rw [← hx]; unfold wrL; simp)⟩
      rw [hx] at HC
      clear hx HD
      obtain ⟨x0, x1, x2⟩ := x
      unfold wrV at HC
      dsimp only at HC
      by_cases hz0 : x0 = 0
      · obtain ⟨h0, hh⟩ := Prod.mk.inj ((unhide HX).2 hz0)
        obtain ⟨rfl, rfl⟩ := Prod.mk.inj hh
        subst h0
        have HD2 : Hz (orW (wrL T) = orW ((wrL T).drop 3)) := hide (by rw [(unhide HX).1, orW_cons0 rfl])
        clear hz0 hh HX
        go_wp2_with (go_at_call 57; refine (unhide HC).mono ?_; rintro e w5 ⟨rfl, hb⟩; have HS2 := hide (((unhide HS).below hb).below ((Below.refl _ w5).alloc (Nat.le_refl _) (.cells #[.int .i64 0, .int .i64 0, .int .i64 0] 37))); clear hb)
        exact ⟨⟨3, by omega, by go_num, HD2, HS2⟩, by simp [intOf]⟩
      · have n0 : (x0 == 0) = false := by simpa using hz0
        have n1 : (x0 != 0) = true := by simpa using hz0
        have HV : Hz (orW (wrL T) = (x0, x1, x2)) := hide (by rw [(unhide HX).1, orW_cons1 hz0])
        clear HX
        go_wp2_with (go_at_call 57; refine (unhide HC).mono ?_; rintro e w5 ⟨rfl, hb⟩; have HS2 := hide (((unhide HS).below hb).below ((Below.refl _ w5).alloc (Nat.le_refl _) (.cells #[.int .i64 x0, .int .i64 x1, .int .i64 x2] 37))); have r0 := (unhide HS2).rs.cell 0; have r1 := (unhide HS2).rs.cell 1; have r2 := (unhide HS2).rs.cell 2; have f0 := (unhide HS2).rs.frozen 0; have f1 := (unhide HS2).rs.frozen 1; have f2 := (unhide HS2).rs.frozen 2; clear hb)
        rw [unhide HV]
        exact bodyPost_ret (v := wrV (x0, x1, x2)) (ret3 Tryz.results30 rfl (blk3 (unhide HS2).rs _ _ _) rfl) rfl ⟨rfl, below3 (unhide HS2).bl (Nat.le_refl _) (unhide HS2).bl.size _ _ _⟩
    · have g0 := (unhide HS).fs.cell 3
      have HC := hide (bkUnplainFroms_any (unhide HO) B wr (unhide HS).bk)
      obtain ⟨x, hx⟩ : ∃ x, plainV T = x := ⟨_, rfl⟩
      have HX : Hz (orW (wrL T) = orW (x :: (wrL T).drop 4) ∧ OkW x) := hide ⟨by rw [unhide HD, ← hx]; rfl, unhide HK x (by rw [← hx]; unfold wrL; simp)⟩
      rw [hx] at HC
      clear hx HD
      obtain ⟨x0, x1, x2⟩ := x
      unfold wrV at HC
      dsimp only at HC
      by_cases hz0 : x0 = 0
      · obtain ⟨h0, hh⟩ := Prod.mk.inj ((unhide HX).2 hz0)
        obtain ⟨rfl, rfl⟩ := Prod.mk.inj hh
        subst h0
        have HD2 : Hz (orW (wrL T) = orW ((wrL T).drop 4)) := hide (by rw [(unhide HX).1, orW_cons0 rfl])
        clear hz0 hh HX
        go_wp2_with (go_at_call 58; refine (unhide HC).mono ?_; rintro e w5 ⟨rfl, hb⟩; have HS2 := hide (((unhide HS).below hb).below ((Below.refl _ w5).alloc (Nat.le_refl _) (.cells #[.int .i64 0, .int .i64 0, .int .i64 0] 37))); clear hb)
        exact ⟨⟨4, by omega, by go_num, HD2, HS2⟩, by simp [intOf]⟩
      · have n0 : (x0 == 0) = false := by simpa using hz0
        have n1 : (x0 != 0) = true := by simpa using hz0
        have HV : Hz (orW (wrL T) = (x0, x1, x2)) := hide (by rw [(unhide HX).1, orW_cons1 hz0])
        clear HX
        go_wp2_with (go_at_call 58; refine (unhide HC).mono ?_; rintro e w5 ⟨rfl, hb⟩; have HS2 := hide (((unhide HS).below hb).below ((Below.refl _ w5).alloc (Nat.le_refl _) (.cells #[.int .i64 x0, .int .i64 x1, .int .i64 x2] 37))); have r0 := (unhide HS2).rs.cell 0; have r1 := (unhide HS2).rs.cell 1; have r2 := (unhide HS2).rs.cell 2; have f0 := (unhide HS2).rs.frozen 0; have f1 := (unhide HS2).rs.frozen 1; have f2 := (unhide HS2).rs.frozen 2; clear hb)
        rw [unhide HV]
        exact bodyPost_ret (v := wrV (x0, x1, x2)) (ret3 Tryz.results30 rfl (blk3 (unhide HS2).rs _ _ _) rfl) rfl ⟨rfl, below3 (unhide HS2).bl (Nat.le_refl _) (unhide HS2).bl.size _ _ _⟩
    · have g0 := (unhide HS).fs.cell 4
      have HC := hide (bkUnplainTos_any (unhide HO) (unhide HZ) B wr (unhide HS).bk)
      obtain ⟨x, hx⟩ : ∃ x, tosV T = x := ⟨_, rfl⟩
      have HX : Hz (orW (wrL T) = orW (x :: (wrL T).drop 5) ∧ OkW x) := hide ⟨by rw [unhide HD, ← hx]; rfl, unhide HK x (by rw [← hx]; unfold wrL; simp)⟩
      rw [hx] at HC
      clear hx HD
      obtain ⟨x0, x1, x2⟩ := x
      unfold wrV at HC
      dsimp only at HC
      by_cases hz0 : x0 = 0
      · obtain ⟨h0, hh⟩ := Prod.mk.inj ((unhide HX).2 hz0)
        obtain ⟨rfl, rfl⟩ := Prod.mk.inj hh
        subst h0
        have HD2 : Hz (orW (wrL T) = orW ((wrL T).drop 5)) := hide (by rw [(unhide HX).1, orW_cons0 rfl])
        clear hz0 hh HX
        go_wp2_with (go_at_call 59; refine (unhide HC).mono ?_; rintro e w5 ⟨rfl, hb⟩; have HS2 := hide (((unhide HS).below hb).below ((Below.refl _ w5).alloc (Nat.le_refl _) (.cells #[.int .i64 0, .int .i64 0, .int .i64 0] 37))); clear hb)
        exact ⟨⟨5, by omega, by go_num, HD2, HS2⟩, by simp [intOf]⟩
      · have n0 : (x0 == 0) = false := by simpa using hz0
        have n1 : (x0 != 0) = true := by simpa using hz0
        have HV : Hz (orW (wrL T) = (x0, x1, x2)) := hide (by rw [(unhide HX).1, orW_cons1 hz0])
        clear HX
        go_wp2_with (go_at_call 59; refine (unhide HC).mono ?_; rintro e w5 ⟨rfl, hb⟩; have HS2 := hide (((unhide HS).below hb).below ((Below.refl _ w5).alloc (Nat.le_refl _) (.cells #[.int .i64 x0, .int .i64 x1, .int .i64 x2] 37))); have r0 := (unhide HS2).rs.cell 0; have r1 := (unhide HS2).rs.cell 1; have r2 := (unhide HS2).rs.cell 2; have f0 := (unhide HS2).rs.frozen 0; have f1 := (unhide HS2).rs.frozen 1; have f2 := (unhide HS2).rs.frozen 2; clear hb)
        rw [unhide HV]
        exact bodyPost_ret (v := wrV (x0, x1, x2)) (ret3 Tryz.results30 rfl (blk3 (unhide HS2).rs _ _ _) rfl) rfl ⟨rfl, below3 (unhide HS2).bl (Nat.le_refl _) (unhide HS2).bl.size _ _ _⟩
    · have g0 := (unhide HS).fs.cell 5
      have HC := hide (bkUnlike_any (unhide HO) (unhide HZ) B wr (unhide HS).bk)
      obtain ⟨x, hx⟩ : ∃ x, houseV T = x := ⟨_, rfl⟩
      have HX : Hz (orW (wrL T) = orW (x :: (wrL T).drop 6) ∧ OkW x) := hide ⟨by rw [unhide HD, ← hx]; rfl, unhide HK x (by rw [← hx]; unfold wrL; simp)⟩
      rw [hx] at HC
      clear hx HD
      obtain ⟨x0, x1, x2⟩ := x
      unfold wrV at HC
      dsimp only at HC
      by_cases hz0 : x0 = 0
      · obtain ⟨h0, hh⟩ := Prod.mk.inj ((unhide HX).2 hz0)
        obtain ⟨rfl, rfl⟩ := Prod.mk.inj hh
        subst h0
        have HD2 : Hz (orW (wrL T) = orW ((wrL T).drop 6)) := hide (by rw [(unhide HX).1, orW_cons0 rfl])
        clear hz0 hh HX
        go_wp2_with (go_at_call 60; refine (unhide HC).mono ?_; rintro e w5 ⟨rfl, hb⟩; have HS2 := hide (((unhide HS).below hb).below ((Below.refl _ w5).alloc (Nat.le_refl _) (.cells #[.int .i64 0, .int .i64 0, .int .i64 0] 37))); clear hb)
        exact ⟨⟨6, by omega, by go_num, HD2, HS2⟩, by simp [intOf]⟩
      · have n0 : (x0 == 0) = false := by simpa using hz0
        have n1 : (x0 != 0) = true := by simpa using hz0
        have HV : Hz (orW (wrL T) = (x0, x1, x2)) := hide (by rw [(unhide HX).1, orW_cons1 hz0])
        clear HX
        go_wp2_with (go_at_call 60; refine (unhide HC).mono ?_; rintro e w5 ⟨rfl, hb⟩; have HS2 := hide (((unhide HS).below hb).below ((Below.refl _ w5).alloc (Nat.le_refl _) (.cells #[.int .i64 x0, .int .i64 x1, .int .i64 x2] 37))); have r0 := (unhide HS2).rs.cell 0; have r1 := (unhide HS2).rs.cell 1; have r2 := (unhide HS2).rs.cell 2; have f0 := (unhide HS2).rs.frozen 0; have f1 := (unhide HS2).rs.frozen 1; have f2 := (unhide HS2).rs.frozen 2; clear hb)
        rw [unhide HV]
        exact bodyPost_ret (v := wrV (x0, x1, x2)) (ret3 Tryz.results30 rfl (blk3 (unhide HS2).rs _ _ _) rfl) rfl ⟨rfl, below3 (unhide HS2).bl (Nat.le_refl _) (unhide HS2).bl.size _ _ _⟩
    · have HV : Hz (orW (wrL T) = (0, 0, 0)) := hide (by rw [unhide HD]; rfl)
      have r0 := (unhide HS).rs.cell 0
      have r1 := (unhide HS).rs.cell 1
      have r2 := (unhide HS).rs.cell 2
      have f0 := (unhide HS).rs.frozen 0
      have f1 := (unhide HS).rs.frozen 1
      have f2 := (unhide HS).rs.frozen 2
      clear HD
      go_wp2_with fail
      rw [unhide HV]
      exact bodyPost_ret (v := wrV (0, 0, 0)) (ret3 Tryz.results30 rfl (blk3 (unhide HS).rs _ _ _) rfl) rfl ⟨rfl, below3 (unhide HS).bl (Nat.le_refl _) (unhide HS).bl.size _ _ _⟩
noncomputable def reg5 : Code := match Tryz.f29.body with
  | some (.seq _ (.seq _ (.seq (.seq _ (.block _ (.loop (.seq _ (.seq _ (.seq (.block _ (.seq _ r)) _)))))) _))) => r
  | _ => .skip
set_option maxRecDepth 100000 in
set_option maxHeartbeats 8000000 in
theorem reg5_any {w wr wb : World} {B k d : Nat} {b : Option Addr} {T : TV} {s1 : ByteArray} {s2 : List (Int × Int)} {t0 t1 t2 t3 t4 t5 t6 t7 : Value} {Bc Bd Ba M5 M6 M7 MF ML : Nat} {sv : Value} {bs : List Nat} {z0 z1 z2 z4 z6 z7 z8 z9 z10 z11 z12 z13 z14 z15 z16 z17 z18 z19 z20 z21 z22 z23 z24 z25 z26 z27 z28 z29 z30 z31 z32 z33 z34 z35 z36 z37 z38 z39 z40 z41 z42 z43 z44 z45 z46 z47 z48 z49 z50 z51 z52 z53 z54 z55 z56 z57 z58 z59 z60 z61 z62 z63 z64 z65 z66 z67 z68 z69 z70 z71 z72 z73 z74 z75 z76 z77 z78 z79 z80 z81 z82 z83 z84 z85 z86 z87 z88 z89 z90 z91 z92 z93 z94 z95 z96 z97 z98 z99 z100 : Value} {Q : Exit → Act → World → Prop} (hmx : Tryz.prog.follows .mixedOrders = true) (HS : Hz (ScSt w wr B T t0 t1 t2 t3 t4 t5 t6 t7 Bc Bd Ba M5 M6 M7 MF ML k sv bs)) (HF : Hz (∀ w2, KeptX (fun x => sv.ownBlock = some x) wb.drew w2 → Blk w2 wr.heap.size #[.string s1, .slice b s2.length d] 70 ∧ Blk w2 B (bkCs t0 t1 t2 t3 t4 t5 t6 t7 sv Bc Bd Ba M5 M6 M7 MF ML) 82 ∧ RowC w2 w.heap.size b (encS2 s2)))
    (HX : Hz (T.sc[k]? = some (s1, s2) ∧ RightL s2 ∧ s2.length ≤ 1000000 ∧ RowC wr w.heap.size b (encS2 s2))) (HZ : Hz (Below wr.heap.size wr wb.drew ∧ w.heap.size ≤ wb.drew.heap.size ∧ (∀ x, sv.ownBlock = some x → x < wb.drew.heap.size) ∧ B < w.heap.size)) (hn0 : T.sc.length ≤ 1000000) (hkn : k ≤ T.sc.length)
    (hQ : ∀ (U : Nat → Value) (wn : World) (sv2 : Value) (bs2 : List Nat), Hz (ScSt w wn B T t0 t1 t2 t3 t4 t5 t6 t7 Bc Bd Ba M5 M6 M7 MF ML (k + 1) sv2 bs2) → Q .normal { tmps := #[z0, z1, z2, .pointer (some ⟨B, 0, none⟩), z4, .pointer (some ⟨wr.heap.size, 0, none⟩), z6, z7, z8, z9, z10, z11, z12, z13, z14, z15, z16, z17, z18, z19, z20, z21, z22, z23, z24, z25, z26, z27, z28, z29, z30, z31, z32, z33, z34, z35, z36, z37, z38, z39, U 0, U 1, U 2, U 3, U 4, U 5, U 6, U 7, U 8, U 9, U 10, U 11, z52, z53, z54, z55, z56, z57, z58, z59, z60, z61, z62, z63, z64, z65, z66, z67, z68, z69, z70, z71, z72, z73, z74, z75, z76, z77, z78, z79, z80, z81, z82, z83, z84, z85, z86, z87, z88, z89, z90, z91, z92, z93, z94, z95, z96, z97, z98, z99, z100], defers := [] } wn) :
    Code.wp Tryz.prog reg5 Q { tmps := #[z0, z1, z2, .pointer (some ⟨B, 0, none⟩), z4, .pointer (some ⟨wr.heap.size, 0, none⟩), z6, z7, z8, z9, z10, z11, z12, z13, z14, z15, z16, z17, z18, z19, z20, z21, z22, z23, z24, z25, z26, z27, z28, z29, z30, z31, z32, z33, z34, z35, z36, z37, z38, z39, z40, z41, z42, z43, z44, z45, z46, z47, z48, z49, z50, z51, z52, z53, z54, z55, z56, z57, z58, z59, z60, z61, z62, z63, z64, z65, z66, z67, z68, z69, z70, z71, z72, z73, z74, z75, z76, z77, z78, z79, z80, z81, z82, z83, z84, z85, z86, z87, z88, z89, z90, z91, z92, z93, z94, z95, z96, z97, z98, z99, z100], defers := [] } wb := by
  have HQ := hide hQ
  clear hQ
  delta reg5 Tryz.f29
  dsimp only
  refine wp_region_inv hmx 12 (by decide) (by kernel_rfl) (by kernel_rfl) (fun l a wv => ∃ U : Nat → Value, a = { tmps := #[z0, z1, z2, .pointer (some ⟨B, 0, none⟩), z4, .pointer (some ⟨wr.heap.size, 0, none⟩), z6, z7, z8, z9, z10, z11, z12, z13, z14, z15, z16, z17, z18, z19, z20, z21, z22, z23, z24, z25, z26, z27, z28, z29, z30, z31, z32, z33, z34, z35, z36, z37, z38, z39, U 0, U 1, U 2, U 3, U 4, U 5, U 6, U 7, U 8, U 9, U 10, U 11, z52, z53, z54, z55, z56, z57, z58, z59, z60, z61, z62, z63, z64, z65, z66, z67, z68, z69, z70, z71, z72, z73, z74, z75, z76, z77, z78, z79, z80, z81, z82, z83, z84, z85, z86, z87, z88, z89, z90, z91, z92, z93, z94, z95, z96, z97, z98, z99, z100], defers := [] } ∧ RgX wb.drew (fun x => sv.ownBlock = some x) (scD B wr.heap.size sv k w.heap.size wb.drew.heap.size bs s2 b d) l U wv ∧ (l.getD 9 false = false → Below wb.drew.heap.size wb.drew wv)) ⟨fun x => match x with | 0 => z40 | 1 => z41 | 2 => z42 | 3 => z43 | 4 => z44 | 5 => z45 | 6 => z46 | 7 => z47 | 8 => z48 | 9 => z49 | 10 => z50 | _ => z51, rfl, RgX.start _ _, fun _ => Below.refl _ _⟩ ?_ ?_
  · rintro l a wv i ⟨U, rfl, hJ, hJ9⟩ hl hi hif
    have h0 := (mem_ready.1 hi).1
    have hlt := rg_lt hl h0
    have HJ := hide hJ
    have H9 := hide hJ9
    clear hJ hJ9
    replace hlt : i < 13 := hlt
    obtain rfl | rfl | rfl | rfl | rfl | rfl | rfl | rfl | rfl | rfl | rfl | rfl : i = 0 ∨ i = 1 ∨ i = 2 ∨ i = 3 ∨ i = 4 ∨ i = 5 ∨ i = 6 ∨ i = 7 ∨ i = 8 ∨ i = 9 ∨ i = 10 ∨ i = 11 := by omega
    · refine wpOp_step rfl (fun K hK => ?_)
      clear hl hlt hif
      go_simp
      exact hK _ _ ⟨slotPut U 0 _, rfl, (unhide HJ).same 0 _ rfl, (fun h9 => unhide H9 (by rwa [getD_set_ne false (show (0 : Nat) ≠ 9 by decide)] at h9))⟩
    · refine wpOp_step rfl (fun K hK => ?_)
      clear hl hlt hif
      go_simp
      exact hK _ _ ⟨slotPut U 1 _, rfl, (unhide HJ).same 1 _ rfl, (fun h9 => unhide H9 (by rwa [getD_set_ne false (show (1 : Nat) ≠ 9 by decide)] at h9))⟩
    · refine wpOp_step rfl (fun K hK => ?_)
      have d1 : U 1 = .pointer (some ⟨B, 0, none⟩) := (unhide HJ).val 1 (rg_dep hi 1 (by kernel_rfl))
      clear hl hlt hif
      go_simp
      exact hK _ _ ⟨slotPut U 2 _, (by rw [slotEq d1]; rfl), (unhide HJ).same 2 _ rfl, (fun h9 => unhide H9 (by rwa [getD_set_ne false (show (2 : Nat) ≠ 9 by decide)] at h9))⟩
    · refine wpOp_step rfl (fun K hK => ?_)
      have d2 : U 2 = .pointer (some ⟨B, 0, none⟩) := (unhide HJ).val 2 (rg_dep hi 2 (by kernel_rfl))
      clear hl hlt hif
      go_simp
      exact hK _ _ ⟨slotPut U 3 _, (by rw [slotEq d2]; rfl), (unhide HJ).same 3 _ rfl, (fun h9 => unhide H9 (by rwa [getD_set_ne false (show (3 : Nat) ≠ 9 by decide)] at h9))⟩
    · refine wpOp_step rfl (fun K hK => ?_)
      have d3 : U 3 = .pointer (some ⟨B, 8, none⟩) := (unhide HJ).val 3 (rg_dep hi 3 (by kernel_rfl))
      have q0 := (unhide HF wv (unhide HJ).kp).2.1.cell 8
      rw [bkCs_8] at q0
      clear hl hlt hif
      go_simp
      exact hK _ _ ⟨slotPut U 4 _, (by rw [slotEq d3]; rfl), (unhide HJ).same 4 _ rfl, (fun h9 => unhide H9 (by rwa [getD_set_ne false (show (4 : Nat) ≠ 9 by decide)] at h9))⟩
    · refine wpOp_step rfl (fun K hK => ?_)
      clear hl hlt hif
      go_simp
      exact hK _ _ ⟨slotPut U 5 _, rfl, (unhide HJ).same 5 _ rfl, (fun h9 => unhide H9 (by rwa [getD_set_ne false (show (5 : Nat) ≠ 9 by decide)] at h9))⟩
    · refine wpOp_step rfl (fun K hK => ?_)
      have d5 : U 5 = .pointer (some ⟨wr.heap.size, 1, none⟩) := (unhide HJ).val 5 (rg_dep hi 5 (by kernel_rfl))
      have q0 := (unhide HF wv (unhide HJ).kp).1.cell 1
      clear hl hlt hif
      go_simp
      exact hK _ _ ⟨slotPut U 6 _, (by rw [slotEq d5]; rfl), (unhide HJ).same 6 _ rfl, (fun h9 => unhide H9 (by rwa [getD_set_ne false (show (6 : Nat) ≠ 9 by decide)] at h9))⟩
    · refine wpOp_step rfl (fun K hK => ?_)
      have d6 : U 6 = .slice b s2.length d := (unhide HJ).val 6 (rg_dep hi 6 (by kernel_rfl))
      clear hl hlt hif
      go_simp
      refine (setOf_made b d s2 (unhide HX).2.2.1 (unhide HX).2.1 wv (rowP_of (unhide HF wv (unhide HJ).kp).2.2 (Nat.le_trans (unhide HZ).2.1 (unhide HJ).kp.size))).mono ?_
      rintro e w' ⟨Bn, rfl, hs, hb⟩
      exact hK _ _ ⟨slotPut U 7 _, (by rw [slotEq d6]; rfl), (unhide HJ).put 7 _ (keptX_of hb _) (fun j _ _ hD => scD_st hb j _ hD) ⟨Bn, rfl, hs⟩, (fun h9 => (unhide H9 (by rwa [getD_set_ne false (show (7 : Nat) ≠ 9 by decide)] at h9)).trans (hb.mono (unhide HJ).kp.size))⟩
    · refine wpOp_step rfl (fun K hK => ?_)
      obtain ⟨Bn, d7, hs7⟩ := (unhide HJ).val 7 (rg_dep hi 7 (by kernel_rfl))
      have HS7 := hide hs7
      clear hs7 hl hlt hif
      go_simp
      have hb : Below wv.heap.size wv (wv.alloc (.cells #[.pointer (some ⟨Bn, 0, none⟩)] 76)) := (Below.refl _ wv).alloc (Nat.le_refl _) _
      exact hK _ _ ⟨slotPut U 8 _, (by rw [slotEq d7]; rfl), (unhide HJ).put 8 _ (keptX_of hb _) (fun j _ _ hD => scD_st hb j _ hD) ⟨Bn, _, rfl, (unhide HJ).kp.size, (unhide HS7).below hb, Blk.new wv _ _⟩, (fun h9 => (unhide H9 (by rwa [getD_set_ne false (show (8 : Nat) ≠ 9 by decide)] at h9)).trans (hb.mono (unhide HJ).kp.size))⟩
    · refine wpOp_step rfl (fun K hK => ?_)
      have d4 : U 4 = sv := (unhide HJ).val 4 (rg_dep hi 4 (by kernel_rfl))
      obtain ⟨Bn, q8, d8, hq8, hs8, hb8⟩ := (unhide HJ).val 8 (rg_dep hi 8 (by kernel_rfl))
      have hn9 : l.getD 9 false = false := by rw [← getD_flip (by rw [hl]; decide)]; exact h0
      have hrw := own_below (own_below (unhide HS).row (unhide HZ).1) (unhide H9 hn9)
      refine step_app rfl _ _ rfl w.heap.size sv k bs d4 hrw q8 Bn d8 hb8 (by omega) (Nat.le_trans (unhide HZ).2.1 (unhide HJ).kp.size) ?_
      intro g9 cap9 w' hown hg9
      have hkx := keptX_grown hg9
      exact hK _ _ ⟨slotPut U 9 _, rfl, (unhide HJ).put 9 _ hkx (fun j _ hj hD => scD_app (xty_row hrw) hkx (unhide HZ).2.2.1 j _ hj hD) ⟨Bn, g9, cap9, rfl, (xty_row hrw).setV hkx hs8, hown⟩, (fun h9 => by (rw [getD_set_self9 (by rw [hl]; decide)] at h9; cases h9))⟩
    · refine wpOp_step rfl (fun K hK => ?_)
      have d0 : U 0 = .pointer (some ⟨B, 0, none⟩) := (unhide HJ).val 0 (rg_dep hi 0 (by kernel_rfl))
      clear hl hlt hif
      go_simp
      exact hK _ _ ⟨slotPut U 10 _, (by rw [slotEq d0]; rfl), (unhide HJ).same 10 _ rfl, (fun h9 => unhide H9 (by rwa [getD_set_ne false (show (10 : Nat) ≠ 9 by decide)] at h9))⟩
    · refine wpOp_step rfl (fun K hK => ?_)
      have d10 : U 10 = .pointer (some ⟨B, 0, none⟩) := (unhide HJ).val 10 (rg_dep hi 10 (by kernel_rfl))
      clear hl hlt hif
      go_simp
      exact hK _ _ ⟨slotPut U 11 _, (by rw [slotEq d10]; rfl), (unhide HJ).same 11 _ rfl, (fun h9 => unhide H9 (by rwa [getD_set_ne false (show (11 : Nat) ≠ 9 by decide)] at h9))⟩
  · rintro l a wv ⟨U, rfl, hJ, _⟩ hall
    obtain ⟨Bn, g9, cap9, d9, hs9, hown⟩ := hJ.val 9 (hall 9 (by decide) (by decide))
    have d11 : U 11 = .pointer (some ⟨B, 8, none⟩) := hJ.val 11 (hall 11 (by decide) (by decide))
    have hbx := (unhide HF wv hJ.kp).2.1
    have f8 := hbx.frozen 8
    have q8 := hbx.cell 8
    rw [bkCs_8] at q8
    have HN := hide ((unhide HS).next (unhide HZ).2.2.2 (unhide HZ).1 hJ.kp (unhide HX).1 hs9 hown)
    clear hJ hall hbx hs9 hown
    refine wpOp_step rfl (fun K hK => ?_)
    go_simp
    have e := unhide HQ U _ _ _ HN
    rw [d9, d11] at e
    exact hK _ _ e
end Go.Proofs.YtnnbaodillnkkaaGreat
