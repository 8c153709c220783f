/- Texts of this claim, one behind the other. -/
import Derived.Test.YtbbnppcpjpdpaaaGreatDoorM19
import Derived.Test.YtbbnppcpjpdpaaaGreatDoorShD
import Derived.Lib.ItoaLen
import Derived.Lib.AppendIntMem
import Derived.Test.YtbbnppcpjpdpaaaGreatDoorRdB
import Derived.Test.YtbbnppcpjpdpaaaGreatDoorM4
import Derived.Deep.RegionHeld3
import Derived.Laws.Concat
/- The printer of tables: marks. -/
namespace Go.Proofs.YtbbnppcpjpdpaaaGreatDoor
open Go.RowKit Go.Shelf
set_option linter.unusedVariables false
theorem encM2_length (t : List (Int × Int)) : (encM2 t).length = t.length * 2 := by
  induction t with
  | nil => rfl
  | cons x t ih => show (encM2 t).length + 1 + 1 = (t.length + 1) * 2; omega
theorem encM2_at (l : List (Int × Int)) (j : Nat) (x : Int × Int) (h : l[j]? = some x) : (encM2 l)[j * 2]? = some (.int .i32 x.1) ∧ (encM2 l)[j * 2 + 1]? = some (.int .i64 x.2) := by
  induction l generalizing j with
  | nil => simp at h
  | cons y l ih => cases j with
    | zero => obtain rfl := Option.some.inj h; exact ⟨rfl, rfl⟩
    | succ j => have := ih j (by simpa using h); rw [show (j + 1) * 2 = j * 2 + 1 + 1 by omega]; exact this
def itoaB (n : Int) : ByteArray := ⟨(Lib.itoa n).toArray⟩
def clsB (n : Int) : Bool := decide (0 ≤ n) && decide (n ≤ 65535)
def markP (p : Pn) (x : Int × Int) : Pn := lineV (putV (runeV (putV (needV p (clsB x.2)) [⟨#[109, 97, 114, 107]⟩]) x.1) [itoaB x.2, ⟨#[59]⟩])
theorem tab_fr {lo N : Nat} {W0 W : World} (hf : Fr lo N N W0 W) (hl : 4 < lo) (hn : 4 ≠ N) (h : Lib.TabIs Tryz.prog W0 "internal/strconv.uint64pow10" .u64 Lib.pow10Tab) : Lib.TabIs Tryz.prog W "internal/strconv.uint64pow10" .u64 Lib.pow10Tab := by
  have hg : Tryz.prog.globalNamed "internal/strconv.uint64pow10" = some 4 := by kernel_rfl
  have e := hf.block 4 hl hn hn
  unfold Lib.TabIs World.var? at h ⊢
  rw [hg] at h ⊢
  simp only [Option.bind_some] at h ⊢
  rw [e]
  exact h
theorem itoa_any (n : Int) (h0 : -9223372036854775808 ≤ n) (h1 : n ≤ 9223372036854775807) (w : World) (h : Lib.TabIs Tryz.prog w "internal/strconv.uint64pow10" .u64 Lib.pow10Tab) : Calls Tryz.prog 23 #[.int .i64 n] w fun e w' => e = .returned (.string (itoaB n)) ∧ Below w.heap.size w w' := by
  refine (show Calls Tryz.prog 23 #[.int .i64 n] w _ from Any.strconv_Itoa layM171 n h0 h1 w h).mono ?_
  rintro e w' ⟨rfl, k, os, rfl⟩
  exact ⟨rfl, Lib.below_grow _ w (Nat.le_refl _) k os⟩
theorem itoaB_size (n : Int) (h0 : -9223372036854775808 ≤ n) (h1 : n ≤ 9223372036854775807) : (itoaB n).size ≤ 1000 := by
  have := Lib.itoa_length_le n h0 h1
  show (Lib.itoa n).toArray.size ≤ 1000
  rw [List.size_toArray]
  omega
set_option maxRecDepth 100000 in
set_option maxHeartbeats 4000000 in
theorem ps_marks (lo N : Nat) (p : Pn) (a : Option Addr) (c : Nat) (l : List (Int × Int)) (hn : l.length ≤ 1000000) (hc : ∀ x ∈ l, -9223372036854775808 ≤ x.2 ∧ x.2 ≤ 9223372036854775807) (W0 W : World) (hP : Lib.TabIs Tryz.prog W0 "internal/strconv.uint64pow10" .u64 Lib.pow10Tab) (hgl : 4 < lo) (hgn : 4 ≠ N) (h : PS W0 W lo N p) (hr : RowC W N a (encM2 l)) :
    Calls Tryz.prog 8 #[.pointer (some ⟨N, 0, none⟩), .slice a l.length c] W fun e w' => (∃ r, e = .returned r) ∧ PS W0 w' lo N (l.foldl markP p) ∧ PF lo N W w' := by
  obtain ⟨n, hN⟩ : ∃ n, n = l.length := ⟨_, rfl⟩
  rw [← hN]
  have HN := hide hN
  have hn1 : n ≤ 1000000 := by omega
  have HR := hide hr
  have HC := hide hc
  have HPW := hide (And.intro hP (And.intro hgl hgn))
  have hlt := h.here.lt
  have H2 : Hz (PS W0 W lo N ((l.take 0).foldl markP p) ∧ PF lo N W W) := hide ⟨h, PF.refl _ _ _⟩
  clear hN hn h hr hc hP hgl hgn
  go_enter Tryz.func8, Tryz.ntmps8
  go_wp2_with fail
  go_loopw [5, 8] (fun _ u8 wr => ∃ (j : Nat), u8 = .int .i64 (j : Int) ∧ j ≤ n ∧ Hz (PS W0 wr lo N ((l.take j).foldl markP p) ∧ PF lo N W wr)) (fun _ u8 _ => n - cntI u8)
  case atStart => exact ⟨0, rfl, Nat.zero_le _, H2⟩
  case round =>
    obtain ⟨j, rfl, hj, HQ⟩ := hrel
    clear H2
    by_cases hjlt : j < n
    · have hlt2 : (j : Int) < (n : Int) := by omega
      have hj0 : (0 : Int) ≤ (j : Int) := by omega
      obtain ⟨x, hx⟩ : ∃ x, l[j]? = some x := ⟨_, List.getElem?_eq_getElem (by have := unhide HN; omega)⟩
      obtain ⟨g, o, rfl, hg, hcs⟩ := ((unhide HR).kept hlt (unhide HQ).2.fr) (by rw [encM2_length]; have := unhide HN; omega)
      have hat := encM2_at l j x hx
      have d0 : wr.cell? ⟨g, o + j * 2, none⟩ = some (.int .i32 x.1) := hcs _ _ hat.1
      have d1 : wr.cell? ⟨g, o + j * 2 + 1, none⟩ = some (.int .i64 x.2) := by rw [Nat.add_assoc]; exact hcs _ _ hat.2
      have HX := hide (fold_take markP p l j x hx)
      have HXC := hide (unhide HC x (List.mem_of_getElem? hx))
      clear hcs hat hx
      obtain ⟨q, hq⟩ : ∃ q, q = (l.take j).foldl markP p := ⟨_, rfl⟩
      rw [← hq] at HQ HX
      clear hq
      obtain ⟨x0, x1⟩ := x
      dsimp only at d0 d1 HXC
      have HA : Hz (PS W0 (wr.alloc (.cells #[.int .i32 x0, .int .i64 x1] 72)) lo N q ∧ PF lo N wr (wr.alloc (.cells #[.int .i32 x0, .int .i64 x1] 72))) := hide ⟨(unhide HQ).1.alloc _, PF.below (unhide HQ).1.here.lw ((Below.refl _ wr).alloc (Nat.le_refl _) _)⟩
      have HBX0 := hide (Blk.new wr #[.int .i32 x0, .int .i64 x1] 72)
      have hNs : wr.heap.size ≠ N := by have := (unhide HQ).1.here.lw; omega
      have HSA : Hz ((wr.alloc (.cells #[.int .i32 x0, .int .i64 x1] 72)).heap.size = wr.heap.size + 1) := hide (by simp)
      by_cases hcl : 0 ≤ x1
      · have hcl2 : 0 ≤ x1 := hcl
        have HOK : Hz (clsB x1 = (decide (x1 ≤ 65535))) := hide (by unfold clsB; rw [decide_eq_true hcl]; rfl)
        go_wp2_with fail
        generalize wr.alloc (.cells #[.int .i32 x0, .int .i64 x1] 72) = wA at *
        generalize wr.heap.size = M at *
        have z0_0 := (unhide HBX0).cell 0
        have z1_0 := (unhide HBX0).cell 1
        have HC1 := hide (ps_need lo N q (decide (x1 ≤ 65535)) W0 _ (unhide HA).1)
        refine (unhide HC1).mono ?_
        rintro e v1 ⟨⟨r1, rfl⟩, h1, hf1⟩
        have HBX1 := hide (hf1.kp _ _ _ hNs (by decide) (unhide HBX0))
        have HH1 := hide (And.intro h1 ((unhide HA).2.trans hf1))
        have z0_1 := (unhide HBX1).cell 0
        have z1_1 := (unhide HBX1).cell 1
        clear h1 hf1 HC1 HBX0 
        have HC2 := hide (ps_put lo N (needV q (decide (x1 ≤ 65535))) [⟨#[109, 97, 114, 107]⟩] (fun w hw => .inr (by simp at hw; first | (rw [hw]; decide) | (rcases hw with h | h <;> rw [h] <;> decide))) (by simp) W0 v1 (unhide HH1).1)
        go_wp2_with fail
        refine (show Calls Tryz.prog 20 #[.pointer (some ⟨N, 0, none⟩), .slice (some ⟨v1.heap.size, 0, none⟩) 1 1] (v1.alloc (.cells #[.string ⟨#[109, 97, 114, 107]⟩] 9)) _ from unhide HC2).mono ?_
        rintro e v2 ⟨⟨r2, rfl⟩, h2, hf2⟩
        have HBX2 := hide (hf2.kp _ _ _ hNs (by decide) (unhide HBX1))
        have HH2 := hide (And.intro h2 ((unhide HH1).2.trans hf2))
        have z0_2 := (unhide HBX2).cell 0
        have z1_2 := (unhide HBX2).cell 1
        clear h2 hf2 HC2 HBX1 HH1 z0_1 z1_1
        have HC3 := hide (ps_rune lo N (putV (needV q (decide (x1 ≤ 65535))) [⟨#[109, 97, 114, 107]⟩]) x0 W0 _ (unhide HH2).1)
        go_wp2_with fail
        refine (unhide HC3).mono ?_
        rintro e v3 ⟨⟨r3, rfl⟩, h3, hf3⟩
        have HBX3 := hide (hf3.kp _ _ _ hNs (by decide) (unhide HBX2))
        have HH3 := hide (And.intro h3 ((unhide HH2).2.trans hf3))
        have z0_3 := (unhide HBX3).cell 0
        have z1_3 := (unhide HBX3).cell 1
        clear h3 hf3 HC3 HBX2 HH2 z0_2 z1_2
        have HIT := hide (itoa_any x1 (unhide HXC).1 (unhide HXC).2 v3 (tab_fr (unhide HH3).1.pf.fr (unhide HPW).2.1 (unhide HPW).2.2 (unhide HPW).1))
        go_wp2_with fail
        refine (unhide HIT).mono ?_
        rintro e wI ⟨rfl, hbI⟩
        have HI := hide (And.intro ((unhide HH3).1.fresh hbI) ((unhide HH3).2.trans (PF.below (unhide HH3).1.here.lw hbI)))
        clear hbI HIT HH3 z0_3 z1_3
        have HC9 := hide (ps_put lo N (runeV (putV (needV q (decide (x1 ≤ 65535))) [⟨#[109, 97, 114, 107]⟩]) x0) [itoaB x1, ⟨#[59]⟩] (fun w hw => .inr (by simp at hw; rcases hw with h | h; (rw [h]; exact itoaB_size x1 (unhide HXC).1 (unhide HXC).2); (rw [h]; decide))) (by simp) W0 wI (unhide HI).1)
        go_wp2_with fail
        refine (show Calls Tryz.prog 20 #[.pointer (some ⟨N, 0, none⟩), .slice (some ⟨wI.heap.size, 0, none⟩) 2 2] (wI.alloc (.cells #[.string (itoaB x1), .string ⟨#[59]⟩] 9)) _ from unhide HC9).mono ?_
        rintro e w9 ⟨⟨r9, rfl⟩, h9, hf9⟩
        have HH9 := hide (And.intro h9 ((unhide HI).2.trans hf9))
        clear h9 hf9 HC9
        have HC10 := hide (ps_line lo N (putV (runeV (putV (needV q (decide (x1 ≤ 65535))) [⟨#[109, 97, 114, 107]⟩]) x0) [itoaB x1, ⟨#[59]⟩]) W0 w9 (unhide HH9).1)
        go_wp2_with fail
        refine (unhide HC10).mono ?_
        rintro e w10 ⟨⟨r10, rfl⟩, h10, hf10⟩
        have HH10 := hide (And.intro h10 ((unhide HH9).2.trans hf10))
        clear h10 hf10 HC10
        have HMP : Hz (markP q (x0, x1) = lineV (putV (runeV (putV (needV q (decide (x1 ≤ 65535))) [⟨#[109, 97, 114, 107]⟩]) x0) [itoaB x1, ⟨#[59]⟩])) := hide (by show lineV (putV (runeV (putV (needV q (clsB x1)) _) x0) _) = _; rw [unhide HOK])
        go_wp2_with fail
        go_roundw
        case rel => exact ⟨j + 1, rfl, hjlt, hide (by rw [unhide HX, unhide HMP]; exact ⟨(unhide HH10).1, (unhide HQ).2.trans (unhide HH10).2⟩)⟩
        case measure => show n - ((j : Int) + 1).toNat < n - (j : Int).toNat; omega
      · have hcl2 : ¬ 0 ≤ x1 := hcl
        have HOK : Hz (clsB x1 = false) := hide (by unfold clsB; rw [decide_eq_false hcl]; rfl)
        go_wp2_with fail
        generalize wr.alloc (.cells #[.int .i32 x0, .int .i64 x1] 72) = wA at *
        generalize wr.heap.size = M at *
        have z0_0 := (unhide HBX0).cell 0
        have z1_0 := (unhide HBX0).cell 1
        have HC1 := hide (ps_need lo N q false W0 _ (unhide HA).1)
        refine (unhide HC1).mono ?_
        rintro e v1 ⟨⟨r1, rfl⟩, h1, hf1⟩
        have HBX1 := hide (hf1.kp _ _ _ hNs (by decide) (unhide HBX0))
        have HH1 := hide (And.intro h1 ((unhide HA).2.trans hf1))
        have z0_1 := (unhide HBX1).cell 0
        have z1_1 := (unhide HBX1).cell 1
        clear h1 hf1 HC1 HBX0 
        have HC2 := hide (ps_put lo N (needV q false) [⟨#[109, 97, 114, 107]⟩] (fun w hw => .inr (by simp at hw; first | (rw [hw]; decide) | (rcases hw with h | h <;> rw [h] <;> decide))) (by simp) W0 v1 (unhide HH1).1)
        go_wp2_with fail
        refine (show Calls Tryz.prog 20 #[.pointer (some ⟨N, 0, none⟩), .slice (some ⟨v1.heap.size, 0, none⟩) 1 1] (v1.alloc (.cells #[.string ⟨#[109, 97, 114, 107]⟩] 9)) _ from unhide HC2).mono ?_
        rintro e v2 ⟨⟨r2, rfl⟩, h2, hf2⟩
        have HBX2 := hide (hf2.kp _ _ _ hNs (by decide) (unhide HBX1))
        have HH2 := hide (And.intro h2 ((unhide HH1).2.trans hf2))
        have z0_2 := (unhide HBX2).cell 0
        have z1_2 := (unhide HBX2).cell 1
        clear h2 hf2 HC2 HBX1 HH1 z0_1 z1_1
        have HC3 := hide (ps_rune lo N (putV (needV q false) [⟨#[109, 97, 114, 107]⟩]) x0 W0 _ (unhide HH2).1)
        go_wp2_with fail
        refine (unhide HC3).mono ?_
        rintro e v3 ⟨⟨r3, rfl⟩, h3, hf3⟩
        have HBX3 := hide (hf3.kp _ _ _ hNs (by decide) (unhide HBX2))
        have HH3 := hide (And.intro h3 ((unhide HH2).2.trans hf3))
        have z0_3 := (unhide HBX3).cell 0
        have z1_3 := (unhide HBX3).cell 1
        clear h3 hf3 HC3 HBX2 HH2 z0_2 z1_2
        have HIT := hide (itoa_any x1 (unhide HXC).1 (unhide HXC).2 v3 (tab_fr (unhide HH3).1.pf.fr (unhide HPW).2.1 (unhide HPW).2.2 (unhide HPW).1))
        go_wp2_with fail
        refine (unhide HIT).mono ?_
        rintro e wI ⟨rfl, hbI⟩
        have HI := hide (And.intro ((unhide HH3).1.fresh hbI) ((unhide HH3).2.trans (PF.below (unhide HH3).1.here.lw hbI)))
        clear hbI HIT HH3 z0_3 z1_3
        have HC9 := hide (ps_put lo N (runeV (putV (needV q false) [⟨#[109, 97, 114, 107]⟩]) x0) [itoaB x1, ⟨#[59]⟩] (fun w hw => .inr (by simp at hw; rcases hw with h | h; (rw [h]; exact itoaB_size x1 (unhide HXC).1 (unhide HXC).2); (rw [h]; decide))) (by simp) W0 wI (unhide HI).1)
        go_wp2_with fail
        refine (show Calls Tryz.prog 20 #[.pointer (some ⟨N, 0, none⟩), .slice (some ⟨wI.heap.size, 0, none⟩) 2 2] (wI.alloc (.cells #[.string (itoaB x1), .string ⟨#[59]⟩] 9)) _ from unhide HC9).mono ?_
        rintro e w9 ⟨⟨r9, rfl⟩, h9, hf9⟩
        have HH9 := hide (And.intro h9 ((unhide HI).2.trans hf9))
        clear h9 hf9 HC9
        have HC10 := hide (ps_line lo N (putV (runeV (putV (needV q false) [⟨#[109, 97, 114, 107]⟩]) x0) [itoaB x1, ⟨#[59]⟩]) W0 w9 (unhide HH9).1)
        go_wp2_with fail
        refine (unhide HC10).mono ?_
        rintro e w10 ⟨⟨r10, rfl⟩, h10, hf10⟩
        have HH10 := hide (And.intro h10 ((unhide HH9).2.trans hf10))
        clear h10 hf10 HC10
        have HMP : Hz (markP q (x0, x1) = lineV (putV (runeV (putV (needV q false) [⟨#[109, 97, 114, 107]⟩]) x0) [itoaB x1, ⟨#[59]⟩])) := hide (by show lineV (putV (runeV (putV (needV q (clsB x1)) _) x0) _) = _; rw [unhide HOK])
        go_wp2_with fail
        go_roundw
        case rel => exact ⟨j + 1, rfl, hjlt, hide (by rw [unhide HX, unhide HMP]; exact ⟨(unhide HH10).1, (unhide HQ).2.trans (unhide HH10).2⟩)⟩
        case measure => show n - ((j : Int) + 1).toNat < n - (j : Int).toNat; omega
    · have hle : ¬ ((j : Int) < (n : Int)) := by omega
      have HJ : Hz (l.take j = l) := hide (by rw [show j = l.length by have := unhide HN; omega]; exact List.take_length)
      rw [unhide HJ] at HQ
      go_wp2_with fail
      go_end0
      exact ⟨⟨_, rfl⟩, (unhide HQ).1, (unhide HQ).2⟩
end Go.Proofs.YtbbnppcpjpdpaaaGreatDoor
/- Refusals of the rules: their words. -/
namespace Go.Proofs.YtbbnppcpjpdpaaaGreatDoor
open Go.RowKit Go.Shelf
set_option linter.unusedVariables false
theorem find_zero (Tx : Nat) (l r : Int) (W : World) : Calls Tryz.prog 17 #[.pointer (some ⟨Tx, 0, none⟩), .agg #[.int .i64 0, .int .i64 l, .int .i64 r]] W fun e w' => e = .returned .nilIface ∧ Below W.heap.size W w' := by
  go_enter Tryz.func17, Tryz.ntmps17
  go_wp2_with fail
  go_ret
  exact ⟨rfl, (Below.refl _ W).alloc (Nat.le_refl _) _⟩
theorem conv1 (W : World) (x : Int) : (convert 34 9 (.slice (some ⟨W.heap.size, 0, none⟩) 1 1)).run Tryz.prog (W.alloc (.cells #[.int .u8 x] 5)) = .ok (.string ⟨#[UInt8.ofNat x.toNat]⟩) (W.alloc (.cells #[.int .u8 x] 5)) := by
  rw [run_convert_bytes_string _ _ _ _ _ _ _ Tryz.underlying34 Tryz.underlying5 Tryz.underlying9]
  rw [run_bytesToString _ _ 1 1 [x] (by
    rw [run_loadCells _ _ 1 (fun _ => .int .u8 x) (fun j hj => by
      obtain rfl : j = 0 := by omega
      exact (Blk.new W #[.int .u8 x] 5).cell 0)]
    rfl)]
  rfl
set_option maxRecDepth 100000 in
set_option maxHeartbeats 4000000 in
theorem errno_5 (W : World) : Calls Tryz.prog 58 #[.int .i64 5] W fun e w' => ∃ s : ByteArray, e = .returned (.string s) ∧ s.size ≤ 1000 ∧ Below W.heap.size W w' := by
  have hcv := conv1 W 53
  go_enter Tryz.func58, Tryz.ntmps58
  go_wp2_with fail
  refine wp_loop_rounds 2 ?_
  rw [rounds_succ]
  go_wp2_with fail
  rw [rounds_succ]
  go_wp2_with fail
  go_ret
  exact ⟨_, rfl, by decide, (Below.refl _ W).alloc (Nat.le_refl _) _⟩
set_option maxRecDepth 100000 in
set_option maxHeartbeats 4000000 in
theorem referr_any (F : Nat) (x : Rf) (W : World) (hb : Blk W F (rfCells x) 83) (hl : 0 ≤ x.l ∧ x.l ≤ 1000000) (hc : 0 ≤ x.c ∧ x.c ≤ 1000000) (hP : Lib.TabIs Tryz.prog W "internal/strconv.uint64pow10" .u64 Lib.pow10Tab) (hG : 4 < W.heap.size) (hW : ∀ w, Calls Tryz.prog 58 #[.int .i64 x.why] w fun e w' => ∃ s : ByteArray, e = .returned (.string s) ∧ s.size ≤ 1000 ∧ Below w.heap.size w w') :
    Calls Tryz.prog 36 #[.pointer (some ⟨F, 0, none⟩)] W fun e w' => ∃ s : ByteArray, e = .returned (.string s) ∧ ¬ s.toList = [] ∧ Below W.heap.size W w' := by
  have hmx : Tryz.prog.follows .mixedOrders = true := by kernel_rfl
  obtain ⟨xb, xl, xc, xw⟩ := x
  dsimp only at hl hc hW
  have hF := hb.lt
  have k1 : W.drew.cell? ⟨F, 1, none⟩ = some (.int .i64 xl) := hb.cell 1
  have HTF : Hz (∀ w : World, Below W.heap.size W w → Lib.TabIs Tryz.prog w "internal/strconv.uint64pow10" .u64 Lib.pow10Tab) := hide (fun w h => tab_fr (lo := W.heap.size) (N := W.heap.size) ⟨h.os, h.tape, h.output, h.size, fun i hi _ _ => h.block i hi⟩ hG (by omega) hP)
  have HB := hide hb
  have HWY := hide hW
  clear hb hW hP
  go_enter Tryz.func36, Tryz.ntmps36
  have HBB : Hz (Below W.heap.size W W.drew) := hide ⟨rfl, rfl, rfl, Nat.le_refl _, fun _ _ => rfl⟩
  have k2 : W.drew.cell? ⟨F, 2, none⟩ = some (.int .i64 xc) := (unhide HB).cell 2
  have k3 : W.drew.cell? ⟨F, 3, none⟩ = some (.int .i64 xw) := (unhide HB).cell 3
  have HS1 := hide (itoaB_size xl (by omega) (by omega))
  have HS2 := hide (itoaB_size xc (by omega) (by omega))
  have HI := hide (fun (n : Int) (h0 : 0 ≤ n ∧ n ≤ 1000000) (w : World) => itoa_any n (by omega) (by omega) w)
  obtain ⟨s1, hs1⟩ : ∃ s1, s1 = itoaB xl := ⟨_, rfl⟩
  obtain ⟨s2, hs2⟩ : ∃ s2, s2 = itoaB xc := ⟨_, rfl⟩
  rw [← hs1] at HS1
  rw [← hs2] at HS2
  have z1 : s1.size ≤ 1000 := unhide HS1
  have z2 : s2.size ≤ 1000 := unhide HS2
  have HE1 := hide hs1
  have HE2 := hide hs2
  clear hs1 hs2
  have l1 : (⟨#[108, 105, 110, 101, 32]⟩ : ByteArray).size = 5 := rfl
  have l2 : (⟨#[44, 32, 99, 111, 108, 117, 109, 110, 32]⟩ : ByteArray).size = 9 := rfl
  have l3 : (⟨#[58, 32]⟩ : ByteArray).size = 2 := rfl
  have q1 : ∀ w : World, (Op.stringOp .add (⟨#[108, 105, 110, 101, 32]⟩ : ByteArray) s1).run Tryz.prog w = .ok (.string ((⟨#[108, 105, 110, 101, 32]⟩ : ByteArray) ++ s1)) w := fun w => run_string_add_sum w _ _ (by (try simp only [ByteArray.size_append]); omega)
  have q2 : ∀ w : World, (Op.stringOp .add ((⟨#[108, 105, 110, 101, 32]⟩ : ByteArray) ++ s1) ⟨#[44, 32, 99, 111, 108, 117, 109, 110, 32]⟩).run Tryz.prog w = .ok (.string (((⟨#[108, 105, 110, 101, 32]⟩ : ByteArray) ++ s1) ++ ⟨#[44, 32, 99, 111, 108, 117, 109, 110, 32]⟩)) w := fun w => run_string_add_sum w _ _ (by (try simp only [ByteArray.size_append]); omega)
  have q3 : ∀ w : World, (Op.stringOp .add (((⟨#[108, 105, 110, 101, 32]⟩ : ByteArray) ++ s1) ++ ⟨#[44, 32, 99, 111, 108, 117, 109, 110, 32]⟩) s2).run Tryz.prog w = .ok (.string ((((⟨#[108, 105, 110, 101, 32]⟩ : ByteArray) ++ s1) ++ ⟨#[44, 32, 99, 111, 108, 117, 109, 110, 32]⟩) ++ s2)) w := fun w => run_string_add_sum w _ _ (by (try simp only [ByteArray.size_append]); omega)
  have q4 : ∀ w : World, (Op.stringOp .add ((((⟨#[108, 105, 110, 101, 32]⟩ : ByteArray) ++ s1) ++ ⟨#[44, 32, 99, 111, 108, 117, 109, 110, 32]⟩) ++ s2) ⟨#[58, 32]⟩).run Tryz.prog w = .ok (.string (((((⟨#[108, 105, 110, 101, 32]⟩ : ByteArray) ++ s1) ++ ⟨#[44, 32, 99, 111, 108, 117, 109, 110, 32]⟩) ++ s2) ++ ⟨#[58, 32]⟩)) w := fun w => run_string_add_sum w _ _ (by (try simp only [ByteArray.size_append]); omega)
  have HQ5 := hide (fun (s3 : ByteArray) (z3 : s3.size ≤ 1000) (w : World) => run_string_add_sum (P := Tryz.prog) w (((((⟨#[108, 105, 110, 101, 32]⟩ : ByteArray) ++ s1) ++ ⟨#[44, 32, 99, 111, 108, 117, 109, 110, 32]⟩) ++ s2) ++ ⟨#[58, 32]⟩) s3 (by simp only [ByteArray.size_append]; omega))
  clear l1 l2 l3
  go_wp2_with fail
  go_region_held3 (fun w' => w'.cell? ⟨F, 1, none⟩ = some (.int .i64 xl) ∧ w'.cell? ⟨F, 2, none⟩ = some (.int .i64 xc) ∧ w'.cell? ⟨F, 3, none⟩ = some (.int .i64 xw)) (first | with_reducible exact ⟨m31, m32, m33⟩ | with_reducible exact ⟨m21, m22, m23⟩ | with_reducible exact ⟨m11, m12, m13⟩ | with_reducible exact ⟨k1, k2, k3⟩)
    (first
    | (go_at_call 58; refine (unhide HWY w2).mono ?_; rintro e w3 ⟨s3, rfl, z3, hb3⟩; have q5 := unhide HQ5 s3 z3; have HB3 := hide ((unhide HB2).trans (hb3.mono (unhide HB2).size)); have m31 := ((unhide HB3).cell (p := ⟨F, 1, none⟩) hF).trans k1; have m32 := ((unhide HB3).cell (p := ⟨F, 2, none⟩) hF).trans k2; have m33 := ((unhide HB3).cell (p := ⟨F, 3, none⟩) hF).trans k3; clear hb3)
    | (go_at_call 23; refine (unhide HI xc hc w1 (unhide HTF w1 (unhide HB1))).mono ?_; rw [← unhide HE2]; rintro e w2 ⟨rfl, hb2⟩; have HB2 := hide ((unhide HB1).trans (hb2.mono (unhide HB1).size)); have m21 := ((unhide HB2).cell (p := ⟨F, 1, none⟩) hF).trans k1; have m22 := ((unhide HB2).cell (p := ⟨F, 2, none⟩) hF).trans k2; have m23 := ((unhide HB2).cell (p := ⟨F, 3, none⟩) hF).trans k3; clear hb2)
    | (go_at_call 23; refine (unhide HI xl hl W.drew (unhide HTF W.drew (unhide HBB))).mono ?_; rw [← unhide HE1]; rintro e w1 ⟨rfl, hb1⟩; have HB1 := hide ((unhide HBB).trans (hb1.mono (unhide HBB).size)); have m11 := ((unhide HB1).cell (p := ⟨F, 1, none⟩) hF).trans k1; have m12 := ((unhide HB1).cell (p := ⟨F, 2, none⟩) hF).trans k2; have m13 := ((unhide HB1).cell (p := ⟨F, 3, none⟩) hF).trans k3; clear hb1))
  all_goals
    go_wp2_with fail
    go_ret
    exact ⟨_, rfl, toList_ne _ (by simp only [ByteArray.size_append]; have : (⟨#[108, 105, 110, 101, 32]⟩ : ByteArray).size = 5 := rfl; omega), unhide HB3⟩
end Go.Proofs.YtbbnppcpjpdpaaaGreatDoor
