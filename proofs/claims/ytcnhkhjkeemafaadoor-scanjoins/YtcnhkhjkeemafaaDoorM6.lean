/- Texts of this claim, one behind the other. -/
import Derived.Test.YtcnhkhjkeemafaaDoorM5
import Derived.Lib.QuietBelow
import Derived.BigQuiet
import Derived.Laws.StructEq
/- ScanJoins: texts behind one another; other blanks between words. -/
namespace Go.Proofs.YtcnhkhjkeemafaaDoor
open Go.RowKit Go.Shelf
set_option linter.unusedVariables false
abbrev At0 : Obj := .cells #[.int .i64 0, .int .i64 0, .int .i64 0] 25
theorem below_at {W0 w : World} (h : Below W0.heap.size W0 w) : Below W0.heap.size W0 (w.alloc At0) := h.alloc h.size _
/-- What is put ahead of the j-th word. -/
def fl (len : Nat) (zs : List Int) (j : Nat) : ByteArray := if len = 0 then ⟨#[32]⟩ else fills.getD ((zs.getD (j % len) 0).toNat % 6) ⟨#[32]⟩
def Lf (ps : List Nat) (len : Nat) (zs : List Int) (j : Nat) : List (ByteArray × Nat) := (List.range j).map (fun i => (fl len zs i, ps.getD i 0))
theorem Lf_succ (ps : List Nat) (len : Nat) (zs : List Int) (j : Nat) : Lf ps len zs (j + 1) = Lf ps len zs j ++ [(fl len zs j, ps.getD j 0)] := by unfold Lf; rw [List.range_succ, List.map_append]; rfl
theorem fills_mem (y : Nat) (h : y < 6) : fills.getD y ⟨#[32]⟩ ∈ fills := by
  have hl : y < fills.length := h
  rw [List.getD_eq_getElem?_getD, List.getElem?_eq_getElem hl]
  exact List.getElem_mem hl
theorem fills_size : ∀ r ∈ fills, r.size ≤ 8 := by decide
theorem fl_mem (len : Nat) (zs : List Int) (j : Nat) : fl len zs j ∈ fills := by
  unfold fl
  split
  · exact List.mem_cons_self ..
  · exact fills_mem _ (Nat.mod_lt _ (by decide))
theorem Lf_length (ps : List Nat) (len : Nat) (zs : List Int) (j : Nat) : (Lf ps len zs j).length = j := by unfold Lf; simp
theorem Lf_snd (ps : List Nat) (len : Nat) (zs : List Int) : (Lf ps len zs ps.length).map (·.2) = ps := by
  unfold Lf
  rw [List.map_map]
  apply List.ext_getElem?
  intro i
  by_cases h : i < ps.length
  · simp [h, List.getD]
  · simp [h]
theorem Lf_at (ps : List Nat) (len : Nat) (zs : List Int) (i p : Nat) (h : ps[i]? = some p) : (Lf ps len zs ps.length)[i]? = some (fl len zs i, p) := by
  have hi := (List.getElem?_eq_some_iff.1 h).1
  unfold Lf
  rw [List.getElem?_map, List.getElem?_range hi]
  simp [List.getD, h]
theorem Lf_ok {A : ByteArray} {ps : List Nat} (hp : posV A = some ps) (len : Nat) (zs : List Int) : ∀ x ∈ Lf ps len zs ps.length, x.1 ∈ fills ∧ x.2 < A.size ∧ (wordV (rst A x.2)).ok = true := by
  intro x hx
  obtain ⟨i, hi, rfl⟩ := List.mem_map.1 hx
  have hil := List.mem_range.1 hi
  refine ⟨fl_mem _ _ _, ?_⟩
  have : ps.getD i 0 ∈ ps := by simp [List.getD, hil]
  exact cutP_mem A _ 0 ps (Nat.zero_le _) hp _ this
theorem Lf_size {A : ByteArray} {ps : List Nat} (hA : A.size ≤ 1000) (hp : posV A = some ps) (len : Nat) (zs : List Int) : (fillT A (Lf ps len zs ps.length)).size ≤ 262144 := by
  have h1 := fillT_size A (Lf ps len zs ps.length) (fun x hx => ⟨fills_size _ (Lf_ok hp len zs x hx).1, (Lf_ok hp len zs x hx).2⟩)
  rw [Lf_length, Lf_snd] at h1
  have h2 := cutP_sum A _ 0 ps (Nat.zero_le _) hp
  omega
theorem rows_at (y : Nat) (h : y < 6) : (#[Value.string ⟨#[32]⟩, .string ⟨#[9]⟩, .string ⟨#[13, 10]⟩, .string ⟨#[35, 195, 169, 32, 125, 32, 120, 10]⟩, .string ⟨#[35, 32, 10, 10]⟩, .string ⟨#[10]⟩] : Array Value)[y]? = some (.string (fills.getD y ⟨#[32]⟩)) :=
  match y, h with
  | 0, _ => rfl
  | 1, _ => rfl
  | 2, _ => rfl
  | 3, _ => rfl
  | 4, _ => rfl
  | 5, _ => rfl
  | n + 6, q => absurd q (by omega)
set_option maxRecDepth 100000 in
set_option maxHeartbeats 8000000 in
theorem joins_yes (A B : ByteArray) (hA : A.size ≤ 1000) (hB : B.size ≤ 1000) (ps qs : List Nat) (hp : posV A = some ps) (hq : posV B = some qs) (src src2 : ByteArray) (hs1 : src.size ≤ maxLen) (hs2 : src2.size ≤ maxLen) (e1 : fewV src 1000 = A) (e2 : fewV src2 1000 = B)
    (fa : Option Addr) (len cap : Nat) (zs : List Int) (m : Int) (w : World) (hE : Env m w) (hR : ArgRow .u8 w fa len cap zs) : Calls Tryd.prog 4 #[.string src, .string src2, .slice fa len cap] w fun e w' => e = .returned (.bool true) ∧ Below w.heap.size w w' := by
  have hF1 := few_any src hs1 1000 (by decide) w
  have hF2 := few_any src2 hs2 1000 (by decide) w
  rw [e1] at hF1
  rw [e2] at hF2
  have hW1 := fun w hE => words_at A (by omega) ps hp m w hE
  have hW2 := fun w hE => words_at B (by omega) qs hq m w hE
  have hW3 := fun w hE => words_at (joinT A B) (by rw [joinT_size]; omega) _ (pos_join hp hq) m w hE
  have hsum := cutP_sum A _ 0 ps (Nat.zero_le _) hp
  have hsum2 := cutP_sum B _ 0 qs (Nat.zero_le _) hq
  have hpl : ps.length ≤ 1000 := by omega
  have hql : qs.length ≤ 1000 := by omega
  rw [List.length_append, List.length_map] at hW3
  have hsumI : (((ps.length + qs.length : Nat) : Int) != ((ps.length : Int) + (qs.length : Int))) = false := by simp
  have H1 := hide hF1
  have H2 := hide hF2
  have HW1 := hide hW1
  have HW2 := hide hW2
  have HW3 := hide hW3
  have HE := hide hE
  have HR := hide hR
  have HSM := hide hsum
  clear hF1 hF2 hW1 hW2 hW3 hE hR hsum hsum2 e1 e2
  unfold joinT at HW3
  go_enter Tryd.func4, Tryd.ntmps4
  go_wp2_with fail
  refine (unhide H1).mono ?_
  rintro e w1 ⟨rfl, rfl⟩
  go_wp2_with fail
  refine (unhide H2).mono ?_
  rintro e w1 ⟨rfl, rfl⟩
  go_wp2_with fail
  refine (unhide HW1 _ (unhide HE)).mono ?_
  rintro e w2 ⟨la, lc, rfl, hrl, hb⟩
  have HB2 := hide (below_at hb)
  have HL2 := hide (hrl.below ((Below.refl w2.heap.size w2).alloc (Nat.le_refl _) At0) (Nat.le_refl _))
  clear hrl hb
  go_wp2_with fail
  refine (unhide HW2 _ ((unhide HE).below (unhide HB2) (Nat.le_refl _))).mono ?_
  rintro e w3 ⟨ma, mc, rfl, hrm, hb⟩
  have hb' := below_at hb
  have HB3 := hide ((unhide HB2).trans (hb'.mono (unhide HB2).size))
  have HL3 := hide ((unhide HL2).below hb' (Nat.le_refl _))
  have HM3 := hide (hrm.below ((Below.refl w3.heap.size w3).alloc (Nat.le_refl _) At0) (Nat.le_refl _))
  clear hrm hb hb' HB2 HL2
  go_wp2_with fail
  refine (unhide HW3 _ ((unhide HE).below (unhide HB3) (Nat.le_refl _))).mono ?_
  rintro e w4 ⟨ba, bc, rfl, hrb, hb⟩
  have hb' := below_at hb
  have HB4 := hide ((unhide HB3).trans (hb'.mono (unhide HB3).size))
  have HL4 := hide ((unhide HL3).below hb' (Nat.le_refl _))
  have HM4 := hide ((unhide HM3).below hb' (Nat.le_refl _))
  have HJ4 : Hz (RowJ (w4.alloc At0) ba (joinT A B) (ps ++ qs.map (A.size + 1 + ·))) := hide (hrb.below ((Below.refl w4.heap.size w4).alloc (Nat.le_refl _) At0) (Nat.le_refl _))
  clear hrb hb hb' HB3 HL3 HM3 HW3
  go_wp2_with fail
  generalize w4.alloc (.cells #[.int .i64 0, .int .i64 0, .int .i64 0] 25) = W4 at *
  go_loop [16, 17] (fun x i => ∃ k c : Nat, k ≤ A.size ∧ c ≤ 1 + k ∧ x = .int .i64 c ∧ i = .int .i64 k ∧ Hz (c = 1 + cn10 A k)) (fun _ i => A.size - (intOf i).toNat)
  case atStart => exact ⟨0, 1, by omega, by omega, rfl, rfl, hide rfl⟩
  case round =>
    obtain ⟨k, c, hk, hck, rfl, rfl, HC⟩ := hrel
    by_cases hkA : k < A.size
    · have hk1 : (k : Int) < (A.size : Int) := by omega
      have hgb := bt_get A k hkA
      have hxl := bt_lt A k
      have hcn : cn10 A (k + 1) = cn10 A k + if bt A k = 10 then 1 else 0 := rfl
      obtain ⟨x, ex⟩ : ∃ x, (A[k]'hkA).toNat = x := ⟨_, rfl⟩
      rw [hgb, ex] at hcn
      by_cases h10 : x = 10
      · have h10' : ((x : Int) == 10) = true := by simp; omega
        rw [if_pos h10] at hcn
        have HC2 : Hz (c + 1 = 1 + cn10 A (k + 1)) := hide (by rw [hcn, unhide HC]; omega)
        clear hcn hgb hxl h10
        go_wp2_with fail
        go_round
        case rel => exact ⟨k + 1, c + 1, by omega, by omega, by go_num, by go_num, HC2⟩
        case measure => simp [intOf]; omega
      · have h10' : ((x : Int) == 10) = false := by simp; omega
        rw [if_neg h10, Nat.add_zero] at hcn
        have HC2 : Hz (c = 1 + cn10 A (k + 1)) := hide (by rw [hcn]; exact unhide HC)
        clear hcn hgb hxl h10
        go_wp2_with fail
        go_round
        case rel => exact ⟨k + 1, c, by omega, by omega, rfl, by go_num, HC2⟩
        case measure => simp [intOf]; omega
    · have hk1 : ¬ (k : Int) < (A.size : Int) := by omega
      have HCL : Hz (c = (lcAt A A.size).1) := hide (by rw [← cn10_all, unhide HC, show k = A.size by omega])
      have hcb : c ≤ 1001 := by omega
      clear HC hck
      go_wp2_with fail
      go_loopw [18, 19] (fun i _ wr => ∃ n : Nat, n ≤ ps.length + qs.length ∧ i = .int .i64 n ∧ Hz (Below W4.heap.size W4 wr)) (fun i _ _ => ps.length + qs.length - (intOf i).toNat)
      case atStart => exact ⟨0, by omega, rfl, hide (Below.refl _ _)⟩
      case round =>
        obtain ⟨n, hn, rfl, HB⟩ := hrel
        by_cases hnl : n < ps.length + qs.length
        · have hnl' : (n : Int) < ((ps.length : Int) + (qs.length : Int)) := by omega
          by_cases hnp : n < ps.length
          · have hnp' : (n : Int) < (ps.length : Int) := by omega
            obtain ⟨p, hpn⟩ : ∃ p, ps[n]? = some p := ⟨_, List.getElem?_eq_getElem hnp⟩
            obtain ⟨g, rfl, hg, hc⟩ := unhide HL4 (by omega)
            obtain ⟨gb, rfl, hgb, hcj0⟩ := unhide HJ4 (by rw [List.length_append]; omega)
            have hx := cutP_mem A _ 0 ps (Nat.zero_le _) hp p (List.mem_of_getElem? hpn)
            have hcl := hc n p hpn
            have hcj := hcj0 n p (by rw [List.getElem?_append_left hnp]; exact hpn)
            rw [mk_left (b := B) hx.1 hx.2] at hcj
            have hcol := column_any A (by omega) p (by omega) (word_at A p hx.1 hx.2).2.2.1
            obtain ⟨y, hy⟩ : ∃ y, y = mkW A p := ⟨_, rfl⟩
            have hyb : y.b = p := by rw [hy]; rfl
            have hyc : y.c = (lcAt A p).2 := by rw [hy]; rfl
            have hbb : p ≤ 1000 := by omega
            rw [← hyc] at hcol
            rw [← hyb] at hcol hbb
            rw [← hy] at hcl hcj
            clear hc hcj0 hx hy hyb hyc hpn
            obtain ⟨⟨K, S, R, N, n', o⟩, b, l, cc, e9⟩ := y
            simp only [] at hcol hbb
            have HC := hide hcol
            have hal := (Below.refl wr.heap.size wr).alloc (Nat.le_refl _) (.cells #[.int .i64 0, .string ⟨#[]⟩, .int .i32 0, .int .i64 0, .int .i64 0, .int .i64 0, .int .i64 0, .int .i64 0] 34)
            have HB5 := hide ((unhide HB).trans (hal.mono (unhide HB).size))
            have hal2 := (Below.refl wr.heap.size wr).alloc (Nat.le_refl _) (.cells #[.int .i64 K, .string S, .int .i32 R, .int .i64 N, .int .i64 b, .int .i64 l, .int .i64 cc, .int .i64 e9] 34)
            have HB6 := hide ((unhide HB).trans (hal2.mono (unhide HB).size))
            have q0 := (unhide HB5).cell (p := ⟨g, n * 8 + 0, none⟩) hg |>.trans (hcl 0 (.int .i64 K) rfl)
            have q1 := (unhide HB5).cell (p := ⟨g, n * 8 + 1, none⟩) hg |>.trans (hcl 1 (.string S) rfl)
            have q2 := (unhide HB5).cell (p := ⟨g, n * 8 + 2, none⟩) hg |>.trans (hcl 2 (.int .i32 R) rfl)
            have q3 := (unhide HB5).cell (p := ⟨g, n * 8 + 3, none⟩) hg |>.trans (hcl 3 (.int .i64 N) rfl)
            have q4 := (unhide HB5).cell (p := ⟨g, n * 8 + 4, none⟩) hg |>.trans (hcl 4 (.int .i64 b) rfl)
            have q5 := (unhide HB5).cell (p := ⟨g, n * 8 + 5, none⟩) hg |>.trans (hcl 5 (.int .i64 l) rfl)
            have q6 := (unhide HB5).cell (p := ⟨g, n * 8 + 6, none⟩) hg |>.trans (hcl 6 (.int .i64 cc) rfl)
            have q7 := (unhide HB5).cell (p := ⟨g, n * 8 + 7, none⟩) hg |>.trans (hcl 7 (.int .i64 e9) rfl)
            rw [Nat.add_zero] at q0
            have hbox := Blk.new wr #[.int .i64 K, .string S, .int .i32 R, .int .i64 N, .int .i64 b, .int .i64 l, .int .i64 cc, .int .i64 e9] 34
            have r0 := (unhide HB6).cell (p := ⟨gb, n * 8 + 0, none⟩) hgb |>.trans (hcj 0 (.int .i64 K) rfl)
            have r1 := (unhide HB6).cell (p := ⟨gb, n * 8 + 1, none⟩) hgb |>.trans (hcj 1 (.string S) rfl)
            have r2 := (unhide HB6).cell (p := ⟨gb, n * 8 + 2, none⟩) hgb |>.trans (hcj 2 (.int .i32 R) rfl)
            have r3 := (unhide HB6).cell (p := ⟨gb, n * 8 + 3, none⟩) hgb |>.trans (hcj 3 (.int .i64 N) rfl)
            have r4 := (unhide HB6).cell (p := ⟨gb, n * 8 + 4, none⟩) hgb |>.trans (hcj 4 (.int .i64 b) rfl)
            have r5 := (unhide HB6).cell (p := ⟨gb, n * 8 + 5, none⟩) hgb |>.trans (hcj 5 (.int .i64 l) rfl)
            have r6 := (unhide HB6).cell (p := ⟨gb, n * 8 + 6, none⟩) hgb |>.trans (hcj 6 (.int .i64 cc) rfl)
            have r7 := (unhide HB6).cell (p := ⟨gb, n * 8 + 7, none⟩) hgb |>.trans (hcj 7 (.int .i64 e9) rfl)
            rw [Nat.add_zero] at r0
            have HRJ := hide (And.intro r0 (And.intro r1 (And.intro r2 (And.intro r3 (And.intro r4 (And.intro r5 (And.intro r6 r7)))))))
            have HBX := hide hbox
            have hn2 : ((n : Nat) : Int).toNat = n := by omega
            clear hcl hcj hcol hal hal2 hbox r0 r1 r2 r3 r4 r5 r6 r7
            go_wp2_with fail
            clear q0 q1 q2 q3 q4 q5 q6 q7
            generalize wr.alloc (.cells #[.int .i64 K, .string S, .int .i32 R, .int .i64 N, .int .i64 b, .int .i64 l, .int .i64 cc, .int .i64 e9] 34) = W5 at *
            have kv4 := cell_regrown (show W5.cell? _ = some (.int .i64 b) from (unhide HBX).cell 4)
            have kv6 := cell_regrown (show W5.cell? _ = some (.int .i64 cc) from (unhide HBX).cell 6)
            have hcc : ((cc : Int) != (cc : Int)) = false := by simp
            refine wp_region_quiet_below (by kernel_rfl) (by kernel_rfl) ?_
            repeat (go_big_quiet_step (exact Calls.regrown_of (unhide HC _)))
            refine wpQuiet_nil ?_
            intro _ hw'
            obtain ⟨⟨dq, osq⟩, hw''⟩ := hw'
            subst hw''
            have hbr := below_regrown W5 dq osq
            have HB7 := hide ((unhide HB6).trans (hbr.mono (unhide HB6).size))
            have hbx := (unhide HBX).below hbr (unhide HBX).lt
            obtain ⟨r0, r1, r2, r3, r4, r5, r6, r7⟩ := unhide HRJ
            have s0 := (hbr.cell (cell_lt r0)).trans r0
            have s1 := (hbr.cell (cell_lt r1)).trans r1
            have s2 := (hbr.cell (cell_lt r2)).trans r2
            have s3 := (hbr.cell (cell_lt r3)).trans r3
            have s4 := (hbr.cell (cell_lt r4)).trans r4
            have s5 := (hbr.cell (cell_lt r5)).trans r5
            have s6 := (hbr.cell (cell_lt r6)).trans r6
            have s7 := (hbr.cell (cell_lt r7)).trans r7
            have v0 := hbx.cell 0
            have v1 := hbx.cell 1
            have v2 := hbx.cell 2
            have v3 := hbx.cell 3
            have v4 := hbx.cell 4
            have v5 := hbx.cell 5
            have v6 := hbx.cell 6
            have v7 := hbx.cell 7
            clear r0 r1 r2 r3 r4 r5 r6 r7 hbr hbx kv4 kv6 HRJ HBX
            generalize Go.Sort.grow (redrawn W5 dq) osq = W6 at *
            have n0 : ((K : Int) == (K : Int)) = true := by simp
            have n1 : (S.toList == S.toList) = true := by simp
            have n2 : ((R : Int) == (R : Int)) = true := by simp
            have n3 : ((N : Int) == (N : Int)) = true := by simp
            have n4 : ((b : Int) == (b : Int)) = true := by simp
            have n5 : ((l : Int) == (l : Int)) = true := by simp
            have n6 : ((cc : Int) == (cc : Int)) = true := by simp
            have n7 : ((e9 : Int) == (e9 : Int)) = true := by simp
            go_wp2_with fail
            go_quiet (fail)
            have HB8 := hide (below_drewNW (unhide HB7) nq)
            go_wp2_with fail
            go_roundw
            case rel => exact ⟨n + 1, by omega, by go_num, HB8⟩
            case measure => simp [intOf]; omega
          · have hnp' : ¬ (n : Int) < (ps.length : Int) := by omega
            obtain ⟨d, hd⟩ : ∃ d, n = ps.length + d := ⟨n - ps.length, by omega⟩
            have hdi : (n : Int) - (ps.length : Int) = (d : Int) := by omega
            have hdq : d < qs.length := by omega
            have hdq' : (d : Int) < (qs.length : Int) := by omega
            have hd2 : ((d : Nat) : Int).toNat = d := by omega
            obtain ⟨p, hpn⟩ : ∃ p, qs[d]? = some p := ⟨_, List.getElem?_eq_getElem hdq⟩
            obtain ⟨g, rfl, hg, hc⟩ := unhide HM4 (by omega)
            obtain ⟨gb, rfl, hgb, hcj0⟩ := unhide HJ4 (by rw [List.length_append, List.length_map]; omega)
            have hx := cutP_mem B _ 0 qs (Nat.zero_le _) hq p (List.mem_of_getElem? hpn)
            have hcl := hc d p hpn
            have hcj := hcj0 n (A.size + 1 + p) (by rw [List.getElem?_append_right (by omega), hd, Nat.add_sub_cancel_left, List.getElem?_map, hpn]; rfl)
            rw [mk_right (a := A) (show p ≤ B.size by omega), ← unhide HCL] at hcj
            have hwe := (word_at B p hx.1 hx.2).2.1
            obtain ⟨y, hy⟩ : ∃ y, y = mkW B p := ⟨_, rfl⟩
            have hyb : y.b ≤ 1000 := by rw [hy]; show p ≤ 1000; omega
            have hye : y.e ≤ 1000 := by rw [hy]; show p + _ ≤ 1000; omega
            have hyl : y.l ≤ 1001 := by
              rw [hy]
              show (lcAt B p).1 ≤ 1001
              unfold lcAt
              rw [lcR_line]
              have h1 := List.count_le_length (a := (10 : Int)) (l := runesL (B.extract 0 p))
              have h2 := runesL_length (B.extract 0 p)
              have h3 := starts_length (B.extract 0 p)
              rw [ByteArray.size_extract] at h3
              show 1 + _ ≤ _
              omega
            rw [← hy] at hcl hcj
            clear hc hcj0 hx hy hpn hd hwe
            obtain ⟨⟨K, S, R, N, n', o⟩, b, l, cc, e9⟩ := y
            simp only [] at hyb hye hyl
            obtain ⟨t1, ht1⟩ : ∃ t1 : Nat, t1 = b + A.size := ⟨_, rfl⟩
            obtain ⟨bz, hbz⟩ : ∃ bz : Nat, bz = b + A.size + 1 := ⟨_, rfl⟩
            obtain ⟨t2, ht2⟩ : ∃ t2 : Nat, t2 = e9 + A.size := ⟨_, rfl⟩
            obtain ⟨ez, hez⟩ : ∃ ez : Nat, ez = e9 + A.size + 1 := ⟨_, rfl⟩
            obtain ⟨lz, hlz⟩ : ∃ lz : Nat, lz = l + c := ⟨_, rfl⟩
            simp only [← hbz, ← hez, ← hlz] at hcj
            have i1 : (b : Int) + (A.size : Int) = (t1 : Int) := by omega
            have i2 : (t1 : Int) + 1 = (bz : Int) := by omega
            have i3 : (e9 : Int) + (A.size : Int) = (t2 : Int) := by omega
            have i4 : (t2 : Int) + 1 = (ez : Int) := by omega
            have i5 : (l : Int) + (c : Int) = (lz : Int) := by omega
            have j1 : t1 ≤ 3000 := by omega
            have j2 : t2 ≤ 3000 := by omega
            have j3 : lz ≤ 3000 := by omega
            have j4 : bz ≤ 3000 := by omega
            have j5 : ez ≤ 3000 := by omega
            clear ht1 hbz ht2 hez hlz
            have hal := (Below.refl wr.heap.size wr).alloc (Nat.le_refl _) (.cells #[.int .i64 0, .string ⟨#[]⟩, .int .i32 0, .int .i64 0, .int .i64 0, .int .i64 0, .int .i64 0, .int .i64 0] 34)
            have HB5 := hide ((unhide HB).trans (hal.mono (unhide HB).size))
            have q0 := (unhide HB5).cell (p := ⟨g, d * 8 + 0, none⟩) hg |>.trans (hcl 0 (.int .i64 K) rfl)
            have q1 := (unhide HB5).cell (p := ⟨g, d * 8 + 1, none⟩) hg |>.trans (hcl 1 (.string S) rfl)
            have q2 := (unhide HB5).cell (p := ⟨g, d * 8 + 2, none⟩) hg |>.trans (hcl 2 (.int .i32 R) rfl)
            have q3 := (unhide HB5).cell (p := ⟨g, d * 8 + 3, none⟩) hg |>.trans (hcl 3 (.int .i64 N) rfl)
            have q4 := (unhide HB5).cell (p := ⟨g, d * 8 + 4, none⟩) hg |>.trans (hcl 4 (.int .i64 b) rfl)
            have q5 := (unhide HB5).cell (p := ⟨g, d * 8 + 5, none⟩) hg |>.trans (hcl 5 (.int .i64 l) rfl)
            have q6 := (unhide HB5).cell (p := ⟨g, d * 8 + 6, none⟩) hg |>.trans (hcl 6 (.int .i64 cc) rfl)
            have q7 := (unhide HB5).cell (p := ⟨g, d * 8 + 7, none⟩) hg |>.trans (hcl 7 (.int .i64 e9) rfl)
            rw [Nat.add_zero] at q0
            have hbox := Blk.new wr #[.int .i64 K, .string S, .int .i32 R, .int .i64 N, .int .i64 b, .int .i64 l, .int .i64 cc, .int .i64 e9] 34
            have HJC := hide (And.intro hgb hcj)
            have HBX := hide hbox
            clear hcl hcj hal hbox
            go_wp2_with fail
            clear q0 q1 q2 q3 q4 q5 q6 q7 i1 i2 i3 i4 i5
            have hal2 := (Below.refl wr.heap.size wr).alloc (Nat.le_refl _) (.cells #[.int .i64 K, .string S, .int .i32 R, .int .i64 N, .int .i64 bz, .int .i64 lz, .int .i64 cc, .int .i64 ez] 34)
            have HB7 := hide ((unhide HB).trans (hal2.mono (unhide HB).size))
            have hbx := Blk.new wr #[.int .i64 K, .string S, .int .i32 R, .int .i64 N, .int .i64 bz, .int .i64 lz, .int .i64 cc, .int .i64 ez] 34
            have s0 := (unhide HB7).cell (p := ⟨gb, n * 8 + 0, none⟩) (unhide HJC).1 |>.trans ((unhide HJC).2 0 (.int .i64 K) rfl)
            have s1 := (unhide HB7).cell (p := ⟨gb, n * 8 + 1, none⟩) (unhide HJC).1 |>.trans ((unhide HJC).2 1 (.string S) rfl)
            have s2 := (unhide HB7).cell (p := ⟨gb, n * 8 + 2, none⟩) (unhide HJC).1 |>.trans ((unhide HJC).2 2 (.int .i32 R) rfl)
            have s3 := (unhide HB7).cell (p := ⟨gb, n * 8 + 3, none⟩) (unhide HJC).1 |>.trans ((unhide HJC).2 3 (.int .i64 N) rfl)
            have s4 := (unhide HB7).cell (p := ⟨gb, n * 8 + 4, none⟩) (unhide HJC).1 |>.trans ((unhide HJC).2 4 (.int .i64 bz) rfl)
            have s5 := (unhide HB7).cell (p := ⟨gb, n * 8 + 5, none⟩) (unhide HJC).1 |>.trans ((unhide HJC).2 5 (.int .i64 lz) rfl)
            have s6 := (unhide HB7).cell (p := ⟨gb, n * 8 + 6, none⟩) (unhide HJC).1 |>.trans ((unhide HJC).2 6 (.int .i64 cc) rfl)
            have s7 := (unhide HB7).cell (p := ⟨gb, n * 8 + 7, none⟩) (unhide HJC).1 |>.trans ((unhide HJC).2 7 (.int .i64 ez) rfl)
            rw [Nat.add_zero] at s0
            have v0 := hbx.cell 0
            have v1 := hbx.cell 1
            have v2 := hbx.cell 2
            have v3 := hbx.cell 3
            have v4 := hbx.cell 4
            have v5 := hbx.cell 5
            have v6 := hbx.cell 6
            have v7 := hbx.cell 7
            clear hal2 hbx HJC HBX
            generalize wr.alloc (.cells #[.int .i64 K, .string S, .int .i32 R, .int .i64 N, .int .i64 bz, .int .i64 lz, .int .i64 cc, .int .i64 ez] 34) = W6 at *
            have hn2 : ((n : Nat) : Int).toNat = n := by omega
            have n0 : ((K : Int) == (K : Int)) = true := by simp
            have n1 : (S.toList == S.toList) = true := by simp
            have n2 : ((R : Int) == (R : Int)) = true := by simp
            have n3 : ((N : Int) == (N : Int)) = true := by simp
            have n4 : ((bz : Int) == (bz : Int)) = true := by simp
            have n5 : ((lz : Int) == (lz : Int)) = true := by simp
            have n6 : ((cc : Int) == (cc : Int)) = true := by simp
            have n7 : ((ez : Int) == (ez : Int)) = true := by simp
            go_quiet (fail)
            have HB8 := hide (below_drewNW (unhide HB7) nq)
            go_wp2_with fail
            go_roundw
            case rel => exact ⟨n + 1, by omega, by go_num, HB8⟩
            case measure => simp [intOf]; omega
        · have hnl' : ¬ (n : Int) < ((ps.length : Int) + (qs.length : Int)) := by omega
          have hrows := Blk.new wr #[.string ⟨#[32]⟩, .string ⟨#[9]⟩, .string ⟨#[13, 10]⟩, .string ⟨#[35, 195, 169, 32, 125, 32, 120, 10]⟩, .string ⟨#[35, 32, 10, 10]⟩, .string ⟨#[10]⟩] 9
          have halr := (Below.refl wr.heap.size wr).alloc (Nat.le_refl _) (.cells #[.string ⟨#[32]⟩, .string ⟨#[9]⟩, .string ⟨#[13, 10]⟩, .string ⟨#[35, 195, 169, 32, 125, 32, 120, 10]⟩, .string ⟨#[35, 32, 10, 10]⟩, .string ⟨#[10]⟩] 9)
          have hB5 := (unhide HB).trans (halr.mono (unhide HB).size)
          have HL5 := hide ((unhide HL4).below hB5 (Nat.le_refl _))
          have HB5 := hide ((unhide HB4).trans (hB5.mono (unhide HB4).size))
          have HRW := hide (fun y (hy : y < 6) => (hrows.cell y).trans (rows_at y hy))
          clear hrows halr hB5
          go_wp2_with fail
          generalize wr.alloc (.cells #[.string ⟨#[32]⟩, .string ⟨#[9]⟩, .string ⟨#[13, 10]⟩, .string ⟨#[35, 195, 169, 32, 125, 32, 120, 10]⟩, .string ⟨#[35, 32, 10, 10]⟩, .string ⟨#[10]⟩] 9) = W5 at *
          go_loopw [21, 22, 23] (fun s i _ wr2 => ∃ j : Nat, j ≤ ps.length ∧ i = .int .i64 j ∧ s = .string (fillT A (Lf ps len zs j)) ∧ Hz ((fillT A (Lf ps len zs j)).size ≤ 1008 * j) ∧ ∃ q, wr2 = W5.drewN q) (fun _ i _ _ => ps.length - (intOf i).toNat)
          case atStart => exact ⟨0, by omega, rfl, rfl, hide (Nat.zero_le _), 0, rfl⟩
          case round =>
            obtain ⟨j, hj, rfl, rfl, HTS, q, rfl⟩ := hrel
            by_cases hjp : j < ps.length
            · have hjp' : (j : Int) < (ps.length : Int) := by omega
              have hj2 : ((j : Nat) : Int).toNat = j := by omega
              obtain ⟨p, hpn⟩ : ∃ p, ps[j]? = some p := ⟨_, List.getElem?_eq_getElem hjp⟩
              obtain ⟨g, rfl, hg, hc⟩ := unhide HL5 (by omega)
              have hx := cutP_mem A _ 0 ps (Nat.zero_le _) hp p (List.mem_of_getElem? hpn)
              have hwa := word_at A p hx.1 hx.2
              have hcl := hc j p hpn
              have q4 := hcl 4 (.int .i64 p) rfl
              have q7 := hcl 7 (.int .i64 ((p + (wordV (rst A p)).n : Nat) : Int)) rfl
              have hnext : fillT A (Lf ps len zs (j + 1)) = fillT A (Lf ps len zs j) ++ fl len zs j ++ A.extract p (p + (wordV (rst A p)).n) := by
                rw [Lf_succ, fillT_snoc]
                have : ps.getD j 0 = p := by simp [List.getD, hpn]
                rw [this]
                rfl
              obtain ⟨e9, he9⟩ : ∃ e9, e9 = p + (wordV (rst A p)).n := ⟨_, rfl⟩
              rw [← he9] at q7 hnext hwa
              have hpe : (p : Int) ≤ (e9 : Int) := by omega
              have heA : (e9 : Int) ≤ (A.size : Int) := by omega
              have hpt : ((p : Nat) : Int).toNat = p := by omega
              have het : ((e9 : Nat) : Int).toNat = e9 := by omega
              have hrs := fills_size _ (fl_mem len zs j)
              have hTs : (fillT A (Lf ps len zs j)).size ≤ 1008000 := by have := unhide HTS; omega
              have HTS2 : Hz ((fillT A (Lf ps len zs (j + 1))).size ≤ 1008 * (j + 1)) := hide (by rw [hnext, ByteArray.size_append, ByteArray.size_append, ByteArray.size_extract]; have := unhide HTS; omega)
              have hxs9 : (A.extract p e9).size ≤ 1000 := by rw [ByteArray.size_extract]; omega
              have HNX := hide hnext
              generalize fillT A (Lf ps len zs j) = T at *
              clear hc hcl hnext he9 hx hwa hpn
              by_cases hl0 : len = 0
              · have hl0' : ¬ (0 : Int) < (len : Int) := by omega
                have hfl : fl len zs j = ⟨#[32]⟩ := by unfold fl; rw [if_pos hl0]
                rw [hfl] at HNX hrs
                clear hfl hl0
                go_wp2_with fail
                go_quiet (fail)
                go_wp2_with fail
                go_roundw
                case rel => exact ⟨j + 1, by omega, by go_num, by rw [unhide HNX], HTS2, _, rfl⟩
                case measure => simp [intOf]; omega
              · have hl0' : (0 : Int) < (len : Int) := by omega
                obtain ⟨hlc, hzc, hwf, hcell⟩ := unhide HR
                obtain ⟨ga, oa, rfl, hga, hcl⟩ := hcell (by omega)
                have hxl : j % len < len := Nat.mod_lt _ (by omega)
                have hrem1 : Int.tmod (j : Int) (len : Int) = ((j % len : Nat) : Int) := rfl
                have hfl : fl len zs j = fills.getD ((zs.getD (j % len) 0).toNat % 6) ⟨#[32]⟩ := by unfold fl; rw [if_neg hl0]
                have hq0 := ((unhide HB5).cell (p := ⟨ga, oa + j % len, none⟩) hga).trans (hcl (j % len) (by omega))
                have hzm : zs.getD (j % len) 0 ∈ zs := by
                  rw [List.getD_eq_getElem?_getD, List.getElem?_eq_getElem (by omega)]
                  exact List.getElem_mem _
                generalize j % len = x at *
                generalize zs.getD x 0 = z at *
                have hzw : 0 ≤ z ∧ z ≤ 255 := by
                  have := hwf _ hzm
                  have h1 : IntKind.u8.min = 0 := by decide
                  have h2 : IntKind.u8.max = 255 := by decide
                  simp [Lit.wf] at this
                  omega
                obtain ⟨zn, rfl⟩ : ∃ zn : Nat, z = zn := ⟨z.toNat, by omega⟩
                rw [Int.toNat_natCast] at hfl
                have hy6 : zn % 6 < 6 := Nat.mod_lt _ (by decide)
                have hrem2 : Int.tmod (zn : Int) 6 = ((zn % 6 : Nat) : Int) := rfl
                have hq1 := unhide HRW (zn % 6) hy6
                rw [← hfl] at hq1
                generalize zn % 6 = y at *
                generalize fl len zs j = r at *
                have hx' : (x : Int) < (len : Int) := by omega
                have hx2 : ((x : Nat) : Int).toNat = x := by omega
                have hy' : (y : Int) < 6 := by omega
                have hy2 : ((y : Nat) : Int).toNat = y := by omega
                have hzb : (zn : Int) ≤ 255 := by omega
                clear hcl hcell hwf hfl hga hzw hzm
                go_wp2_with fail
                go_quiet (fail)
                go_wp2_with fail
                go_roundw
                case rel => exact ⟨j + 1, by omega, by go_num, by rw [unhide HNX], HTS2, _, rfl⟩
                case measure => simp [intOf]; omega
            · have hjp' : ¬ (j : Int) < (ps.length : Int) := by omega
              obtain rfl : j = ps.length := by omega
              have hsz := Lf_size hA hp len zs
              obtain ⟨xs, hxs, hxl, hxw⟩ := pos_fill A (Lf ps len zs ps.length) (Lf_ok hp len zs)
              rw [Lf_length] at hxl
              have hat := fun i p h => Lf_at ps len zs i p h
              have hxm := fun x hx => cutP_mem (fillT A (Lf ps len zs ps.length)) _ 0 xs (Nat.zero_le _) hxs x hx
              have HW4 := hide (fun w hE => words_at (fillT A (Lf ps len zs ps.length)) hsz xs hxs m w hE)
              generalize Lf ps len zs ps.length = LL at *
              generalize fillT A LL = T at *
              rw [hxl] at HW4
              have HXW := hide (And.intro hxw hat)
              have HXM := hide (And.intro hxm (And.intro hsz hxl))
              have HB9 := hide (below_drewNW (unhide HB5) q)
              have HL9 : Hz (RowJ (W5.drewN q) la A ps) := hide (unhide HL5)
              generalize W5.drewN q = W7 at *
              clear hxw hat hsz hxs hxm hxl
              go_wp2_with fail
              refine (unhide HW4 _ ((unhide HE).below (unhide HB9) (Nat.le_refl _))).mono ?_
              rintro e w8 ⟨xa, xc, rfl, hrx, hb⟩
              have hb' := below_at hb
              have HB10 := hide ((unhide HB9).trans (hb'.mono (unhide HB9).size))
              have HL10 := hide ((unhide HL9).below hb' (Nat.le_refl _))
              have HX10 := hide (hrx.below ((Below.refl w8.heap.size w8).alloc (Nat.le_refl _) At0) (Nat.le_refl _))
              have hnn : (((ps.length : Nat) : Int) != ((ps.length : Nat) : Int)) = false := by simp
              clear hrx hb hb'
              go_wp2_with fail
              generalize w8.alloc (.cells #[.int .i64 0, .int .i64 0, .int .i64 0] 25) = W9 at *
              go_loopw [26] (fun i wr2 => ∃ j : Nat, j ≤ ps.length ∧ i = .int .i64 j ∧ Hz (Below W9.heap.size W9 wr2)) (fun i _ => ps.length - (intOf i).toNat)
              case atStart => exact ⟨0, by omega, rfl, hide (Below.refl _ _)⟩
              case round =>
                obtain ⟨j, hj, rfl, HB11⟩ := hrel
                by_cases hjp : j < ps.length
                · have hjp2 : (j : Int) < (ps.length : Int) := by omega
                  have hj2 : ((j : Nat) : Int).toNat = j := by omega
                  obtain ⟨p, hpn⟩ : ∃ p, ps[j]? = some p := ⟨_, List.getElem?_eq_getElem hjp⟩
                  obtain ⟨x, hxn⟩ : ∃ x, xs[j]? = some x := ⟨_, List.getElem?_eq_getElem (by have := (unhide HXM).2.2; omega)⟩
                  have hv := (unhide HXW).1 j x _ hxn ((unhide HXW).2 j p hpn)
                  have hxb := (unhide HXM).1 x (List.mem_of_getElem? hxn)
                  have hxe := (word_at T x hxb.1 hxb.2).2.1
                  have hTz := (unhide HXM).2.1
                  have hpb := cutP_mem A _ 0 ps (Nat.zero_le _) hp p (List.mem_of_getElem? hpn)
                  have hpe := (word_at A p hpb.1 hpb.2).2.1
                  obtain ⟨g, rfl, hg, hc⟩ := unhide HL10 (by omega)
                  obtain ⟨gx, rfl, hgx, hcx⟩ := unhide HX10 (by have := (unhide HXM).2.2; omega)
                  have hcl := hc j p hpn
                  have hcxl := hcx j x hxn
                  have e1 : wdCells (mkW T x) = wdCells ⟨wordV (rst A p), x, (lcAt T x).1, (lcAt T x).2, x + (wordV (rst A p)).n⟩ := by unfold mkW; rw [hv]
                  have e2 : wdCells (mkW A p) = wdCells ⟨wordV (rst A p), p, (lcAt A p).1, (lcAt A p).2, p + (wordV (rst A p)).n⟩ := rfl
                  simp only [e1] at hcxl
                  simp only [e2] at hcl
                  simp only [hv] at hxe
                  clear hc hcx e1 e2 hv hpn hxn
                  generalize wordV (rst A p) = V at *
                  obtain ⟨K, S, R, N, nn, o⟩ := V
                  simp only [] at hxe hpe
                  obtain ⟨ex, hex⟩ : ∃ ex, ex = x + nn := ⟨_, rfl⟩
                  obtain ⟨ep, hep⟩ : ∃ ep, ep = p + nn := ⟨_, rfl⟩
                  simp only [← hex] at hcxl
                  simp only [← hep] at hcl
                  have d1 : (ex : Int) - (x : Int) = (nn : Int) := by omega
                  have d2 : (ep : Int) - (p : Int) = (nn : Int) := by omega
                  have d3 : ex ≤ 262144 := by omega
                  have d4 : ep ≤ 1000 := by omega
                  have d5 : nn ≤ 1000 := by omega
                  have d6 : x ≤ 262144 := by omega
                  have d7 : p ≤ 1000 := by omega
                  have q0 := (unhide HB11).cell (p := ⟨g, j * 8 + 0, none⟩) hg |>.trans (hcl 0 (.int .i64 K) rfl)
                  have r0 := (unhide HB11).cell (p := ⟨gx, j * 8 + 0, none⟩) hgx |>.trans (hcxl 0 (.int .i64 K) rfl)
                  have q1 := (unhide HB11).cell (p := ⟨g, j * 8 + 1, none⟩) hg |>.trans (hcl 1 (.string S) rfl)
                  have r1 := (unhide HB11).cell (p := ⟨gx, j * 8 + 1, none⟩) hgx |>.trans (hcxl 1 (.string S) rfl)
                  have q2 := (unhide HB11).cell (p := ⟨g, j * 8 + 2, none⟩) hg |>.trans (hcl 2 (.int .i32 R) rfl)
                  have r2 := (unhide HB11).cell (p := ⟨gx, j * 8 + 2, none⟩) hgx |>.trans (hcxl 2 (.int .i32 R) rfl)
                  have q3 := (unhide HB11).cell (p := ⟨g, j * 8 + 3, none⟩) hg |>.trans (hcl 3 (.int .i64 N) rfl)
                  have r3 := (unhide HB11).cell (p := ⟨gx, j * 8 + 3, none⟩) hgx |>.trans (hcxl 3 (.int .i64 N) rfl)
                  have q4 := (unhide HB11).cell (p := ⟨g, j * 8 + 4, none⟩) hg |>.trans (hcl 4 (.int .i64 p) rfl)
                  have r4 := (unhide HB11).cell (p := ⟨gx, j * 8 + 4, none⟩) hgx |>.trans (hcxl 4 (.int .i64 x) rfl)
                  have q7 := (unhide HB11).cell (p := ⟨g, j * 8 + 7, none⟩) hg |>.trans (hcl 7 (.int .i64 ep) rfl)
                  have r7 := (unhide HB11).cell (p := ⟨gx, j * 8 + 7, none⟩) hgx |>.trans (hcxl 7 (.int .i64 ex) rfl)
                  rw [Nat.add_zero] at q0 r0
                  have n0 : ((K : Int) != (K : Int)) = false := by simp
                  have n1 : (S.toList != S.toList) = false := by simp
                  have n2 : ((R : Int) != (R : Int)) = false := by simp
                  have n3 : ((N : Int) != (N : Int)) = false := by simp
                  have n4 : ((nn : Int) != (nn : Int)) = false := by simp
                  clear hcl hcxl hxb hpb hxe hpe hTz hex hep
                  go_wp2_with fail
                  have kq0 := cell_regrown (show wr.cell? _ = some _ from q0)
                  have kr0 := cell_regrown (show wr.cell? _ = some _ from r0)
                  have kq1 := cell_regrown (show wr.cell? _ = some _ from q1)
                  have kr1 := cell_regrown (show wr.cell? _ = some _ from r1)
                  have kq2 := cell_regrown (show wr.cell? _ = some _ from q2)
                  have kr2 := cell_regrown (show wr.cell? _ = some _ from r2)
                  have kq3 := cell_regrown (show wr.cell? _ = some _ from q3)
                  have kr3 := cell_regrown (show wr.cell? _ = some _ from r3)
                  have kq4 := cell_regrown (show wr.cell? _ = some _ from q4)
                  have kr4 := cell_regrown (show wr.cell? _ = some _ from r4)
                  have kq7 := cell_regrown (show wr.cell? _ = some _ from q7)
                  have kr7 := cell_regrown (show wr.cell? _ = some _ from r7)
                  clear q0 q1 q2 q3 q4 q7 r0 r1 r2 r3 r4 r7
                  refine wp_region_quiet_below (by kernel_rfl) (by kernel_rfl) ?_
                  simp only [List.append]
                  repeat (go_big_quiet_step (fail))
                  refine wpQuiet_nil ?_
                  intro _ hw'
                  obtain ⟨⟨dq, osq⟩, hw''⟩ := hw'
                  subst hw''
                  have HB14 := hide ((unhide HB11).trans ((below_regrown wr dq osq).mono (unhide HB11).size))
                  clear kq0 kq1 kq2 kq3 kq4 kq7 kr0 kr1 kr2 kr3 kr4 kr7
                  generalize Go.Sort.grow (redrawn wr dq) osq = W12 at *
                  go_wp2_with fail
                  go_roundw
                  case rel => exact ⟨j + 1, by omega, by go_num, HB14⟩
                  case measure => simp [intOf]; omega
                · have hjp2 : ¬ (j : Int) < (ps.length : Int) := by omega
                  have HB12 := hide ((unhide HB10).trans ((unhide HB11).mono (unhide HB10).size))
                  go_wp2_with fail
                  refine (known_any m _ ((unhide HE).below (unhide HB12) (Nat.le_refl _))).mono ?_
                  rintro e w9 ⟨rfl, hb⟩
                  have HB13 := hide ((unhide HB12).trans (hb.mono (unhide HB12).size))
                  clear hb
                  go_wp2_with fail
                  go_ret
                  exact ⟨rfl, unhide HB13⟩
end Go.Proofs.YtcnhkhjkeemafaaDoor
/- ScanJoins: the law. -/
namespace Go.Proofs.YtcnhkhjkeemafaaDoor
open Go.RowKit Go.Shelf
set_option linter.unusedVariables false
set_option maxRecDepth 100000 in
set_option maxHeartbeats 8000000 in
theorem joins_no1 (A B : ByteArray) (hA : A.size ≤ 1000) (hB : B.size ≤ 1000) (hp : posV A = none) (src src2 : ByteArray) (hs1 : src.size ≤ maxLen) (hs2 : src2.size ≤ maxLen) (e1 : fewV src 1000 = A) (e2 : fewV src2 1000 = B)
    (fa : Option Addr) (len cap : Nat) (m : Int) (w : World) (hE : Env m w) : Calls Tryd.prog 4 #[.string src, .string src2, .slice fa len cap] w fun e w' => e = .returned (.bool true) ∧ Below w.heap.size w w' := by
  have hF1 := few_any src hs1 1000 (by decide) w
  have hF2 := few_any src2 hs2 1000 (by decide) w
  rw [e1] at hF1
  rw [e2] at hF2
  have hW1 := fun w hE => words_bad A (by omega) hp m w hE
  have hW2 := fun w (hE : Env m w) => words_q B (by omega) m w hE
  have H1 := hide hF1
  have H2 := hide hF2
  have HW1 := hide hW1
  have HW2 := hide hW2
  have HE := hide hE
  clear hF1 hF2 hW1 hW2 hE e1 e2
  go_enter Tryd.func4, Tryd.ntmps4
  go_wp2_with fail
  refine (unhide H1).mono ?_
  rintro e w1 ⟨rfl, rfl⟩
  go_wp2_with fail
  refine (unhide H2).mono ?_
  rintro e w1 ⟨rfl, rfl⟩
  go_wp2_with fail
  refine (unhide HW1 _ (unhide HE)).mono ?_
  rintro e w2 ⟨x0, x1, x2, c, rfl, hc, hb⟩
  have HB2 := hide (hb.alloc hb.size (.cells #[.int .i64 x0, .int .i64 x1, .int .i64 x2] 25))
  have hc0 : (c != 0) = true := by rcases hc with rfl | rfl <;> decide
  clear hb hc
  go_wp2_with fail
  refine (unhide HW2 _ ((unhide HE).below (unhide HB2) (Nat.le_refl _))).mono ?_
  rintro e w3 ⟨ma, mn, mc, y0, y1, y2, d, rfl, hb⟩
  have hb2 := hb.alloc hb.size (.cells #[.int .i64 y0, .int .i64 y1, .int .i64 y2] 25)
  have HB3 := hide ((unhide HB2).trans (hb2.mono (unhide HB2).size))
  clear hb hb2
  go_wp2_with fail
  refine (known_any m _ ((unhide HE).below (unhide HB3) (Nat.le_refl _))).mono ?_
  rintro e w4 ⟨rfl, hb⟩
  have HB4 := hide ((unhide HB3).trans (hb.mono (unhide HB3).size))
  clear hb
  go_wp2_with fail
  go_ret
  exact ⟨rfl, unhide HB4⟩
set_option maxRecDepth 100000 in
set_option maxHeartbeats 8000000 in
theorem joins_no2 (A B : ByteArray) (hA : A.size ≤ 1000) (hB : B.size ≤ 1000) (ps : List Nat) (hp : posV A = some ps) (hq : posV B = none) (src src2 : ByteArray) (hs1 : src.size ≤ maxLen) (hs2 : src2.size ≤ maxLen) (e1 : fewV src 1000 = A) (e2 : fewV src2 1000 = B)
    (fa : Option Addr) (len cap : Nat) (m : Int) (w : World) (hE : Env m w) : Calls Tryd.prog 4 #[.string src, .string src2, .slice fa len cap] w fun e w' => e = .returned (.bool true) ∧ Below w.heap.size w w' := by
  have hF1 := few_any src hs1 1000 (by decide) w
  have hF2 := few_any src2 hs2 1000 (by decide) w
  rw [e1] at hF1
  rw [e2] at hF2
  have hW1 := fun w hE => words_at A (by omega) ps hp m w hE
  have hW2 := fun w (hE : Env m w) => words_bad B (by omega) hq m w hE
  have H1 := hide hF1
  have H2 := hide hF2
  have HW1 := hide hW1
  have HW2 := hide hW2
  have HE := hide hE
  clear hF1 hF2 hW1 hW2 hE e1 e2
  go_enter Tryd.func4, Tryd.ntmps4
  go_wp2_with fail
  refine (unhide H1).mono ?_
  rintro e w1 ⟨rfl, rfl⟩
  go_wp2_with fail
  refine (unhide H2).mono ?_
  rintro e w1 ⟨rfl, rfl⟩
  go_wp2_with fail
  refine (unhide HW1 _ (unhide HE)).mono ?_
  rintro e w2 ⟨la, lc, rfl, _, hb⟩
  have HB2 := hide (hb.alloc hb.size (.cells #[.int .i64 0, .int .i64 0, .int .i64 0] 25))
  clear hb
  go_wp2_with fail
  refine (unhide HW2 _ ((unhide HE).below (unhide HB2) (Nat.le_refl _))).mono ?_
  rintro e w3 ⟨y0, y1, y2, d, rfl, hd, hb⟩
  have hb2 := hb.alloc hb.size (.cells #[.int .i64 y0, .int .i64 y1, .int .i64 y2] 25)
  have HB3 := hide ((unhide HB2).trans (hb2.mono (unhide HB2).size))
  have hd0 : (d != 0) = true := by rcases hd with rfl | rfl <;> decide
  clear hb hb2 hd
  go_wp2_with fail
  refine (known_any m _ ((unhide HE).below (unhide HB3) (Nat.le_refl _))).mono ?_
  rintro e w4 ⟨rfl, hb⟩
  have HB4 := hide ((unhide HB3).trans (hb.mono (unhide HB3).size))
  clear hb
  go_wp2_with fail
  go_ret
  exact ⟨rfl, unhide HB4⟩
theorem law_scanjoins (src : ByteArray) (hs1 : src.size ≤ maxLen) (src2 : ByteArray) (hs2 : src2.size ≤ maxLen) (fa : Option Addr) (len cap : Nat) (zs : List Int) (m : Int) (w : World) (hE : Env m w) (hR : ArgRow .u8 w fa len cap zs) : Calls Tryd.prog 4 #[.string src, .string src2, .slice fa len cap] w fun e w' => e = .returned (.bool true) ∧ Below w.heap.size w w' := by
  have hA := fewV_size src 1000
  have hB := fewV_size src2 1000
  cases hp : posV (fewV src 1000) with
  | none => exact joins_no1 _ _ hA hB hp src src2 hs1 hs2 rfl rfl fa len cap m w hE
  | some ps =>
    cases hq : posV (fewV src2 1000) with
    | none => exact joins_no2 _ _ hA hB ps hp hq src src2 hs1 hs2 rfl rfl fa len cap m w hE
    | some qs => exact joins_yes _ _ hA hB ps qs hp hq src src2 hs1 hs2 rfl rfl fa len cap zs m w hE hR
end Go.Proofs.YtcnhkhjkeemafaaDoor
