/- Texts of this claim, one behind the other. -/
import Derived.Test.YtjgfmobmilgapaaGreatDoorM13
import Derived.Test.YtjgfmobmilgapaaGreatDoorShD
import Derived.Lib.ItoaLen
import Derived.Lib.AppendIntMem
/- The printer of tables: spans. -/
namespace Go.Proofs.YtjgfmobmilgapaaGreatDoor
open Go.RowKit Go.Shelf
set_option linter.unusedVariables false
def RowC (W : World) (hi : Nat) (a : Option Addr) (xs : List Value) : Prop := 0 < xs.length → ∃ g o, a = some ⟨g, o, none⟩ ∧ g < hi ∧ ∀ j u, xs[j]? = some u → W.cell? ⟨g, o + j, none⟩ = some u
theorem RowC.kept {W W' : World} {lo N : Nat} {a : Option Addr} {xs : List Value} (h : RowC W N a xs) (hl : N < lo) (hf : Fr lo N N W W') : RowC W' N a xs := by
  intro h0
  obtain ⟨g, o, h1, h2, h3⟩ := h h0
  exact ⟨g, o, h1, h2, fun j u hu => hf.cell (by omega) (by omega) (by omega) (h3 j u hu)⟩
theorem fold_take {α β : Type} (f : β → α → β) (b : β) (l : List α) (j : Nat) (x : α) (hx : l[j]? = some x) : (l.take (j + 1)).foldl f b = f ((l.take j).foldl f b) x := by
  have he : l.take (j + 1) = l.take j ++ [x] := by
    rw [List.take_add_one, hx]
    rfl
  rw [he, List.foldl_append]
  rfl
theorem encS2_at (l : List (Int × Int)) (j : Nat) (x : Int × Int) (h : l[j]? = some x) : (encS2 l)[j * 2]? = some (.int .i32 x.1) ∧ (encS2 l)[j * 2 + 1]? = some (.int .i32 x.2) := by
  induction l generalizing j with
  | nil => simp at h
  | cons y l ih => cases j with
    | zero => obtain rfl := Option.some.inj h; exact ⟨rfl, rfl⟩
    | succ j => have := ih j (by simpa using h); rw [show (j + 1) * 2 = j * 2 + 1 + 1 by omega]; exact this
def spanP (p : Pn) (s : Int × Int) : Pn := if s.2 = s.1 then runeV p s.1 else runeV (putV (runeV p s.1) [⟨#[46, 46]⟩]) s.2
def spansP (p : Pn) (l : List (Int × Int)) : Pn := lineV (putV (l.foldl spanP (putV p [⟨#[123]⟩])) [⟨#[125]⟩])
set_option maxRecDepth 100000 in
set_option maxHeartbeats 4000000 in
theorem ps_spans (lo N : Nat) (p : Pn) (a : Option Addr) (c : Nat) (l : List (Int × Int)) (hn : l.length ≤ 1000000) (W0 W : World) (h : PS W0 W lo N p) (hr : RowC W N a (encS2 l)) :
    Calls Tryz.prog 58 #[.pointer (some ⟨N, 0, none⟩), .slice a l.length c] W fun e w' => (∃ r, e = .returned r) ∧ PS W0 w' lo N (spansP p l) ∧ PF lo N W w' := by
  obtain ⟨n, hN⟩ : ∃ n, n = l.length := ⟨_, rfl⟩
  rw [← hN]
  have HN := hide hN
  have hn1 : n ≤ 1000000 := by omega
  have HP0 := hide (ps_put lo N p [⟨#[123]⟩] (fun w hw => .inr (by rw [List.mem_singleton.1 hw]; decide)) (by simp) W0 W h)
  have HR := hide hr
  have hlt := h.here.lt
  clear hN hn h hr
  go_enter Tryz.func58, Tryz.ntmps58
  go_wp2_with fail
  refine (show Calls Tryz.prog 57 #[.pointer (some ⟨N, 0, none⟩), .slice (some ⟨W.heap.size, 0, none⟩) 1 1] (W.alloc (.cells #[.string ⟨#[123]⟩] 9)) _ from unhide HP0).mono ?_
  rintro e w1 ⟨⟨r, rfl⟩, h1, hf1⟩
  have H1 := hide (And.intro h1 hf1)
  clear h1 hf1 HP0
  obtain ⟨p1, hp1⟩ : ∃ p1, p1 = putV p [⟨#[123]⟩] := ⟨_, rfl⟩
  rw [← hp1] at H1
  have HS : Hz (spansP p l = lineV (putV (l.foldl spanP p1) [⟨#[125]⟩])) := hide (by rw [hp1]; rfl)
  clear hp1
  have H2 : Hz (PS W0 w1 lo N ((l.take 0).foldl spanP p1) ∧ PF lo N W w1) := H1
  go_wp2_with fail
  go_loopw [5, 11] (fun _ u11 wr => ∃ (j : Nat), u11 = .int .i64 (j : Int) ∧ j ≤ n ∧ Hz (PS W0 wr lo N ((l.take j).foldl spanP p1) ∧ PF lo N W wr)) (fun _ u11 _ => n - cntI u11)
  case atStart => exact ⟨0, rfl, Nat.zero_le _, H2⟩
  case round =>
    obtain ⟨j, rfl, hj, HQ⟩ := hrel
    clear H1 H2
    by_cases hjlt : j < n
    · have hlt2 : (j : Int) < (n : Int) := by omega
      have hj0 : (0 : Int) ≤ (j : Int) := by omega
      obtain ⟨x, hx⟩ : ∃ x, l[j]? = some x := ⟨_, List.getElem?_eq_getElem (by have := unhide HN; omega)⟩
      obtain ⟨g, o, rfl, hg, hcs⟩ := ((unhide HR).kept hlt (unhide HQ).2.fr) (by rw [encS2_length]; have := unhide HN; omega)
      have hat := encS2_at l j x hx
      have d0 : wr.cell? ⟨g, o + j * 2, none⟩ = some (.int .i32 x.1) := hcs _ _ hat.1
      have d1 : wr.cell? ⟨g, o + j * 2 + 1, none⟩ = some (.int .i32 x.2) := by rw [Nat.add_assoc]; exact hcs _ _ hat.2
      have HX := hide (fold_take spanP p1 l j x hx)
      clear hcs hat hx
      obtain ⟨q, hq⟩ : ∃ q, q = (l.take j).foldl spanP p1 := ⟨_, rfl⟩
      rw [← hq] at HQ HX
      clear hq
      obtain ⟨x1, x2⟩ := x
      dsimp only at d0 d1
      have HA := hide ((unhide HQ).1.alloc (.cells #[.int .i32 x1, .int .i32 x2] 68))
      have HBx := hide (Blk.new wr #[.int .i32 x1, .int .i32 x2] 68)
      have hNs : wr.heap.size ≠ N := by have := (unhide HQ).1.here.lw; omega
      have HFA : Hz (PF lo N wr (wr.alloc (.cells #[.int .i32 x1, .int .i32 x2] 68))) := hide (PF.below (unhide HQ).1.here.lw ((Below.refl _ wr).alloc (Nat.le_refl _) _))
      have HR1 := hide (ps_rune lo N q x1 W0 _ (unhide HA))
      go_wp2_with fail
      refine (unhide HR1).mono ?_
      rintro e w2 ⟨⟨r2, rfl⟩, h2, hf2⟩
      have b2 := hf2.kp _ _ _ hNs (by decide) (unhide HBx)
      have k0 := b2.cell 0
      have k1 := b2.cell 1
      have HB2 := hide b2
      have H2 := hide (And.intro h2 ((unhide HFA).trans hf2))
      clear b2 h2 hf2 HR1 HA HBx HFA d0 d1
      by_cases hne : x2 = x1
      · have hne2 : (x2 != x1) = false := by rw [hne]; simp
        have HE : Hz (spanP q (x1, x2) = runeV q x1) := hide (if_pos hne)
        clear hne
        go_wp2_with fail
        go_roundw
        case rel => exact ⟨j + 1, rfl, hjlt, hide (by rw [unhide HX, unhide HE]; exact ⟨(unhide H2).1, (unhide HQ).2.trans (unhide H2).2⟩)⟩
        case measure => show n - ((j : Int) + 1).toNat < n - (j : Int).toNat; omega
      · have hne2 : (x2 != x1) = true := by simp [bne_iff_ne, hne]
        have HE : Hz (spanP q (x1, x2) = runeV (putV (runeV q x1) [⟨#[46, 46]⟩]) x2) := hide (if_neg hne)
        clear hne
        have HP3 := hide (ps_put lo N (runeV q x1) [⟨#[46, 46]⟩] (fun w hw => .inr (by rw [List.mem_singleton.1 hw]; decide)) (by simp) W0 w2 (unhide H2).1)
        go_wp2_with fail
        refine (show Calls Tryz.prog 57 #[.pointer (some ⟨N, 0, none⟩), .slice (some ⟨w2.heap.size, 0, none⟩) 1 1] (w2.alloc (.cells #[.string ⟨#[46, 46]⟩] 9)) _ from unhide HP3).mono ?_
        rintro e w3 ⟨⟨r3, rfl⟩, h3, hf3⟩
        have b3 := hf3.kp _ _ _ hNs (by decide) (unhide HB2)
        have k3 := b3.cell 1
        have H3 := hide (And.intro h3 ((unhide H2).2.trans hf3))
        have HR4 := hide (ps_rune lo N (putV (runeV q x1) [⟨#[46, 46]⟩]) x2 W0 w3 h3)
        clear b3 h3 hf3 HP3 k0 k1
        go_wp2_with fail
        refine (unhide HR4).mono ?_
        rintro e w4 ⟨⟨r4, rfl⟩, h4, hf4⟩
        have H4 := hide (And.intro h4 ((unhide H3).2.trans hf4))
        clear h4 hf4 HR4
        go_wp2_with fail
        go_roundw
        case rel => exact ⟨j + 1, rfl, hjlt, hide (by rw [unhide HX, unhide HE]; exact ⟨(unhide H4).1, (unhide HQ).2.trans (unhide H4).2⟩)⟩
        case measure => show n - ((j : Int) + 1).toNat < n - (j : Int).toNat; omega
    · have hle : ¬ ((j : Int) < (n : Int)) := by omega
      have HJ : Hz (l.take j = l) := hide (by rw [show j = l.length by have := unhide HN; omega]; exact List.take_length)
      rw [unhide HJ] at HQ
      generalize l.foldl spanP p1 = q at *
      have HP3 := hide (ps_put lo N q [⟨#[125]⟩] (fun w hw => .inr (by rw [List.mem_singleton.1 hw]; decide)) (by simp) W0 wr (unhide HQ).1)
      go_wp2_with fail
      refine (show Calls Tryz.prog 57 #[.pointer (some ⟨N, 0, none⟩), .slice (some ⟨wr.heap.size, 0, none⟩) 1 1] (wr.alloc (.cells #[.string ⟨#[125]⟩] 9)) _ from unhide HP3).mono ?_
      rintro e w3 ⟨⟨r3, rfl⟩, h3, hf3⟩
      have HL := hide (ps_line lo N _ W0 w3 h3)
      have HF3 := hide hf3
      clear h3 hf3 HP3
      go_wp2_with fail
      refine (unhide HL).mono ?_
      rintro e w4 ⟨⟨r4, rfl⟩, h4, hf4⟩
      have H4 := hide (And.intro h4 (((unhide HQ).2.trans (unhide HF3)).trans hf4))
      clear h4 hf4
      go_wp2_with fail
      go_end0
      exact ⟨⟨_, rfl⟩, by rw [unhide HS]; exact (unhide H4).1, (unhide H4).2⟩
def listP (p : Pn) (word : ByteArray) (l : List (Int × Int)) : Pn := if l.length = 0 then p else spansP (putV p [word]) l
set_option maxRecDepth 100000 in
set_option maxHeartbeats 4000000 in
theorem ps_list (lo N : Nat) (p : Pn) (word : ByteArray) (hword : word.size ≤ 1000) (a : Option Addr) (c : Nat) (l : List (Int × Int)) (hn : l.length ≤ 1000000) (W0 W : World) (h : PS W0 W lo N p) (hr : RowC W N a (encS2 l)) :
    Calls Tryz.prog 32 #[.pointer (some ⟨N, 0, none⟩), .string word, .slice a l.length c] W fun e w' => (∃ r, e = .returned r) ∧ PS W0 w' lo N (listP p word l) ∧ PF lo N W w' := by
  have H := hide h
  have hlt := h.here.lt
  clear h
  by_cases h0 : l.length = 0
  · have HV : Hz (listP p word l = p) := hide (if_pos h0)
    rw [h0]
    go_enter Tryz.func32, Tryz.ntmps32
    go_wp2_with fail
    go_end0
    exact ⟨⟨_, rfl⟩, by rw [unhide HV]; exact unhide H, PF.refl _ _ _⟩
  · have HV : Hz (listP p word l = spansP (putV p [word]) l) := hide (if_neg h0)
    have HP0 := hide (ps_put lo N p [word] (fun w hw => .inr (by rw [List.mem_singleton.1 hw]; exact hword)) (by simp) W0 W (unhide H))
    have HR := hide hr
    have HS := hide (fun (w : World) => ps_spans lo N (putV p [word]) a c l hn W0 w)
    obtain ⟨n, hN⟩ : ∃ n, n = l.length := ⟨_, rfl⟩
    rw [← hN] at HS
    rw [← hN]
    have hpos : (0 : Int) < (n : Int) := by omega
    clear hN hn h0 hr
    go_enter Tryz.func32, Tryz.ntmps32
    go_wp2_with fail
    refine (show Calls Tryz.prog 57 #[.pointer (some ⟨N, 0, none⟩), .slice (some ⟨W.heap.size, 0, none⟩) 1 1] (W.alloc (.cells #[.string word] 9)) _ from unhide HP0).mono ?_
    rintro e w1 ⟨⟨r, rfl⟩, h1, hf1⟩
    have HS1 := hide (unhide HS w1 h1 ((unhide HR).kept hlt hf1.fr))
    have HF1 := hide hf1
    clear h1 hf1 HP0 HS
    go_wp2_with fail
    refine (unhide HS1).mono ?_
    rintro e w2 ⟨⟨r2, rfl⟩, h2, hf2⟩
    have H2 := hide (And.intro h2 ((unhide HF1).trans hf2))
    clear h2 hf2
    go_wp2_with fail
    go_end0
    exact ⟨⟨_, rfl⟩, by rw [unhide HV]; exact (unhide H2).1, (unhide H2).2⟩
theorem encP3_length (t : List (Int × Int × Int)) : (encP3 t).length = t.length * 3 := by
  induction t with
  | nil => rfl
  | cons x t ih => show (encP3 t).length + 1 + 1 + 1 = (t.length + 1) * 3; omega
theorem encP3_at (l : List (Int × Int × Int)) (j : Nat) (x : Int × Int × Int) (h : l[j]? = some x) : (encP3 l)[j * 3]? = some (.int .i32 x.1) ∧ (encP3 l)[j * 3 + 1]? = some (.int .i32 x.2.1) ∧ (encP3 l)[j * 3 + 2]? = some (.int .i32 x.2.2) := by
  induction l generalizing j with
  | nil => simp at h
  | cons y l ih => cases j with
    | zero => obtain rfl := Option.some.inj h; exact ⟨rfl, rfl, rfl⟩
    | succ j => have := ih j (by simpa using h); rw [show (j + 1) * 3 = j * 3 + 1 + 1 + 1 by omega]; exact this
def pairP (p : Pn) (x : Int × Int × Int) : Pn := lineV (putV (runeV (putV (runeV (putV (runeV (putV p [⟨#[112, 97, 105, 114]⟩]) x.1) [⟨#[61]⟩]) x.2.1) [⟨#[43]⟩]) x.2.2) [⟨#[59]⟩])
set_option maxRecDepth 100000 in
set_option maxHeartbeats 4000000 in
theorem ps_pairs (lo N : Nat) (p : Pn) (a : Option Addr) (c : Nat) (l : List (Int × Int × Int)) (hn : l.length ≤ 1000000) (W0 W : World) (h : PS W0 W lo N p) (hr : RowC W N a (encP3 l)) :
    Calls Tryz.prog 34 #[.pointer (some ⟨N, 0, none⟩), .slice a l.length c] W fun e w' => (∃ r, e = .returned r) ∧ PS W0 w' lo N (l.foldl pairP p) ∧ PF lo N W w' := by
  obtain ⟨n, hN⟩ : ∃ n, n = l.length := ⟨_, rfl⟩
  rw [← hN]
  have HN := hide hN
  have hn1 : n ≤ 1000000 := by omega
  have HR := hide hr
  have hlt := h.here.lt
  have H2 : Hz (PS W0 W lo N ((l.take 0).foldl pairP p) ∧ PF lo N W W) := hide ⟨h, PF.refl _ _ _⟩
  clear hN hn h hr
  go_enter Tryz.func34, Tryz.ntmps34
  go_wp2_with fail
  go_loopw [5, 8] (fun _ u8 wr => ∃ (j : Nat), u8 = .int .i64 (j : Int) ∧ j ≤ n ∧ Hz (PS W0 wr lo N ((l.take j).foldl pairP p) ∧ PF lo N W wr)) (fun _ u8 _ => n - cntI u8)
  case atStart => exact ⟨0, rfl, Nat.zero_le _, H2⟩
  case round =>
    obtain ⟨j, rfl, hj, HQ⟩ := hrel
    clear H2
    by_cases hjlt : j < n
    · have hlt2 : (j : Int) < (n : Int) := by omega
      have hj0 : (0 : Int) ≤ (j : Int) := by omega
      obtain ⟨x, hx⟩ : ∃ x, l[j]? = some x := ⟨_, List.getElem?_eq_getElem (by have := unhide HN; omega)⟩
      obtain ⟨g, o, rfl, hg, hcs⟩ := ((unhide HR).kept hlt (unhide HQ).2.fr) (by rw [encP3_length]; have := unhide HN; omega)
      have hat := encP3_at l j x hx
      have d0 : wr.cell? ⟨g, o + j * 3, none⟩ = some (.int .i32 x.1) := hcs _ _ hat.1
      have d1 : wr.cell? ⟨g, o + j * 3 + 1, none⟩ = some (.int .i32 x.2.1) := by rw [Nat.add_assoc]; exact hcs _ _ hat.2.1
      have d2 : wr.cell? ⟨g, o + j * 3 + 2, none⟩ = some (.int .i32 x.2.2) := by rw [Nat.add_assoc]; exact hcs _ _ hat.2.2
      have HX := hide (fold_take pairP p l j x hx)
      clear hcs hat hx
      obtain ⟨q, hq⟩ : ∃ q, q = (l.take j).foldl pairP p := ⟨_, rfl⟩
      rw [← hq] at HQ HX
      clear hq
      obtain ⟨x0, x1, x2⟩ := x
      dsimp only at d0 d1 d2
      have HA : Hz (PS W0 (wr.alloc (.cells #[.int .i32 x0, .int .i32 x1, .int .i32 x2] 74)) lo N q ∧ PF lo N wr (wr.alloc (.cells #[.int .i32 x0, .int .i32 x1, .int .i32 x2] 74))) := hide ⟨(unhide HQ).1.alloc _, PF.below (unhide HQ).1.here.lw ((Below.refl _ wr).alloc (Nat.le_refl _) _)⟩
      have HBX0 := hide (Blk.new wr #[.int .i32 x0, .int .i32 x1, .int .i32 x2] 74)
      have hNs : wr.heap.size ≠ N := by have := (unhide HQ).1.here.lw; omega
      have HSA : Hz ((wr.alloc (.cells #[.int .i32 x0, .int .i32 x1, .int .i32 x2] 74)).heap.size = wr.heap.size + 1) := hide (by simp)
      go_wp2_with fail
      generalize wr.alloc (.cells #[.int .i32 x0, .int .i32 x1, .int .i32 x2] 74) = wA at *
      generalize wr.heap.size = M at *
      have z0_0 := (unhide HBX0).cell 0
      have z1_0 := (unhide HBX0).cell 1
      have z2_0 := (unhide HBX0).cell 2
      have HC1 := hide (ps_put lo N q [⟨#[112, 97, 105, 114]⟩] (fun w hw => .inr (by simp at hw; first | (rw [hw]; decide) | (rcases hw with h | h <;> rw [h] <;> decide))) (by simp) W0 wA (unhide HA).1)
      rw [unhide HSA] at HC1
      refine (show Calls Tryz.prog 57 #[.pointer (some ⟨N, 0, none⟩), .slice (some ⟨M + 1, 0, none⟩) 1 1] (wA.alloc (.cells #[.string ⟨#[112, 97, 105, 114]⟩] 9)) _ from unhide HC1).mono ?_
      rintro e v1 ⟨⟨r1, rfl⟩, h1, hf1⟩
      have HBX1 := hide (hf1.kp _ _ _ hNs (by decide) (unhide HBX0))
      have HH1 := hide (And.intro h1 ((unhide HA).2.trans hf1))
      have z0_1 := (unhide HBX1).cell 0
      have z1_1 := (unhide HBX1).cell 1
      have z2_1 := (unhide HBX1).cell 2
      clear h1 hf1 HC1 HBX0 
      have HC2 := hide (ps_rune lo N (putV q [⟨#[112, 97, 105, 114]⟩]) x0 W0 _ (unhide HH1).1)
      go_wp2_with fail
      refine (unhide HC2).mono ?_
      rintro e v2 ⟨⟨r2, rfl⟩, h2, hf2⟩
      have HBX2 := hide (hf2.kp _ _ _ hNs (by decide) (unhide HBX1))
      have HH2 := hide (And.intro h2 ((unhide HH1).2.trans hf2))
      have z0_2 := (unhide HBX2).cell 0
      have z1_2 := (unhide HBX2).cell 1
      have z2_2 := (unhide HBX2).cell 2
      clear h2 hf2 HC2 HBX1 HH1 z0_1 z1_1 z2_1
      have HC3 := hide (ps_put lo N (runeV (putV q [⟨#[112, 97, 105, 114]⟩]) x0) [⟨#[61]⟩] (fun w hw => .inr (by simp at hw; first | (rw [hw]; decide) | (rcases hw with h | h <;> rw [h] <;> decide))) (by simp) W0 v2 (unhide HH2).1)
      go_wp2_with fail
      refine (show Calls Tryz.prog 57 #[.pointer (some ⟨N, 0, none⟩), .slice (some ⟨v2.heap.size, 0, none⟩) 1 1] (v2.alloc (.cells #[.string ⟨#[61]⟩] 9)) _ from unhide HC3).mono ?_
      rintro e v3 ⟨⟨r3, rfl⟩, h3, hf3⟩
      have HBX3 := hide (hf3.kp _ _ _ hNs (by decide) (unhide HBX2))
      have HH3 := hide (And.intro h3 ((unhide HH2).2.trans hf3))
      have z0_3 := (unhide HBX3).cell 0
      have z1_3 := (unhide HBX3).cell 1
      have z2_3 := (unhide HBX3).cell 2
      clear h3 hf3 HC3 HBX2 HH2 z0_2 z1_2 z2_2
      have HC4 := hide (ps_rune lo N (putV (runeV (putV q [⟨#[112, 97, 105, 114]⟩]) x0) [⟨#[61]⟩]) x1 W0 _ (unhide HH3).1)
      go_wp2_with fail
      refine (unhide HC4).mono ?_
      rintro e v4 ⟨⟨r4, rfl⟩, h4, hf4⟩
      have HBX4 := hide (hf4.kp _ _ _ hNs (by decide) (unhide HBX3))
      have HH4 := hide (And.intro h4 ((unhide HH3).2.trans hf4))
      have z0_4 := (unhide HBX4).cell 0
      have z1_4 := (unhide HBX4).cell 1
      have z2_4 := (unhide HBX4).cell 2
      clear h4 hf4 HC4 HBX3 HH3 z0_3 z1_3 z2_3
      have HC5 := hide (ps_put lo N (runeV (putV (runeV (putV q [⟨#[112, 97, 105, 114]⟩]) x0) [⟨#[61]⟩]) x1) [⟨#[43]⟩] (fun w hw => .inr (by simp at hw; first | (rw [hw]; decide) | (rcases hw with h | h <;> rw [h] <;> decide))) (by simp) W0 v4 (unhide HH4).1)
      go_wp2_with fail
      refine (show Calls Tryz.prog 57 #[.pointer (some ⟨N, 0, none⟩), .slice (some ⟨v4.heap.size, 0, none⟩) 1 1] (v4.alloc (.cells #[.string ⟨#[43]⟩] 9)) _ from unhide HC5).mono ?_
      rintro e v5 ⟨⟨r5, rfl⟩, h5, hf5⟩
      have HBX5 := hide (hf5.kp _ _ _ hNs (by decide) (unhide HBX4))
      have HH5 := hide (And.intro h5 ((unhide HH4).2.trans hf5))
      have z0_5 := (unhide HBX5).cell 0
      have z1_5 := (unhide HBX5).cell 1
      have z2_5 := (unhide HBX5).cell 2
      clear h5 hf5 HC5 HBX4 HH4 z0_4 z1_4 z2_4
      have HC6 := hide (ps_rune lo N (putV (runeV (putV (runeV (putV q [⟨#[112, 97, 105, 114]⟩]) x0) [⟨#[61]⟩]) x1) [⟨#[43]⟩]) x2 W0 _ (unhide HH5).1)
      go_wp2_with fail
      refine (unhide HC6).mono ?_
      rintro e v6 ⟨⟨r6, rfl⟩, h6, hf6⟩
      have HBX6 := hide (hf6.kp _ _ _ hNs (by decide) (unhide HBX5))
      have HH6 := hide (And.intro h6 ((unhide HH5).2.trans hf6))
      have z0_6 := (unhide HBX6).cell 0
      have z1_6 := (unhide HBX6).cell 1
      have z2_6 := (unhide HBX6).cell 2
      clear h6 hf6 HC6 HBX5 HH5 z0_5 z1_5 z2_5
      have HC7 := hide (ps_put lo N (runeV (putV (runeV (putV (runeV (putV q [⟨#[112, 97, 105, 114]⟩]) x0) [⟨#[61]⟩]) x1) [⟨#[43]⟩]) x2) [⟨#[59]⟩] (fun w hw => .inr (by simp at hw; first | (rw [hw]; decide) | (rcases hw with h | h <;> rw [h] <;> decide))) (by simp) W0 v6 (unhide HH6).1)
      go_wp2_with fail
      refine (show Calls Tryz.prog 57 #[.pointer (some ⟨N, 0, none⟩), .slice (some ⟨v6.heap.size, 0, none⟩) 1 1] (v6.alloc (.cells #[.string ⟨#[59]⟩] 9)) _ from unhide HC7).mono ?_
      rintro e v7 ⟨⟨r7, rfl⟩, h7, hf7⟩
      have HBX7 := hide (hf7.kp _ _ _ hNs (by decide) (unhide HBX6))
      have HH7 := hide (And.intro h7 ((unhide HH6).2.trans hf7))
      have z0_7 := (unhide HBX7).cell 0
      have z1_7 := (unhide HBX7).cell 1
      have z2_7 := (unhide HBX7).cell 2
      clear h7 hf7 HC7 HBX6 HH6 z0_6 z1_6 z2_6
      have HC8 := hide (ps_line lo N (putV (runeV (putV (runeV (putV (runeV (putV q [⟨#[112, 97, 105, 114]⟩]) x0) [⟨#[61]⟩]) x1) [⟨#[43]⟩]) x2) [⟨#[59]⟩]) W0 _ (unhide HH7).1)
      go_wp2_with fail
      refine (unhide HC8).mono ?_
      rintro e v8 ⟨⟨r8, rfl⟩, h8, hf8⟩
      have HBX8 := hide (hf8.kp _ _ _ hNs (by decide) (unhide HBX7))
      have HH8 := hide (And.intro h8 ((unhide HH7).2.trans hf8))
      have z0_8 := (unhide HBX8).cell 0
      have z1_8 := (unhide HBX8).cell 1
      have z2_8 := (unhide HBX8).cell 2
      clear h8 hf8 HC8 HBX7 HH7 z0_7 z1_7 z2_7
      go_wp2_with fail
      go_roundw
      case rel => exact ⟨j + 1, rfl, hjlt, hide (by rw [unhide HX]; exact ⟨(unhide HH8).1, (unhide HQ).2.trans (unhide HH8).2⟩)⟩
      case measure => show n - ((j : Int) + 1).toNat < n - (j : Int).toNat; omega
    · have hle : ¬ ((j : Int) < (n : Int)) := by omega
      have HJ : Hz (l.take j = l) := hide (by rw [show j = l.length by have := unhide HN; omega]; exact List.take_length)
      rw [unhide HJ] at HQ
      go_wp2_with fail
      go_end0
      exact ⟨⟨_, rfl⟩, (unhide HQ).1, (unhide HQ).2⟩
theorem encM2_length (t : List (Int × Int)) : (encM2 t).length = t.length * 2 := by
  induction t with
  | nil => rfl
  | cons x t ih => show (encM2 t).length + 1 + 1 = (t.length + 1) * 2; omega
theorem encM2_at (l : List (Int × Int)) (j : Nat) (x : Int × Int) (h : l[j]? = some x) : (encM2 l)[j * 2]? = some (.int .i32 x.1) ∧ (encM2 l)[j * 2 + 1]? = some (.int .i64 x.2) := by
  induction l generalizing j with
  | nil => simp at h
  | cons y l ih => cases j with
    | zero => obtain rfl := Option.some.inj h; exact ⟨rfl, rfl⟩
    | succ j => have := ih j (by simpa using h); rw [show (j + 1) * 2 = j * 2 + 1 + 1 by omega]; exact this
def itoaB (n : Int) : ByteArray := ⟨(Lib.itoa n).toArray⟩
def clsB (n : Int) : Bool := decide (0 ≤ n) && decide (n ≤ 65535)
def markP (p : Pn) (x : Int × Int) : Pn := lineV (putV (runeV (putV (needV p (clsB x.2)) [⟨#[109, 97, 114, 107]⟩]) x.1) [itoaB x.2, ⟨#[59]⟩])
theorem tab_fr {lo N : Nat} {W0 W : World} (hf : Fr lo N N W0 W) (hl : 8 < lo) (hn : 8 ≠ N) (h : Lib.TabIs Tryz.prog W0 "internal/strconv.uint64pow10" .u64 Lib.pow10Tab) : Lib.TabIs Tryz.prog W "internal/strconv.uint64pow10" .u64 Lib.pow10Tab := by
  have hg : Tryz.prog.globalNamed "internal/strconv.uint64pow10" = some 8 := by kernel_rfl
  have e := hf.block 8 hl hn hn
  unfold Lib.TabIs World.var? at h ⊢
  rw [hg] at h ⊢
  simp only [Option.bind_some] at h ⊢
  rw [e]
  exact h
theorem itoa_any (n : Int) (h0 : -9223372036854775808 ≤ n) (h1 : n ≤ 9223372036854775807) (w : World) (h : Lib.TabIs Tryz.prog w "internal/strconv.uint64pow10" .u64 Lib.pow10Tab) : Calls Tryz.prog 60 #[.int .i64 n] w fun e w' => e = .returned (.string (itoaB n)) ∧ Below w.heap.size w w' := by
  refine (show Calls Tryz.prog 60 #[.int .i64 n] w _ from Any.strconv_Itoa layM171 n h0 h1 w h).mono ?_
  rintro e w' ⟨rfl, k, os, rfl⟩
  exact ⟨rfl, Lib.below_grow _ w (Nat.le_refl _) k os⟩
theorem itoaB_size (n : Int) (h0 : -9223372036854775808 ≤ n) (h1 : n ≤ 9223372036854775807) : (itoaB n).size ≤ 1000 := by
  have := Lib.itoa_length_le n h0 h1
  show (Lib.itoa n).toArray.size ≤ 1000
  rw [List.size_toArray]
  omega
set_option maxRecDepth 100000 in
set_option maxHeartbeats 4000000 in
theorem ps_marks (lo N : Nat) (p : Pn) (a : Option Addr) (c : Nat) (l : List (Int × Int)) (hn : l.length ≤ 1000000) (hc : ∀ x ∈ l, -9223372036854775808 ≤ x.2 ∧ x.2 ≤ 9223372036854775807) (W0 W : World) (hP : Lib.TabIs Tryz.prog W0 "internal/strconv.uint64pow10" .u64 Lib.pow10Tab) (hgl : 8 < lo) (hgn : 8 ≠ N) (h : PS W0 W lo N p) (hr : RowC W N a (encM2 l)) :
    Calls Tryz.prog 33 #[.pointer (some ⟨N, 0, none⟩), .slice a l.length c] W fun e w' => (∃ r, e = .returned r) ∧ PS W0 w' lo N (l.foldl markP p) ∧ PF lo N W w' := by
  obtain ⟨n, hN⟩ : ∃ n, n = l.length := ⟨_, rfl⟩
  rw [← hN]
  have HN := hide hN
  have hn1 : n ≤ 1000000 := by omega
  have HR := hide hr
  have HC := hide hc
  have HPW := hide (And.intro hP (And.intro hgl hgn))
  have hlt := h.here.lt
  have H2 : Hz (PS W0 W lo N ((l.take 0).foldl markP p) ∧ PF lo N W W) := hide ⟨h, PF.refl _ _ _⟩
  clear hN hn h hr hc hP hgl hgn
  go_enter Tryz.func33, Tryz.ntmps33
  go_wp2_with fail
  go_loopw [5, 8] (fun _ u8 wr => ∃ (j : Nat), u8 = .int .i64 (j : Int) ∧ j ≤ n ∧ Hz (PS W0 wr lo N ((l.take j).foldl markP p) ∧ PF lo N W wr)) (fun _ u8 _ => n - cntI u8)
  case atStart => exact ⟨0, rfl, Nat.zero_le _, H2⟩
  case round =>
    obtain ⟨j, rfl, hj, HQ⟩ := hrel
    clear H2
    by_cases hjlt : j < n
    · have hlt2 : (j : Int) < (n : Int) := by omega
      have hj0 : (0 : Int) ≤ (j : Int) := by omega
      obtain ⟨x, hx⟩ : ∃ x, l[j]? = some x := ⟨_, List.getElem?_eq_getElem (by have := unhide HN; omega)⟩
      obtain ⟨g, o, rfl, hg, hcs⟩ := ((unhide HR).kept hlt (unhide HQ).2.fr) (by rw [encM2_length]; have := unhide HN; omega)
      have hat := encM2_at l j x hx
      have d0 : wr.cell? ⟨g, o + j * 2, none⟩ = some (.int .i32 x.1) := hcs _ _ hat.1
      have d1 : wr.cell? ⟨g, o + j * 2 + 1, none⟩ = some (.int .i64 x.2) := by rw [Nat.add_assoc]; exact hcs _ _ hat.2
      have HX := hide (fold_take markP p l j x hx)
      have HXC := hide (unhide HC x (List.mem_of_getElem? hx))
      clear hcs hat hx
      obtain ⟨q, hq⟩ : ∃ q, q = (l.take j).foldl markP p := ⟨_, rfl⟩
      rw [← hq] at HQ HX
      clear hq
      obtain ⟨x0, x1⟩ := x
      dsimp only at d0 d1 HXC
      have HA : Hz (PS W0 (wr.alloc (.cells #[.int .i32 x0, .int .i64 x1] 71)) lo N q ∧ PF lo N wr (wr.alloc (.cells #[.int .i32 x0, .int .i64 x1] 71))) := hide ⟨(unhide HQ).1.alloc _, PF.below (unhide HQ).1.here.lw ((Below.refl _ wr).alloc (Nat.le_refl _) _)⟩
      have HBX0 := hide (Blk.new wr #[.int .i32 x0, .int .i64 x1] 71)
      have hNs : wr.heap.size ≠ N := by have := (unhide HQ).1.here.lw; omega
      have HSA : Hz ((wr.alloc (.cells #[.int .i32 x0, .int .i64 x1] 71)).heap.size = wr.heap.size + 1) := hide (by simp)
      by_cases hcl : 0 ≤ x1
      · have hcl2 : 0 ≤ x1 := hcl
        have HOK : Hz (clsB x1 = (decide (x1 ≤ 65535))) := hide (by unfold clsB; rw [decide_eq_true hcl]; rfl)
        go_wp2_with fail
        generalize wr.alloc (.cells #[.int .i32 x0, .int .i64 x1] 71) = wA at *
        generalize wr.heap.size = M at *
        have z0_0 := (unhide HBX0).cell 0
        have z1_0 := (unhide HBX0).cell 1
        have HC1 := hide (ps_need lo N q (decide (x1 ≤ 65535)) W0 _ (unhide HA).1)
        refine (unhide HC1).mono ?_
        rintro e v1 ⟨⟨r1, rfl⟩, h1, hf1⟩
        have HBX1 := hide (hf1.kp _ _ _ hNs (by decide) (unhide HBX0))
        have HH1 := hide (And.intro h1 ((unhide HA).2.trans hf1))
        have z0_1 := (unhide HBX1).cell 0
        have z1_1 := (unhide HBX1).cell 1
        clear h1 hf1 HC1 HBX0 
        have HC2 := hide (ps_put lo N (needV q (decide (x1 ≤ 65535))) [⟨#[109, 97, 114, 107]⟩] (fun w hw => .inr (by simp at hw; first | (rw [hw]; decide) | (rcases hw with h | h <;> rw [h] <;> decide))) (by simp) W0 v1 (unhide HH1).1)
        go_wp2_with fail
        refine (show Calls Tryz.prog 57 #[.pointer (some ⟨N, 0, none⟩), .slice (some ⟨v1.heap.size, 0, none⟩) 1 1] (v1.alloc (.cells #[.string ⟨#[109, 97, 114, 107]⟩] 9)) _ from unhide HC2).mono ?_
        rintro e v2 ⟨⟨r2, rfl⟩, h2, hf2⟩
        have HBX2 := hide (hf2.kp _ _ _ hNs (by decide) (unhide HBX1))
        have HH2 := hide (And.intro h2 ((unhide HH1).2.trans hf2))
        have z0_2 := (unhide HBX2).cell 0
        have z1_2 := (unhide HBX2).cell 1
        clear h2 hf2 HC2 HBX1 HH1 z0_1 z1_1
        have HC3 := hide (ps_rune lo N (putV (needV q (decide (x1 ≤ 65535))) [⟨#[109, 97, 114, 107]⟩]) x0 W0 _ (unhide HH2).1)
        go_wp2_with fail
        refine (unhide HC3).mono ?_
        rintro e v3 ⟨⟨r3, rfl⟩, h3, hf3⟩
        have HBX3 := hide (hf3.kp _ _ _ hNs (by decide) (unhide HBX2))
        have HH3 := hide (And.intro h3 ((unhide HH2).2.trans hf3))
        have z0_3 := (unhide HBX3).cell 0
        have z1_3 := (unhide HBX3).cell 1
        clear h3 hf3 HC3 HBX2 HH2 z0_2 z1_2
        have HIT := hide (itoa_any x1 (unhide HXC).1 (unhide HXC).2 v3 (tab_fr (unhide HH3).1.pf.fr (unhide HPW).2.1 (unhide HPW).2.2 (unhide HPW).1))
        go_wp2_with fail
        refine (unhide HIT).mono ?_
        rintro e wI ⟨rfl, hbI⟩
        have HI := hide (And.intro ((unhide HH3).1.fresh hbI) ((unhide HH3).2.trans (PF.below (unhide HH3).1.here.lw hbI)))
        clear hbI HIT HH3 z0_3 z1_3
        have HC9 := hide (ps_put lo N (runeV (putV (needV q (decide (x1 ≤ 65535))) [⟨#[109, 97, 114, 107]⟩]) x0) [itoaB x1, ⟨#[59]⟩] (fun w hw => .inr (by simp at hw; rcases hw with h | h; (rw [h]; exact itoaB_size x1 (unhide HXC).1 (unhide HXC).2); (rw [h]; decide))) (by simp) W0 wI (unhide HI).1)
        go_wp2_with fail
        refine (show Calls Tryz.prog 57 #[.pointer (some ⟨N, 0, none⟩), .slice (some ⟨wI.heap.size, 0, none⟩) 2 2] (wI.alloc (.cells #[.string (itoaB x1), .string ⟨#[59]⟩] 9)) _ from unhide HC9).mono ?_
        rintro e w9 ⟨⟨r9, rfl⟩, h9, hf9⟩
        have HH9 := hide (And.intro h9 ((unhide HI).2.trans hf9))
        clear h9 hf9 HC9
        have HC10 := hide (ps_line lo N (putV (runeV (putV (needV q (decide (x1 ≤ 65535))) [⟨#[109, 97, 114, 107]⟩]) x0) [itoaB x1, ⟨#[59]⟩]) W0 w9 (unhide HH9).1)
        go_wp2_with fail
        refine (unhide HC10).mono ?_
        rintro e w10 ⟨⟨r10, rfl⟩, h10, hf10⟩
        have HH10 := hide (And.intro h10 ((unhide HH9).2.trans hf10))
        clear h10 hf10 HC10
        have HMP : Hz (markP q (x0, x1) = lineV (putV (runeV (putV (needV q (decide (x1 ≤ 65535))) [⟨#[109, 97, 114, 107]⟩]) x0) [itoaB x1, ⟨#[59]⟩])) := hide (by show lineV (putV (runeV (putV (needV q (clsB x1)) _) x0) _) = _; rw [unhide HOK])
        go_wp2_with fail
        go_roundw
        case rel => exact ⟨j + 1, rfl, hjlt, hide (by rw [unhide HX, unhide HMP]; exact ⟨(unhide HH10).1, (unhide HQ).2.trans (unhide HH10).2⟩)⟩
        case measure => show n - ((j : Int) + 1).toNat < n - (j : Int).toNat; omega
      · have hcl2 : ¬ 0 ≤ x1 := hcl
        have HOK : Hz (clsB x1 = false) := hide (by unfold clsB; rw [decide_eq_false hcl]; rfl)
        go_wp2_with fail
        generalize wr.alloc (.cells #[.int .i32 x0, .int .i64 x1] 71) = wA at *
        generalize wr.heap.size = M at *
        have z0_0 := (unhide HBX0).cell 0
        have z1_0 := (unhide HBX0).cell 1
        have HC1 := hide (ps_need lo N q false W0 _ (unhide HA).1)
        refine (unhide HC1).mono ?_
        rintro e v1 ⟨⟨r1, rfl⟩, h1, hf1⟩
        have HBX1 := hide (hf1.kp _ _ _ hNs (by decide) (unhide HBX0))
        have HH1 := hide (And.intro h1 ((unhide HA).2.trans hf1))
        have z0_1 := (unhide HBX1).cell 0
        have z1_1 := (unhide HBX1).cell 1
        clear h1 hf1 HC1 HBX0 
        have HC2 := hide (ps_put lo N (needV q false) [⟨#[109, 97, 114, 107]⟩] (fun w hw => .inr (by simp at hw; first | (rw [hw]; decide) | (rcases hw with h | h <;> rw [h] <;> decide))) (by simp) W0 v1 (unhide HH1).1)
        go_wp2_with fail
        refine (show Calls Tryz.prog 57 #[.pointer (some ⟨N, 0, none⟩), .slice (some ⟨v1.heap.size, 0, none⟩) 1 1] (v1.alloc (.cells #[.string ⟨#[109, 97, 114, 107]⟩] 9)) _ from unhide HC2).mono ?_
        rintro e v2 ⟨⟨r2, rfl⟩, h2, hf2⟩
        have HBX2 := hide (hf2.kp _ _ _ hNs (by decide) (unhide HBX1))
        have HH2 := hide (And.intro h2 ((unhide HH1).2.trans hf2))
        have z0_2 := (unhide HBX2).cell 0
        have z1_2 := (unhide HBX2).cell 1
        clear h2 hf2 HC2 HBX1 HH1 z0_1 z1_1
        have HC3 := hide (ps_rune lo N (putV (needV q false) [⟨#[109, 97, 114, 107]⟩]) x0 W0 _ (unhide HH2).1)
        go_wp2_with fail
        refine (unhide HC3).mono ?_
        rintro e v3 ⟨⟨r3, rfl⟩, h3, hf3⟩
        have HBX3 := hide (hf3.kp _ _ _ hNs (by decide) (unhide HBX2))
        have HH3 := hide (And.intro h3 ((unhide HH2).2.trans hf3))
        have z0_3 := (unhide HBX3).cell 0
        have z1_3 := (unhide HBX3).cell 1
        clear h3 hf3 HC3 HBX2 HH2 z0_2 z1_2
        have HIT := hide (itoa_any x1 (unhide HXC).1 (unhide HXC).2 v3 (tab_fr (unhide HH3).1.pf.fr (unhide HPW).2.1 (unhide HPW).2.2 (unhide HPW).1))
        go_wp2_with fail
        refine (unhide HIT).mono ?_
        rintro e wI ⟨rfl, hbI⟩
        have HI := hide (And.intro ((unhide HH3).1.fresh hbI) ((unhide HH3).2.trans (PF.below (unhide HH3).1.here.lw hbI)))
        clear hbI HIT HH3 z0_3 z1_3
        have HC9 := hide (ps_put lo N (runeV (putV (needV q false) [⟨#[109, 97, 114, 107]⟩]) x0) [itoaB x1, ⟨#[59]⟩] (fun w hw => .inr (by simp at hw; rcases hw with h | h; (rw [h]; exact itoaB_size x1 (unhide HXC).1 (unhide HXC).2); (rw [h]; decide))) (by simp) W0 wI (unhide HI).1)
        go_wp2_with fail
        refine (show Calls Tryz.prog 57 #[.pointer (some ⟨N, 0, none⟩), .slice (some ⟨wI.heap.size, 0, none⟩) 2 2] (wI.alloc (.cells #[.string (itoaB x1), .string ⟨#[59]⟩] 9)) _ from unhide HC9).mono ?_
        rintro e w9 ⟨⟨r9, rfl⟩, h9, hf9⟩
        have HH9 := hide (And.intro h9 ((unhide HI).2.trans hf9))
        clear h9 hf9 HC9
        have HC10 := hide (ps_line lo N (putV (runeV (putV (needV q false) [⟨#[109, 97, 114, 107]⟩]) x0) [itoaB x1, ⟨#[59]⟩]) W0 w9 (unhide HH9).1)
        go_wp2_with fail
        refine (unhide HC10).mono ?_
        rintro e w10 ⟨⟨r10, rfl⟩, h10, hf10⟩
        have HH10 := hide (And.intro h10 ((unhide HH9).2.trans hf10))
        clear h10 hf10 HC10
        have HMP : Hz (markP q (x0, x1) = lineV (putV (runeV (putV (needV q false) [⟨#[109, 97, 114, 107]⟩]) x0) [itoaB x1, ⟨#[59]⟩])) := hide (by show lineV (putV (runeV (putV (needV q (clsB x1)) _) x0) _) = _; rw [unhide HOK])
        go_wp2_with fail
        go_roundw
        case rel => exact ⟨j + 1, rfl, hjlt, hide (by rw [unhide HX, unhide HMP]; exact ⟨(unhide HH10).1, (unhide HQ).2.trans (unhide HH10).2⟩)⟩
        case measure => show n - ((j : Int) + 1).toNat < n - (j : Int).toNat; omega
    · have hle : ¬ ((j : Int) < (n : Int)) := by omega
      have HJ : Hz (l.take j = l) := hide (by rw [show j = l.length by have := unhide HN; omega]; exact List.take_length)
      rw [unhide HJ] at HQ
      go_wp2_with fail
      go_end0
      exact ⟨⟨_, rfl⟩, (unhide HQ).1, (unhide HQ).2⟩
end Go.Proofs.YtjgfmobmilgapaaGreatDoor
