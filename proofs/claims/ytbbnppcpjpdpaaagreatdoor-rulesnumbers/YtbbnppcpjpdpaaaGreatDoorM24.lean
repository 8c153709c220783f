/- Texts of this claim, one behind the other. -/
import Derived.Test.YtbbnppcpjpdpaaaGreatDoorM23
import Derived.Test.YtbbnppcpjpdpaaaGreatDoorM4
import Derived.Test.YtbbnppcpjpdpaaaGreatDoorM20
/- The reader of rules: Parse at a text of any words. -/
namespace Go.Proofs.YtbbnppcpjpdpaaaGreatDoor
open Go.RowKit Go.Shelf
set_option linter.unusedVariables false
/-- What Parse makes of a text. -/
def parseA (s : ByteArray) : Ps := if (wordsV s).ok = true then parseV s else ⟨0, some ⟨((wordsV s).b : Nat), ((whL s (wordsV s).b).1 : Nat), ((whL s (wordsV s).b).2 : Nat), if (wordsV s).b < s.size then 20 else 21⟩, TV0⟩
theorem wordsV_b (s : ByteArray) : (wordsV s).b ≤ s.size := by
  have : ∀ (f b : Nat) (x : Nat × Nat) (ws : List Wd), b ≤ s.size → (cutGo s f b x ws).b ≤ s.size := by
    intro f
    induction f with
    | zero => intro b x ws h; exact h
    | succ f ih =>
      intro b x ws h
      have hg := gB_le s b h
      unfold cutGo
      split
      · exact hg.2
      · split
        · exact hg.2
        · rename_i h2
          have hw := wordV_le (rst s (gB s b)) (by omega)
          rw [rst_size] at hw
          split
          · show gB s b + _ ≤ _; omega
          · exact ih _ _ _ (by omega)
  exact this _ _ _ _ (Nat.zero_le _)
set_option maxRecDepth 100000 in
set_option maxHeartbeats 4000000 in
theorem parse_no (s : ByteArray) (hs : s.size ≤ 262144) (hok : (wordsV s).ok = false) (m : Int) (W : World) (hm : W.cell? ⟨3, 0, none⟩ = some (.int .i64 m)) (hgm : 3 < W.heap.size) :
    Calls Tryz.prog 13 #[.string s] W fun e w' => ∃ v er, e = .returned (.tuple #[v, er]) ∧ Below W.heap.size W w' ∧ ParsedAt W w' s (parseA s) v er := by
  have HW := hide (words_no s hs hok (wordsV_b s) m W hm hgm)
  have HP : Hz (parseA s = ⟨0, some ⟨((wordsV s).b : Nat), ((whL s (wordsV s).b).1 : Nat), ((whL s (wordsV s).b).2 : Nat), if (wordsV s).b < s.size then 20 else 21⟩, TV0⟩) := hide (if_neg (by rw [hok]; decide))
  clear hok
  generalize parseA s = P at *
  have hmx : Tryz.prog.follows .mixedOrders = true := by kernel_rfl
  obtain ⟨y, hy, hy0⟩ : ∃ y : Int, y = (if (wordsV s).b < s.size then 20 else 21) ∧ (y == 0) = false := ⟨_, rfl, by split <;> rfl⟩
  rw [← hy] at HW HP
  clear hy
  go_enter Tryz.func13, Tryz.ntmps13
  go_wp2_with fail
  refine (unhide HW).mono ?_
  rintro e w1 ⟨rfl, hb1⟩
  have HB1 := hide hb1
  clear hb1 HW
  unfold atA
  generalize (wordsV s).b = wb at *
  generalize whL s wb = wl at *
  obtain ⟨l1, c1⟩ := wl
  dsimp only at HP
  dsimp only
  go_wp2_with fail
  go_region
  all_goals
    go_wp2_with fail
    have hl1 := (unhide HB1).size
    have hBF : Below W.heap.size W (((w1.alloc (.cells #[.int .i64 wb, .int .i64 l1, .int .i64 c1] 61)).alloc (.cells #[.int .i64 wb, .int .i64 l1, .int .i64 c1, .int .i64 y] 83)).drew) := (((unhide HB1).alloc hl1 _).alloc (by simp; omega) _).trans ⟨rfl, rfl, rfl, Nat.le_refl _, fun _ _ => rfl⟩
    have hF := Blk.new (w1.alloc (.cells #[.int .i64 wb, .int .i64 l1, .int .i64 c1] 61)) (rfCells ⟨(wb : Nat), (l1 : Nat), (c1 : Nat), y⟩) 83
    rw [World.size_alloc] at hF
    exact bodyPost_ret (v := Value.tuple #[Value.pointer none, Value.iface 57 (Value.pointer (some (⟨w1.heap.size + 1, 0, none⟩ : Addr)))]) (by simp [results, Tryz.results13, go_sem]) rfl ⟨_, _, rfl, hBF, by rw [unhide HP]; exact ⟨rfl, w1.heap.size + 1, rfl, by omega, hF⟩⟩
theorem parse_any (s : ByteArray) (hs : s.size ≤ 262144) (m : Int) (W : World) (hm : W.cell? ⟨3, 0, none⟩ = some (.int .i64 m)) (hgm : 3 < W.heap.size) :
    Calls Tryz.prog 13 #[.string s] W fun e w' => ∃ v er, e = .returned (.tuple #[v, er]) ∧ Below W.heap.size W w' ∧ ParsedAt W w' s (parseA s) v er := by
  cases hok : (wordsV s).ok with
  | false => exact parse_no s hs hok m W hm hgm
  | true =>
    have := parse_words s hs hok m W hm hgm
    rw [show parseA s = parseV s from if_pos hok]
    exact this
end Go.Proofs.YtbbnppcpjpdpaaaGreatDoor
/- Legal: is a text a name? -/
namespace Go.Proofs.YtbbnppcpjpdpaaaGreatDoor
open Go.RowKit Go.Shelf
set_option linter.unusedVariables false
def legalB (s : ByteArray) : Bool := decide (0 < s.size ∧ nameLen s = s.size)
theorem legal_any (s : ByteArray) (hs : s.size ≤ maxLen) (w : World) : Calls Tryz.prog 19 #[.string s] w fun e w' => e = .returned (.bool (legalB s)) ∧ w' = w := by
  by_cases h0 : 0 < s.size
  · have hne := toList_ne s h0
    have hne' : (s.toList != []) = true := by simpa using hne
    have hv : legalB s = ((nameLen s : Int) == (s.size : Int)) := by
      unfold legalB
      rw [Bool.eq_iff_iff]
      simp [h0]
      omega
    have HV := hide hv
    have HN := hide (named_any s hs)
    have hm : s.size ≤ 9223372036854775807 := by unfold maxLen at hs; exact hs
    clear hv
    go_enter Tryz.func19, Tryz.ntmps19
    go_wp2_with fail
    refine (unhide HN _).mono ?_
    rintro e w1 ⟨rfl, rfl⟩
    go_wp2_with fail
    go_ret
    refine ⟨?_, rfl⟩
    show Ending.returned (.bool (!s.toList.isEmpty && ((nameLen s : Int) == (s.size : Int)))) = _
    rw [unhide HV, show s.toList.isEmpty = false by simpa using hne]
    rfl
  · obtain rfl := toList_nil s (by omega)
    have hv : legalB ByteArray.empty = false := by unfold legalB; simp
    rw [hv]
    go_enter Tryz.func19, Tryz.ntmps19
    go_wp2_with fail
    go_ret
    exact ⟨rfl, rfl⟩
end Go.Proofs.YtbbnppcpjpdpaaaGreatDoor
/- The printer of tables: scripts. -/
namespace Go.Proofs.YtbbnppcpjpdpaaaGreatDoor
open Go.RowKit Go.Shelf
set_option linter.unusedVariables false
def scriptP (p : Pn) (x : ByteArray × List (Int × Int)) : Pn := spansP (putV (needV p (legalB x.1)) [⟨#[115, 99, 114, 105, 112, 116]⟩, x.1]) x.2
theorem legalB_size (s : ByteArray) (h : legalB s = true) : s.size ≤ 1000 := by
  have := of_decide_eq_true h
  have h2 := nameLen_le s
  omega
theorem encSc_at0 (t : List (ByteArray × List (Int × Int))) (us : List Value) (h : us.length = t.length) (j : Nat) (x : ByteArray × List (Int × Int)) (hx : t[j]? = some x) : (encSc t us)[j * 2]? = some (.string x.1) := by
  induction t generalizing us j with
  | nil => simp at hx
  | cons y t ih => cases us with
    | nil => cases h
    | cons v us => cases j with
      | zero => obtain rfl := Option.some.inj hx; rfl
      | succ j => have := ih us (by simpa using h) j (by simpa using hx); rw [show (j + 1) * 2 = j * 2 + 1 + 1 by omega]; exact this
set_option maxRecDepth 100000 in
set_option maxHeartbeats 4000000 in
theorem ps_scripts (lo N : Nat) (p : Pn) (a : Option Addr) (c : Nat) (l : List (ByteArray × List (Int × Int))) (us : List Value) (hu : us.length = l.length) (hn : l.length ≤ 1000000) (hz : ∀ x ∈ l, x.1.size ≤ maxLen ∧ x.2.length ≤ 1000000) (W0 W : World) (h : PS W0 W lo N p) (hr : RowC W N a (encSc l us)) (hs : ∀ (j : Nat) (x : ByteArray × List (Int × Int)) (u : Value), l[j]? = some x → us[j]? = some u → ∃ b d, u = .slice b x.2.length d ∧ RowC W N b (encS2 x.2)) :
    Calls Tryz.prog 6 #[.pointer (some ⟨N, 0, none⟩), .slice a l.length c] W fun e w' => (∃ r, e = .returned r) ∧ PS W0 w' lo N (l.foldl scriptP p) ∧ PF lo N W w' := by
  obtain ⟨n, hN⟩ : ∃ n, n = l.length := ⟨_, rfl⟩
  rw [← hN]
  have HN := hide hN
  have hn1 : n ≤ 1000000 := by omega
  have HR := hide hr
  have HS := hide hs
  have HU := hide hu
  have HZ := hide hz
  have hlt := h.here.lt
  have H2 : Hz (PS W0 W lo N ((l.take 0).foldl scriptP p) ∧ PF lo N W W) := hide ⟨h, PF.refl _ _ _⟩
  clear hN hn h hr hs hu hz
  go_enter Tryz.func6, Tryz.ntmps6
  go_wp2_with fail
  go_loopw [5, 8] (fun _ u8 wr => ∃ (j : Nat), u8 = .int .i64 (j : Int) ∧ j ≤ n ∧ Hz (PS W0 wr lo N ((l.take j).foldl scriptP p) ∧ PF lo N W wr)) (fun _ u8 _ => n - cntI u8)
  case atStart => exact ⟨0, rfl, Nat.zero_le _, H2⟩
  case round =>
    obtain ⟨j, rfl, hj, HQ⟩ := hrel
    clear H2
    by_cases hjlt : j < n
    · have hlt2 : (j : Int) < (n : Int) := by omega
      have hj0 : (0 : Int) ≤ (j : Int) := by omega
      obtain ⟨x, hx⟩ : ∃ x, l[j]? = some x := ⟨_, List.getElem?_eq_getElem (by have := unhide HN; omega)⟩
      obtain ⟨u, hxu⟩ : ∃ u, us[j]? = some u := ⟨_, List.getElem?_eq_getElem (by have := unhide HN; have := unhide HU; omega)⟩
      obtain ⟨b, d, rfl, hrow⟩ := unhide HS j x u hx hxu
      obtain ⟨g, o, rfl, hg, hcs⟩ := ((unhide HR).kept hlt (unhide HQ).2.fr) (by rw [encSc_length _ _ (unhide HU)]; have := unhide HN; omega)
      have d0 : wr.cell? ⟨g, o + j * 2, none⟩ = some (.string x.1) := hcs _ _ (encSc_at0 l us (unhide HU) j x hx)
      have d1 : wr.cell? ⟨g, o + j * 2 + 1, none⟩ = some (.slice b x.2.length d) := by rw [Nat.add_assoc]; exact hcs _ _ (by rw [Nat.mul_comm, encSc_at _ _ (unhide HU)]; exact hxu)
      have HX := hide (fold_take scriptP p l j x hx)
      have HXZ := hide (unhide HZ x (List.mem_of_getElem? hx))
      have HROW := hide hrow
      clear hcs hx hxu hrow
      obtain ⟨q, hq⟩ : ∃ q, q = (l.take j).foldl scriptP p := ⟨_, rfl⟩
      rw [← hq] at HQ HX
      clear hq
      obtain ⟨nm, sp⟩ := x
      dsimp only at d0 d1 HXZ HROW
      have HSN := hide (fun (q2 : Pn) (w : World) => ps_spans lo N q2 b d sp (unhide HXZ).2 W0 w)
      obtain ⟨m, hm⟩ : ∃ m, m = sp.length := ⟨_, rfl⟩
      rw [← hm] at d1 HSN
      clear hm
      have HA : Hz (PS W0 (wr.alloc (.cells #[.string nm, .slice b m d] 52)) lo N q ∧ PF lo N wr (wr.alloc (.cells #[.string nm, .slice b m d] 52))) := hide ⟨(unhide HQ).1.alloc _, PF.below (unhide HQ).1.here.lw ((Below.refl _ wr).alloc (Nat.le_refl _) _)⟩
      have HBX0 := hide (Blk.new wr #[.string nm, .slice b m d] 52)
      have hNs : wr.heap.size ≠ N := by have := (unhide HQ).1.here.lw; omega
      have HLG := hide (fun w => legal_any nm (unhide HXZ).1 w)
      have HLB := hide (legalB_size nm)
      have HSP : Hz (scriptP q (nm, sp) = spansP (putV (needV q (legalB nm)) [⟨#[115, 99, 114, 105, 112, 116]⟩, nm]) sp) := hide rfl
      generalize legalB nm = lg at *
      go_wp2_with fail
      refine (unhide HLG _).mono ?_
      rintro e w1 ⟨rfl, hw1⟩
      rw [hw1]
      clear hw1 HLG
      generalize wr.alloc (.cells #[.string nm, .slice b m d] 52) = wA at *
      generalize wr.heap.size = M at *
      have HC1 := hide (ps_need lo N q lg W0 wA (unhide HA).1)
      go_wp2_with fail
      refine (unhide HC1).mono ?_
      rintro e w2 ⟨⟨r2, rfl⟩, h2, hf2⟩
      have HBX2 := hide (hf2.kp _ _ _ hNs (by decide) (unhide HBX0))
      have H2 := hide (And.intro h2 ((unhide HA).2.trans hf2))
      have z0 := (unhide HBX2).cell 0
      have z1 := (unhide HBX2).cell 1
      have HC2 := hide (ps_put lo N (needV q lg) [⟨#[115, 99, 114, 105, 112, 116]⟩, nm] (fun w hw => by
        simp at hw
        rcases hw with h | h
        · exact .inr (by rw [h]; decide)
        · rw [h]
          cases hlg : lg with
          | true => exact .inr (unhide HLB hlg)
          | false => exact .inl (by show (q.wr || !false) = true; cases q.wr <;> rfl)) (by simp) W0 w2 h2)
      clear h2 hf2 HC1 HBX0 HA d0 d1
      go_wp2_with fail
      refine (show Calls Tryz.prog 20 #[.pointer (some ⟨N, 0, none⟩), .slice (some ⟨w2.heap.size, 0, none⟩) 2 2] (w2.alloc (.cells #[.string ⟨#[115, 99, 114, 105, 112, 116]⟩, .string nm] 9)) _ from unhide HC2).mono ?_
      rintro e w3 ⟨⟨r3, rfl⟩, h3, hf3⟩
      have HBX3 := hide (hf3.kp _ _ _ hNs (by decide) (unhide HBX2))
      have H3 := hide (And.intro h3 ((unhide H2).2.trans hf3))
      clear z0 z1
      have z1 := (unhide HBX3).cell 1
      have HC3 := hide (unhide HSN _ w3 h3 ((unhide HROW).kept hlt (((unhide HQ).2.trans (unhide H3).2).fr)))
      clear h3 hf3 HC2 HBX2
      go_wp2_with fail
      refine (unhide HC3).mono ?_
      rintro e w4 ⟨⟨r4, rfl⟩, h4, hf4⟩
      have H4 := hide (And.intro h4 ((unhide H3).2.trans hf4))
      clear h4 hf4 HC3
      go_wp2_with fail
      go_roundw
      case rel => exact ⟨j + 1, rfl, hjlt, hide (by rw [unhide HX, unhide HSP]; exact ⟨(unhide H4).1, (unhide HQ).2.trans (unhide H4).2⟩)⟩
      case measure => show n - ((j : Int) + 1).toNat < n - (j : Int).toNat; omega
    · have hle : ¬ ((j : Int) < (n : Int)) := by omega
      have HJ : Hz (l.take j = l) := hide (by rw [show j = l.length by have := unhide HN; omega]; exact List.take_length)
      rw [unhide HJ] at HQ
      go_wp2_with fail
      go_end0
      exact ⟨⟨_, rfl⟩, (unhide HQ).1, (unhide HQ).2⟩
end Go.Proofs.YtbbnppcpjpdpaaaGreatDoor
