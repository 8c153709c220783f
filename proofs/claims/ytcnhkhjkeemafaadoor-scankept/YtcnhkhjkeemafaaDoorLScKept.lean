/- ScanKept: lists of words stay, and share nothing. -/
import Derived.Test.YtcnhkhjkeemafaaDoorRows
import Derived.Test.YtcnhkhjkeemafaaDoorM4
import Derived.Test.YtcnhkhjkeemafaaDoorM5
import Derived.Deep.Strs
import Derived.ProofKit
import Derived.OpenShut
import Derived.ChangeOld
namespace Go.Proofs.YtcnhkhjkeemafaaDoor
open Go.RowKit Go.Shelf Go.ChangeShapes
open Go.Deep (open_strs)
set_option linter.unusedVariables false
/-- A list of texts that was handed in. -/
def ArgS (W : World) (a : Option Addr) (len cap : Nat) (zs : List ByteArray) : Prop :=
  len ≤ cap ∧ cap ≤ maxLen ∧ zs.length = len ∧ (∀ s ∈ zs, s.size ≤ maxLen) ∧ (0 < len → ∃ g o, a = some ⟨g, o, none⟩ ∧ g < W.heap.size ∧ ∀ i s, zs[i]? = some s → W.cell? ⟨g, o + i, none⟩ = some (.string s))
theorem laidOut : laidOutB Tryd.prog = true := by kernel_rfl
theorem arg_rowS {H : Type} {enc : TypeId × Value → H} {W : World} {a : Option Addr} {len cap : Nat} {d : DataW H} {p : List MemPlace}
    (h : DataW.Trod enc Tryd.prog W 0 (fun _ => true) true 36 (.slice a len cap) d p) : ∃ zs, ArgS W a len cap zs ∧ True := by
  obtain ⟨fuel, hf⟩ := h
  rcases open_strs Tryd.underlying36 Tryd.underlying9 (by kernel_rfl) hf with ⟨hcs, hx⟩ | ⟨x, l, c, m, Sx, hcs, _, hl, hm, hmm, hx, hcell⟩
  · simp [Value.cells] at hcs
    obtain ⟨rfl, rfl, rfl⟩ := hcs
    exact ⟨[], ⟨Nat.le_refl _, by unfold maxLen; omega, rfl, by simp, fun h => by omega⟩, trivial⟩
  · simp [Value.cells] at hcs
    obtain ⟨rfl, rfl, rfl⟩ := hcs
    have hlm : len ≤ m := by rw [hmm]; split <;> omega
    refine ⟨(List.range len).map Sx, ⟨hl, hm, by simp, fun s hs => ?_, fun h0 => ?_⟩, trivial⟩
    · obtain ⟨i, hi, rfl⟩ := List.mem_map.1 hs
      exact (hcell i (by have := List.mem_range.1 hi; omega)).2
    · obtain ⟨b, off, spot⟩ := x
      have hc0 := (hcell 0 (by omega)).1
      have hspot : spot = none := by simpa [Addr.add] using World.cell?_spot hc0
      subst hspot
      refine ⟨b, off, rfl, by have := cell_lt hc0; simpa [Addr.add] using this, fun i s hi => ?_⟩
      have hil : i < len := by have := (List.getElem?_eq_some_iff.1 hi).1; simpa using this
      have := (hcell i (by omega)).1
      rw [show (⟨b, off, none⟩ : Addr).add i = ⟨b, off + i, none⟩ by unfold Addr.add; split <;> simp_all] at this
      rw [this]
      have : Sx i = s := by simpa [hil] using hi
      rw [this]
/-- Words of any text that is not too long. -/
theorem words_any (s : ByteArray) (hs : s.size ≤ 262144) (m : Int) (w : World) (hE : Env m w) :
    Calls Tryd.prog 7 #[.string s] w fun e w' => ∃ (v : Value) (zs : List W8) (x0 x1 x2 c : Int), e = .returned (.tuple #[v, .agg #[.int .i64 x0, .int .i64 x1, .int .i64 x2], .int .i64 c]) ∧ zs.length ≤ s.size ∧ w'.ownsRow w.heap.size 34 8 v zs.length (encW zs) ∧ Below w.heap.size w w' := by
  cases ho : (wordsV s).ok
  · refine (words_no s hs ho (words_places s).2 m w hE.max (cell_lt hE.max)).mono fun e w' ⟨he, hb⟩ => ?_
    exact ⟨_, [], _, _, _, _, he, Nat.zero_le _, World.ownsRow_nil _ _ _ _, hb⟩
  · refine (words_yes s hs ho m w hE.max (cell_lt hE.max)).mono fun e w' ⟨v, he, hown, hb⟩ => ?_
    exact ⟨v, (wordsV s).ws.map w8, _, _, _, _, he, by rw [List.length_map]; exact words_count s, by rw [List.length_map, encW_ws]; exact hown, hb⟩
set_option maxRecDepth 100000 in
theorem mark_any (i j : Nat) (w : World) (hi : i ≤ 1001) : Calls Tryd.prog 13 #[.int .i64 i, .int .i64 j] w fun e w' => e = .returned (evW ⟨-1 - (i : Int), ByteArray.empty, 0, 0, 0, 0, 0, 0⟩) ∧ Below w.heap.size w w' := by
  go_enter Tryd.func13, Tryd.ntmps13
  go_wp2_with fail
  have hB := (Below.refl w.heap.size w).alloc (Nat.le_refl _) (.cells #[.int .i64 (-1 - (i : Int)), .string ⟨#[]⟩, .int .i32 0, .int .i64 0, .int .i64 0, .int .i64 0, .int .i64 0, .int .i64 0] 34)
  have hk := Blk.new w #[.int .i64 (-1 - (i : Int)), .string ⟨#[]⟩, .int .i32 0, .int .i64 0, .int .i64 0, .int .i64 0, .int .i64 0, .int .i64 0] 34
  exact bodyPost_ret (v := evW ⟨-1 - (i : Int), ByteArray.empty, 0, 0, 0, 0, 0, 0⟩) (by simp [results, Tryd.results13, go_sem, hk.cell 0, hk.cell 1, hk.cell 2, hk.cell 3, hk.cell 4, hk.cell 5, hk.cell 6, hk.cell 7]; rfl) rfl ⟨rfl, hB⟩
set_option maxRecDepth 100000 in
set_option maxHeartbeats 4000000 in
theorem lkept_any (a : Option Addr) (len cap : Nat) (zs : List ByteArray) (m : Int) (w : World) (hE : Env m w) (hA : ArgS w a len cap zs) : Calls Tryd.prog 5 #[.slice a len cap] w fun e w' => e = .returned (.bool true) ∧ Below w.heap.size w w' := by
  obtain ⟨hlc, hcm, hzl, hsz, hcl⟩ := hA
  have hlm : (len : Int) ≤ 9223372036854775807 := by unfold maxLen at hcm; omega
  have HE := hide hE
  have HSZ := hide hsz
  have HCL := hide hcl
  have HZL := hide hzl
  clear hE hsz hcl hzl hcm
  go_enter Tryd.func5, Tryd.ntmps5
  go_wp2_with fail
  go_loopw [4, 5, 6, 7, 8, 9] (fun i _ _ _ _ _ wr => ∃ (n : Nat) (its : List ItW) (lv wv : Value) (h : Int), i = .int .i64 n ∧ n ≤ len ∧ n ≤ 20 ∧ its.length ≤ 2 * n ∧ Hz (BookW wr w.heap.size w.heap.size its lv wv h) ∧ Hz (Below w.heap.size w wr)) (fun i _ _ _ _ _ _ => 20 - (intOf i).toNat)
  case atStart =>
    exact ⟨0, [], .slice none 0 0, .slice none 0 0, 0, rfl, by omega, by omega, by simp, hide ⟨⟨Blk.new w _ _, SlAt.nil _ _ _, SlAt.nil _ _ _, .inl rfl, Nat.le_refl _⟩, by simp, List.Pairwise.nil⟩, hide ((Below.refl _ w).alloc (Nat.le_refl _) _)⟩
  case round =>
    obtain ⟨n, its, lv, wv, h, rfl, hn, hn20, hil, HBK, HBB⟩ := hrel
    by_cases hnl : n < len
    · by_cases hn2 : n < 20
      · have hnl' : (n : Int) < (len : Int) := by omega
        have hn2' : (n : Int) < 20 := by omega
        obtain ⟨s, hs⟩ : ∃ s, zs[n]? = some s := ⟨_, List.getElem?_eq_getElem (by have := unhide HZL; omega)⟩
        obtain ⟨g, o, rfl, hg, hcell⟩ := unhide HCL (by omega)
        have c0 : wr.cell? ⟨g, o + n, none⟩ = some (.string s) := ((unhide HBB).cell (p := ⟨g, o + n, none⟩) hg).trans (hcell n s hs)
        have hfs := few_any s (unhide HSZ s (List.mem_of_getElem? hs)) 2000 (by decide)
        have hfl := fewV_size s 2000
        generalize fewV s 2000 = t at hfs hfl
        have HF := hide hfs
        clear hs hcell hfs
        go_wp2_with fail
        refine (unhide HF _).mono ?_
        rintro e w1 ⟨rfl, rfl⟩
        go_wp2_with fail
        clear c0
        obtain ⟨w4, rfl⟩ : ∃ w4, w4 = w1 := ⟨_, rfl⟩
        go_loopw [6, 7, 8, 9] (fun j _ _ _ wr2 => ∃ (k : Nat) (its : List ItW) (lv wv : Value) (h : Int), j = .int .i64 k ∧ k ≤ 2 ∧ its.length ≤ 2 * n + k ∧ Hz (BookW wr2 w.heap.size w.heap.size its lv wv h) ∧ Hz (Below w.heap.size w wr2)) (fun j _ _ _ _ => 2 - (intOf j).toNat)
        case atStart => exact ⟨0, its, lv, wv, h, rfl, by omega, by omega, HBK, HBB⟩
        case round =>
          clear HBK HBB hil
          obtain ⟨k, its, lv, wv, h, rfl, hk, hil, HBK, HBB⟩ := hrel
          have hlo : w.heap.size < wr.heap.size := (unhide HBK).bk.blk.lt
          by_cases hk2 : k < 2
          · have hk3 : (k : Int) < 2 := by omega
            have HW := hide (words_any t (by omega) m wr ((unhide HE).below (unhide HBB) (Nat.le_refl _)))
            go_wp2_with fail
            refine (unhide HW).mono ?_
            rintro e w2 ⟨v, ys, x0, x1, x2, c, rfl, hyl, hown, hb⟩
            have HDIS : Hz (∀ it ∈ its, it.v.ownBlock = none ∨ it.v.ownBlock ≠ Value.ownBlock v) := hide (fun it hi => by
              cases hv : it.v.ownBlock with
              | none => exact .inl rfl
              | some x =>
                refine .inr fun e => ?_
                have h1 := (own_lt ((unhide HBK).own it hi).1 x hv).2
                have h2 := (own_lt hown x e.symm).1
                omega)
            have HO2 := hide ((own_lower hown (show w.heap.size ≤ wr.heap.size by omega)).alloc (.cells #[.int .i64 x0, .int .i64 x1, .int .i64 x2] 25))
            have hal := (Below.refl w2.heap.size w2).alloc (Nat.le_refl _) (.cells #[.int .i64 x0, .int .i64 x1, .int .i64 x2] 25)
            have hb9 := hb.trans (hal.mono hb.size)
            have HBK2 := hide ((unhide HBK).below (by omega) hb9)
            have HBB2 := hide ((unhide HBB).trans (hb9.mono (unhide HBB).size))
            have hz2 : w.heap.size ≤ (w2.alloc (.cells #[.int .i64 x0, .int .i64 x1, .int .i64 x2] 25)).heap.size := by have := hb9.size; omega
            clear hown hb hal hb9 HW
            go_wp2_with fail
            refine (keep_anyW _ w.heap.size w.heap.size its lv wv h v ys (unhide HDIS) (unhide HO2) (by omega) (by unfold maxLen; omega) (unhide HBK2) hz2 (by omega)).mono ?_
            rintro e w5 ⟨⟨r, rfl⟩, ⟨t', lv', wv', h', htn, _, htl, hbk⟩, hkk⟩
            have HBK5 := hide hbk
            have HBB5 := hide ((unhide HBB2).trans hkk.2)
            clear hbk hkk
            go_wp2
            go_roundw
            case rel => exact ⟨k + 1, t', lv', wv', h', by go_num, by omega, by omega, HBK5, HBB5⟩
            case measure => simp [intOf]; omega
          · have hk3 : ¬ (k : Int) < 2 := by omega
            go_wp2
            go_roundw
            case rel => exact ⟨n + 1, its, lv, wv, h, by go_num, by omega, by omega, by omega, HBK, HBB⟩
            case measure => simp [intOf]; omega
      · have hnl' : (n : Int) < (len : Int) := by omega
        have hn2' : ¬ (n : Int) < 20 := by omega
        have hlo : w.heap.size < wr.heap.size := (unhide HBK).bk.blk.lt
        go_wp2_with fail
        refine (apart_anyW (fun i _ => ⟨-1 - (i : Int), ByteArray.empty, 0, 0, 0, 0, 0, 0⟩) (fun i j w hi _ => mark_any i j w hi) wr w.heap.size w.heap.size its lv wv h (unhide HBK) (by omega) (by omega)).mono ?_
        rintro e w5 ⟨rfl, hb⟩
        have HE5 := hide ((unhide HBB).trans hb)
        clear hb
        go_wp2_with fail
        refine (known_any m _ ((unhide HE).below (unhide HE5) (Nat.le_refl _))).mono ?_
        rintro e w6 ⟨rfl, hb⟩
        have HE6 := hide ((unhide HE5).trans (hb.mono (unhide HE5).size))
        clear hb
        go_wp2
        go_ret
        exact ⟨rfl, unhide HE6⟩
    · have hnl' : ¬ (n : Int) < (len : Int) := by omega
      have hlo : w.heap.size < wr.heap.size := (unhide HBK).bk.blk.lt
      go_wp2_with fail
      refine (apart_anyW (fun i _ => ⟨-1 - (i : Int), ByteArray.empty, 0, 0, 0, 0, 0, 0⟩) (fun i j w hi _ => mark_any i j w hi) wr w.heap.size w.heap.size its lv wv h (unhide HBK) (by omega) (by omega)).mono ?_
      rintro e w5 ⟨rfl, hb⟩
      have HE5 := hide ((unhide HBB).trans hb)
      clear hb
      go_wp2_with fail
      refine (known_any m _ ((unhide HE).below (unhide HE5) (Nat.le_refl _))).mono ?_
      rintro e w6 ⟨rfl, hb⟩
      have HE6 := hide ((unhide HE5).trans (hb.mono (unhide HE5).size))
      clear hb
      go_wp2
      go_ret
      exact ⟨rfl, unhide HE6⟩
end Go.Proofs.YtcnhkhjkeemafaaDoor
