/- SpotsWhole, for every text: the lines, with a byte 10 between each two, are the text; there is none ahead of the first and none behind the last. -/
import Derived.Test.YtaafecaclkagiacWhole
namespace Go.Proofs.Ytaafecaclkagiac
open Go.RowKit Go.Shelf
open Go.Lib (strCells strCells_length wpList_append_own_string)
set_option linter.unusedVariables false

theorem own_below {W W' : World} {base e size n : Nat} {v : Value} {xs : List Value} (h : W.ownsRow base e size v n xs) (hb : Below W.heap.size W W') : W'.ownsRow base e size v n xs :=
  h.kept (row := none) ⟨hb.os, hb.tape, hb.output, hb.size, fun j hj _ => hb.block j hj⟩ (by cases v.ownBlock <;> simp)
theorem own_range {W : World} {base e size n : Nat} {v : Value} {xs : List Value} (h : W.ownsRow base e size v n xs) : ∀ k, v.ownBlock = some k → base ≤ k := fun k hk => (h.lt k hk).1

theorem line_int (B : Nat) (s : ByteArray) (hs : s.size ≤ 65536) (k a b : Nat) (hk : LineAt s k a b) (W : World) (h : TextAt W B s) :
    Calls Try.prog 20 #[.pointer (some ⟨B, 0, none⟩), .int .i64 ((k : Int) + 1)] W fun e w' => e = .returned (.tuple #[.string (s.extract (pl s a) (pl s b)), .bool true]) ∧ Below W.heap.size W w' := by
  have := line_in B s hs k a b hk W h
  rw [show ((k + 1 : Nat) : Int) = (k : Int) + 1 by omega] at this
  exact this

theorem text_grown {W W1 W2 : World} {B : Nat} {s : ByteArray} {row : Option Nat} (h : TextAt W B s) (hb : Below W.heap.size W W1) (hg : W1.grownBy W2 row) (hr : ∀ k, row = some k → W.heap.size ≤ k) : TextAt W2 B s :=
  h.below (hb.grown hg hb.size hr) (Nat.le_refl _)

set_option maxRecDepth 100000 in
set_option maxHeartbeats 2000000 in
theorem lwhole_long (s : ByteArray) (hl : 65536 < s.size) (hm : s.size ≤ maxLen) (w : World) : Calls Try.prog 5 #[.string s] w fun e w' => e = .returned (.bool true) ∧ Below w.heap.size w w' := by
  go_enter Try.func5, Try.ntmps5
  go_wp2_with fail
  refine (begun_long s hl hm _).mono ?_
  rintro e w1 ⟨rfl, hb⟩
  have HB := hide hb
  clear hb
  go_wp2
  go_ret
  exact ⟨rfl, unhide HB⟩

set_option maxRecDepth 100000 in
set_option maxHeartbeats 4000000 in
theorem lwhole_in (s : ByteArray) (hs : s.size ≤ 65536) (w : World) : Calls Try.prog 5 #[.string s] w fun e w' => e = .returned (.bool true) ∧ Below w.heap.size w w' := by
  obtain ⟨i0, hi, hz0, hz1, hz2⟩ := info_parts infoByte
  have HI := hide (And.intro hi (And.intro hz0 (And.intro hz1 hz2)))
  obtain ⟨hl1, hl2⟩ := lns_length s
  have hnl := starts_length s
  have HE := hide (upTo_end s)
  clear hi hz0 hz1 hz2
  go_enter Try.func5, Try.ntmps5
  go_wp2_with fail
  refine (begun_any s hs _).mono ?_
  rintro e w1 ⟨B, rfl, hT, hb⟩
  have HT := hide hT
  have HB1 := hide hb
  clear hT hb
  go_wp2
  go_loopw [6, 7] (fun v i wr => ∃ k : Nat, k ≤ (lns s).length ∧ i = .int .i64 ((k : Int) + 1) ∧ Hid (wr.ownsRow w1.heap.size 5 1 v (upTo s k).size (strCells (upTo s k))) ∧ Hid (TextAt wr B s) ∧ Hid (Below w1.heap.size w1 wr)) (fun _ i _ => (lns s).length + 1 - (intOf i).toNat)
  case atStart => exact ⟨0, by omega, rfl, hide (World.ownsRow_nil _ _ _ _), HT, hide (Below.refl _ _)⟩
  case round =>
    obtain ⟨k, hk, rfl, HO, HTr, HBr⟩ := hrel
    have hkb : (k : Int) ≤ 65537 := by omega
    have hsz := upTo_size s k
    by_cases hkn : k < (lns s).length
    · obtain ⟨a, b, hab⟩ := line_at s k hkn
      have HAB := hide hab
      have hk1 : (k : Int) + 1 ≤ ((lns s).length : Int) := by omega
      have hsz2 := upTo_size s (k + 1)
      clear hab
      go_wp2_with fail
      refine (lines_text B s hs _ (unhide HTr)).mono ?_
      rintro e w2 ⟨rfl, rfl⟩
      go_wp2_with fail
      refine (line_int B s hs k a b (unhide HAB) _ (unhide HTr)).mono ?_
      rintro e w3 ⟨rfl, hb⟩
      have HT3 := hide ((unhide HTr).below hb (Nat.le_refl _))
      have HB3 := hide ((unhide HBr).trans (hb.mono (unhide HBr).size))
      have HO3 := hide (own_below (unhide HO) hb)
      clear hb
      by_cases h0 : k = 0
      · subst h0
        have hk2 : ¬ (1 : Int) < ((0 : Nat) : Int) + 1 := by omega
        have HF := hide (upTo_first s a b (unhide HAB))
        have hlz : (s.extract (pl s a) (pl s b)).size ≤ 65536 := by rw [← unhide HF]; have := upTo_size s 1; omega
        generalize hX : s.extract (pl s a) (pl s b) = X at *
        have h00 : (upTo s 0).size = 0 := rfl
        clear hX
        go_wp2_with (at_builtin; refine wpList_append_own_string _ rfl _ _ 22 9 rfl w1.heap.size 5 i0 Try.underlying22 Try.underlying9 (unhide HI).1 (unhide HI).2.1 (unhide HI).2.2.1 (unhide HI).2.2.2 _ _ _ rfl (unhide HO3) X rfl ?c1 ?c2 ?c3 ?_)
        case c1 => unfold maxLen; omega
        case c2 => omega
        case c3 => exact (unhide HB3).size
        intro v' w4 hown' hgrow _
        have HB4 := hide ((unhide HB3).grown hgrow (unhide HB3).size (own_range (unhide HO3)))
        have HT4 := hide (text_grown (unhide HT) (unhide HB3) hgrow (own_range (unhide HO3)))
        have HO4 := hide hown'
        clear hown' hgrow
        go_wp2
        go_roundw
        case rel =>
          refine ⟨1, by omega, by go_num, hide ?_, HT4, HB4⟩
          rw [unhide HF]
          exact unhide HO4
        case measure => simp [intOf]; omega
      · have hk2 : (1 : Int) < (k : Int) + 1 := by omega
        have hF : upTo s (k + 1) = upTo s k ++ ⟨#[10]⟩ ++ s.extract (pl s a) (pl s b) := by
          obtain ⟨q, rfl⟩ : ∃ q, k = q + 1 := ⟨k - 1, by omega⟩
          exact upTo_next s q a b (unhide HAB)
        have HF := hide hF
        have hlz : (upTo s k).size + 1 + (s.extract (pl s a) (pl s b)).size ≤ 65536 := by
          have h1 : (upTo s (k + 1)).size = (upTo s k).size + 1 + (s.extract (pl s a) (pl s b)).size := by rw [unhide HF, ByteArray.size_append, ByteArray.size_append]; rfl
          omega
        have HLZ := hide hlz
        have HHS := hide (And.intro hsz hsz2)
        clear hF hlz hsz hsz2 h0
        generalize hX : s.extract (pl s a) (pl s b) = X at *
        clear hX
        go_wp2_with (at_builtin; refine wpList_append_own _ rfl _ _ 22 rfl w1.heap.size 5 i0 (.int .u8 0) 1 1 Try.underlying22 (unhide HI).1 (unhide HI).2.1 (unhide HI).2.2.1 (unhide HI).2.2.2 rfl (by decide) _ _ _ rfl ((unhide HO3).alloc _) ⟨w3.heap.size, 0, none⟩ 1 1 [.int .u8 10] rfl rfl (one_new _ _ _) ?c0 ?c1 ?c2 ?c3 ?_)
        case c0 => intro u hu; simp at hu; rw [hu]; rfl
        case c1 => have := unhide HLZ; unfold maxLen; omega
        case c2 => have := unhide HLZ; omega
        case c3 => have := (unhide HB3).size; simp; omega
        intro v' w4 hown' hgrow _
        have hB3a := (unhide HB3).alloc (unhide HB3).size (.cells #[.int .u8 10] 5)
        have HB4 := hide (hB3a.grown hgrow (by have := (unhide HB3).size; simp; omega) (own_range (unhide HO3)))
        have HT4 := hide (text_grown (unhide HT) hB3a hgrow (own_range (unhide HO3)))
        have HO4 := hide hown'
        clear hown' hgrow hB3a
        go_wp2_with (at_builtin; refine wpList_append_own_string _ rfl _ _ 22 9 rfl w1.heap.size 5 i0 Try.underlying22 Try.underlying9 (unhide HI).1 (unhide HI).2.1 (unhide HI).2.2.1 (unhide HI).2.2.2 _ _ _ rfl (unhide HO4) X rfl ?c1 ?c2 ?c3 ?_)
        case c1 => have := unhide HLZ; unfold maxLen; omega
        case c2 => have := unhide HLZ; omega
        case c3 => exact (unhide HB4).size
        intro v'' w5 hown' hgrow _
        have HB5 := hide ((unhide HB4).grown hgrow (unhide HB4).size (own_range (unhide HO4)))
        have HT5 := hide (text_grown (unhide HT) (unhide HB4) hgrow (own_range (unhide HO4)))
        have HO5 := hide hown'
        clear hown' hgrow
        go_wp2
        go_roundw
        case rel =>
          refine ⟨k + 1, by omega, by go_num, hide ?_, HT5, HB5⟩
          rw [unhide HF, ByteArray.size_append, ByteArray.size_append, strCells_append, strCells_append, List.append_assoc]
          exact unhide HO5
        case measure => simp [intOf]; omega
    · obtain rfl : k = (lns s).length := by omega
      have hk1 : ¬ ((lns s).length : Int) + 1 ≤ ((lns s).length : Int) := by omega
      have hge : (1 : Int) ≤ ((lns s).length : Int) := by omega
      have HHL := hide (And.intro hl1 hl2)
      clear hl1 hl2 hsz hkn hk hkb
      have HO2 := unhide HO
      rw [unhide HE] at HO2
      have HO3 := hide HO2
      clear HO2 HO
      go_wp2_with fail
      refine (lines_text B s hs _ (unhide HTr)).mono ?_
      rintro e w2 ⟨rfl, rfl⟩
      go_wp2_with fail
      refine (line_out B s hs 0 (by omega) _ (unhide HTr)).mono ?_
      rintro e w3 ⟨rfl, hb⟩
      have HT3 := hide ((unhide HTr).below hb (Nat.le_refl _))
      have HB3 := hide ((unhide HBr).trans (hb.mono (unhide HBr).size))
      have HO4 := hide (own_below (unhide HO3) hb)
      clear hb
      go_wp2_with fail
      refine (lines_text B s hs _ (unhide HT3)).mono ?_
      rintro e w4 ⟨rfl, rfl⟩
      generalize hL : (lns s).length = L at *
      have HLL := hide hL
      have hlb : (L : Int) ≤ 65537 := by have := (unhide HHL).2; omega
      clear hL
      go_wp2_with fail
      refine (line_out B s hs _ (by rw [unhide HLL]; omega) _ (unhide HT3)).mono ?_
      rintro e w5 ⟨rfl, hb⟩
      have HT5 := hide ((unhide HT3).below hb (Nat.le_refl _))
      have HB5 := hide ((unhide HB3).trans (hb.mono (unhide HB3).size))
      have kc := own_string (own_below (unhide HO4) hb)
      clear hb
      go_wp2_with fail
      refine (lines_text B s hs _ (unhide HT5)).mono ?_
      rintro e w6 ⟨rfl, rfl⟩
      rw [unhide HLL]
      go_wp2
      go_ret
      exact ⟨rfl, (unhide HB1).trans ((unhide HB5).mono (unhide HB1).size)⟩

theorem lwhole_any (s : ByteArray) (hm : s.size ≤ maxLen) (w : World) : Calls Try.prog 5 #[.string s] w fun e w' => e = .returned (.bool true) ∧ Below w.heap.size w w' := by
  by_cases h : s.size ≤ 65536
  · exact lwhole_in s h w
  · exact lwhole_long s (by omega) hm w
end Go.Proofs.Ytaafecaclkagiac
