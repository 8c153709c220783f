/- UtfThere, for every list of at most a million numbers: runes to a text and back; what is no rune is refused. -/
import Derived.Test.YtaafecaclkagiabArg
namespace Go.Proofs.Ytaafecaclkagiab
open Go.RowKit Go.Shelf
set_option linter.unusedVariables false

theorem textV_all (zs : List Int) (h : ∀ z ∈ zs, widthOf z ≠ 0) : textV zs = .tuple #[.string (runesBytes zs), .int .i64 0] := by
  unfold textV
  rw [if_pos]
  unfold allRunes
  rw [List.all_eq_true]
  intro z hz
  simpa using h z hz
theorem textV_not (zs : List Int) (z : Int) (hm : z ∈ zs) (h : widthOf z = 0) : textV zs = .tuple #[.string ⟨#[]⟩, .int .i64 12] := by
  unfold textV
  rw [if_neg]
  unfold allRunes
  intro hh
  have := List.all_eq_true.1 hh z hm
  simp [h] at this

theorem text_none (a : Option Addr) (cap : Nat) (w : World) : Calls Try.prog 10 #[.slice a 0 cap] w fun e w' => e = .returned (.tuple #[.string ⟨#[]⟩, .int .i64 0]) ∧ w' = w := by
  have kc : (convert 22 9 (.slice a 0 cap)).run Try.prog w = .ok (.string ⟨#[]⟩) w := by
    cases a with
    | none => exact run_convert_runes_nil w 22 9 21 0 cap Try.underlying22 Try.underlying21 Try.underlying9
    | some x => exact run_convert_runes w 22 9 21 x 0 cap [] (Nat.le_refl _) Try.underlying22 Try.underlying21 Try.underlying9 (fun j hj => by simp at hj)
  go_enter Try.func10, Try.ntmps10
  go_wp2
  go_loop [8] (fun i => i = .int .i64 0) (fun i => 0)
  case atStart => rfl
  case round =>
    subst hrel
    go_wp2
    go_ret2
    exact ⟨rfl, rfl⟩

theorem sameR_none (a b : Option Addr) (ca cb : Nat) (w : World) : Calls Try.prog 13 #[.slice a 0 ca, .slice b 0 cb] w fun e w' => e = .returned (.bool true) ∧ Below w.heap.size w w' := by
  go_enter Try.func13, Try.ntmps13
  go_wp2
  go_loopw [5] (fun i wr => i = .int .i64 0 ∧ wr = w) (fun i _ => 0)
  case atStart => exact ⟨rfl, rfl⟩
  case round =>
    obtain ⟨rfl, rfl⟩ := hrel
    go_wp2
    go_ret
    exact ⟨rfl, Below.refl _ _⟩

theorem valid_nil : validV ⟨#[]⟩ = .tuple #[.agg #[.int .i64 0, .int .i64 0], .bool true] := rfl
theorem runesL_nil : runesL ⟨#[]⟩ = [] := rfl

set_option maxRecDepth 100000 in
set_option maxHeartbeats 4000000 in
theorem there_none (a : Option Addr) (cap : Nat) (w : World) : Calls Try.prog 3 #[.slice a 0 cap] w fun e w' => e = .returned (.bool true) ∧ Below w.heap.size w w' := by
  go_enter Try.func3, Try.ntmps3
  go_wp2_with fail
  refine (alive_any _).mono ?_
  rintro e w1 ⟨rfl, hb⟩
  have HB1 := hide hb
  clear hb
  go_wp2_with fail
  refine (text_none a cap _).mono ?_
  rintro e w2 ⟨rfl, rfl⟩
  go_wp2
  go_loop [5, 6] (fun n i => n = .int .i64 0 ∧ i = .int .i64 0) (fun _ _ => 0)
  case atStart => exact ⟨rfl, rfl⟩
  case round =>
    obtain ⟨rfl, rfl⟩ := hrel
    go_wp2_with fail
    refine (valid_any ⟨#[]⟩ (Nat.zero_le _) _).mono ?_
    rintro e w3 ⟨rfl, hb⟩
    rw [valid_nil]
    have HB3 := hide ((unhide HB1).trans (hb.mono (unhide HB1).size))
    clear hb
    have HB3a := hide ((unhide HB3).alloc (unhide HB3).size (.cells #[.int .i64 0, .int .i64 0] 29))
    go_wp2_with fail
    refine (runes2_any ⟨#[]⟩ (Nat.zero_le _) _).mono ?_
    rintro e w4 ⟨cap4, rfl, _, _, hb⟩
    rw [runesL_nil]
    have HB4 := hide ((unhide HB3a).trans (hb.mono (unhide HB3a).size))
    clear hb
    go_wp2_with fail
    refine (sameR_none _ a _ cap _).mono ?_
    rintro e w5 ⟨rfl, hb⟩
    have HB5 := hide ((unhide HB4).trans (hb.mono (unhide HB4).size))
    clear hb
    go_wp2
    go_ret
    exact ⟨rfl, unhide HB5⟩

theorem runesBytes_snoc (zs : List Int) (z : Int) : runesBytes (zs ++ [z]) = runesBytes zs ++ Utf8.encode z := by
  rw [runesBytes_both, runesBytes_cons]
  congr 1
  show Utf8.encode z ++ ByteArray.empty = _
  simp
theorem take_succ_getD (zs : List Int) (k : Nat) (h : k < zs.length) : zs.take (k + 1) = zs.take k ++ [zs.getD k 0] := by
  rw [List.take_add_one, List.getElem?_eq_getElem h, List.getD, List.getElem?_eq_getElem h]
  rfl
theorem getD_mem (zs : List Int) (k : Nat) (h : k < zs.length) : zs.getD k 0 ∈ zs := by rw [List.getD, List.getElem?_eq_getElem h]; exact List.getElem_mem h

set_option maxRecDepth 100000 in
set_option maxHeartbeats 4000000 in
/-- All are runes. -/
theorem there_all (g o cap : Nat) (zs : List Int) (hz : zs.length ≤ 1048576) (h : ∀ z ∈ zs, widthOf z ≠ 0) (w : World) (hg : g < w.heap.size) (hc : RunesAt w g o zs) :
    Calls Try.prog 3 #[.slice (some ⟨g, o, none⟩) zs.length cap] w fun e w' => e = .returned (.bool true) ∧ Below w.heap.size w w' := by
  have HT := hide (textV_all zs h)
  have hsz := runesBytes_size_le zs
  obtain ⟨hrb, hbd⟩ := runes_back zs h
  have HV := hide (show validV (runesBytes zs) = .tuple #[.agg #[.int .i64 0, .int .i64 0], .bool true] from validFrom_none _ _ 0 hbd)
  have HRB := hide hrb
  have HC := hide hc
  have HH := hide h
  have hms : (runesBytes zs).size ≤ maxLen := by unfold maxLen; omega
  clear hc h hrb hbd
  go_enter Try.func3, Try.ntmps3
  go_wp2_with fail
  refine (alive_any _).mono ?_
  rintro e w1 ⟨rfl, hb⟩
  have HB1 := hide hb
  have HC1 := hide ((unhide HC).below hb hg)
  have hg1 : g < w1.heap.size := by have := hb.size; omega
  clear hb
  go_wp2_with fail
  refine (text_any g o cap zs (by omega) _ (unhide HC1)).mono ?_
  rintro e w2 ⟨rfl, rfl⟩
  rw [unhide HT]
  generalize hrz : runesBytes zs = rb at *
  have HRZ := hide hrz
  clear hrz
  go_wp2
  go_loop [5, 6] (fun n i => ∃ k : Nat, k ≤ zs.length ∧ i = .int .i64 k ∧ n = .int .i64 (runesBytes (zs.take k)).size) (fun _ i => zs.length - (intOf i).toNat)
  case atStart => exact ⟨0, by omega, rfl, rfl⟩
  case round =>
    obtain ⟨k, hk, rfl, rfl⟩ := hrel
    by_cases hkn : k < zs.length
    · have hck := unhide HC1 k hkn
      have hk1 : (k : Int) < (zs.length : Int) := by omega
      have hw0 := unhide HH _ (getD_mem zs k hkn)
      have htk := take_succ_getD zs k hkn
      have hsk : (runesBytes (zs.take k)).size ≤ 4 * zs.length := by
        have h1 := runesBytes_size_le (zs.take k)
        have h2 : (zs.take k).length ≤ zs.length := by rw [List.length_take]; omega
        omega
      have hst : ((runesBytes (zs.take (k + 1))).size : Int) = (runesBytes (zs.take k)).size + widthOf (zs.getD k 0) := by
        rw [htk, runesBytes_snoc, ByteArray.size_append, ← (decode_enc hw0).2]
        omega
      have HST := hide hst
      generalize zs.getD k 0 = z at *
      generalize (runesBytes (zs.take k)).size = q at *
      have h4 : widthOf z ≤ 4 ∧ 0 ≤ widthOf z := by unfold widthOf; split <;> (try split) <;> (try split) <;> (try split) <;> omega
      have hb : (widthOf z == 0) = false := by simpa using hw0
      clear hw0 htk hst
      go_wp2_with (go_at_call 11; refine (width_any _ _).mono ?_; rintro e w' ⟨rfl, rfl⟩)
      go_round
      case rel => exact ⟨k + 1, by omega, by go_num, by rw [unhide HST]⟩
      case measure => simp [intOf]; omega
    · have hk1 : ¬ (k : Int) < (zs.length : Int) := by omega
      have hkk : k = zs.length := by omega
      subst hkk
      rw [List.take_length, unhide HRZ]
      go_wp2_with fail
      refine (valid_any rb hms _).mono ?_
      rintro e w3 ⟨rfl, hb⟩
      rw [unhide HV]
      have HB3 := hide ((unhide HB1).trans (hb.mono (unhide HB1).size))
      have HC3 := hide ((unhide HC1).below hb hg1)
      have hg3 : g < w3.heap.size := by have := hb.size; omega
      clear hb
      have HB3a := hide ((unhide HB3).alloc (unhide HB3).size (.cells #[.int .i64 0, .int .i64 0] 29))
      have HC3a := hide ((unhide HC3).below ((Below.refl w3.heap.size w3).alloc (Nat.le_refl _) (.cells #[.int .i64 0, .int .i64 0] 29)) hg3)
      go_wp2_with fail
      refine (runes2_any rb (by omega) _).mono ?_
      rintro e w4 ⟨cap4, rfl, hr, hlt, hb⟩
      rw [unhide HRB, World.size_alloc] at hr
      rw [unhide HRB]
      have HB4 := hide ((unhide HB3a).trans (hb.mono (unhide HB3a).size))
      have HC4 := hide ((unhide HC3a).below hb (by simp; omega))
      have HR4 := hide hr
      clear hb hr hlt
      go_wp2_with fail
      refine (sameR_eq _ 0 cap4 g o cap zs (by omega) _ (unhide HR4) (unhide HC4)).mono ?_
      rintro e w5 ⟨rfl, hb⟩
      have HB5 := hide ((unhide HB4).trans (hb.mono (unhide HB4).size))
      clear hb
      go_wp2
      go_ret
      exact ⟨rfl, unhide HB5⟩

set_option maxRecDepth 100000 in
set_option maxHeartbeats 4000000 in
/-- One is none. -/
theorem there_not (g o cap : Nat) (zs : List Int) (hz : zs.length ≤ 1048576) (z : Int) (hm : z ∈ zs) (h : widthOf z = 0) (w : World) (hg : g < w.heap.size) (hc : RunesAt w g o zs) :
    Calls Try.prog 3 #[.slice (some ⟨g, o, none⟩) zs.length cap] w fun e w' => e = .returned (.bool true) ∧ Below w.heap.size w w' := by
  have HT := hide (textV_not zs z hm h)
  have HM := hide hm
  have HH := hide h
  have HC := hide hc
  clear hc h hm
  go_enter Try.func3, Try.ntmps3
  go_wp2_with fail
  refine (alive_any _).mono ?_
  rintro e w1 ⟨rfl, hb⟩
  have HB1 := hide hb
  have HC1 := hide ((unhide HC).below hb hg)
  clear hb
  go_wp2_with fail
  refine (text_any g o cap zs (by omega) _ (unhide HC1)).mono ?_
  rintro e w2 ⟨rfl, rfl⟩
  rw [unhide HT]
  go_wp2
  go_loop [5, 6] (fun n i => ∃ k q : Nat, k ≤ zs.length ∧ i = .int .i64 k ∧ n = .int .i64 q ∧ q ≤ 4 * k ∧ Hid (∀ j, j < k → widthOf (zs.getD j 0) ≠ 0)) (fun _ i => zs.length - (intOf i).toNat)
  case atStart => exact ⟨0, 0, by omega, rfl, rfl, by omega, hide (fun j hj => by omega)⟩
  case round =>
    obtain ⟨k, q, hk, rfl, rfl, hq, H⟩ := hrel
    by_cases hkn : k < zs.length
    · have hck := unhide HC1 k hkn
      have hk1 : (k : Int) < (zs.length : Int) := by omega
      generalize hy : zs.getD k 0 = y at *
      have HY := hide hy
      have h4 : widthOf y ≤ 4 ∧ 0 ≤ widthOf y := by unfold widthOf; split <;> (try split) <;> (try split) <;> (try split) <;> omega
      clear hy
      by_cases hw0 : widthOf y = 0
      · have hb : (widthOf y == 0) = true := by simp [hw0]
        clear hw0
        go_wp2_with (go_at_call 11; refine (width_any _ _).mono ?_; rintro e w' ⟨rfl, rfl⟩)
        go_ret
        exact ⟨rfl, unhide HB1⟩
      · have hb : (widthOf y == 0) = false := by simpa using hw0
        have HW := hide hw0
        clear hw0
        go_wp2_with (go_at_call 11; refine (width_any _ _).mono ?_; rintro e w' ⟨rfl, rfl⟩)
        go_round
        case rel =>
          refine ⟨k + 1, q + (widthOf y).toNat, by omega, by go_num, ?_, by omega, hide (fun j hj => ?_)⟩
          · rw [show (((q + (widthOf y).toNat : Nat)) : Int) = (q : Int) + widthOf y by omega]
          · by_cases e : j = k
            · subst e; rw [unhide HY]; exact unhide HW
            · exact unhide H j (by omega)
        case measure => simp [intOf]; omega
    · exfalso
      obtain ⟨j, hj, hjz⟩ := List.getElem_of_mem (unhide HM)
      have := unhide H j (by omega)
      rw [List.getD, List.getElem?_eq_getElem hj] at this
      exact this (by rw [← unhide HH, ← hjz]; rfl)

theorem lthere_any (a : Option Addr) (len cap : Nat) (z : List Int) (w : World) (hr : ArgRow .i32 w a len cap z) (hl : z.length ≤ 1048576) :
    Calls Try.prog 3 #[.slice a len cap] w fun e w' => e = .returned (.bool true) ∧ Below w.heap.size w w' := by
  by_cases hn : 0 < len
  · obtain ⟨g, o, rfl, hg, hlen, hra⟩ := hr.runes hn
    have hb : (z.take len).length ≤ 1048576 := by rw [List.length_take]; omega
    rw [← hlen]
    by_cases hw : ∀ y ∈ z.take len, widthOf y ≠ 0
    · exact there_all g o cap _ hb hw w hg hra
    · have ⟨y, hy⟩ := Classical.not_forall.1 hw
      obtain ⟨hy1, hy2⟩ := Classical.not_imp.1 hy
      exact there_not g o cap _ hb y hy1 (Classical.not_not.1 hy2) w hg hra
  · obtain rfl : len = 0 := by omega
    exact there_none a cap w
end Go.Proofs.Ytaafecaclkagiab
