/- UtfClean, for every text of at most a million letters: a clean text is valid, stays, has the same runes, is their text; a text is valid just if it is clean. -/
import Derived.Test.YtgkcmllcoigplabText
import Derived.Test.YtgkcmllcoigplabEnc
namespace Go.Proofs.Ytgkcmllcoigplab
open Go.RowKit Go.Shelf
set_option linter.unusedVariables false

/-- A row of numbers in a world. -/
def RunesAt (W : World) (g o : Nat) (zs : List Int) : Prop := ∀ j, j < zs.length → W.cell? ⟨g, o + j, none⟩ = some (.int .i32 (zs.getD j 0))
theorem RunesAt.below {W W' : World} {N g o : Nat} {zs : List Int} (h : RunesAt W g o zs) (hb : Below N W W') (hg : g < N) : RunesAt W' g o zs := fun j hj => (hb.cell (p := ⟨g, o + j, none⟩) hg).trans (h j hj)

theorem cleanV_size (s : ByteArray) : (cleanV s).size ≤ 4 * s.size := by
  have h1 := runesBytes_size_le (runesL s)
  have h2 := starts_length s
  rw [runesL_length] at h1
  unfold cleanV
  omega

theorem runes2_any (s : ByteArray) (hs : s.size ≤ 70368744177664) (w : World) : Calls Try.prog 30 #[.string s] w fun e w' => ∃ cap, e = .returned (.slice (some ⟨w.heap.size, 0, none⟩) (runesL s).length cap) ∧ RunesAt w' w.heap.size 0 (runesL s) ∧ w.heap.size < w'.heap.size ∧ Below w.heap.size w w' := by
  refine (runes_any s hs w).mono ?_
  rintro e w' ⟨cap, rfl, hcap, cs, rfl⟩
  refine ⟨cap, rfl, fun j hj => ?_, by show w.heap.size < (w.drew.alloc _).heap.size; simp, ((Below.refl _ _).drew).alloc (Nat.le_refl _) _⟩
  have := runes_cell w.drew (runesL s) cs 21 j hj
  rw [show (⟨w.drew.heap.size, 0, none⟩ : Addr).add j = ⟨w.heap.size, 0 + j, none⟩ by unfold Addr.add; split <;> simp_all] at this
  exact this

set_option maxRecDepth 100000 in
set_option maxHeartbeats 2000000 in
theorem sameR_eq (g o ca h p cb : Nat) (zs : List Int) (hz : zs.length ≤ 9223372036854775807) (w : World) (hg : RunesAt w g o zs) (hh : RunesAt w h p zs) :
    Calls Try.prog 31 #[.slice (some ⟨g, o, none⟩) zs.length ca, .slice (some ⟨h, p, none⟩) zs.length cb] w fun e w' => e = .returned (.bool true) ∧ Below w.heap.size w w' := by
  have HG := hide hg
  have HH := hide hh
  clear hg hh
  have hne : (((zs.length : Nat) : Int) != ((zs.length : Nat) : Int)) = false := by simp
  go_enter Try.func31, Try.ntmps31
  go_wp2
  go_loopw [5] (fun i wr => ∃ k : Nat, k ≤ zs.length ∧ i = .int .i64 k ∧ ∃ q, wr = w.drewN q) (fun i _ => zs.length - (intOf i).toNat)
  case atStart => exact ⟨0, by omega, rfl, 0, rfl⟩
  case round =>
    obtain ⟨k, hk, rfl, q, rfl⟩ := hrel
    by_cases hkn : k < zs.length
    · have c0 := unhide HG k hkn
      have c1 := unhide HH k hkn
      have hk1 : (k : Int) < (zs.length : Int) := by omega
      have hk2 : ((k : Nat) : Int).toNat = k := by omega
      generalize zs.getD k 0 = z at c0 c1
      have hzz : (z != z) = false := by simp
      go_wp2
      go_quiet (fail)
      go_wp2
      go_roundw
      case rel => exact ⟨k + 1, by omega, by go_num, _, rfl⟩
      case measure => simp [intOf]; omega
    · have hk1 : ¬ (k : Int) < (zs.length : Int) := by omega
      go_wp2
      go_ret
      exact ⟨rfl, below_drewN (Below.refl _ _) _⟩

theorem text_runes (s : ByteArray) : textV (runesL s) = .tuple #[.string (cleanV s), .int .i64 0] := by
  unfold textV
  rw [if_pos]
  · rfl
  · unfold allRunes
    rw [List.all_eq_true]
    intro z hz
    have := runesL_runes s z hz
    simpa using this

set_option maxRecDepth 100000 in
set_option maxHeartbeats 4000000 in
theorem clean_walk (s c : ByteArray) (hs : s.size ≤ 1048576) (hc : c.size ≤ 4194304) (xa ya : Int) (a : Bool) (h1 : cleanV s = c) (h2 : validV c = .tuple #[.agg #[.int .i64 0, .int .i64 0], .bool true])
    (h3 : validV s = .tuple #[.agg #[.int .i64 xa, .int .i64 ya], .bool a]) (h4 : cleanV c = c) (h5 : runesL c = runesL s) (h6 : (starts c).length = (starts s).length) (h7 : (c.toList == s.toList) = a) (w : World) :
    Calls Try.prog 7 #[.string s] w fun e w' => e = .returned (.bool true) ∧ Below w.heap.size w w' := by
  have hms : s.size ≤ maxLen := by unfold maxLen; omega
  have hmc : c.size ≤ maxLen := by unfold maxLen; omega
  have h8 := text_runes s
  rw [h1] at h8
  have hz : (runesL s).length ≤ 9223372036854775807 := by have hl := runesL_length s; have hl2 := starts_length s; omega
  have H1 := hide h1
  have H2 := hide h2
  have H3 := hide h3
  have H4 := hide h4
  have H5 := hide h5
  have H6 := hide h6
  have H8 := hide h8
  clear h1 h2 h3 h4 h5 h6 h8
  go_enter Try.func7, Try.ntmps7
  go_wp2_with fail
  refine (alive_any _).mono ?_
  rintro e w1 ⟨rfl, hb⟩
  have HB1 := hide hb
  clear hb
  go_wp2_with fail
  refine (clean_any s (by omega) _).mono ?_
  rintro e w2 ⟨rfl, hb⟩
  rw [unhide H1]
  have HB2 := hide ((unhide HB1).trans (hb.mono (unhide HB1).size))
  clear hb
  go_wp2_with fail
  refine (valid_any c hmc _).mono ?_
  rintro e w3 ⟨rfl, hb⟩
  rw [unhide H2]
  have HB3 := hide ((unhide HB2).trans (hb.mono (unhide HB2).size))
  clear hb
  have HB3a := hide ((unhide HB3).alloc (unhide HB3).size (.cells #[.int .i64 0, .int .i64 0] 55))
  go_wp2_with fail
  refine (valid_any s hms _).mono ?_
  rintro e w4 ⟨rfl, hb⟩
  rw [unhide H3]
  have HB4 := hide ((unhide HB3a).trans (hb.mono (unhide HB3a).size))
  clear hb
  have HB4a := hide ((unhide HB4).alloc (unhide HB4).size (.cells #[.int .i64 xa, .int .i64 ya] 55))
  go_wp2_with fail
  refine (runes2_any s (by omega) _).mono ?_
  rintro e w5 ⟨cap, rfl, hr, hlt, hb⟩
  have HB5 := hide ((unhide HB4a).trans (hb.mono (unhide HB4a).size))
  rw [World.size_alloc] at hr
  have HR5 := hide hr
  clear hb hr hlt
  go_wp2_with fail
  refine (text_any _ 0 cap (runesL s) hz _ (unhide HR5)).mono ?_
  rintro e w6 ⟨rfl, rfl⟩
  rw [unhide H8]
  go_wp2_with fail
  refine (clean_any c (by omega) _).mono ?_
  rintro e w7 ⟨rfl, hb⟩
  rw [unhide H4]
  have HB7 := hide ((unhide HB5).trans (hb.mono (unhide HB5).size))
  clear hb
  go_wp2_with fail
  refine (runes2_any c (by omega) _).mono ?_
  rintro e w8 ⟨cap8, rfl, hr, hlt, hb⟩
  rw [unhide H5] at hr
  rw [unhide H5]
  have HB8 := hide ((unhide HB7).trans (hb.mono (unhide HB7).size))
  have HR8 := hide hr
  have hlt8 := hlt
  clear hb hr hlt
  go_wp2_with fail
  refine (runes2_any s (by omega) _).mono ?_
  rintro e w9 ⟨cap9, rfl, hr, hlt, hb⟩
  have HB9 := hide ((unhide HB8).trans (hb.mono (unhide HB8).size))
  have HR9 := hide hr
  have HR89 := hide ((unhide HR8).below hb hlt8)
  clear hb hr hlt
  go_wp2_with fail
  refine (sameR_eq _ 0 cap8 _ 0 cap9 (runesL s) hz _ (unhide HR89) (unhide HR9)).mono ?_
  rintro e w10 ⟨rfl, hb⟩
  have HB10 := hide ((unhide HB9).trans (hb.mono (unhide HB9).size))
  clear hb
  go_wp2_with fail
  refine (count_any c hmc _).mono ?_
  rintro e w11 ⟨rfl, hb⟩
  rw [unhide H6]
  have HB11 := hide ((unhide HB10).trans (hb.mono (unhide HB10).size))
  clear hb
  go_wp2_with fail
  refine (count_any s hms _).mono ?_
  rintro e w12 ⟨rfl, hb⟩
  have HB12 := hide ((unhide HB11).trans (hb.mono (unhide HB11).size))
  clear hb
  go_wp2
  go_ret
  exact ⟨rfl, unhide HB12⟩

theorem lclean_any (s : ByteArray) (hs : s.size ≤ 1048576) (w : World) : Calls Try.prog 7 #[.string s] w fun e w' => e = .returned (.bool true) ∧ Below w.heap.size w w' := by
  obtain ⟨c1, c2, c3, c4⟩ := clean_facts s
  have hsz := cleanV_size s
  have hvc : validV (cleanV s) = .tuple #[.agg #[.int .i64 0, .int .i64 0], .bool true] := validFrom_none _ _ 0 c2
  rcases validV_cases s with ⟨xa, ya, ha⟩ | ⟨ha, hva⟩
  · refine clean_walk s (cleanV s) hs (by omega) xa ya false rfl hvc ha c3 c1 c4 ?_ w
    rw [beq_eq_false_iff_ne]
    intro h
    have e : cleanV s = s := by
      rw [ByteArray.toList_eq, ByteArray.toList_eq] at h
      exact ByteArray.ext (Array.toList_inj.1 h)
    rw [e, ha] at hvc
    cases hvc
  · have e := clean_valid s hva
    refine clean_walk s (cleanV s) hs (by omega) 0 0 true rfl hvc ha c3 c1 c4 ?_ w
    rw [e]
    simp
end Go.Proofs.Ytgkcmllcoigplab
