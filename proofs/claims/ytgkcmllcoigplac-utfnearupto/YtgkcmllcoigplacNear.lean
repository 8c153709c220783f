/- UtfNear, walked for every two texts of at most a million letters each. -/
import Derived.Test.YtgkcmllcoigplacJoin
namespace Go.Proofs.Ytgkcmllcoigplac
open Go.RowKit Go.Shelf
set_option linter.unusedVariables false

theorem cleanV_size (s : ByteArray) : (cleanV s).size ≤ 4 * s.size := by
  have h1 := runesBytes_size_le (runesL s)
  have h2 := starts_length s
  rw [runesL_length] at h1
  unfold cleanV
  omega
set_option maxHeartbeats 1000000 in
theorem lastL_any (s : ByteArray) (hs : s.size ≤ maxLen) (w : World) : Calls Try.prog 7 #[.string s] w fun e w' => e = .returned (.string (s.extract (s.size - 3) s.size)) ∧ w' = w := by
  unfold maxLen at hs
  by_cases h : 3 < s.size
  · have h' : (3 : Int) < s.size := by omega
    have e3 : ((s.size : Int) - 3).toNat = s.size - 3 := by omega
    go_enter Try.func7, Try.ntmps7
    go_wp2
    go_ret
    exact ⟨rfl, rfl⟩
  · have h' : ¬ (3 : Int) < s.size := by omega
    rw [extract_all s _ (by omega)]
    go_enter Try.func7, Try.ntmps7
    go_wp2
    go_ret
    exact ⟨rfl, rfl⟩
set_option maxHeartbeats 1000000 in
theorem firstL_any (t : ByteArray) (ht : t.size ≤ maxLen) (w : World) : Calls Try.prog 8 #[.string t] w fun e w' => e = .returned (.string (t.extract 0 (min t.size 3))) ∧ w' = w := by
  unfold maxLen at ht
  by_cases h : 3 < t.size
  · have h' : (3 : Int) < t.size := by omega
    rw [show min t.size 3 = 3 by omega]
    go_enter Try.func8, Try.ntmps8
    go_wp2
    go_ret
    exact ⟨rfl, rfl⟩
  · have h' : ¬ (3 : Int) < t.size := by omega
    rw [extract_head t _ (by omega)]
    go_enter Try.func8, Try.ntmps8
    go_wp2
    go_ret
    exact ⟨rfl, rfl⟩

set_option maxRecDepth 100000 in
set_option maxHeartbeats 4000000 in
theorem near_ff (s t : ByteArray) (hs : s.size ≤ 1048576) (ht : t.size ≤ 1048576) (xa ya xb yb : Int) (hA : validV s = .tuple #[.agg #[.int .i64 xa, .int .i64 ya], .bool false]) (hB : validV t = .tuple #[.agg #[.int .i64 xb, .int .i64 yb], .bool false]) (w : World) :
    Calls Try.prog 3 #[.string s, .string t] w fun e w' => e = .returned (.bool true) ∧ Below w.heap.size w w' := by
  have hms : s.size ≤ maxLen := by unfold maxLen; omega
  have hmt : t.size ≤ maxLen := by unfold maxLen; omega
  have HA := hide hA
  have HB := hide hB
  have HN := hide (joins_near s t)
  clear hA hB
  go_enter Try.func3, Try.ntmps3
  go_wp2_with fail
  refine (alive_any _).mono ?_
  rintro e w1 ⟨rfl, hb⟩
  have HB1 := hide hb
  clear hb
  go_wp2_with fail
  refine (joins_any s t hms hmt _).mono ?_
  rintro e w2 ⟨rfl, hb⟩
  have HB2 := hide ((unhide HB1).trans (hb.mono (unhide HB1).size))
  clear hb
  go_wp2_with fail
  refine (lastL_any s hms _).mono ?_
  rintro e w3 ⟨rfl, rfl⟩
  go_wp2_with fail
  refine (firstL_any t hmt _).mono ?_
  rintro e w4 ⟨rfl, rfl⟩
  go_wp2_with fail
  refine (joins_any _ _ (by rw [ByteArray.size_extract]; unfold maxLen; omega) (by rw [ByteArray.size_extract]; unfold maxLen; omega) _).mono ?_
  rintro e w5 ⟨rfl, hb⟩
  rw [unhide HN]
  have HB5 := hide ((unhide HB2).trans (hb.mono (unhide HB2).size))
  clear hb
  go_wp2_with fail
  refine (valid_any s hms _).mono ?_
  rintro e w6 ⟨rfl, hb⟩
  rw [unhide HA]
  have HB6 := hide ((unhide HB5).trans (hb.mono (unhide HB5).size))
  clear hb
  go_wp2_with fail
  refine (valid_any t hmt _).mono ?_
  rintro e w7 ⟨rfl, hb⟩
  rw [unhide HB]
  have HB7 := hide (((unhide HB6).alloc (unhide HB6).size (.cells #[.int .i64 xa, .int .i64 ya] 26)).trans (hb.mono (by have := (unhide HB6).size; simp; omega)))
  clear hb
  have HB7a := hide ((unhide HB7).alloc (unhide HB7).size (.cells #[.int .i64 xb, .int .i64 yb] 26))
  go_wp2_with fail
  refine (joins_any s t hms hmt _).mono ?_
  rintro e w8 ⟨rfl, hb⟩
  have HB8 := hide ((unhide HB7a).trans (hb.mono (unhide HB7a).size))
  clear hb
  cases hj : joinsV s t with
  | false =>
    go_wp2
    go_ret
    exact ⟨rfl, unhide HB8⟩
  | true =>
    have HBD := hide ((joins_bd s t).symm.trans hj)
    have HLEN := hide (show (starts (s ++ t)).length = (starts s).length + (starts t).length by rw [(starts_both s t (unhide HBD)).1]; simp)
    have HCL := hide (cleanV_both s t (unhide HBD))
    clear hj
    go_wp2_with fail
    refine (count_any (s ++ t) (by rw [ByteArray.size_append]; unfold maxLen; omega) _).mono ?_
    rintro e w9 ⟨rfl, hb⟩
    rw [unhide HLEN]
    have HB9 := hide ((unhide HB8).trans (hb.mono (unhide HB8).size))
    clear hb
    go_wp2_with fail
    refine (count_any s hms _).mono ?_
    rintro e w10 ⟨rfl, hb⟩
    have HB10 := hide ((unhide HB9).trans (hb.mono (unhide HB9).size))
    clear hb
    go_wp2_with fail
    refine (count_any t hmt _).mono ?_
    rintro e w11 ⟨rfl, hb⟩
    have HB11 := hide ((unhide HB10).trans (hb.mono (unhide HB10).size))
    clear hb
    have hcs := starts_length s
    have hct := starts_length t
    generalize (starts s).length = cs at *
    generalize (starts t).length = ct at *
    have hcsi : (cs : Int) + (ct : Int) ≤ 9223372036854775807 := by omega
    go_wp2_with fail
    refine (clean_any (s ++ t) (by rw [ByteArray.size_append]; omega) _).mono ?_
    rintro e w12 ⟨rfl, hb⟩
    rw [unhide HCL]
    have HB12 := hide ((unhide HB11).trans (hb.mono (unhide HB11).size))
    clear hb
    go_wp2_with fail
    refine (clean_any s (by omega) _).mono ?_
    rintro e w13 ⟨rfl, hb⟩
    have HB13 := hide ((unhide HB12).trans (hb.mono (unhide HB12).size))
    clear hb
    go_wp2_with fail
    refine (clean_any t (by omega) _).mono ?_
    rintro e w14 ⟨rfl, hb⟩
    have HB14 := hide ((unhide HB13).trans (hb.mono (unhide HB13).size))
    clear hb
    have hz1 := cleanV_size s
    have hz2 := cleanV_size t
    generalize cleanV s = xs at *
    generalize cleanV t = xt at *
    go_wp2_with fail
    refine (bound_in (s ++ t) (by rw [ByteArray.size_append]; unfold maxLen; omega) s.size (by rw [ByteArray.size_append]; omega) _).mono ?_
    rintro e w15 ⟨rfl, hb⟩
    rw [unhide HBD]
    have HB15 := hide ((unhide HB14).trans (hb.mono (unhide HB14).size))
    clear hb
    go_wp2
    go_ret
    exact ⟨rfl, unhide HB15⟩

set_option maxRecDepth 100000 in
set_option maxHeartbeats 4000000 in
theorem near_ft (s t : ByteArray) (hs : s.size ≤ 1048576) (ht : t.size ≤ 1048576) (xa ya xb yb : Int) (hA : validV s = .tuple #[.agg #[.int .i64 xa, .int .i64 ya], .bool false]) (hB : validV t = .tuple #[.agg #[.int .i64 xb, .int .i64 yb], .bool true]) (hvb : ∀ i ∈ starts t, badB t i = false) (w : World) :
    Calls Try.prog 3 #[.string s, .string t] w fun e w' => e = .returned (.bool true) ∧ Below w.heap.size w w' := by
  have hms : s.size ≤ maxLen := by unfold maxLen; omega
  have hmt : t.size ≤ maxLen := by unfold maxLen; omega
  have HA := hide hA
  have HB := hide hB
  have HN := hide (joins_near s t)
  have hjt := joins_valid_right s t hvb
  have HJT := hide hjt
  clear hA hB hjt
  go_enter Try.func3, Try.ntmps3
  go_wp2_with fail
  refine (alive_any _).mono ?_
  rintro e w1 ⟨rfl, hb⟩
  have HB1 := hide hb
  clear hb
  go_wp2_with fail
  refine (joins_any s t hms hmt _).mono ?_
  rintro e w2 ⟨rfl, hb⟩
  have HB2 := hide ((unhide HB1).trans (hb.mono (unhide HB1).size))
  clear hb
  go_wp2_with fail
  refine (lastL_any s hms _).mono ?_
  rintro e w3 ⟨rfl, rfl⟩
  go_wp2_with fail
  refine (firstL_any t hmt _).mono ?_
  rintro e w4 ⟨rfl, rfl⟩
  go_wp2_with fail
  refine (joins_any _ _ (by rw [ByteArray.size_extract]; unfold maxLen; omega) (by rw [ByteArray.size_extract]; unfold maxLen; omega) _).mono ?_
  rintro e w5 ⟨rfl, hb⟩
  rw [unhide HN]
  have HB5 := hide ((unhide HB2).trans (hb.mono (unhide HB2).size))
  clear hb
  go_wp2_with fail
  refine (valid_any s hms _).mono ?_
  rintro e w6 ⟨rfl, hb⟩
  rw [unhide HA]
  have HB6 := hide ((unhide HB5).trans (hb.mono (unhide HB5).size))
  clear hb
  go_wp2_with fail
  refine (valid_any t hmt _).mono ?_
  rintro e w7 ⟨rfl, hb⟩
  rw [unhide HB]
  have HB7 := hide (((unhide HB6).alloc (unhide HB6).size (.cells #[.int .i64 xa, .int .i64 ya] 26)).trans (hb.mono (by have := (unhide HB6).size; simp; omega)))
  clear hb
  have HB7a := hide ((unhide HB7).alloc (unhide HB7).size (.cells #[.int .i64 xb, .int .i64 yb] 26))
  go_wp2_with fail
  refine (joins_any s t hms hmt _).mono ?_
  rintro e w8 ⟨rfl, hb⟩
  have HB8 := hide ((unhide HB7a).trans (hb.mono (unhide HB7a).size))
  clear hb
  rw [unhide HJT]
  go_wp2_with fail
  refine (joins_any s t hms hmt _).mono ?_
  rintro e w9 ⟨rfl, hb⟩
  have HB9 := hide ((unhide HB8).trans (hb.mono (unhide HB8).size))
  clear hb
  have hjt := unhide HJT
  cases hj : joinsV s t with
  | false =>
    rw [hjt] at hj; cases hj
  | true =>
    have HBD := hide ((joins_bd s t).symm.trans hj)
    have HLEN := hide (show (starts (s ++ t)).length = (starts s).length + (starts t).length by rw [(starts_both s t (unhide HBD)).1]; simp)
    have HCL := hide (cleanV_both s t (unhide HBD))
    clear hj
    go_wp2_with fail
    refine (count_any (s ++ t) (by rw [ByteArray.size_append]; unfold maxLen; omega) _).mono ?_
    rintro e w10 ⟨rfl, hb⟩
    rw [unhide HLEN]
    have HB10 := hide ((unhide HB9).trans (hb.mono (unhide HB9).size))
    clear hb
    go_wp2_with fail
    refine (count_any s hms _).mono ?_
    rintro e w11 ⟨rfl, hb⟩
    have HB11 := hide ((unhide HB10).trans (hb.mono (unhide HB10).size))
    clear hb
    go_wp2_with fail
    refine (count_any t hmt _).mono ?_
    rintro e w12 ⟨rfl, hb⟩
    have HB12 := hide ((unhide HB11).trans (hb.mono (unhide HB11).size))
    clear hb
    have hcs := starts_length s
    have hct := starts_length t
    generalize (starts s).length = cs at *
    generalize (starts t).length = ct at *
    have hcsi : (cs : Int) + (ct : Int) ≤ 9223372036854775807 := by omega
    go_wp2_with fail
    refine (clean_any (s ++ t) (by rw [ByteArray.size_append]; omega) _).mono ?_
    rintro e w13 ⟨rfl, hb⟩
    rw [unhide HCL]
    have HB13 := hide ((unhide HB12).trans (hb.mono (unhide HB12).size))
    clear hb
    go_wp2_with fail
    refine (clean_any s (by omega) _).mono ?_
    rintro e w14 ⟨rfl, hb⟩
    have HB14 := hide ((unhide HB13).trans (hb.mono (unhide HB13).size))
    clear hb
    go_wp2_with fail
    refine (clean_any t (by omega) _).mono ?_
    rintro e w15 ⟨rfl, hb⟩
    have HB15 := hide ((unhide HB14).trans (hb.mono (unhide HB14).size))
    clear hb
    have hz1 := cleanV_size s
    have hz2 := cleanV_size t
    generalize cleanV s = xs at *
    generalize cleanV t = xt at *
    go_wp2_with fail
    refine (bound_in (s ++ t) (by rw [ByteArray.size_append]; unfold maxLen; omega) s.size (by rw [ByteArray.size_append]; omega) _).mono ?_
    rintro e w16 ⟨rfl, hb⟩
    rw [unhide HBD]
    have HB16 := hide ((unhide HB15).trans (hb.mono (unhide HB15).size))
    clear hb
    go_wp2
    go_ret
    exact ⟨rfl, unhide HB16⟩

set_option maxRecDepth 100000 in
set_option maxHeartbeats 4000000 in
theorem near_tf (s t : ByteArray) (hs : s.size ≤ 1048576) (ht : t.size ≤ 1048576) (xa ya xb yb : Int) (hA : validV s = .tuple #[.agg #[.int .i64 xa, .int .i64 ya], .bool true]) (hB : validV t = .tuple #[.agg #[.int .i64 xb, .int .i64 yb], .bool false]) (hva : ∀ i ∈ starts s, badB s i = false) (w : World) :
    Calls Try.prog 3 #[.string s, .string t] w fun e w' => e = .returned (.bool true) ∧ Below w.heap.size w w' := by
  have hms : s.size ≤ maxLen := by unfold maxLen; omega
  have hmt : t.size ≤ maxLen := by unfold maxLen; omega
  have HA := hide hA
  have HB := hide hB
  have HN := hide (joins_near s t)
  have hjt := joins_valid_left s t hva
  have HJT := hide hjt
  clear hA hB hjt
  go_enter Try.func3, Try.ntmps3
  go_wp2_with fail
  refine (alive_any _).mono ?_
  rintro e w1 ⟨rfl, hb⟩
  have HB1 := hide hb
  clear hb
  go_wp2_with fail
  refine (joins_any s t hms hmt _).mono ?_
  rintro e w2 ⟨rfl, hb⟩
  have HB2 := hide ((unhide HB1).trans (hb.mono (unhide HB1).size))
  clear hb
  go_wp2_with fail
  refine (lastL_any s hms _).mono ?_
  rintro e w3 ⟨rfl, rfl⟩
  go_wp2_with fail
  refine (firstL_any t hmt _).mono ?_
  rintro e w4 ⟨rfl, rfl⟩
  go_wp2_with fail
  refine (joins_any _ _ (by rw [ByteArray.size_extract]; unfold maxLen; omega) (by rw [ByteArray.size_extract]; unfold maxLen; omega) _).mono ?_
  rintro e w5 ⟨rfl, hb⟩
  rw [unhide HN]
  have HB5 := hide ((unhide HB2).trans (hb.mono (unhide HB2).size))
  clear hb
  go_wp2_with fail
  refine (valid_any s hms _).mono ?_
  rintro e w6 ⟨rfl, hb⟩
  rw [unhide HA]
  have HB6 := hide ((unhide HB5).trans (hb.mono (unhide HB5).size))
  clear hb
  go_wp2_with fail
  refine (valid_any t hmt _).mono ?_
  rintro e w7 ⟨rfl, hb⟩
  rw [unhide HB]
  have HB7 := hide (((unhide HB6).alloc (unhide HB6).size (.cells #[.int .i64 xa, .int .i64 ya] 26)).trans (hb.mono (by have := (unhide HB6).size; simp; omega)))
  clear hb
  have HB7a := hide ((unhide HB7).alloc (unhide HB7).size (.cells #[.int .i64 xb, .int .i64 yb] 26))
  go_wp2_with fail
  refine (joins_any s t hms hmt _).mono ?_
  rintro e w8 ⟨rfl, hb⟩
  have HB8 := hide ((unhide HB7a).trans (hb.mono (unhide HB7a).size))
  clear hb
  rw [unhide HJT]
  go_wp2_with fail
  refine (joins_any s t hms hmt _).mono ?_
  rintro e w9 ⟨rfl, hb⟩
  have HB9 := hide ((unhide HB8).trans (hb.mono (unhide HB8).size))
  clear hb
  have hjt := unhide HJT
  cases hj : joinsV s t with
  | false =>
    rw [hjt] at hj; cases hj
  | true =>
    have HBD := hide ((joins_bd s t).symm.trans hj)
    have HLEN := hide (show (starts (s ++ t)).length = (starts s).length + (starts t).length by rw [(starts_both s t (unhide HBD)).1]; simp)
    have HCL := hide (cleanV_both s t (unhide HBD))
    clear hj
    go_wp2_with fail
    refine (count_any (s ++ t) (by rw [ByteArray.size_append]; unfold maxLen; omega) _).mono ?_
    rintro e w10 ⟨rfl, hb⟩
    rw [unhide HLEN]
    have HB10 := hide ((unhide HB9).trans (hb.mono (unhide HB9).size))
    clear hb
    go_wp2_with fail
    refine (count_any s hms _).mono ?_
    rintro e w11 ⟨rfl, hb⟩
    have HB11 := hide ((unhide HB10).trans (hb.mono (unhide HB10).size))
    clear hb
    go_wp2_with fail
    refine (count_any t hmt _).mono ?_
    rintro e w12 ⟨rfl, hb⟩
    have HB12 := hide ((unhide HB11).trans (hb.mono (unhide HB11).size))
    clear hb
    have hcs := starts_length s
    have hct := starts_length t
    generalize (starts s).length = cs at *
    generalize (starts t).length = ct at *
    have hcsi : (cs : Int) + (ct : Int) ≤ 9223372036854775807 := by omega
    go_wp2_with fail
    refine (clean_any (s ++ t) (by rw [ByteArray.size_append]; omega) _).mono ?_
    rintro e w13 ⟨rfl, hb⟩
    rw [unhide HCL]
    have HB13 := hide ((unhide HB12).trans (hb.mono (unhide HB12).size))
    clear hb
    go_wp2_with fail
    refine (clean_any s (by omega) _).mono ?_
    rintro e w14 ⟨rfl, hb⟩
    have HB14 := hide ((unhide HB13).trans (hb.mono (unhide HB13).size))
    clear hb
    go_wp2_with fail
    refine (clean_any t (by omega) _).mono ?_
    rintro e w15 ⟨rfl, hb⟩
    have HB15 := hide ((unhide HB14).trans (hb.mono (unhide HB14).size))
    clear hb
    have hz1 := cleanV_size s
    have hz2 := cleanV_size t
    generalize cleanV s = xs at *
    generalize cleanV t = xt at *
    go_wp2_with fail
    refine (bound_in (s ++ t) (by rw [ByteArray.size_append]; unfold maxLen; omega) s.size (by rw [ByteArray.size_append]; omega) _).mono ?_
    rintro e w16 ⟨rfl, hb⟩
    rw [unhide HBD]
    have HB16 := hide ((unhide HB15).trans (hb.mono (unhide HB15).size))
    clear hb
    go_wp2
    go_ret
    exact ⟨rfl, unhide HB16⟩

set_option maxRecDepth 100000 in
set_option maxHeartbeats 4000000 in
theorem near_tt (s t : ByteArray) (hs : s.size ≤ 1048576) (ht : t.size ≤ 1048576) (xa ya xb yb : Int) (hA : validV s = .tuple #[.agg #[.int .i64 xa, .int .i64 ya], .bool true]) (hB : validV t = .tuple #[.agg #[.int .i64 xb, .int .i64 yb], .bool true]) (hva : ∀ i ∈ starts s, badB s i = false) (w : World) :
    Calls Try.prog 3 #[.string s, .string t] w fun e w' => e = .returned (.bool true) ∧ Below w.heap.size w w' := by
  have hms : s.size ≤ maxLen := by unfold maxLen; omega
  have hmt : t.size ≤ maxLen := by unfold maxLen; omega
  have HA := hide hA
  have HB := hide hB
  have HN := hide (joins_near s t)
  have hjt := joins_valid_left s t hva
  have HJT := hide hjt
  clear hA hB hjt
  go_enter Try.func3, Try.ntmps3
  go_wp2_with fail
  refine (alive_any _).mono ?_
  rintro e w1 ⟨rfl, hb⟩
  have HB1 := hide hb
  clear hb
  go_wp2_with fail
  refine (joins_any s t hms hmt _).mono ?_
  rintro e w2 ⟨rfl, hb⟩
  have HB2 := hide ((unhide HB1).trans (hb.mono (unhide HB1).size))
  clear hb
  go_wp2_with fail
  refine (lastL_any s hms _).mono ?_
  rintro e w3 ⟨rfl, rfl⟩
  go_wp2_with fail
  refine (firstL_any t hmt _).mono ?_
  rintro e w4 ⟨rfl, rfl⟩
  go_wp2_with fail
  refine (joins_any _ _ (by rw [ByteArray.size_extract]; unfold maxLen; omega) (by rw [ByteArray.size_extract]; unfold maxLen; omega) _).mono ?_
  rintro e w5 ⟨rfl, hb⟩
  rw [unhide HN]
  have HB5 := hide ((unhide HB2).trans (hb.mono (unhide HB2).size))
  clear hb
  go_wp2_with fail
  refine (valid_any s hms _).mono ?_
  rintro e w6 ⟨rfl, hb⟩
  rw [unhide HA]
  have HB6 := hide ((unhide HB5).trans (hb.mono (unhide HB5).size))
  clear hb
  go_wp2_with fail
  refine (valid_any t hmt _).mono ?_
  rintro e w7 ⟨rfl, hb⟩
  rw [unhide HB]
  have HB7 := hide (((unhide HB6).alloc (unhide HB6).size (.cells #[.int .i64 xa, .int .i64 ya] 26)).trans (hb.mono (by have := (unhide HB6).size; simp; omega)))
  clear hb
  have HB7a := hide ((unhide HB7).alloc (unhide HB7).size (.cells #[.int .i64 xb, .int .i64 yb] 26))
  go_wp2_with fail
  refine (joins_any s t hms hmt _).mono ?_
  rintro e w8 ⟨rfl, hb⟩
  have HB8 := hide ((unhide HB7a).trans (hb.mono (unhide HB7a).size))
  clear hb
  rw [unhide HJT]
  go_wp2_with fail
  refine (joins_any s t hms hmt _).mono ?_
  rintro e w9 ⟨rfl, hb⟩
  have HB9 := hide ((unhide HB8).trans (hb.mono (unhide HB8).size))
  clear hb
  have hjt := unhide HJT
  cases hj : joinsV s t with
  | false =>
    rw [hjt] at hj; cases hj
  | true =>
    have HBD := hide ((joins_bd s t).symm.trans hj)
    have HLEN := hide (show (starts (s ++ t)).length = (starts s).length + (starts t).length by rw [(starts_both s t (unhide HBD)).1]; simp)
    have HCL := hide (cleanV_both s t (unhide HBD))
    clear hj
    go_wp2_with fail
    refine (count_any (s ++ t) (by rw [ByteArray.size_append]; unfold maxLen; omega) _).mono ?_
    rintro e w10 ⟨rfl, hb⟩
    rw [unhide HLEN]
    have HB10 := hide ((unhide HB9).trans (hb.mono (unhide HB9).size))
    clear hb
    go_wp2_with fail
    refine (count_any s hms _).mono ?_
    rintro e w11 ⟨rfl, hb⟩
    have HB11 := hide ((unhide HB10).trans (hb.mono (unhide HB10).size))
    clear hb
    go_wp2_with fail
    refine (count_any t hmt _).mono ?_
    rintro e w12 ⟨rfl, hb⟩
    have HB12 := hide ((unhide HB11).trans (hb.mono (unhide HB11).size))
    clear hb
    have hcs := starts_length s
    have hct := starts_length t
    generalize (starts s).length = cs at *
    generalize (starts t).length = ct at *
    have hcsi : (cs : Int) + (ct : Int) ≤ 9223372036854775807 := by omega
    go_wp2_with fail
    refine (clean_any (s ++ t) (by rw [ByteArray.size_append]; omega) _).mono ?_
    rintro e w13 ⟨rfl, hb⟩
    rw [unhide HCL]
    have HB13 := hide ((unhide HB12).trans (hb.mono (unhide HB12).size))
    clear hb
    go_wp2_with fail
    refine (clean_any s (by omega) _).mono ?_
    rintro e w14 ⟨rfl, hb⟩
    have HB14 := hide ((unhide HB13).trans (hb.mono (unhide HB13).size))
    clear hb
    go_wp2_with fail
    refine (clean_any t (by omega) _).mono ?_
    rintro e w15 ⟨rfl, hb⟩
    have HB15 := hide ((unhide HB14).trans (hb.mono (unhide HB14).size))
    clear hb
    have hz1 := cleanV_size s
    have hz2 := cleanV_size t
    generalize cleanV s = xs at *
    generalize cleanV t = xt at *
    go_wp2_with fail
    refine (bound_in (s ++ t) (by rw [ByteArray.size_append]; unfold maxLen; omega) s.size (by rw [ByteArray.size_append]; omega) _).mono ?_
    rintro e w16 ⟨rfl, hb⟩
    rw [unhide HBD]
    have HB16 := hide ((unhide HB15).trans (hb.mono (unhide HB15).size))
    clear hb
    go_wp2
    go_ret
    exact ⟨rfl, unhide HB16⟩

theorem near_any (s : ByteArray) (hs : s.size ≤ 1048576) (t : ByteArray) (ht : t.size ≤ 1048576) (w : World) : Calls Try.prog 3 #[.string s, .string t] w fun e w' => e = .returned (.bool true) ∧ Below w.heap.size w w' := by
  rcases validV_cases s with ⟨xa, ya, ha⟩ | ⟨ha, hva⟩
  · rcases validV_cases t with ⟨xb, yb, hb⟩ | ⟨hb, hvb⟩
    · exact near_ff s t hs ht xa ya xb yb ha hb w
    · exact near_ft s t hs ht xa ya 0 0 ha hb hvb w
  · rcases validV_cases t with ⟨xb, yb, hb⟩ | ⟨hb, hvb⟩
    · exact near_tf s t hs ht 0 0 xb yb ha hb hva w
    · exact near_tt s t hs ht 0 0 0 0 ha hb hva w
end Go.Proofs.Ytgkcmllcoigplac
