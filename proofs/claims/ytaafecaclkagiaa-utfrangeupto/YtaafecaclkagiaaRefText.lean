/- The reference's Width, Bytes and Text, told for every number and every list of numbers. -/
import Derived.Test.YtaafecaclkagiaaClean
import Derived.Test.YtaafecaclkagiaaBds
import Derived.Laws.BytesArg
namespace Go.Proofs.Ytaafecaclkagiaa
open Go.RowKit Go.Shelf
set_option linter.unusedVariables false

theorem refWidth_any (r : Int) (w : World) : Calls Try.prog 31 #[.int .i32 r] w fun e w' => e = .returned (.int .i64 (widthOf r)) ∧ w' = w := by
  by_cases h0 : r < 0
  · rw [show widthOf r = 0 by unfold widthOf; rw [if_pos (by omega)]]
    go_enter Try.func31, Try.ntmps31
    go_wp2
    go_ret
    exact ⟨rfl, rfl⟩
  by_cases h3 : 1114111 < r
  · rw [show widthOf r = 0 by unfold widthOf; rw [if_pos (by omega)]]
    go_enter Try.func31, Try.ntmps31
    go_wp2
    go_ret
    exact ⟨rfl, rfl⟩
  by_cases h1 : 55296 ≤ r
  · by_cases h2 : r ≤ 57343
    · rw [show widthOf r = 0 by unfold widthOf; rw [if_pos (by omega)]]
      go_enter Try.func31, Try.ntmps31
      go_wp2
      go_ret
      exact ⟨rfl, rfl⟩
    have h5 : ¬ r < 128 := by omega
    have h6 : ¬ r < 2048 := by omega
    by_cases h4 : r < 65536
    · rw [show widthOf r = 3 by unfold widthOf; rw [if_neg (by omega), if_neg (by omega), if_neg (by omega), if_pos (by omega)]]
      go_enter Try.func31, Try.ntmps31
      go_wp2
      go_ret
      exact ⟨rfl, rfl⟩
    · rw [show widthOf r = 4 by unfold widthOf; rw [if_neg (by omega), if_neg (by omega), if_neg (by omega), if_neg (by omega)]]
      go_enter Try.func31, Try.ntmps31
      go_wp2
      go_ret
      exact ⟨rfl, rfl⟩
  by_cases h5 : r < 128
  · rw [show widthOf r = 1 by unfold widthOf; rw [if_neg (by omega), if_pos (by omega)]]
    go_enter Try.func31, Try.ntmps31
    go_wp2
    go_ret
    exact ⟨rfl, rfl⟩
  by_cases h6 : r < 2048
  · rw [show widthOf r = 2 by unfold widthOf; rw [if_neg (by omega), if_neg (by omega), if_pos (by omega)]]
    go_enter Try.func31, Try.ntmps31
    go_wp2
    go_ret
    exact ⟨rfl, rfl⟩
  · have h4 : r < 65536 := by omega
    rw [show widthOf r = 3 by unfold widthOf; rw [if_neg (by omega), if_neg (by omega), if_neg (by omega), if_pos (by omega)]]
    go_enter Try.func31, Try.ntmps31
    go_wp2
    go_ret
    exact ⟨rfl, rfl⟩

/-- The bytes of a text, as cells. -/
def byteVals (b : ByteArray) : List Value := b.data.toList.map (fun u => Value.int .u8 u.toNat)
theorem byteVals_length (b : ByteArray) : (byteVals b).length = b.size := by simp [byteVals]
theorem byteVals_append (a b : ByteArray) : byteVals (a ++ b) = byteVals a ++ byteVals b := by simp [byteVals]

theorem and63 (z : Int) (h0 : 0 ≤ z) (h1 : z < 2147483648) : bits .and .i32 z 63 = z % 64 := bits_mask .i32 31 (by decide) wraps_i32 6 (by decide) z h0 h1
theorem or128 (y : Int) (h0 : 0 ≤ y) (h1 : y < 64) : bits .or .i32 128 y = 128 + y := bits_join .i32 31 (by decide) wraps_i32 6 128 y (by decide) (by decide) (by decide) h0 h1 (by omega)
theorem or192 (y : Int) (h0 : 0 ≤ y) (h1 : y < 32) : bits .or .i32 192 y = 192 + y := bits_join .i32 31 (by decide) wraps_i32 5 192 y (by decide) (by decide) (by decide) h0 h1 (by omega)
theorem or224 (y : Int) (h0 : 0 ≤ y) (h1 : y < 16) : bits .or .i32 224 y = 224 + y := bits_join .i32 31 (by decide) wraps_i32 4 224 y (by decide) (by decide) (by decide) h0 h1 (by omega)
theorem or240 (y : Int) (h0 : 0 ≤ y) (h1 : y < 8) : bits .or .i32 240 y = 240 + y := bits_join .i32 31 (by decide) wraps_i32 3 240 y (by decide) (by decide) (by decide) h0 h1 (by omega)

theorem refBytes_1 (z : Int) (h1 : 0 ≤ z) (h2 : z < 128) (w : World) : Calls Try.prog 35 #[.int .i32 z] w fun e w' => e = .returned (.slice (some ⟨w.heap.size, 0, none⟩) 1 1) ∧ w' = w.alloc (.cells #[.int .u8 z] 5) := by
  have hw : widthOf z = 1 := by unfold widthOf; rw [if_neg (by omega), if_pos (by omega)]
  have HW := hide hw
  clear hw
  go_enter Try.func35, Try.ntmps35
  go_wp2_with fail
  refine (refWidth_any z _).mono ?_
  rintro e w1 ⟨rfl, rfl⟩
  rw [unhide HW]
  go_wp2
  go_ret
  exact ⟨rfl, rfl⟩

theorem refBytes_2 (z : Int) (h1 : 128 ≤ z) (h2 : z < 2048) (w : World) : Calls Try.prog 35 #[.int .i32 z] w fun e w' => e = .returned (.slice (some ⟨w.heap.size, 0, none⟩) 2 2) ∧ w' = w.alloc (.cells #[.int .u8 (192 + z / 64), .int .u8 (128 + z % 64)] 5) := by
  have hw : widthOf z = 2 := by unfold widthOf; rw [if_neg (by omega), if_neg (by omega), if_pos (by omega)]
  have HW := hide hw
  have e1 := and63 z (by omega) (by omega)
  have e2 := or128 (z % 64) (by omega) (by omega)
  clear hw
  go_enter Try.func35, Try.ntmps35
  go_wp2_with fail
  refine (refWidth_any z _).mono ?_
  rintro e w1 ⟨rfl, rfl⟩
  rw [unhide HW]
  go_wp2
  go_ret
  exact ⟨rfl, rfl⟩

theorem refBytes_3 (z : Int) (h1 : 2048 ≤ z) (h2 : z < 65536) (h3 : ¬ (55296 ≤ z ∧ z ≤ 57343)) (w : World) : Calls Try.prog 35 #[.int .i32 z] w fun e w' => e = .returned (.slice (some ⟨w.heap.size, 0, none⟩) 3 3) ∧ w' = w.alloc (.cells #[.int .u8 (224 + z / 4096), .int .u8 (128 + z / 64 % 64), .int .u8 (128 + z % 64)] 5) := by
  have hw : widthOf z = 3 := by unfold widthOf; rw [if_neg (by omega), if_neg (by omega), if_neg (by omega), if_pos (by omega)]
  have HW := hide hw
  have e1 := and63 z (by omega) (by omega)
  have e2 := or128 (z % 64) (by omega) (by omega)
  have e3 := and63 (z / 64) (by omega) (by omega)
  have e4 := or128 (z / 64 % 64) (by omega) (by omega)
  have e7 := or224 (z / 4096) (by omega) (by omega)
  clear hw
  go_enter Try.func35, Try.ntmps35
  go_wp2_with fail
  refine (refWidth_any z _).mono ?_
  rintro e w1 ⟨rfl, rfl⟩
  rw [unhide HW]
  go_wp2
  go_ret
  exact ⟨rfl, rfl⟩

theorem refBytes_4 (z : Int) (h1 : 65536 ≤ z) (h2 : z ≤ 1114111) (w : World) : Calls Try.prog 35 #[.int .i32 z] w fun e w' => e = .returned (.slice (some ⟨w.heap.size, 0, none⟩) 4 4) ∧ w' = w.alloc (.cells #[.int .u8 (240 + z / 262144), .int .u8 (128 + z / 4096 % 64), .int .u8 (128 + z / 64 % 64), .int .u8 (128 + z % 64)] 5) := by
  have hw : widthOf z = 4 := by unfold widthOf; rw [if_neg (by omega), if_neg (by omega), if_neg (by omega), if_neg (by omega)]
  have HW := hide hw
  have e1 := and63 z (by omega) (by omega)
  have e2 := or128 (z % 64) (by omega) (by omega)
  have e3 := and63 (z / 64) (by omega) (by omega)
  have e4 := or128 (z / 64 % 64) (by omega) (by omega)
  have e5 := and63 (z / 4096) (by omega) (by omega)
  have e6 := or128 (z / 4096 % 64) (by omega) (by omega)
  have e7 := or240 (z / 262144) (by omega) (by omega)
  clear hw
  go_enter Try.func35, Try.ntmps35
  go_wp2_with fail
  refine (refWidth_any z _).mono ?_
  rintro e w1 ⟨rfl, rfl⟩
  rw [unhide HW]
  go_wp2
  go_ret
  exact ⟨rfl, rfl⟩

theorem refBytes_any (z : Int) (h : widthOf z ≠ 0) (w : World) : Calls Try.prog 35 #[.int .i32 z] w fun e w' => e = .returned (.slice (some ⟨w.heap.size, 0, none⟩) (Utf8.encode z).size (Utf8.encode z).size) ∧ w' = w.alloc (.cells (byteVals (Utf8.encode z)).toArray 5) := by
  obtain ⟨_, z0, z1, z2⟩ := valid_of_width h
  by_cases h1 : z < 128
  · rw [enc1 h h1]
    refine (refBytes_1 z z0 h1 w).mono ?_
    rintro e w' ⟨rfl, rfl⟩
    refine ⟨rfl, ?_⟩
    simp only [byteVals, List.map_cons, List.map_nil]
    rw [u8n _ (by omega), Int.toNat_of_nonneg z0]
  by_cases h2 : z < 2048
  · rw [enc2 h (by omega) h2]
    refine (refBytes_2 z (by omega) h2 w).mono ?_
    rintro e w' ⟨rfl, rfl⟩
    refine ⟨rfl, ?_⟩
    simp only [byteVals, List.map_cons, List.map_nil]
    rw [u8n _ (by omega), u8n _ (by omega), show ((192 + z.toNat / 64 : Nat) : Int) = 192 + z / 64 by omega, show ((128 + z.toNat % 64 : Nat) : Int) = 128 + z % 64 by omega]
  by_cases h3 : z < 65536
  · rw [enc3 h (by omega) h3]
    refine (refBytes_3 z (by omega) h3 z2 w).mono ?_
    rintro e w' ⟨rfl, rfl⟩
    refine ⟨rfl, ?_⟩
    simp only [byteVals, List.map_cons, List.map_nil]
    rw [u8n _ (by omega), u8n _ (by omega), u8n _ (by omega), show ((224 + z.toNat / 4096 : Nat) : Int) = 224 + z / 4096 by omega, show ((128 + z.toNat / 64 % 64 : Nat) : Int) = 128 + z / 64 % 64 by omega, show ((128 + z.toNat % 64 : Nat) : Int) = 128 + z % 64 by omega]
  · rw [enc4 h (by omega)]
    refine (refBytes_4 z (by omega) z1 w).mono ?_
    rintro e w' ⟨rfl, rfl⟩
    refine ⟨rfl, ?_⟩
    simp only [byteVals, List.map_cons, List.map_nil]
    rw [u8n _ (by omega), u8n _ (by omega), u8n _ (by omega), u8n _ (by omega), show ((240 + z.toNat / 262144 : Nat) : Int) = 240 + z / 262144 by omega, show ((128 + z.toNat / 4096 % 64 : Nat) : Int) = 128 + z / 4096 % 64 by omega, show ((128 + z.toNat / 64 % 64 : Nat) : Int) = 128 + z / 64 % 64 by omega, show ((128 + z.toNat % 64 : Nat) : Int) = 128 + z % 64 by omega]

theorem infoByte : (Try.prog.info? 5).map (fun i => (i.zero, i.size, i.bytes)) = some (some (.int .u8 0), 1, 1) := by kernel_rfl

theorem add_none (g o j : Nat) : (⟨g, o, none⟩ : Addr).add j = ⟨g, o + j, none⟩ := by unfold Addr.add; split <;> simp_all

/-- string(b), where b is a list of one's own that holds the bytes of a text. -/
theorem own_string {W : World} {base : Nat} {v : Value} {b : ByteArray} (h : W.ownsRow base 5 1 v b.size (byteVals b)) : (convert 62 9 v).run Try.prog W = .ok (.string b) W := by
  rcases h.2 with ⟨rfl, h0⟩ | ⟨g, cap, cur, rfl, _, hh, _, _, _, ht⟩
  · rw [run_convert_bytes_nil W 62 5 Try.underlying62 Try.underlying5 0 0 9 Try.underlying9]
    have : b = ByteArray.empty := by
      have h1 : b.data.size = 0 := h0
      simpa using h1
    rw [this]
  · have e : b.size = b.data.toList.length := by simp
    rw [e]
    exact run_convert_bytes_back W 62 9 5 ⟨g, 0, none⟩ cap b.data.toList Try.underlying62 Try.underlying5 Try.underlying9 (fun j hj => by
      refine h.cells (g := g) rfl j _ ?_
      simp [byteVals, List.getElem?_eq_getElem hj])

theorem runesBytes_snoc (zs : List Int) (z : Int) : runesBytes (zs ++ [z]) = runesBytes zs ++ Utf8.encode z := by
  rw [runesBytes_both, runesBytes_cons]
  congr 1
  show Utf8.encode z ++ ByteArray.empty = _
  simp
theorem take_succ_getD (zs : List Int) (k : Nat) (h : k < zs.length) : zs.take (k + 1) = zs.take k ++ [zs.getD k 0] := by
  rw [List.take_add_one, List.getElem?_eq_getElem h, List.getD, List.getElem?_eq_getElem h]
  rfl

set_option maxRecDepth 100000 in
set_option maxHeartbeats 4000000 in
theorem refText_some (g o cap : Nat) (zs : List Int) (hz : zs.length ≤ 1073741824) (w : World) (hg : g < w.heap.size) (hc : RunesAt w g o zs) :
    Calls Try.prog 27 #[.slice (some ⟨g, o, none⟩) zs.length cap] w fun e w' => e = .returned (textV zs) ∧ Below w.heap.size w w' := by
  obtain ⟨i0, hi, hz0, hz1, hz2⟩ := info_parts infoByte
  have HI := hide hi
  have HZ0 := hide hz0
  have HZ1 := hide hz1
  have HZ2 := hide hz2
  have HC := hide hc
  clear hi hz0 hz1 hz2 hc
  go_enter Try.func27, Try.ntmps27
  go_wp2
  go_loopw [4, 5] (fun v i wr => ∃ k : Nat, k ≤ zs.length ∧ i = .int .i64 k ∧ Hid (∀ j, j < k → widthOf (zs.getD j 0) ≠ 0) ∧ Hid (wr.ownsRow w.heap.size 5 1 v (runesBytes (zs.take k)).size (byteVals (runesBytes (zs.take k)))) ∧ Hid (Below w.heap.size w wr)) (fun _ i _ => zs.length - (intOf i).toNat)
  case atStart => exact ⟨0, by omega, rfl, hide (fun j hj => by omega), hide (World.ownsRow_nil _ _ _ _), hide (Below.refl _ _)⟩
  case round =>
    obtain ⟨k, hk, rfl, HA, HO, HB⟩ := hrel
    by_cases hkn : k < zs.length
    · have hck := (unhide HC).below (unhide HB) hg k hkn
      have hk1 : (k : Int) < (zs.length : Int) := by omega
      have hmem : zs.getD k 0 ∈ zs := by rw [List.getD, List.getElem?_eq_getElem hkn]; exact List.getElem_mem hkn
      have htk := take_succ_getD zs k hkn
      have HM := hide hmem
      clear hmem
      generalize hzk : zs.getD k 0 = z at *
      have HZ := hide hzk
      have HTK := hide htk
      clear hzk htk
      by_cases hw0 : widthOf z = 0
      · have hb : (widthOf z == 0) = true := by simp [hw0]
        have hv : textV zs = .tuple #[.string ⟨#[]⟩, .int .i64 12] := by
          unfold textV
          rw [if_neg]
          unfold allRunes
          intro h
          have := List.all_eq_true.1 h z (unhide HM)
          simp [hw0] at this
        have HV := hide hv
        clear hv hw0
        go_wp2_with (go_at_call 31; refine (refWidth_any _ _).mono ?_; rintro e w' ⟨rfl, rfl⟩)
        go_ret2
        exact ⟨by rw [unhide HV]; rfl, unhide HB⟩
      · have hb : (widthOf z == 0) = false := by simp [hw0]
        have hsz : (runesBytes (zs.take k)).size ≤ 4 * zs.length := by
          have h1 := runesBytes_size_le (zs.take k)
          have h2 : (zs.take k).length ≤ zs.length := by rw [List.length_take]; omega
          omega
        have hen : (Utf8.encode z).size ≤ 4 := by
          have := (decode_enc hw0).2
          have h4 : widthOf z ≤ 4 := by unfold widthOf; split <;> (try split) <;> (try split) <;> (try split) <;> omega
          omega
        have HW0 := hide hw0
        clear hw0
        go_wp2_with fail
        refine (refWidth_any _ _).mono ?_
        rintro e w0 ⟨rfl, rfl⟩
        go_wp2_with fail
        refine (refBytes_any z (unhide HW0) _).mono ?_
        rintro e w1 ⟨rfl, rfl⟩
        have hown := unhide HO
        have hB := unhide HB
        have hl : (byteVals (Utf8.encode z)).length = (Utf8.encode z).size * 1 := by rw [byteVals_length]; omega
        have hnw : ∀ j u, (byteVals (Utf8.encode z))[j]? = some u → (w0.alloc (.cells (byteVals (Utf8.encode z)).toArray 5)).cell? ((⟨w0.heap.size, 0, none⟩ : Addr).add j) = some u := by
          intro j u hj
          rw [add_none, (Blk.new w0 _ 5).cell (0 + j), ← hj]
          simp
        have h1c : ∀ u ∈ byteVals (Utf8.encode z), u.oneCell' = true := by
          intro u hu
          obtain ⟨x, _, rfl⟩ := List.mem_map.1 hu
          rfl
        have HL := hide hl
        have HN := hide hnw
        have H1 := hide h1c
        clear hl hnw h1c
        go_wp2_with (at_builtin; refine wpList_append_own _ rfl _ _ 62 rfl w.heap.size 5 i0 (.int .u8 0) 1 1 Try.underlying62 (unhide HI) (unhide HZ0) (unhide HZ1) (unhide HZ2) rfl (by decide) _ _ _ rfl (hown.alloc _) ⟨w0.heap.size, 0, none⟩ _ _ (byteVals (Utf8.encode z)) rfl (unhide HL) (unhide HN) (unhide H1) ?c3 ?c4 ?c5 ?_)
        case c3 => unfold maxLen; omega
        case c4 => omega
        case c5 => have := hB.size; simp; omega
        intro v' w2 hown' hgrow _
        have hlt := own_lt hown
        have HB2 := hide ((hB.alloc hB.size (.cells (byteVals (Utf8.encode z)).toArray 5)).grown hgrow (by have := hB.size; simp; omega) (fun k hk => (hlt k hk).1))
        have HO2 := hide hown'
        clear hown' hgrow hlt hown hB
        go_wp2
        go_roundw
        case rel =>
          refine ⟨k + 1, by omega, by go_num, hide (fun j hj => ?_), hide ?_, HB2⟩
          · by_cases e : j = k
            · subst e; rw [unhide HZ]; exact unhide HW0
            · exact unhide HA j (by omega)
          · rw [unhide HTK, runesBytes_snoc, byteVals_append, ByteArray.size_append]
            exact unhide HO2
        case measure => simp [intOf]; omega
    · have hk1 : ¬ (k : Int) < (zs.length : Int) := by omega
      have hv : textV zs = .tuple #[.string (runesBytes zs), .int .i64 0] := by
        unfold textV
        rw [if_pos]
        unfold allRunes
        rw [List.all_eq_true]
        intro z hz
        obtain ⟨j, hj, rfl⟩ := List.getElem_of_mem hz
        have := unhide HA j (by omega)
        rw [List.getD, List.getElem?_eq_getElem hj] at this
        simpa using this
      have HV := hide hv
      have hown := unhide HO
      rw [List.take_of_length_le (by omega)] at hown
      have kc := own_string hown
      clear hv hown
      go_wp2
      go_ret2
      exact ⟨by rw [unhide HV]; rfl, unhide HB⟩

theorem refText_none (a : Option Addr) (cap : Nat) (w : World) : Calls Try.prog 27 #[.slice a 0 cap] w fun e w' => e = .returned (textV []) ∧ Below w.heap.size w w' := by
  have kc := run_convert_bytes_nil w 62 5 Try.underlying62 Try.underlying5 0 0 9 Try.underlying9
  go_enter Try.func27, Try.ntmps27
  go_wp2
  go_loopw [4, 5] (fun v i wr => v = .slice none 0 0 ∧ i = .int .i64 0 ∧ wr = w) (fun _ i _ => 0)
  case atStart => exact ⟨rfl, rfl, rfl⟩
  case round =>
    obtain ⟨rfl, rfl, rfl⟩ := hrel
    go_wp2
    go_ret2
    exact ⟨rfl, Below.refl _ _⟩
end Go.Proofs.Ytaafecaclkagiaa
