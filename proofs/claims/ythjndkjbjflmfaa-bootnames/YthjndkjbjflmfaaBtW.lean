/- The reference's text of runes. -/
import Derived.Test.YthjndkjbjflmfaaBtT
import Derived.Test.YthjndkjbjflmfaaBtIR
import Derived.Test.YthjndkjbjflmfaaBtL
namespace Go.Proofs.Ythjndkjbjflmfaa
open Go.RowKit Go.Shelf
set_option linter.unusedVariables false
theorem own_textB {W : World} {base n : Nat} {v : Value} {b : ByteArray} (h : W.ownsRow base 5 1 v n (byteVals b)) (hn : n = b.size) : (convert 43 9 v).run Try.prog W = .ok (.string b) W := by
  subst hn
  rcases h.2 with ⟨rfl, h0⟩ | ⟨g, cap, cur, rfl, _, hh, _, _, _, ht⟩
  · rw [run_convert_bytes_nil W 43 5 Try.underlying43 Try.underlying5 0 0 9 Try.underlying9]
    have : b = ByteArray.empty := by
      have h1 : b.data.size = 0 := h0
      simpa using h1
    rw [this]
  · have e : b.size = b.data.toList.length := by simp
    rw [e]
    exact run_convert_bytes_back W 43 9 5 ⟨g, 0, none⟩ cap b.data.toList Try.underlying43 Try.underlying5 Try.underlying9 (fun j hj => by
      refine h.cells (g := g) rfl j _ ?_
      simp [byteVals, List.getElem?_eq_getElem hj])
theorem infoBb : (Try.prog.info? 5).map (fun i => (i.zero, i.size, i.bytes)) = some (some (.int .u8 0), 1, 1) := by kernel_rfl
theorem runesBytes_snoc : ∀ (zs : List Int) (z : Int), runesBytes (zs ++ [z]) = runesBytes zs ++ Utf8.encode z
  | [], z => by rw [List.nil_append, runesBytes_cons]; apply ByteArray.ext; simp [runesBytes]
  | y :: zs, z => by rw [List.cons_append, runesBytes_cons, runesBytes_snoc zs z, runesBytes_cons, ByteArray.append_assoc]
theorem encode_le {z : Int} (h : widthOf z ≠ 0) : (Utf8.encode z).size ≤ 4 := by
  have := (decode_enc h).2
  have := (width_in z).2
  omega
theorem runesBytes_le : ∀ zs : List Int, (∀ z ∈ zs, widthOf z ≠ 0) → (runesBytes zs).size ≤ 4 * zs.length
  | [], _ => Nat.le_refl _
  | z :: zs, h => by
    rw [runesBytes_cons, ByteArray.size_append, List.length_cons]
    have := encode_le (h z (List.mem_cons_self ..))
    have := runesBytes_le zs (fun y hy => h y (List.mem_cons_of_mem _ hy))
    omega
set_option maxRecDepth 100000 in
set_option maxHeartbeats 4000000 in
theorem refTxt_any {lo n : Nat} {v : Value} {zs : List Int} {W : World} (hn : zs.length = n) (hown : W.ownsRow lo 21 1 v n (encRb zs)) (hw : ∀ z ∈ zs, widthOf z ≠ 0) (h4 : n ≤ 5000) :
    Calls Try.prog 38 #[v] W fun e w' => e = .returned (.tuple #[.string (runesBytes zs), .int .i64 0]) ∧ Below W.heap.size W w' := by
  obtain ⟨i0, hi, hz0, hz1, hz2⟩ := info_parts infoBb
  have HI := hide (And.intro hi (And.intro hz0 (And.intro hz1 hz2)))
  clear hi hz0 hz1 hz2
  obtain ⟨va, vc, rfl⟩ : ∃ va vc, v = .slice va n vc := by
    rcases hown.2 with ⟨rfl, h0⟩ | ⟨g, cap, cur, rfl, _⟩
    · exact ⟨none, 0, by rw [h0]⟩
    · exact ⟨_, cap, rfl⟩
  have HO := hide hown
  have HW := hide hw
  have HN := hide hn
  clear hown hw hn
  go_enter Try.func38, Try.ntmps38
  go_wp2_with fail
  go_loopw [4, 5] (fun b i wr => ∃ k : Nat, i = .int .i64 k ∧ k ≤ n ∧ Hz (wr.ownsRow W.heap.size 5 1 b (runesBytes (zs.take k)).size (byteVals (runesBytes (zs.take k)))) ∧ Hz (Below W.heap.size W wr)) (fun _ i _ => n - (intOf i).toNat)
  case atStart => exact ⟨0, rfl, by omega, hide (by simpa [runesBytes, byteVals] using World.ownsRow_nil W W.heap.size 5 1), hide (Below.refl _ _)⟩
  case round =>
    obtain ⟨k, rfl, hk, HL, HB⟩ := hrel
    have hb0 := (unhide HB).size
    obtain ⟨ba, bc, hbv⟩ : ∃ ba bc, u4 = .slice ba (runesBytes (zs.take k)).size bc := by
      rcases (unhide HL).2 with ⟨rfl, h0⟩ | ⟨g, cap, cur, rfl, _⟩
      · exact ⟨none, 0, by rw [h0]⟩
      · exact ⟨_, cap, rfl⟩
    subst hbv
    by_cases hkn : k < n
    · have hk1 : (k : Int) < (n : Int) := by omega
      have hk2 : ((k : Nat) : Int).toNat = k := by omega
      obtain ⟨z, hz⟩ : ∃ z, zs[k]? = some z := ⟨_, List.getElem?_eq_getElem (by have := unhide HN; omega)⟩
      have hzw := unhide HW z (List.mem_of_getElem? hz)
      obtain ⟨g, hg⟩ : ∃ g, va = some ⟨g, 0, none⟩ := by
        rcases (unhide HO).2 with ⟨e, h0⟩ | ⟨g, cap, cur, e, _⟩
        · omega
        · cases e; exact ⟨g, rfl⟩
      subst hg
      have hgl : g < W.heap.size := (own_ltB (unhide HO) g rfl).2
      have c0 : wr.cell? ⟨g, k, none⟩ = some (.int .i32 z) := by
        have h1 := (unhide HO).cells (g := g) rfl k (.int .i32 z) (by rw [List.getElem?_map, hz]; rfl)
        rw [addRb, Nat.zero_add] at h1
        exact (Below.cell (p := ⟨g, k, none⟩) (unhide HB) hgl).trans h1
      have hwb : (widthOf z == 0) = false := by rw [beq_eq_false_iff_ne]; exact hzw
      have hE := encode_le hzw
      have hE1 : 1 ≤ (Utf8.encode z).size := by
        have h1 := (decode_enc hzw).2
        have h2 := (width_in z).1
        omega
      have hT : zs.take (k + 1) = zs.take k ++ [z] := by rw [List.take_add_one, hz]; rfl
      have hsz := runesBytes_le (zs.take k) (fun y hy => unhide HW y (List.mem_of_mem_take hy))
      have hln : (zs.take k).length = k := by rw [List.length_take]; have := unhide HN; omega
      have RB := fun w => refBytes_any z hzw w
      have hsn := runesBytes_snoc (zs.take k) z
      rw [← hT] at hsn
      have hss : (runesBytes (zs.take (k + 1))).size = (runesBytes (zs.take k)).size + (Utf8.encode z).size := by rw [hsn, ByteArray.size_append]
      have hbv2 : byteVals (runesBytes (zs.take (k + 1))) = byteVals (runesBytes (zs.take k)) ++ byteVals (Utf8.encode z) := by rw [hsn, byteVals_append]
      have hel := byteVals_length (Utf8.encode z)
      have hby : ∀ y ∈ byteVals (Utf8.encode z), y.oneCell' = true := fun y hy => by obtain ⟨x, _, rfl⟩ := List.mem_map.1 hy; rfl
      rw [hln] at hsz
      generalize byteVals (Utf8.encode z) = EV at *
      generalize (Utf8.encode z).size = es at *
      have HSS := hide hss
      have HBV := hide hbv2
      have HRB := hide RB
      clear hss hbv2 RB hsn hT
      generalize runesBytes (zs.take k) = RT at *
      go_wp2_with (first
        | (go_at_call 32; refine (refWidth_any _ _).mono ?_; rintro e w1 ⟨rfl, hw1⟩; have hw2 := hw1.symm; clear hw1; subst hw2)
        | (go_at_call 58; refine (unhide HRB _).mono ?_; rintro e w2 ⟨rfl, rfl⟩)
        | (at_builtin; refine wpList_append_own _ rfl _ _ 43 rfl W.heap.size 5 i0 (.int .u8 0) 1 1 Try.underlying43 (unhide HI).1 (unhide HI).2.1 (unhide HI).2.2.1 (unhide HI).2.2.2 rfl (by decide) _ _ _ rfl ((unhide HL).alloc _) ⟨wr.heap.size, 0, none⟩ es es EV rfl (by omega) ?c1 hby ?c3 ?c4 ?c5 ?_))
      case c1 =>
        intro j u hj
        rw [addRb, (Blk.new wr EV.toArray 5).cell (0 + j), Nat.zero_add]
        simpa using hj
      case c3 => unfold maxLen; omega
      case c4 => omega
      case c5 => simp; omega
      intro v' w3 h1 h2 _
      have HL2 : Hz (w3.ownsRow W.heap.size 5 1 v' (runesBytes (zs.take (k + 1))).size (byteVals (runesBytes (zs.take (k + 1))))) := hide (by rw [unhide HSS, unhide HBV]; exact h1)
      have HB2 := hide (((unhide HB).alloc hb0 (.cells EV.toArray 5)).grown h2 (by simp; omega) (fun q e => (own_ltB (unhide HL) q e).1))
      clear h1 h2
      go_wp2_with fail
      go_roundw
      case rel => exact ⟨k + 1, by go_num, by omega, HL2, HB2⟩
      case measure => simp [intOf]; omega
    · have hk1 : ¬ (k : Int) < (n : Int) := by omega
      have hT : zs.take k = zs := List.take_of_length_le (by have := unhide HN; omega)
      have cv := own_textB (unhide HL) rfl
      rw [hT] at cv
      have HCV := cv
      go_wp2_with fail
      go_ret2
      exact ⟨rfl, unhide HB⟩
end Go.Proofs.Ythjndkjbjflmfaa
