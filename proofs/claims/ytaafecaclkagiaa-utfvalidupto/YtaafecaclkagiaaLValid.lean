/- UtfValid, for every text of at most a million letters: the first bad place and the text without bad ones are the reference's. -/
import Derived.Test.YtaafecaclkagiaaRefText
namespace Go.Proofs.Ytaafecaclkagiaa
open Go.RowKit Go.Shelf
set_option linter.unusedVariables false

theorem row_form {W : World} {base : Nat} {e : TypeId} {v : Value} {l : List Nat} {s : ByteArray} (h : W.ownsRow base e 4 v l.length (l.flatMap (refCells s))) :
    ∃ a cap, v = .slice a l.length cap ∧ ∀ k x : Nat, l[k]? = some x → ∃ g, a = some ⟨g, 0, none⟩ ∧ base ≤ g ∧ g < W.heap.size ∧ ∀ j, j < 4 → W.cell? ⟨g, k * 4 + j, none⟩ = (refCells s x)[j]? := by
  by_cases hn : 0 < l.length
  · obtain ⟨g, cap, rfl, h1, h2, _, hc⟩ := row_cells h hn
    refine ⟨_, cap, rfl, fun k x hk => ⟨g, rfl, h1, h2, fun j hj => ?_⟩⟩
    have := hc k x hk j hj
    rw [Nat.mul_comm] at this
    exact this
  · rcases h.2 with ⟨rfl, h0⟩ | ⟨g, cap, cur, rfl, _⟩
    · exact ⟨none, 0, by rw [h0], fun k x hk => by have := (List.getElem?_eq_some_iff.1 hk).1; omega⟩
    · exact ⟨_, cap, rfl, fun k x hk => by have := (List.getElem?_eq_some_iff.1 hk).1; omega⟩

theorem valid_at (s : ByteArray) (k p : Nat) (hk : (starts s)[k]? = some p) (hb : badB s p = true) (hq : ∀ j, j < k → ∀ q, (starts s)[j]? = some q → badB s q = false) :
    validV s = .tuple #[.agg #[.int .i64 p, .int .i64 k], .bool false] := by
  obtain ⟨hkl, hp⟩ := List.getElem?_eq_some_iff.1 hk
  have e : starts s = (starts s).take k ++ p :: (starts s).drop (k + 1) := by
    rw [← hp, List.getElem_cons_drop, List.take_append_drop]
  have h1 : ∀ i ∈ (starts s).take k, badB s i = false := fun i hi => by
    obtain ⟨j, hj, rfl⟩ := List.getElem_of_mem hi
    rw [List.length_take] at hj
    refine hq j (by omega) _ ?_
    rw [List.getElem_take]
    exact List.getElem?_eq_getElem (by omega)
  have h2 := validFrom_some s p ((starts s).drop (k + 1)) hb ((starts s).take k) 0 h1
  rw [← e, List.length_take, Nat.zero_add, Nat.min_eq_left (by omega)] at h2
  exact h2

theorem ownsRow_low {w : World} {base base' : Nat} {e : TypeId} {size : Nat} {v : Value} {n : Nat} {xs : List Value} (h : w.ownsRow base e size v n xs) (hb : base' ≤ base) : w.ownsRow base' e size v n xs := by
  refine ⟨h.1, h.2.imp id ?_⟩
  rintro ⟨g, cap, cur, h1, h2, h3⟩
  exact ⟨g, cap, cur, h1, Nat.le_trans hb h2, h3⟩

set_option maxRecDepth 100000 in
set_option maxHeartbeats 4000000 in
theorem refValid_any (s : ByteArray) (hs : s.size ≤ 1048576) (x y : Int) (ok : Bool) (hv : validV s = .tuple #[.agg #[.int .i64 x, .int .i64 y], .bool ok]) (w : World) :
    Calls Try.prog 17 #[.string s] w fun e w' => e = .returned (.tuple #[.int .i64 x, .int .i64 y, .bool (!ok)]) ∧ Below w.heap.size w w' := by
  have hnl := starts_length s
  have HV := hide hv
  clear hv
  go_enter Try.func17, Try.ntmps17
  go_wp2_with fail
  refine (refSpots_any s (by omega) _).mono ?_
  rintro e w1 ⟨v, rfl, hown, hB⟩
  obtain ⟨a, cap, rfl, hcell⟩ := row_form hown
  have HC := hide hcell
  have HB := hide hB
  clear hcell hown hB
  go_wp2
  go_loop [6] (fun i => ∃ k : Nat, k ≤ (starts s).length ∧ i = .int .i64 k ∧ Hid (∀ j, j < k → ∀ q, (starts s)[j]? = some q → badB s q = false)) (fun i => (starts s).length - (intOf i).toNat)
  case atStart => exact ⟨0, by omega, rfl, hide (fun j hj => by omega)⟩
  case round =>
    obtain ⟨k, hk, rfl, H⟩ := hrel
    by_cases hkn : k < (starts s).length
    · obtain ⟨p, hx⟩ : ∃ p, (starts s)[k]? = some p := ⟨_, List.getElem?_eq_getElem hkn⟩
      obtain ⟨g, rfl, hg0, hg1, hc⟩ := unhide HC k p hx
      have c1 : w1.cell? ⟨g, k * 4 + 1, none⟩ = some (.int .i64 p) := hc 1 (by omega)
      have c3 : w1.cell? ⟨g, k * 4 + 3, none⟩ = some (.bool (badB s p)) := hc 3 (by omega)
      have HX := hide hx
      have hk1 : (k : Int) < ((starts s).length : Int) := by omega
      have hk2 : ((k : Nat) : Int).toNat = k := by omega
      clear hx hc
      cases hb : badB s p with
      | true =>
        rw [hb] at c3
        have hva := valid_at s k p (unhide HX) hb (unhide H)
        rw [unhide HV] at hva
        have HVA := hide hva
        clear hb hva
        go_wp2
        go_ret3
        have hva := unhide HVA
        simp only [Value.tuple.injEq] at hva
        obtain ⟨⟨rfl, rfl⟩, rfl⟩ := hva
        exact ⟨rfl, unhide HB⟩
      | false =>
        rw [hb] at c3
        have HBX := hide hb
        clear hb
        go_wp2
        go_round
        case rel =>
          refine ⟨k + 1, by omega, by go_num, hide (fun j hj q hq => ?_)⟩
          by_cases e : j = k
          · subst e; rw [unhide HX] at hq; cases hq; exact unhide HBX
          · exact unhide H j (by omega) q hq
        case measure => simp [intOf]; omega
    · have hk1 : ¬ (k : Int) < ((starts s).length : Int) := by omega
      have hva : validV s = .tuple #[.agg #[.int .i64 0, .int .i64 0], .bool true] := validFrom_none s _ 0 (fun i hi => by
        obtain ⟨j, hj, rfl⟩ := List.getElem_of_mem hi
        exact unhide H j (by omega) _ (List.getElem?_eq_getElem hj))
      rw [unhide HV] at hva
      have HVA := hide hva
      clear hva
      go_wp2
      go_ret3
      have hva := unhide HVA
      simp only [Value.tuple.injEq] at hva
      obtain ⟨⟨rfl, rfl⟩, rfl⟩ := hva
      exact ⟨rfl, unhide HB⟩

theorem infoRune : (Try.prog.info? 21).map (fun i => (i.zero, i.size, i.bytes)) = some (some (.int .i32 0), 1, 4) := by kernel_rfl
/-- The first runes of the spots. -/
def rk (s : ByteArray) (k : Nat) : List Value := ((starts s).take k).map (fun i => Value.int .i32 (rn s i))
theorem rk_length (s : ByteArray) (k : Nat) (h : k ≤ (starts s).length) : (rk s k).length = k := by simp [rk, h]
theorem rk_succ (s : ByteArray) (k p : Nat) (h : (starts s)[k]? = some p) : rk s (k + 1) = rk s k ++ [.int .i32 (rn s p)] := by
  unfold rk
  rw [List.take_add_one, h]
  simp
theorem rk_all (s : ByteArray) : rk s (starts s).length = (runesL s).map (Value.int .i32) := by
  simp [rk, runesL]

set_option maxRecDepth 100000 in
set_option maxHeartbeats 4000000 in
theorem refRunes_any (s : ByteArray) (hs : s.size ≤ 4194304) (w : World) :
    Calls Try.prog 22 #[.string s] w fun e w' => ∃ v, e = .returned v ∧ w'.ownsRow w.heap.size 21 1 v (starts s).length ((runesL s).map (Value.int .i32)) ∧ Below w.heap.size w w' := by
  have hnl := starts_length s
  obtain ⟨i0, hi, hz0, hz1, hz2⟩ := info_parts infoRune
  have HI := hide hi
  have HZ0 := hide hz0
  have HZ1 := hide hz1
  have HZ2 := hide hz2
  clear hi hz0 hz1 hz2
  go_enter Try.func22, Try.ntmps22
  go_wp2_with fail
  refine (refSpots_any s (by omega) _).mono ?_
  rintro e w1 ⟨v, rfl, hown, hB⟩
  obtain ⟨a, cap, rfl, hcell⟩ := row_form hown
  have HC := hide hcell
  have HB1 := hide hB
  clear hcell hown hB
  go_wp2
  go_loopw [3, 5] (fun v i wr => ∃ k : Nat, k ≤ (starts s).length ∧ i = .int .i64 k ∧ Hid (wr.ownsRow w1.heap.size 21 1 v k (rk s k)) ∧ Hid (Below w1.heap.size w1 wr)) (fun _ i _ => (starts s).length - (intOf i).toNat)
  case atStart => exact ⟨0, by omega, rfl, hide (World.ownsRow_nil _ _ _ _), hide (Below.refl _ _)⟩
  case round =>
    obtain ⟨k, hk, rfl, HO, HB⟩ := hrel
    by_cases hkn : k < (starts s).length
    · obtain ⟨p, hx⟩ : ∃ p, (starts s)[k]? = some p := ⟨_, List.getElem?_eq_getElem hkn⟩
      obtain ⟨g, rfl, hg0, hg1, hc⟩ := unhide HC k p hx
      have c0 : wr.cell? ⟨g, k * 4, none⟩ = some (.int .i32 (rn s p)) := ((unhide HB).cell (p := ⟨g, k * 4, none⟩) hg1).trans (hc 0 (by omega))
      have hrk := rk_succ s k p hx
      have HRK := hide hrk
      have hk1 : (k : Int) < ((starts s).length : Int) := by omega
      have hk2 : ((k : Nat) : Int).toNat = k := by omega
      have hown := unhide HO
      have hB := unhide HB
      generalize ((rn s p : Nat) : Int) = z at c0 HRK
      clear hx hc hrk
      have hln : ∀ j u, [Value.int .i32 z][j]? = some u → (wr.alloc (.cells #[.int .i32 z] 21)).cell? ((⟨wr.heap.size, 0, none⟩ : Addr).add j) = some u := by
        intro j u hj
        rw [add_none, (Blk.new wr _ 21).cell (0 + j), ← hj]
        simp
      have HLN := hide hln
      clear hln
      go_wp2_with (at_builtin; refine wpList_append_own _ rfl _ _ 48 rfl w1.heap.size 21 i0 (.int .i32 0) 1 4 Try.underlying48 (unhide HI) (unhide HZ0) (unhide HZ1) (unhide HZ2) rfl (by decide) _ _ _ rfl (hown.alloc _) ⟨wr.heap.size, 0, none⟩ 1 1 [.int .i32 z] rfl rfl (unhide HLN) ?c2 ?c3 ?c4 ?c5 ?_)
      case c2 => intro u hu; simp at hu; rw [hu]; rfl
      case c3 => unfold maxLen; omega
      case c4 => omega
      case c5 => have := hB.size; simp; omega
      intro v' w2 hown' hgrow _
      have hlt := own_lt hown
      have HB2 := hide ((hB.alloc hB.size (.cells #[.int .i32 z] 21)).grown hgrow (by have := hB.size; simp; omega) (fun k hk => (hlt k hk).1))
      have HO2 := hide hown'
      clear hown' hgrow hlt hown hB
      go_wp2
      go_roundw
      case rel =>
        refine ⟨k + 1, by omega, by go_num, hide ?_, HB2⟩
        rw [unhide HRK]
        exact unhide HO2
      case measure => simp [intOf]; omega
    · have hk1 : ¬ (k : Int) < ((starts s).length : Int) := by omega
      have hkk : k = (starts s).length := by omega
      subst hkk
      go_wp2
      go_ret
      have hB1 := unhide HB1
      refine ⟨_, rfl, ?_, hB1.trans ((unhide HB).mono hB1.size)⟩
      have := unhide HO
      rw [rk_all] at this
      exact ownsRow_low this hB1.size

theorem runesAt_own {W : World} {base : Nat} {v : Value} {zs : List Int} (h : W.ownsRow base 21 1 v zs.length (zs.map (Value.int .i32))) : ∃ a cap, v = .slice a zs.length cap ∧ (0 < zs.length → ∃ g, a = some ⟨g, 0, none⟩ ∧ base ≤ g ∧ g < W.heap.size ∧ RunesAt W g 0 zs) := by
  rcases h.2 with ⟨rfl, h0⟩ | ⟨g, cap, cur, rfl, hb, hh, _⟩
  · exact ⟨none, 0, by rw [h0], fun hn => by omega⟩
  · refine ⟨_, cap, rfl, fun hn => ⟨g, rfl, hb, (Array.getElem?_eq_some_iff.1 hh).1, fun j hj => ?_⟩⟩
    have := h.cells (g := g) rfl j (.int .i32 (zs.getD j 0)) (by simp [List.getD, List.getElem?_eq_getElem hj])
    rw [add_none] at this
    exact this

set_option maxHeartbeats 4000000 in
theorem refClean_any (s : ByteArray) (hs : s.size ≤ 1048576) (w : World) :
    Calls Try.prog 19 #[.string s] w fun e w' => e = .returned (.string (cleanV s)) ∧ Below w.heap.size w w' := by
  have hnl := starts_length s
  have hrl := runesL_length s
  have HT := hide (text_runes s)
  go_enter Try.func19, Try.ntmps19
  go_wp2_with fail
  refine (refRunes_any s (by omega) _).mono ?_
  rintro e w1 ⟨v, rfl, hown, hB⟩
  rw [← hrl] at hown
  obtain ⟨a, cap, rfl, hr⟩ := runesAt_own hown
  have HB := hide hB
  clear hown hB
  by_cases hn : 0 < (runesL s).length
  · obtain ⟨g, rfl, hg0, hg1, hra⟩ := hr hn
    have HR := hide hra
    clear hra hrl hr
    go_wp2_with fail
    refine (refText_some g 0 cap (runesL s) (by have := runesL_length s; omega) _ hg1 (unhide HR)).mono ?_
    rintro e w2 ⟨rfl, hb⟩
    rw [unhide HT]
    have HB2 := hide ((unhide HB).trans (hb.mono (unhide HB).size))
    clear hb
    go_wp2
    go_ret
    exact ⟨rfl, unhide HB2⟩
  · have h0 : runesL s = [] := List.eq_nil_of_length_eq_zero (by omega)
    have hz : (runesL s).length = 0 := by omega
    rw [hz]
    have HT2 := unhide HT
    rw [h0] at HT2
    have HT3 := hide HT2
    clear hr hrl hn HT2 h0 hz
    go_wp2_with fail
    refine (refText_none a cap _).mono ?_
    rintro e w2 ⟨rfl, hb⟩
    rw [unhide HT3]
    have HB2 := hide ((unhide HB).trans (hb.mono (unhide HB).size))
    clear hb
    go_wp2
    go_ret
    exact ⟨rfl, unhide HB2⟩

theorem validV_shape (s : ByteArray) : ∃ x y ok, validV s = .tuple #[.agg #[.int .i64 x, .int .i64 y], .bool ok] := by
  rcases validV_cases s with ⟨x, y, h⟩ | ⟨h, _⟩
  · exact ⟨x, y, false, h⟩
  · exact ⟨0, 0, true, h⟩

set_option maxRecDepth 100000 in
set_option maxHeartbeats 4000000 in
theorem lvalid_any (s : ByteArray) (hs : s.size ≤ 1048576) (w : World) : Calls Try.prog 4 #[.string s] w fun e w' => e = .returned (.bool true) ∧ Below w.heap.size w w' := by
  have hms : s.size ≤ maxLen := by unfold maxLen; omega
  obtain ⟨x, y, ok, hv⟩ := validV_shape s
  have HV := hide hv
  clear hv
  have hne : (ok != !ok) = true := by cases ok <;> rfl
  go_enter Try.func4, Try.ntmps4
  go_wp2_with fail
  refine (valid_any s hms _).mono ?_
  rintro e w1 ⟨rfl, hb⟩
  rw [unhide HV]
  have HB1 := hide hb
  clear hb
  have HB1a := hide ((unhide HB1).alloc (unhide HB1).size (.cells #[.int .i64 x, .int .i64 y] 37))
  go_wp2_with fail
  refine (refValid_any s hs x y ok (unhide HV) _).mono ?_
  rintro e w2 ⟨rfl, hb⟩
  have b2 := (Blk.new w1 #[.int .i64 x, .int .i64 y] 37).below hb (by simp)
  have HB2 := hide ((unhide HB1a).trans (hb.mono (unhide HB1a).size))
  have hl2 : w1.heap.size < w2.heap.size := b2.lt
  clear hb
  go_wp2_with fail
  refine (alive_any _).mono ?_
  rintro e w3 ⟨rfl, hb⟩
  have b3 := b2.below hb hl2
  have HB3 := hide ((unhide HB2).trans (hb.mono (unhide HB2).size))
  clear hb b2
  have c0 := b3.cell 0
  have c1 := b3.cell 1
  go_wp2_with fail
  refine (clean_any s (by omega) _).mono ?_
  rintro e w4 ⟨rfl, hb⟩
  have HB4 := hide ((unhide HB3).trans (hb.mono (unhide HB3).size))
  clear hb b3 c0 c1
  go_wp2_with fail
  refine (refClean_any s hs _).mono ?_
  rintro e w5 ⟨rfl, hb⟩
  have HB5 := hide ((unhide HB4).trans (hb.mono (unhide HB4).size))
  clear hb
  go_wp2
  go_ret
  exact ⟨rfl, unhide HB5⟩
end Go.Proofs.Ytaafecaclkagiaa
