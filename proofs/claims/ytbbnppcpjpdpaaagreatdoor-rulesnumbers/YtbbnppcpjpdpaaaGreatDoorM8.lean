/- Texts of this claim, one behind the other. -/
import Derived.Test.YtbbnppcpjpdpaaaGreatDoorM3
import Derived.Test.YtbbnppcpjpdpaaaGreatDoorM7
import Derived.Lib.QuietBelow
import Derived.BigQuiet
/- Plain facts: the numbers of the spots' first bytes are just the bounds below the end; the last spot is what Last answers; how a list of spots lies in memory. -/
namespace Go.Proofs.YtbbnppcpjpdpaaaGreatDoor
open Go.RowKit Go.Shelf
set_option linter.unusedVariables false

theorem startsFrom_ge (s : ByteArray) : ∀ f i p, p ∈ startsFrom s f i → i ≤ p ∧ p < s.size
  | 0, i, p, h => by simp [startsFrom] at h
  | f + 1, i, p, h => by
    unfold startsFrom at h
    split at h
    · rename_i hi
      rcases List.mem_cons.1 h with rfl | h
      · exact ⟨Nat.le_refl _, hi⟩
      · have := startsFrom_ge s f _ p h
        exact ⟨by omega, this.2⟩
    · cases h

/-- Within a sequence there is no bound. -/
theorem bd_within (s : ByteArray) (i p : Nat) (h1 : i < p) (h2 : p < i + wd s i) : bdB s p = false := by
  have h4 := wd_four s i
  rw [← Bool.not_eq_true, bd_iff]
  intro h
  have := h (p - i) (by omega) (by omega) (by omega)
  rw [show p - (p - i) = i by omega] at this
  omega

theorem mem_startsFrom (s : ByteArray) : ∀ f i, s.size ≤ i + f → bdB s i = true → ∀ p, i ≤ p → p < s.size → (p ∈ startsFrom s f i ↔ bdB s p = true)
  | 0, i, hf, hb, p, h1, h2 => by omega
  | f + 1, i, hf, hb, p, h1, h2 => by
    have hi : i < s.size := by omega
    have hw := wd_pos s i
    rw [startsFrom_cons s f i hi, List.mem_cons]
    by_cases e : p = i
    · subst e; simp [hb]
    · by_cases hlt : p < i + wd s i
      · rw [bd_within s i p (by omega) hlt]
        constructor
        · rintro (h | h)
          · exact absurd h e
          · have := startsFrom_ge s f _ p h; omega
        · intro h; cases h
      · have := mem_startsFrom s f (i + wd s i) (by omega) (bd_step s i hb hi) p (by omega) h2
        rw [this]
        simp [e]
theorem mem_starts (s : ByteArray) (p : Nat) (h : p < s.size) : p ∈ starts s ↔ bdB s p = true := mem_startsFrom s s.size 0 (by omega) (bd_zero s) p (Nat.zero_le _) h

theorem last_startsFrom (s : ByteArray) : ∀ f i, s.size ≤ i + f → i < s.size → bdB s i = true → ∃ p, (startsFrom s f i).getLast? = some p ∧ p < s.size ∧ p + wd s p = s.size ∧ bdB s p = true
  | 0, i, hf, h, hb => by omega
  | f + 1, i, hf, hi, hb => by
    have hw := wd_pos s i
    have hr := wd_room s i hi
    rw [startsFrom_cons s f i hi]
    by_cases h : i + wd s i < s.size
    · obtain ⟨p, hp, h1, h2, h3⟩ := last_startsFrom s f (i + wd s i) (by omega) h (bd_step s i hb hi)
      refine ⟨p, ?_, h1, h2, h3⟩
      rw [List.getLast?_cons, hp]
      rfl
    · rw [startsFrom_end s f _ h]
      exact ⟨i, rfl, hi, by omega, hb⟩

theorem lastS_at (s : ByteArray) (p : Nat) (hp : p < s.size) (hw : p + wd s p = s.size) (hb : bdB s p = true) : lastS s = spotV s p := by
  have h1 := wd_pos s p
  have h4 := wd_four s p
  by_cases hbad : rn s p = 65533 ∧ wd s p = 1
  · have hall : ∀ m, m < 5 → 1 ≤ m → goodEnd s m = false := fun m hm hm1 => by
      unfold goodEnd
      refine decide_eq_false ?_
      rintro ⟨hle, hwm, hg⟩
      by_cases e : m = 1
      · subst e
        rw [show s.size - 1 = p by omega] at hg
        exact hg hbad
      · have := (bd_iff s p).1 hb (m - 1) (by omega) (by omega) (by omega)
        rw [show p - (m - 1) = s.size - m by omega] at this
        omega
    rw [lastS_none s hall]
    have e1 := hbad.1
    have e2 := hbad.2
    unfold spotV
    rw [decide_eq_true hbad, e1, e2]
    rfl
  · have hk : goodEnd s (wd s p) = true := by
      unfold goodEnd
      refine decide_eq_true ?_
      rw [show s.size - wd s p = p by omega]
      exact ⟨by omega, rfl, hbad⟩
    have := lastS_hit s (wd s p) h1 h4 hk (fun m hm hm1 => by
      unfold goodEnd
      refine decide_eq_false ?_
      rintro ⟨hle, hwm, hg⟩
      have hc := wd_cont s p (wd s p - m) (by omega) (by omega)
      rw [show p + (wd s p - m) = s.size - m by omega] at hc
      by_cases e : m = 1
      · have := (at_told s (s.size - m)).one (by show wd s (s.size - m) = 1; omega)
        rcases this with ⟨h, _⟩ | ⟨_, h⟩
        · exact hg ⟨h, by omega⟩
        · omega
      · have := wd_lead s (s.size - m) (by omega)
        omega)
    rw [this, show s.size - wd s p = p by omega]

theorem last_spot (s : ByteArray) (h : 0 < s.size) : ∃ p, (starts s).getLast? = some p ∧ p < s.size ∧ lastS s = spotV s p := by
  obtain ⟨p, h1, h2, h3, h4⟩ := last_startsFrom s s.size 0 (by omega) h (bd_zero s)
  exact ⟨p, h1, h2, lastS_at s p h2 h3 h4⟩

/-- A list of things of four cells each: the cell number j of the thing number i. -/
theorem flat4 {α : Type} (f : α → List Value) (hf : ∀ x, (f x).length = 4) : ∀ (l : List α) (i j : Nat) (x : α), l[i]? = some x → j < 4 → (l.flatMap f)[4 * i + j]? = (f x)[j]?
  | [], i, j, x, h, _ => by simp at h
  | y :: l, 0, j, x, h, hj => by
    simp at h
    subst h
    rw [List.flatMap_cons, List.getElem?_append_left (by rw [hf]; omega), Nat.mul_zero, Nat.zero_add]
  | y :: l, i + 1, j, x, h, hj => by
    simp at h
    rw [List.flatMap_cons, List.getElem?_append_right (by rw [hf]; omega), hf, show 4 * (i + 1) + j - 4 = 4 * i + j by omega]
    exact flat4 f hf l i j x h hj

/-- How a list of spots lies in memory. -/
theorem row_cells {W : World} {base : Nat} {e : TypeId} {v : Value} {l : List Nat} {s : ByteArray} (h : W.ownsRow base e 4 v l.length (l.flatMap (refCells s))) (hne : 0 < l.length) :
    ∃ g cap, v = .slice (some ⟨g, 0, none⟩) l.length cap ∧ base ≤ g ∧ g < W.heap.size ∧ l.length ≤ cap ∧ (∀ i x, l[i]? = some x → ∀ j, j < 4 → W.cell? ⟨g, 4 * i + j, none⟩ = (refCells s x)[j]?) := by
  rcases h.2 with ⟨rfl, h0⟩ | ⟨g, cap, cur, rfl, hb, hh, hc, hm, hsz, ht⟩
  · omega
  · refine ⟨g, cap, rfl, hb, (Array.getElem?_eq_some_iff.1 hh).1, hc, fun i x hx j hj => ?_⟩
    have hil : i < l.length := (List.getElem?_eq_some_iff.1 hx).1
    rw [← flat4 (refCells s) (fun _ => rfl) l i j x hx hj, ← ht, List.getElem?_take, if_pos (by omega)]
    simp [World.cell?, hh]
end Go.Proofs.YtbbnppcpjpdpaaaGreatDoor
/- remark, its walk. -/
namespace Go.Proofs.YtbbnppcpjpdpaaaGreatDoor
open Go.RowKit Go.Shelf
set_option linter.unusedVariables false
set_option maxRecDepth 100000 in
set_option maxHeartbeats 4000000 in
theorem remark_any (t : ByteArray) (ht : t.size < 4294967281) (m : Int) (w : World) (hm : w.cell? ⟨3, 0, none⟩ = some (.int .i64 m)) : Calls Tryz.prog 105 #[.string t] w fun e w' => e = .returned (tupB (remV t)) ∧ Below w.heap.size w w' := by
  obtain ⟨l, hl⟩ : ∃ l, l = t.extract 0 (nlAt t) := ⟨_, rfl⟩
  have hls : l.size ≤ t.size := by rw [hl, ByteArray.size_extract]; omega
  have hlm : l.size ≤ maxLen := by unfold maxLen; omega
  have hrv : remV t = match badOf l with | none => (l.size, true) | some x => (x + begLen (l.extract x l.size), false) := by subst hl; unfold remV; cases badOf (t.extract 0 (nlAt t)) <;> rfl
  have hcn := cut_nl t
  rw [← hl] at hcn
  have HRV := hide hrv
  have HCN := hide hcn
  have HLM := hide hlm
  have hll : (l.size : Int) ≤ 4294967281 := by omega
  clear hl hrv hcn hlm
  go_enter Tryz.func105, Tryz.ntmps105
  go_wp2_with fail
  refine (cut_sh t ⟨#[10]⟩ m _ ht hm).mono ?_
  rintro e w1 ⟨rfl, nq, rfl⟩
  have hb0 : Below w.heap.size w (w.drewN nq) := ⟨rfl, rfl, rfl, Nat.le_refl _, fun _ _ => rfl⟩
  rw [show (⟨(Lib.cut t.data.toList (ByteArray.mk #[10]).data.toList).1.toArray⟩ : ByteArray) = l from unhide HCN]
  generalize (⟨(Lib.cut t.data.toList (ByteArray.mk #[10]).data.toList).2.1.toArray⟩ : ByteArray) = c1
  generalize (Lib.cut t.data.toList (ByteArray.mk #[10]).data.toList).2.2 = c2
  have HB0 := hide hb0
  clear hb0
  generalize w.drewN nq = w1 at *
  go_wp2_with fail
  refine (valid_any l (unhide HLM) _).mono ?_
  rintro e w2 ⟨rfl, hb⟩
  have HB1 := hide ((unhide HB0).trans (hb.mono (unhide HB0).size))
  clear hb HB0
  cases hbd : badOf l with
  | none =>
    rw [validV_none hbd]
    have hrv := unhide HRV
    rw [hbd] at hrv
    have HR := hide hrv
    have HB2 := hide ((unhide HB1).alloc (unhide HB1).size (.cells #[.int .i64 0, .int .i64 0] 211))
    clear hrv HRV HB1
    go_wp2_with fail
    go_ret2
    exact ⟨by rw [unhide HR]; rfl, unhide HB2⟩
  | some x =>
    obtain ⟨y, hy⟩ := validV_some hbd
    rw [hy]
    have hrv := unhide HRV
    rw [hbd] at hrv
    have HR := hide hrv
    have hxs : x < l.size := (startsFrom_ge l l.size 0 x (List.mem_of_find?_eq_some hbd)).2
    have hx1 : (x : Int) ≤ (l.size : Int) := by omega
    have hx3 : (x : Int) ≤ 4294967281 := by omega
    have hx2 : ((x : Nat) : Int).toNat = x := by omega
    have hq := (unhide HB1).alloc (unhide HB1).size (.cells #[.int .i64 x, .int .i64 y] 211)
    have hblk := Blk.new w2 #[.int .i64 x, .int .i64 y] 211
    have HB2 := hide hq
    have HBLK := hide hblk
    have hbl : begLen (l.extract x l.size) ≤ (l.extract x l.size).size := (scanTo_le _ (Nat.zero_le _)).2
    have hbz : (l.extract x l.size).size = l.size - x := by rw [ByteArray.size_extract]; omega
    have hbz2 : (begLen (l.extract x l.size) : Int) ≤ 4294967281 := by omega
    have hbz3 : (l.extract x l.size).size ≤ 4611686018427387904 := by omega
    clear hrv HRV HB1 hy hbd hq hblk hbz hbl
    go_wp2_with fail
    generalize w2.alloc (.cells #[.int .i64 x, .int .i64 y] 211) = w3 at *
    have k0 := cell_regrown (show w3.cell? ⟨w2.heap.size, 0, none⟩ = some (.int .i64 (x : Int)) from (unhide HBLK).cell 0)
    refine wp_region_quiet_below (by kernel_rfl) (by kernel_rfl) ?_
    repeat (quiet_step (exact Calls.regrown_of (begun_text (l.extract x l.size) hbz3 _)))
    refine wpQuiet_nil ?_
    intro _ hw'
    obtain ⟨⟨dq, osq⟩, hw''⟩ := hw'
    subst hw''
    have HB3 := hide ((unhide HB2).trans ((below_regrown w3 dq osq).mono (unhide HB2).size))
    go_wp2_with fail
    go_ret2
    exact ⟨by rw [unhide HR]; exact tupB_mk (by rw [wrap_i64 (by omega) (by omega)]; omega), unhide HB3⟩
end Go.Proofs.YtbbnppcpjpdpaaaGreatDoor
/- gap: blanks and remarks. -/
namespace Go.Proofs.YtbbnppcpjpdpaaaGreatDoor
open Go.RowKit Go.Shelf
set_option linter.unusedVariables false
theorem remV_cases (t : ByteArray) : (badOf (t.extract 0 (nlAt t)) = none ∧ remV t = (nlAt t, true)) ∨ ∃ x, badOf (t.extract 0 (nlAt t)) = some x ∧ remV t = (x + begLen ((t.extract 0 (nlAt t)).extract x (t.extract 0 (nlAt t)).size), false) := by
  have hz : (t.extract 0 (nlAt t)).size = nlAt t := by rw [ByteArray.size_extract]; have := nlAt_le t; omega
  unfold remV
  cases h : badOf (t.extract 0 (nlAt t)) with
  | none => exact .inl ⟨rfl, by rw [hz]⟩
  | some x => exact .inr ⟨x, rfl, rfl⟩
theorem remV_le (t : ByteArray) : (remV t).1 ≤ t.size := by
  have hz : (t.extract 0 (nlAt t)).size = nlAt t := by rw [ByteArray.size_extract]; have := nlAt_le t; omega
  have hn := nlAt_le t
  rcases remV_cases t with ⟨_, e⟩ | ⟨x, hx, e⟩
  · rw [e]; exact hn
  · rw [e]
    show x + _ ≤ t.size
    generalize t.extract 0 (nlAt t) = l at *
    have h1 := (startsFrom_ge _ _ 0 x (List.mem_of_find?_eq_some hx)).2
    have h2 : begLen (l.extract x l.size) ≤ (l.extract x l.size).size := (scanTo_le _ (Nat.zero_le _)).2
    have h3 : (l.extract x l.size).size = l.size - x := by rw [ByteArray.size_extract]; omega
    omega
theorem remV_pos (t : ByteArray) (h : 0 < t.size) (h0 : bt t 0 ≠ 10) (hok : (remV t).2 = true) : 1 ≤ (remV t).1 := by
  rcases remV_cases t with ⟨_, e⟩ | ⟨x, hx, e⟩
  · rw [e]
    show 1 ≤ nlAt t
    unfold nlAt
    rw [scanTo_go h (by simp [h0])]
    exact (scanTo_le _ (by omega)).1
  · rw [e] at hok; cases hok
/-- Blanks and remarks: where they end, from a place on. -/
def gapGo (t : ByteArray) : Nat → Nat → Nat × Bool
  | 0, n => (t.size, true)
  | f + 1, n =>
    if n < t.size then
      if blankB (bt t n) = true then gapGo t f (n + 1)
      else if bt t n = 35 then (if (remV (t.extract n t.size)).2 = true then gapGo t f (n + (remV (t.extract n t.size)).1) else (n + (remV (t.extract n t.size)).1, false))
      else (n, true)
    else (t.size, true)
def gapV (t : ByteArray) : Nat × Bool := gapGo t t.size 0
set_option maxRecDepth 100000 in
set_option maxHeartbeats 4000000 in
theorem gap_any (t : ByteArray) (ht : t.size < 4294967281) (m : Int) (w : World) (hm : w.cell? ⟨3, 0, none⟩ = some (.int .i64 m)) (hg : 3 < w.heap.size) : Calls Tryz.prog 69 #[.string t] w fun e w' => e = .returned (tupB (gapV t)) ∧ Below w.heap.size w w' := by
  have HM := hide hm
  clear hm
  have htb : (t.size : Int) ≤ 4294967281 := by omega
  go_enter Tryz.func69, Tryz.ntmps69
  go_wp2
  go_loopw [4, 5, 6, 12, 19] (fun i _ _ _ _ wr => ∃ k f : Nat, k ≤ t.size ∧ t.size ≤ k + f ∧ i = .int .i64 k ∧ Hz (gapV t = gapGo t f k) ∧ Hz (Below w.heap.size w wr)) (fun i _ _ _ _ _ => t.size - (intOf i).toNat)
  case atStart => exact ⟨0, t.size, by omega, by omega, rfl, hide rfl, hide (Below.refl _ _)⟩
  case round =>
    obtain ⟨k, f, hk, hf, rfl, HK, HW⟩ := hrel
    by_cases hkt : k < t.size
    · obtain ⟨f, rfl⟩ : ∃ g, f = g + 1 := ⟨f - 1, by omega⟩
      have hkt' : (k : Int) < (t.size : Int) := by omega
      have hkb : (k : Int) ≤ 4294967281 := by omega
      have hi2 : ((k : Nat) : Int).toNat = k := by omega
      have hbk := bt_get t k hkt
      have hgo := unhide HK
      rw [gapGo, if_pos hkt] at hgo
      cases hbl : blankB (bt t k) with
      | true =>
        rw [if_pos hbl] at hgo
        have HG := hide hgo
        rw [hbk] at hbl
        clear hbk hgo HK
        go_wp2_with fail
        refine (isBlank_any _ _).mono ?_
        rintro e w' ⟨rfl, rfl⟩
        rw [hbl]
        go_wp2_with fail
        go_roundw
        case rel => exact ⟨k + 1, f, by omega, by omega, by go_num, HG, HW⟩
        case measure => simp [intOf]; omega
      | false =>
        rw [if_neg (by rw [hbl]; decide)] at hgo
        by_cases h35 : bt t k = 35
        · rw [if_pos h35] at hgo
          have hbk0 : bt (t.extract k t.size) 0 = 35 := by
            unfold bt at h35 ⊢
            rw [get_suffix t k 0 (by omega), Nat.add_zero]
            exact h35
          have hsz : (t.extract k t.size).size = t.size - k := by rw [ByteArray.size_extract]; omega
          obtain ⟨u, hu⟩ : ∃ u, u = t.extract k t.size := ⟨_, rfl⟩
          rw [← hu] at hgo hbk0 hsz
          have hrl := remV_le u
          have hrp := remV_pos u (by omega) (by omega)
          have HM2 : ∀ wr, Below w.heap.size w wr → wr.cell? ⟨3, 0, none⟩ = some (.int .i64 m) := fun wr hb => (hb.cell (p := ⟨3, 0, none⟩) hg).trans (unhide HM)
          have hrem := remark_any u (by omega) m wr (HM2 wr (unhide HW))
          obtain ⟨rn1, rok, hrv⟩ : ∃ a b, remV u = (a, b) := ⟨_, _, rfl⟩
          rw [hrv] at hgo hrl hrp hrem
          have hrb : (rn1 : Int) ≤ 4294967281 := by have h : rn1 ≤ u.size := hrl; omega
          have hrl' : rn1 ≤ u.size := hrl
          have hrp' : rok = true → 1 ≤ rn1 := hrp
          have hc35 : (((t[k]'hkt).toNat : Int) == 35) = true := by rw [← hbk, h35]; rfl
          have hue : t.extract k t.size = u := hu.symm
          have HREM := hide hrem
          have HGO := hide hgo
          rw [hbk] at hbl
          clear hbk hgo HK h35 hbk0 hu hrl hrp hrem HM2
          go_wp2_with fail
          refine (isBlank_any _ _).mono ?_
          rintro e w' ⟨rfl, rfl⟩
          rw [hbl]
          go_wp2_with fail
          refine (unhide HREM).mono ?_
          rintro e w2 ⟨rfl, hb⟩
          have HW2 := hide ((unhide HW).trans (hb.mono (unhide HW).size))
          clear hb
          cases rok with
          | true =>
            have hgo := unhide HGO
            have HG : Hz (gapV t = gapGo t f (k + rn1)) := hide (by rw [hgo]; rfl)
            have h1 := hrp' rfl
            clear hgo HGO hrp'
            go_wp2_with fail
            go_roundw
            case rel => exact ⟨k + rn1, f, by omega, by omega, by go_num, HG, HW2⟩
            case measure => simp [intOf]; omega
          | false =>
            have HG : Hz (gapV t = (k + rn1, false)) := hide (by rw [unhide HGO]; rfl)
            clear HGO hrp'
            go_wp2_with fail
            go_ret2
            exact ⟨by rw [unhide HG]; exact tupB_mk (by omega), unhide HW2⟩
        · rw [if_neg h35] at hgo
          have HG := hide hgo
          have hc35 : (((t[k]'hkt).toNat : Int) == 35) = false := by rw [beq_eq_false_iff_ne, ← hbk]; omega
          rw [hbk] at hbl
          clear hbk hgo HK h35
          go_wp2_with fail
          refine (isBlank_any _ _).mono ?_
          rintro e w' ⟨rfl, rfl⟩
          rw [hbl]
          go_wp2_with fail
          go_ret2
          exact ⟨by rw [unhide HG]; rfl, unhide HW⟩
    · have hkt' : ¬ (k : Int) < (t.size : Int) := by omega
      have HG : Hz (gapV t = (t.size, true)) := hide (by
        rw [unhide HK]
        cases f with
        | zero => rfl
        | succ f => rw [gapGo, if_neg hkt])
      go_wp2_with fail
      go_ret2
      exact ⟨by rw [unhide HG]; rfl, unhide HW⟩
end Go.Proofs.YtbbnppcpjpdpaaaGreatDoor
