/- Texts of this claim, one behind the other. -/
import Derived.Test.YtbefahknbdjnpaaGreatDoorM2
import Derived.Test.YtbefahknbdjnpaaGreatDoorM5
import Derived.Lib.QuietBelow
import Derived.BigQuiet
import Derived.Maps.AppendAt
import Derived.Deep.QuietTactic
import Derived.Laws.StructEq
/- Plain facts: the numbers of the spots' first bytes are just the bounds below the end; the last spot is what Last answers; how a list of spots lies in memory. -/
namespace Go.Proofs.YtbefahknbdjnpaaGreatDoor
open Go.RowKit Go.Shelf
set_option linter.unusedVariables false

theorem startsFrom_ge (s : ByteArray) : ∀ f i p, p ∈ startsFrom s f i → i ≤ p ∧ p < s.size
  | 0, i, p, h => by simp [startsFrom] at h
  | f + 1, i, p, h => by
    unfold startsFrom at h
    split at h
    · rename_i hi
      rcases List.mem_cons.1 h with rfl | h
      · exact ⟨Nat.le_refl _, hi⟩
      · have := startsFrom_ge s f _ p h
        exact ⟨by omega, this.2⟩
    · cases h

/-- Within a sequence there is no bound. -/
theorem bd_within (s : ByteArray) (i p : Nat) (h1 : i < p) (h2 : p < i + wd s i) : bdB s p = false := by
  have h4 := wd_four s i
  rw [← Bool.not_eq_true, bd_iff]
  intro h
  have := h (p - i) (by omega) (by omega) (by omega)
  rw [show p - (p - i) = i by omega] at this
  omega

theorem mem_startsFrom (s : ByteArray) : ∀ f i, s.size ≤ i + f → bdB s i = true → ∀ p, i ≤ p → p < s.size → (p ∈ startsFrom s f i ↔ bdB s p = true)
  | 0, i, hf, hb, p, h1, h2 => by omega
  | f + 1, i, hf, hb, p, h1, h2 => by
    have hi : i < s.size := by omega
    have hw := wd_pos s i
    rw [startsFrom_cons s f i hi, List.mem_cons]
    by_cases e : p = i
    · subst e; simp [hb]
    · by_cases hlt : p < i + wd s i
      · rw [bd_within s i p (by omega) hlt]
        constructor
        · rintro (h | h)
          · exact absurd h e
          · have := startsFrom_ge s f _ p h; omega
        · intro h; cases h
      · have := mem_startsFrom s f (i + wd s i) (by omega) (bd_step s i hb hi) p (by omega) h2
        rw [this]
        simp [e]
theorem mem_starts (s : ByteArray) (p : Nat) (h : p < s.size) : p ∈ starts s ↔ bdB s p = true := mem_startsFrom s s.size 0 (by omega) (bd_zero s) p (Nat.zero_le _) h

theorem last_startsFrom (s : ByteArray) : ∀ f i, s.size ≤ i + f → i < s.size → bdB s i = true → ∃ p, (startsFrom s f i).getLast? = some p ∧ p < s.size ∧ p + wd s p = s.size ∧ bdB s p = true
  | 0, i, hf, h, hb => by omega
  | f + 1, i, hf, hi, hb => by
    have hw := wd_pos s i
    have hr := wd_room s i hi
    rw [startsFrom_cons s f i hi]
    by_cases h : i + wd s i < s.size
    · obtain ⟨p, hp, h1, h2, h3⟩ := last_startsFrom s f (i + wd s i) (by omega) h (bd_step s i hb hi)
      refine ⟨p, ?_, h1, h2, h3⟩
      rw [List.getLast?_cons, hp]
      rfl
    · rw [startsFrom_end s f _ h]
      exact ⟨i, rfl, hi, by omega, hb⟩

theorem lastS_at (s : ByteArray) (p : Nat) (hp : p < s.size) (hw : p + wd s p = s.size) (hb : bdB s p = true) : lastS s = spotV s p := by
  have h1 := wd_pos s p
  have h4 := wd_four s p
  by_cases hbad : rn s p = 65533 ∧ wd s p = 1
  · have hall : ∀ m, m < 5 → 1 ≤ m → goodEnd s m = false := fun m hm hm1 => by
      unfold goodEnd
      refine decide_eq_false ?_
      rintro ⟨hle, hwm, hg⟩
      by_cases e : m = 1
      · subst e
        rw [show s.size - 1 = p by omega] at hg
        exact hg hbad
      · have := (bd_iff s p).1 hb (m - 1) (by omega) (by omega) (by omega)
        rw [show p - (m - 1) = s.size - m by omega] at this
        omega
    rw [lastS_none s hall]
    have e1 := hbad.1
    have e2 := hbad.2
    unfold spotV
    rw [decide_eq_true hbad, e1, e2]
    rfl
  · have hk : goodEnd s (wd s p) = true := by
      unfold goodEnd
      refine decide_eq_true ?_
      rw [show s.size - wd s p = p by omega]
      exact ⟨by omega, rfl, hbad⟩
    have := lastS_hit s (wd s p) h1 h4 hk (fun m hm hm1 => by
      unfold goodEnd
      refine decide_eq_false ?_
      rintro ⟨hle, hwm, hg⟩
      have hc := wd_cont s p (wd s p - m) (by omega) (by omega)
      rw [show p + (wd s p - m) = s.size - m by omega] at hc
      by_cases e : m = 1
      · have := (at_told s (s.size - m)).one (by show wd s (s.size - m) = 1; omega)
        rcases this with ⟨h, _⟩ | ⟨_, h⟩
        · exact hg ⟨h, by omega⟩
        · omega
      · have := wd_lead s (s.size - m) (by omega)
        omega)
    rw [this, show s.size - wd s p = p by omega]

theorem last_spot (s : ByteArray) (h : 0 < s.size) : ∃ p, (starts s).getLast? = some p ∧ p < s.size ∧ lastS s = spotV s p := by
  obtain ⟨p, h1, h2, h3, h4⟩ := last_startsFrom s s.size 0 (by omega) h (bd_zero s)
  exact ⟨p, h1, h2, lastS_at s p h2 h3 h4⟩

/-- A list of things of four cells each: the cell number j of the thing number i. -/
theorem flat4 {α : Type} (f : α → List Value) (hf : ∀ x, (f x).length = 4) : ∀ (l : List α) (i j : Nat) (x : α), l[i]? = some x → j < 4 → (l.flatMap f)[4 * i + j]? = (f x)[j]?
  | [], i, j, x, h, _ => by simp at h
  | y :: l, 0, j, x, h, hj => by
    simp at h
    subst h
    rw [List.flatMap_cons, List.getElem?_append_left (by rw [hf]; omega), Nat.mul_zero, Nat.zero_add]
  | y :: l, i + 1, j, x, h, hj => by
    simp at h
    rw [List.flatMap_cons, List.getElem?_append_right (by rw [hf]; omega), hf, show 4 * (i + 1) + j - 4 = 4 * i + j by omega]
    exact flat4 f hf l i j x h hj

/-- How a list of spots lies in memory. -/
theorem row_cells {W : World} {base : Nat} {e : TypeId} {v : Value} {l : List Nat} {s : ByteArray} (h : W.ownsRow base e 4 v l.length (l.flatMap (refCells s))) (hne : 0 < l.length) :
    ∃ g cap, v = .slice (some ⟨g, 0, none⟩) l.length cap ∧ base ≤ g ∧ g < W.heap.size ∧ l.length ≤ cap ∧ (∀ i x, l[i]? = some x → ∀ j, j < 4 → W.cell? ⟨g, 4 * i + j, none⟩ = (refCells s x)[j]?) := by
  rcases h.2 with ⟨rfl, h0⟩ | ⟨g, cap, cur, rfl, hb, hh, hc, hm, hsz, ht⟩
  · omega
  · refine ⟨g, cap, rfl, hb, (Array.getElem?_eq_some_iff.1 hh).1, hc, fun i x hx j hj => ?_⟩
    have hil : i < l.length := (List.getElem?_eq_some_iff.1 hx).1
    rw [← flat4 (refCells s) (fun _ => rfl) l i j x hx hj, ← ht, List.getElem?_take, if_pos (by omega)]
    simp [World.cell?, hh]
end Go.Proofs.YtbefahknbdjnpaaGreatDoor
/- remark, its walk. -/
namespace Go.Proofs.YtbefahknbdjnpaaGreatDoor
open Go.RowKit Go.Shelf
set_option linter.unusedVariables false
set_option maxRecDepth 100000 in
set_option maxHeartbeats 4000000 in
theorem remark_any (t : ByteArray) (ht : t.size < 4294967281) (m : Int) (w : World) (hm : w.cell? ⟨7, 0, none⟩ = some (.int .i64 m)) : Calls Tryz.prog 155 #[.string t] w fun e w' => e = .returned (tupB (remV t)) ∧ Below w.heap.size w w' := by
  obtain ⟨l, hl⟩ : ∃ l, l = t.extract 0 (nlAt t) := ⟨_, rfl⟩
  have hls : l.size ≤ t.size := by rw [hl, ByteArray.size_extract]; omega
  have hlm : l.size ≤ maxLen := by unfold maxLen; omega
  have hrv : remV t = match badOf l with | none => (l.size, true) | some x => (x + begLen (l.extract x l.size), false) := by subst hl; unfold remV; cases badOf (t.extract 0 (nlAt t)) <;> rfl
  have hcn := cut_nl t
  rw [← hl] at hcn
  have HRV := hide hrv
  have HCN := hide hcn
  have HLM := hide hlm
  have hll : (l.size : Int) ≤ 4294967281 := by omega
  clear hl hrv hcn hlm
  go_enter Tryz.func155, Tryz.ntmps155
  go_wp2_with fail
  refine (cut_sh t ⟨#[10]⟩ m _ ht hm).mono ?_
  rintro e w1 ⟨rfl, nq, rfl⟩
  have hb0 : Below w.heap.size w (w.drewN nq) := ⟨rfl, rfl, rfl, Nat.le_refl _, fun _ _ => rfl⟩
  rw [show (⟨(Lib.cut t.data.toList (ByteArray.mk #[10]).data.toList).1.toArray⟩ : ByteArray) = l from unhide HCN]
  generalize (⟨(Lib.cut t.data.toList (ByteArray.mk #[10]).data.toList).2.1.toArray⟩ : ByteArray) = c1
  generalize (Lib.cut t.data.toList (ByteArray.mk #[10]).data.toList).2.2 = c2
  have HB0 := hide hb0
  clear hb0
  generalize w.drewN nq = w1 at *
  go_wp2_with fail
  refine (valid_any l (unhide HLM) _).mono ?_
  rintro e w2 ⟨rfl, hb⟩
  have HB1 := hide ((unhide HB0).trans (hb.mono (unhide HB0).size))
  clear hb HB0
  cases hbd : badOf l with
  | none =>
    rw [validV_none hbd]
    have hrv := unhide HRV
    rw [hbd] at hrv
    have HR := hide hrv
    have HB2 := hide ((unhide HB1).alloc (unhide HB1).size (.cells #[.int .i64 0, .int .i64 0] 263))
    clear hrv HRV HB1
    go_wp2_with fail
    go_ret2
    exact ⟨by rw [unhide HR]; rfl, unhide HB2⟩
  | some x =>
    obtain ⟨y, hy⟩ := validV_some hbd
    rw [hy]
    have hrv := unhide HRV
    rw [hbd] at hrv
    have HR := hide hrv
    have hxs : x < l.size := (startsFrom_ge l l.size 0 x (List.mem_of_find?_eq_some hbd)).2
    have hx1 : (x : Int) ≤ (l.size : Int) := by omega
    have hx3 : (x : Int) ≤ 4294967281 := by omega
    have hx2 : ((x : Nat) : Int).toNat = x := by omega
    have hq := (unhide HB1).alloc (unhide HB1).size (.cells #[.int .i64 x, .int .i64 y] 263)
    have hblk := Blk.new w2 #[.int .i64 x, .int .i64 y] 263
    have HB2 := hide hq
    have HBLK := hide hblk
    have hbl : begLen (l.extract x l.size) ≤ (l.extract x l.size).size := (scanTo_le _ (Nat.zero_le _)).2
    have hbz : (l.extract x l.size).size = l.size - x := by rw [ByteArray.size_extract]; omega
    have hbz2 : (begLen (l.extract x l.size) : Int) ≤ 4294967281 := by omega
    have hbz3 : (l.extract x l.size).size ≤ 4611686018427387904 := by omega
    clear hrv HRV HB1 hy hbd hq hblk hbz hbl
    go_wp2_with fail
    generalize w2.alloc (.cells #[.int .i64 x, .int .i64 y] 263) = w3 at *
    have k0 := cell_regrown (show w3.cell? ⟨w2.heap.size, 0, none⟩ = some (.int .i64 (x : Int)) from (unhide HBLK).cell 0)
    refine wp_region_quiet_below (by kernel_rfl) (by kernel_rfl) ?_
    repeat (quiet_step (exact Calls.regrown_of (begun_text (l.extract x l.size) hbz3 _)))
    refine wpQuiet_nil ?_
    intro _ hw'
    obtain ⟨⟨dq, osq⟩, hw''⟩ := hw'
    subst hw''
    have HB3 := hide ((unhide HB2).trans ((below_regrown w3 dq osq).mono (unhide HB2).size))
    go_wp2_with fail
    go_ret2
    exact ⟨by rw [unhide HR]; exact tupB_mk (by rw [wrap_i64 (by omega) (by omega)]; omega), unhide HB3⟩
end Go.Proofs.YtbefahknbdjnpaaGreatDoor
/- gap: blanks and remarks. -/
namespace Go.Proofs.YtbefahknbdjnpaaGreatDoor
open Go.RowKit Go.Shelf
set_option linter.unusedVariables false
theorem remV_cases (t : ByteArray) : (badOf (t.extract 0 (nlAt t)) = none ∧ remV t = (nlAt t, true)) ∨ ∃ x, badOf (t.extract 0 (nlAt t)) = some x ∧ remV t = (x + begLen ((t.extract 0 (nlAt t)).extract x (t.extract 0 (nlAt t)).size), false) := by
  have hz : (t.extract 0 (nlAt t)).size = nlAt t := by rw [ByteArray.size_extract]; have := nlAt_le t; omega
  unfold remV
  cases h : badOf (t.extract 0 (nlAt t)) with
  | none => exact .inl ⟨rfl, by rw [hz]⟩
  | some x => exact .inr ⟨x, rfl, rfl⟩
theorem remV_le (t : ByteArray) : (remV t).1 ≤ t.size := by
  have hz : (t.extract 0 (nlAt t)).size = nlAt t := by rw [ByteArray.size_extract]; have := nlAt_le t; omega
  have hn := nlAt_le t
  rcases remV_cases t with ⟨_, e⟩ | ⟨x, hx, e⟩
  · rw [e]; exact hn
  · rw [e]
    show x + _ ≤ t.size
    generalize t.extract 0 (nlAt t) = l at *
    have h1 := (startsFrom_ge _ _ 0 x (List.mem_of_find?_eq_some hx)).2
    have h2 : begLen (l.extract x l.size) ≤ (l.extract x l.size).size := (scanTo_le _ (Nat.zero_le _)).2
    have h3 : (l.extract x l.size).size = l.size - x := by rw [ByteArray.size_extract]; omega
    omega
theorem remV_pos (t : ByteArray) (h : 0 < t.size) (h0 : bt t 0 ≠ 10) (hok : (remV t).2 = true) : 1 ≤ (remV t).1 := by
  rcases remV_cases t with ⟨_, e⟩ | ⟨x, hx, e⟩
  · rw [e]
    show 1 ≤ nlAt t
    unfold nlAt
    rw [scanTo_go h (by simp [h0])]
    exact (scanTo_le _ (by omega)).1
  · rw [e] at hok; cases hok
/-- Blanks and remarks: where they end, from a place on. -/
def gapGo (t : ByteArray) : Nat → Nat → Nat × Bool
  | 0, n => (t.size, true)
  | f + 1, n =>
    if n < t.size then
      if blankB (bt t n) = true then gapGo t f (n + 1)
      else if bt t n = 35 then (if (remV (t.extract n t.size)).2 = true then gapGo t f (n + (remV (t.extract n t.size)).1) else (n + (remV (t.extract n t.size)).1, false))
      else (n, true)
    else (t.size, true)
def gapV (t : ByteArray) : Nat × Bool := gapGo t t.size 0
set_option maxRecDepth 100000 in
set_option maxHeartbeats 4000000 in
theorem gap_any (t : ByteArray) (ht : t.size < 4294967281) (m : Int) (w : World) (hm : w.cell? ⟨7, 0, none⟩ = some (.int .i64 m)) (hg : 7 < w.heap.size) : Calls Tryz.prog 112 #[.string t] w fun e w' => e = .returned (tupB (gapV t)) ∧ Below w.heap.size w w' := by
  have HM := hide hm
  clear hm
  have htb : (t.size : Int) ≤ 4294967281 := by omega
  go_enter Tryz.func112, Tryz.ntmps112
  go_wp2
  go_loopw [4, 5, 6, 12, 19] (fun i _ _ _ _ wr => ∃ k f : Nat, k ≤ t.size ∧ t.size ≤ k + f ∧ i = .int .i64 k ∧ Hz (gapV t = gapGo t f k) ∧ Hz (Below w.heap.size w wr)) (fun i _ _ _ _ _ => t.size - (intOf i).toNat)
  case atStart => exact ⟨0, t.size, by omega, by omega, rfl, hide rfl, hide (Below.refl _ _)⟩
  case round =>
    obtain ⟨k, f, hk, hf, rfl, HK, HW⟩ := hrel
    by_cases hkt : k < t.size
    · obtain ⟨f, rfl⟩ : ∃ g, f = g + 1 := ⟨f - 1, by omega⟩
      have hkt' : (k : Int) < (t.size : Int) := by omega
      have hkb : (k : Int) ≤ 4294967281 := by omega
      have hi2 : ((k : Nat) : Int).toNat = k := by omega
      have hbk := bt_get t k hkt
      have hgo := unhide HK
      rw [gapGo, if_pos hkt] at hgo
      cases hbl : blankB (bt t k) with
      | true =>
        rw [if_pos hbl] at hgo
        have HG := hide hgo
        rw [hbk] at hbl
        clear hbk hgo HK
        go_wp2_with fail
        refine (isBlank_any _ _).mono ?_
        rintro e w' ⟨rfl, rfl⟩
        rw [hbl]
        go_wp2_with fail
        go_roundw
        case rel => exact ⟨k + 1, f, by omega, by omega, by go_num, HG, HW⟩
        case measure => simp [intOf]; omega
      | false =>
        rw [if_neg (by rw [hbl]; decide)] at hgo
        by_cases h35 : bt t k = 35
        · rw [if_pos h35] at hgo
          have hbk0 : bt (t.extract k t.size) 0 = 35 := by
            unfold bt at h35 ⊢
            rw [get_suffix t k 0 (by omega), Nat.add_zero]
            exact h35
          have hsz : (t.extract k t.size).size = t.size - k := by rw [ByteArray.size_extract]; omega
          obtain ⟨u, hu⟩ : ∃ u, u = t.extract k t.size := ⟨_, rfl⟩
          rw [← hu] at hgo hbk0 hsz
          have hrl := remV_le u
          have hrp := remV_pos u (by omega) (by omega)
          have HM2 : ∀ wr, Below w.heap.size w wr → wr.cell? ⟨7, 0, none⟩ = some (.int .i64 m) := fun wr hb => (hb.cell (p := ⟨7, 0, none⟩) hg).trans (unhide HM)
          have hrem := remark_any u (by omega) m wr (HM2 wr (unhide HW))
          obtain ⟨rn1, rok, hrv⟩ : ∃ a b, remV u = (a, b) := ⟨_, _, rfl⟩
          rw [hrv] at hgo hrl hrp hrem
          have hrb : (rn1 : Int) ≤ 4294967281 := by have h : rn1 ≤ u.size := hrl; omega
          have hrl' : rn1 ≤ u.size := hrl
          have hrp' : rok = true → 1 ≤ rn1 := hrp
          have hc35 : (((t[k]'hkt).toNat : Int) == 35) = true := by rw [← hbk, h35]; rfl
          have hue : t.extract k t.size = u := hu.symm
          have HREM := hide hrem
          have HGO := hide hgo
          rw [hbk] at hbl
          clear hbk hgo HK h35 hbk0 hu hrl hrp hrem HM2
          go_wp2_with fail
          refine (isBlank_any _ _).mono ?_
          rintro e w' ⟨rfl, rfl⟩
          rw [hbl]
          go_wp2_with fail
          refine (unhide HREM).mono ?_
          rintro e w2 ⟨rfl, hb⟩
          have HW2 := hide ((unhide HW).trans (hb.mono (unhide HW).size))
          clear hb
          cases rok with
          | true =>
            have hgo := unhide HGO
            have HG : Hz (gapV t = gapGo t f (k + rn1)) := hide (by rw [hgo]; rfl)
            have h1 := hrp' rfl
            clear hgo HGO hrp'
            go_wp2_with fail
            go_roundw
            case rel => exact ⟨k + rn1, f, by omega, by omega, by go_num, HG, HW2⟩
            case measure => simp [intOf]; omega
          | false =>
            have HG : Hz (gapV t = (k + rn1, false)) := hide (by rw [unhide HGO]; rfl)
            clear HGO hrp'
            go_wp2_with fail
            go_ret2
            exact ⟨by rw [unhide HG]; exact tupB_mk (by omega), unhide HW2⟩
        · rw [if_neg h35] at hgo
          have HG := hide hgo
          have hc35 : (((t[k]'hkt).toNat : Int) == 35) = false := by rw [beq_eq_false_iff_ne, ← hbk]; omega
          rw [hbk] at hbl
          clear hbk hgo HK h35
          go_wp2_with fail
          refine (isBlank_any _ _).mono ?_
          rintro e w' ⟨rfl, rfl⟩
          rw [hbl]
          go_wp2_with fail
          go_ret2
          exact ⟨by rw [unhide HG]; rfl, unhide HW⟩
    · have hkt' : ¬ (k : Int) < (t.size : Int) := by omega
      have HG : Hz (gapV t = (t.size, true)) := hide (by
        rw [unhide HK]
        cases f with
        | zero => rfl
        | succ f => rw [gapGo, if_neg hkt])
      go_wp2_with fail
      go_ret2
      exact ⟨by rw [unhide HG]; rfl, unhide HW⟩
end Go.Proofs.YtbefahknbdjnpaaGreatDoor
/- rest and pass: the rest of a text; lines and columns. -/
namespace Go.Proofs.YtbefahknbdjnpaaGreatDoor
open Go.RowKit Go.Shelf
set_option linter.unusedVariables false
/-- A cutter's cells. -/
abbrev ctrC (s : ByteArray) (b l c : Int) (v : Value) : Array Value := #[.string s, .int .i64 b, .int .i64 l, .int .i64 c, v]
set_option maxHeartbeats 2000000 in
theorem rest_any (C : Nat) (s : ByteArray) (b : Nat) (hb : b ≤ s.size) (hs : s.size ≤ 4294967281) (l c : Int) (v : Value) (w : World) (h : Blk w C (ctrC s b l c v) 154) :
    Calls Tryz.prog 113 #[.pointer (some ⟨C, 0, none⟩)] w fun e w' => e = .returned (.string (s.extract b s.size)) ∧ ∃ n, w' = w.drewN n := by
  have k0 := h.cell 0
  have k1 := h.cell 1
  have hb1 : (b : Int) ≤ (s.size : Int) := by omega
  have hb2 : ((b : Nat) : Int).toNat = b := by omega
  clear h
  go_enter Tryz.func113, Tryz.ntmps113
  go_wp2
  go_quiet (fail)
  go_wp2
  go_ret
  exact ⟨rfl, _, rfl⟩
/-- Line and column behind one spot more. -/
def lcStep (t : ByteArray) (x : Nat × Nat) (p : Nat) : Nat × Nat := if rn t p = 10 then (x.1 + 1, 1) else (x.1, x.2 + 1)
def lcF (t : ByteArray) (x : Nat × Nat) (ps : List Nat) : Nat × Nat := ps.foldl (lcStep t) x
theorem lcF_snoc (t : ByteArray) (x : Nat × Nat) (ps : List Nat) (p : Nat) : lcF t x (ps ++ [p]) = lcStep t (lcF t x ps) p := by simp [lcF]
theorem lcF_le (t : ByteArray) (x : Nat × Nat) : ∀ ps : List Nat, (lcF t x ps).1 ≤ x.1 + ps.length ∧ (lcF t x ps).2 ≤ x.2 + 1 + ps.length := by
  intro ps
  induction ps generalizing x with
  | nil => exact ⟨by simp [lcF], by simp [lcF]⟩
  | cons p ps ih =>
    have := ih (lcStep t x p)
    have e : lcF t x (p :: ps) = lcF t (lcStep t x p) ps := rfl
    rw [e, List.length_cons]
    have h1 : (lcStep t x p).1 ≤ x.1 + 1 ∧ (lcStep t x p).2 ≤ x.2 + 1 := by unfold lcStep; split <;> simp
    omega
/-- What pass's loop stands on. -/
structure PassSt (w wr : World) (C I : Nat) (u : ByteArray) (pos : Nat) (s : ByteArray) (b l c : Nat) (v : Value) : Prop where
  blk : Blk wr C (ctrC s b l c v) 154
  it : wr.heap[I]? = some (.stringIter u pos)
  gr : w.grownBy wr (some C)
  ne : C < I
  ge : w.heap.size ≤ I
theorem iterAt_blk {wr : World} {C I : Nat} {cs : Array Value} {ty : TypeId} (h : Blk wr C cs ty) (hne : C ≠ I) (u : ByteArray) (pos : Nat) : Blk (wr.iterAt I u pos) C cs ty := (Lib.iterAt_other wr I C u pos hne).trans h
set_option maxRecDepth 100000 in
set_option maxHeartbeats 4000000 in
theorem pass_any (C : Nat) (s : ByteArray) (b n : Nat) (hbn : b + n ≤ s.size) (hs : s.size ≤ 4294967281) (l c : Nat) (hl : l ≤ 4294967281) (hc : c ≤ 4294967281) (v : Value) (w : World) (h : Blk w C (ctrC s b l c v) 154) :
    Calls Tryz.prog 114 #[.pointer (some ⟨C, 0, none⟩), .int .i64 n] w fun e w' => e = .returned (.tuple #[]) ∧
      Blk w' C (ctrC s ((b + n : Nat) : Int) (lcF ((s.extract b s.size).extract 0 n) (l, c) (starts ((s.extract b s.size).extract 0 n))).1 (lcF ((s.extract b s.size).extract 0 n) (l, c) (starts ((s.extract b s.size).extract 0 n))).2 v) 154 ∧ w.grownBy w' (some C) := by
  have hz1 : (s.extract b s.size).size = s.size - b := by rw [ByteArray.size_extract]; omega
  obtain ⟨u, hu⟩ : ∃ u, u = (s.extract b s.size).extract 0 n := ⟨_, rfl⟩
  have hz2 : u.size = n := by rw [hu, ByteArray.size_extract, hz1]; omega
  rw [← hu]
  have hue : (s.extract b s.size).extract 0 n = u := hu.symm
  have hn1 : (n : Int) ≤ ((s.extract b s.size).size : Int) := by omega
  have hn2 : ((n : Nat) : Int).toNat = n := by omega
  have hnb : (n : Int) ≤ 4294967281 := by omega
  have hbb : (b : Int) ≤ 4294967281 := by omega
  have HZ2 := hide hz2
  have hsl := starts_length u
  have hslb : (starts u).length ≤ 4294967281 := by omega
  have HB := hide h
  clear hu hz1 hz2 h
  go_enter Tryz.func114, Tryz.ntmps114
  go_wp2_with fail
  refine (rest_any C s b (by omega) hs l c v _ (unhide HB)).mono ?_
  rintro e w1 ⟨rfl, q, rfl⟩
  have HB1 : Hz (Blk (w.drewN q) C (ctrC s b l c v) 154) := hide (unhide HB)
  have HG1 : Hz (w.grownBy (w.drewN q) (some C)) := hide ⟨rfl, rfl, rfl, Nat.le_refl _, fun _ _ _ => rfl⟩
  have hsz1 : Hz ((w.drewN q).heap.size = w.heap.size) := hide rfl
  have hCw := (unhide HB).lt
  clear HB
  generalize w.drewN q = w1 at *
  go_wp2_with fail
  have HST : Hz (PassSt w (w1.iter u 0) C w1.heap.size u 0 s b l c v) := hide ⟨(unhide HB1).alloc _, World.alloc_heap_new w1 _, (unhide HG1).trans (World.grownBy_alloc _ _ _), (unhide HB1).lt, by have := unhide hsz1; omega⟩
  obtain ⟨I, hI⟩ : ∃ I, I = w1.heap.size := ⟨_, rfl⟩
  rw [← hI] at HST
  rw [← hI]
  clear HB1 HG1 hsz1 hI
  go_loopw [5] (fun _ wr => ∃ (pre : List Nat) (pos f l' c' : Nat), Hz (starts u = pre ++ startsFrom u f pos) ∧ u.size ≤ pos + f ∧ Hz (lcF u (l, c) pre = (l', c')) ∧ Hz (PassSt w wr C I u pos s b l' c' v)) (fun _ wr => u.size - wr.iterPos I)
  case atStart => exact ⟨[], 0, u.size, l, c, hide rfl, by omega, hide rfl, HST⟩
  case round =>
    obtain ⟨pre, pos, f, l', c', HS, hf, HL, HR⟩ := hrel
    have hR := unhide HR
    have hlc := lcF_le u (l, c) pre
    rw [unhide HL] at hlc
    by_cases hp : pos < u.size
    · obtain ⟨g, rfl⟩ : ∃ g, f = g + 1 := ⟨f - 1, by omega⟩
      have hpl : pre.length < (starts u).length := by
        have h1 := congrArg List.length (unhide HS)
        rw [startsFrom_cons u g pos hp] at h1
        simp at h1
        omega
      have hlb : (l' : Int) ≤ 8589934600 := by have : l' ≤ l + pre.length := hlc.1; omega
      have hcb : (c' : Int) ≤ 8589934600 := by have : c' ≤ c + 1 + pre.length := hlc.2; omega
      have hnx : ∀ ty, (Instr.next (.pointer (some ⟨I, 0, none⟩)) true ty).run Tryz.prog wr = _ := fun ty => Lib.run_next_any_at wr I u pos ty hR.it hp
      have hwd := wd_pos u pos
      obtain ⟨d, hd⟩ : ∃ d, d = pos + (Utf8.decode u pos).2 := ⟨_, rfl⟩
      obtain ⟨x, hx⟩ : ∃ x, x = (Utf8.decode u pos).1 := ⟨_, rfl⟩
      rw [← hd, ← hx] at hnx
      have hne : C ≠ I := by have := hR.ne; omega
      have b0 := iterAt_blk hR.blk hne u d
      have b1 : Blk ((wr.iterAt I u d).setCell ⟨C, 3, none⟩ (.int .i64 ((c' : Int) + 1))) C (ctrC s b l' ((c' : Int) + 1) v) 154 := b0.set 3 _
      have b2 : Blk (((wr.iterAt I u d).setCell ⟨C, 3, none⟩ (.int .i64 ((c' : Int) + 1))).setCell ⟨C, 2, none⟩ (.int .i64 ((l' : Int) + 1))) C (ctrC s b ((l' : Int) + 1) ((c' : Int) + 1) v) 154 := b1.set 2 _
      have b3 : Blk ((((wr.iterAt I u d).setCell ⟨C, 3, none⟩ (.int .i64 ((c' : Int) + 1))).setCell ⟨C, 2, none⟩ (.int .i64 ((l' : Int) + 1))).setCell ⟨C, 3, none⟩ (.int .i64 1)) C (ctrC s b ((l' : Int) + 1) 1 v) 154 := b2.set 3 _
      have i0 : (wr.iterAt I u d).heap[I]? = some (.stringIter u d) := Lib.iterAt_heap wr I u pos d hR.it
      have hIne : I ≠ C := fun e => hne e.symm
      have i1 := (Below.heap_setCell (wr.iterAt I u d) ⟨C, 3, none⟩ (.int .i64 ((c' : Int) + 1)) I hIne).trans i0
      have i2 := (Below.heap_setCell _ ⟨C, 2, none⟩ (.int .i64 ((l' : Int) + 1)) I hIne).trans i1
      have i3 := (Below.heap_setCell _ ⟨C, 3, none⟩ (.int .i64 1) I hIne).trans i2
      have g0 : w.grownBy (wr.iterAt I u d) (some C) := hR.gr.andThen (grown_iterAt wr I u d) (fun j hj => by cases hj; exact .inl hR.ge)
      have g1 := g0.trans (grown_setCell' (wr.iterAt I u d) ⟨C, 3, none⟩ (.int .i64 ((c' : Int) + 1)))
      have g2 := g1.trans (grown_setCell' _ ⟨C, 2, none⟩ (.int .i64 ((l' : Int) + 1)))
      have g3 := g2.trans (grown_setCell' _ ⟨C, 3, none⟩ (.int .i64 1))
      have c03 := b0.cell 3
      have f03 := b0.frozen 3
      have c12 := b1.cell 2
      have f12 := b1.frozen 2
      have f23 := b2.frozen 3
      have c23 := b2.cell 3
      have HS2 : Hz (starts u = (pre ++ [pos]) ++ startsFrom u g d) := hide (by rw [unhide HS, startsFrom_cons u g pos hp, hd]; simp)
      have hL2 : lcF u (l, c) (pre ++ [pos]) = if x = 10 then (l' + 1, 1) else (l', c' + 1) := by rw [lcF_snoc, unhide HL, hx]; rfl
      by_cases h10 : x = 10
      · rw [if_pos h10] at hL2
        have HL2 := hide hL2
        have HB3 := hide (And.intro b3 (And.intro i3 g3))
        have h10' : ((x : Int) == 10) = true := by rw [beq_iff_eq]; omega
        have HGE := hide (And.intro hR.ne (And.intro hR.ge (And.intro hd hwd)))
        have HIP := hide (iterPos_at hR.it)
        clear b0 b1 b2 b3 i0 i1 i2 i3 g0 g1 g2 g3 hL2 HS HL HR hR hlc hd hx h10 hwd
        go_wp2_with fail
        go_roundw
        case rel => exact ⟨pre ++ [pos], d, g, l' + 1, 1, HS2, by have := (unhide HGE).2.2.1; have := (unhide HGE).2.2.2; simp only [wd] at this; omega, HL2, hide ⟨by have := (unhide HB3).1; simpa using this, (unhide HB3).2.1, (unhide HB3).2.2, (unhide HGE).1, (unhide HGE).2.1⟩⟩
        case measure =>
          rw [iterPos_at (unhide HB3).2.1, unhide HIP]
          have h1 := (unhide HGE).2.2.1
          have h2 := (unhide HGE).2.2.2
          simp only [wd] at h2
          omega
      · rw [if_neg h10] at hL2
        have HL2 := hide hL2
        have HB3 := hide (And.intro b1 (And.intro i1 g1))
        have h10' : ((x : Int) == 10) = false := by rw [beq_eq_false_iff_ne]; omega
        have HGE := hide (And.intro hR.ne (And.intro hR.ge (And.intro hd hwd)))
        have HIP := hide (iterPos_at hR.it)
        clear b0 b1 b2 b3 i0 i1 i2 i3 g0 g1 g2 g3 hL2 HS HL HR hR hlc hd hx h10 hwd
        go_wp2_with fail
        go_roundw
        case rel => exact ⟨pre ++ [pos], d, g, l', c' + 1, HS2, by have := (unhide HGE).2.2.1; have := (unhide HGE).2.2.2; simp only [wd] at this; omega, HL2, hide ⟨by have := (unhide HB3).1; simpa using this, (unhide HB3).2.1, (unhide HB3).2.2, (unhide HGE).1, (unhide HGE).2.1⟩⟩
        case measure =>
          rw [iterPos_at (unhide HB3).2.1, unhide HIP]
          have h1 := (unhide HGE).2.2.1
          have h2 := (unhide HGE).2.2.2
          simp only [wd] at h2
          omega
    · have hnx : ∀ ty, (Instr.next (.pointer (some ⟨I, 0, none⟩)) true ty).run Tryz.prog wr = _ := fun ty => Lib.run_next_end_at wr I u pos ty hR.it hp
      have hst := unhide HS
      rw [startsFrom_end u f pos hp, List.append_nil] at hst
      have k1 := hR.blk.cell 1
      have f1 := hR.blk.frozen 1
      have hE : Blk (wr.setCell ⟨C, 1, none⟩ (.int .i64 ((b : Int) + n))) C (ctrC s ((b : Int) + n) l' c' v) 154 := hR.blk.set 1 _
      have hG := hR.gr.trans (grown_setCell' wr ⟨C, 1, none⟩ (.int .i64 ((b : Int) + n)))
      have HL2 : Hz (lcF u (l, c) (starts u) = (l', c')) := hide (by rw [hst]; exact unhide HL)
      have HE := hide (And.intro hE hG)
      clear hE hG hst HS HL HR hR hlc
      go_wp2_with fail
      go_end0
      refine ⟨rfl, ?_, (unhide HE).2⟩
      rw [unhide HL2]
      exact (unhide HE).1
end Go.Proofs.YtbefahknbdjnpaaGreatDoor
/- The words of a text: what the cutter makes of it. -/
namespace Go.Proofs.YtbefahknbdjnpaaGreatDoor
open Go.RowKit Go.Shelf
set_option linter.unusedVariables false
/-- A word: its kind, its text, its rune, its number, its bytes, whether it is right. -/
structure WV where
  kind : Nat
  S : ByteArray
  R : Nat
  N : Nat
  n : Nat
  ok : Bool
/-- May a text go on behind n bytes, or end there? -/
def edgeB (t : ByteArray) (n : Nat) : Bool := decide (n = t.size) || !stkB (bt t n)
def wordV (t : ByteArray) : WV :=
  if smallB (bt t 0) = true then ⟨1, t.extract 0 (nameLen t), 0, 0, nameLen t, edgeB t (nameLen t)⟩
  else if digB (bt t 0) = true then ⟨2, ByteArray.empty, 0, (numV t).1, (numV t).2, edgeB t (numV t).2⟩
  else if bt t 0 = 85 then ⟨3, ByteArray.empty, (numdV t).1, 0, (numdV t).2.1, (numdV t).2.2 && edgeB t (numdV t).2.1⟩
  else if bt t 0 = 39 then ⟨3, ByteArray.empty, (quoV t).1, 0, (quoV t).2.1, (quoV t).2.2⟩
  else ⟨(sgnV t).1, ByteArray.empty, 0, 0, (sgnV t).2.1, (sgnV t).2.2⟩
/-- A word with its place. -/
structure Wd where
  v : WV
  b : Nat
  l : Nat
  c : Nat
  e : Nat
def wdCells (x : Wd) : List Value := [.int .i64 x.v.kind, .string x.v.S, .int .i32 x.v.R, .int .i64 x.v.N, .int .i64 x.b, .int .i64 x.l, .int .i64 x.c, .int .i64 x.e]
def encWs (ws : List Wd) : List Value := ws.flatMap wdCells
theorem encWs_snoc (ws : List Wd) (x : Wd) : encWs (ws ++ [x]) = encWs ws ++ wdCells x := by simp [encWs]
/-- The text from a place on. -/
abbrev rst (s : ByteArray) (b : Nat) : ByteArray := s.extract b s.size
/-- Line and column behind n bytes of a text. -/
def lcB (t : ByteArray) (x : Nat × Nat) (n : Nat) : Nat × Nat := lcF (t.extract 0 n) x (starts (t.extract 0 n))
/-- Behind the blanks and remarks. -/
def gB (s : ByteArray) (b : Nat) : Nat := b + (gapV (rst s b)).1
def gLC (s : ByteArray) (b : Nat) (x : Nat × Nat) : Nat × Nat := lcB (rst s b) x (gapV (rst s b)).1
structure CutV where
  ok : Bool
  b : Nat
  lc : Nat × Nat
  ws : List Wd
def cutGo (s : ByteArray) : Nat → Nat → Nat × Nat → List Wd → CutV
  | 0, b, x, ws => ⟨false, b, x, ws⟩
  | f + 1, b, x, ws =>
    if (gapV (rst s b)).2 = false then ⟨false, gB s b, gLC s b x, ws⟩
    else if (rst s (gB s b)).size = 0 then ⟨true, gB s b, gLC s b x, ws⟩
    else if (wordV (rst s (gB s b))).ok = false then ⟨false, gB s b + (wordV (rst s (gB s b))).n, lcB (rst s (gB s b)) (gLC s b x) (wordV (rst s (gB s b))).n, ws⟩
    else cutGo s f (gB s b + (wordV (rst s (gB s b))).n) (lcB (rst s (gB s b)) (gLC s b x) (wordV (rst s (gB s b))).n) (ws ++ [⟨wordV (rst s (gB s b)), gB s b, (gLC s b x).1, (gLC s b x).2, gB s b + (wordV (rst s (gB s b))).n⟩])
theorem gapGo_le (t : ByteArray) : ∀ f n, n ≤ t.size → (gapGo t f n).1 ≤ t.size
  | 0, n, h => Nat.le_refl _
  | f + 1, n, h => by
    unfold gapGo
    split
    · split
      · exact gapGo_le t f (n + 1) (by omega)
      · split
        · have := remV_le (t.extract n t.size)
          rw [ByteArray.size_extract] at this
          split
          · exact gapGo_le t f _ (by omega)
          · show n + _ ≤ t.size; omega
        · exact h
    · exact Nat.le_refl _
theorem gapV_le (t : ByteArray) : (gapV t).1 ≤ t.size := gapGo_le t _ 0 (Nat.zero_le _)
theorem rst_size (s : ByteArray) (b : Nat) : (rst s b).size = s.size - b := by rw [ByteArray.size_extract]; omega
theorem gB_le (s : ByteArray) (b : Nat) (h : b ≤ s.size) : b ≤ gB s b ∧ gB s b ≤ s.size := by
  have := gapV_le (rst s b)
  rw [rst_size] at this
  unfold gB
  omega
theorem numdGo_le (t : ByteArray) : ∀ k v n, t.size ≤ n + k → n ≤ t.size → n ≤ (numdGo t v n).2 ∧ (numdGo t v n).2 ≤ t.size ∧ (v ≤ 1114111 → (numdGo t v n).1 ≤ 1114111)
  | 0, v, n, h, hn => by rw [numdGo_stop (by omega)]; exact ⟨Nat.le_refl _, hn, fun h => h⟩
  | k + 1, v, n, h, hn => by
    by_cases hc : n < t.size ∧ (n < 6 ∨ bt t 2 ≠ 48) ∧ 0 ≤ hexI (bt t n) ∧ v * 16 + (hexI (bt t n)).toNat ≤ 1114111
    · rw [numdGo_go hc]
      have := numdGo_le t k (v * 16 + (hexI (bt t n)).toNat) (n + 1) (by omega) (by omega)
      exact ⟨by omega, this.2.1, fun _ => this.2.2 hc.2.2.2⟩
    · rw [numdGo_stop hc]; exact ⟨Nat.le_refl _, hn, fun h => h⟩
theorem numdV_le (t : ByteArray) (h : 0 < t.size) : 1 ≤ (numdV t).2.1 ∧ (numdV t).2.1 ≤ t.size := by
  unfold numdV
  by_cases hc : t.size < 2 ∨ bt t 1 ≠ 43
  · rw [if_pos hc]; exact ⟨Nat.le_refl _, h⟩
  · rw [if_neg hc]
    have := numdGo_le t t.size 0 2 (by omega) (by omega)
    split <;> exact ⟨by show 1 ≤ (numdGo t 0 2).2; omega, by show (numdGo t 0 2).2 ≤ t.size; omega⟩
theorem quoV_le (t : ByteArray) (h : 0 < t.size) : 1 ≤ (quoV t).2.1 ∧ (quoV t).2.1 ≤ t.size := by
  have hz := tl1_size t
  have hb : begLen (tl1 t) ≤ (tl1 t).size := (scanTo_le _ (Nat.zero_le _)).2
  have hw := wd_room (tl1 t) 0
  unfold quoV
  split
  · exact ⟨h, Nat.le_refl _⟩
  · split
    · exact ⟨Nat.le_refl _, h⟩
    · split
      · exact ⟨by show 1 ≤ 1 + _; omega, by show 1 + _ ≤ _; omega⟩
      · split
        · exact ⟨h, Nat.le_refl _⟩
        · have := hw (by omega)
          split
          · exact ⟨by show 1 ≤ _ + 2; omega, by show _ + 2 ≤ _; omega⟩
          · exact ⟨by show 1 ≤ 1 + _; omega, by show 1 + _ ≤ _; omega⟩
theorem dotsB_iff (t : ByteArray) : dotsB t = true → 2 ≤ t.size := fun h => by
  have h2 : [46, 46] <+: t.data.toList := List.isPrefixOf_iff_prefix.1 h
  have := h2.length_le
  rw [Array.length_toList] at this
  exact this
theorem sgnV_le (t : ByteArray) (h : 0 < t.size) : (sgnV t).2.1 ≤ t.size ∧ ((sgnV t).2.2 = true → 1 ≤ (sgnV t).2.1) := by
  unfold sgnV
  repeat' split
  all_goals first
    | exact ⟨h, fun _ => Nat.le_refl _⟩
    | exact ⟨dotsB_iff t (by assumption), fun _ => by decide⟩
    | exact ⟨h, fun e => by cases e⟩
    | exact ⟨Nat.zero_le _, fun e => by cases e⟩
theorem wordV_le (t : ByteArray) (h : 0 < t.size) : (wordV t).n ≤ t.size ∧ ((wordV t).ok = true → 1 ≤ (wordV t).n) := by
  unfold wordV
  split
  · rename_i hs
    have h1 := nameLen_le t
    refine ⟨h1.1, fun _ => ?_⟩
    show 1 ≤ nameLen t
    unfold nameLen
    rw [if_neg (fun q => q.elim (by omega) (fun q => by rw [hs] at q; cases q))]
    exact (scanTo_le _ (by omega)).1
  · split
    · have := numGo_le t t.size (bt t 0 - 48) 1 (by omega) (by omega)
      exact ⟨this.2.1, fun _ => this.1⟩
    · split
      · have := numdV_le t h; exact ⟨this.2, fun _ => this.1⟩
      · split
        · have := quoV_le t h; exact ⟨this.2, fun _ => this.1⟩
        · exact sgnV_le t h
end Go.Proofs.YtbefahknbdjnpaaGreatDoor
/- Words as elements of lists; Same of the books at lists of words. -/
namespace Go.Proofs.YtbefahknbdjnpaaGreatDoor
open Go.RowKit Go.Shelf
set_option linter.unusedVariables false
/-- A word, with its eight parts. -/
structure W8 where
  k : Int
  S : ByteArray
  r : Int
  n : Int
  b : Int
  l : Int
  c : Int
  e : Int
def w8Cells (x : W8) : List Value := [.int .i64 x.k, .string x.S, .int .i32 x.r, .int .i64 x.n, .int .i64 x.b, .int .i64 x.l, .int .i64 x.c, .int .i64 x.e]
def encW (zs : List W8) : List Value := zs.flatMap w8Cells
theorem encW_cons (x : W8) (zs : List W8) : encW (x :: zs) = w8Cells x ++ encW zs := rfl
theorem encW_length (zs : List W8) : (encW zs).length = zs.length * 8 := by
  induction zs with
  | nil => rfl
  | cons x zs ih => rw [encW_cons, List.length_append, ih, List.length_cons]; show 8 + _ = _; omega
theorem encW_at (zs : List W8) (j : Nat) (x : W8) (h : zs[j]? = some x) : ∀ i u, (w8Cells x)[i]? = some u → (encW zs)[j * 8 + i]? = some u := by
  induction zs generalizing j with
  | nil => simp at h
  | cons y zs ih =>
    intro i u hu
    have hi : i < 8 := (List.getElem?_eq_some_iff.1 hu).1
    cases j with
    | zero =>
      obtain rfl : y = x := by simpa using h
      rw [encW_cons, Nat.zero_mul, Nat.zero_add, List.getElem?_append_left (by exact hi)]
      exact hu
    | succ j =>
      have h' : zs[j]? = some x := by simpa using h
      rw [encW_cons, List.getElem?_append_right (by show 8 ≤ _; omega), show (j + 1) * 8 + i - (w8Cells y).length = j * 8 + i by show (j + 1) * 8 + i - 8 = _; omega]
      exact ih j h' i u hu
theorem encW_one (zs : List W8) : ∀ u ∈ encW zs, u.oneCell' = true := by
  induction zs with
  | nil => intro u hu; cases hu
  | cons x zs ih =>
    intro u hu
    rw [encW_cons] at hu
    rcases List.mem_append.1 hu with hu | hu
    · simp only [w8Cells, List.mem_cons, List.not_mem_nil, or_false] at hu
      rcases hu with rfl | rfl | rfl | rfl | rfl | rfl | rfl | rfl <;> rfl
    · exact ih u hu
/-- The words that the cutter makes, as elements. -/
def w8 (x : Wd) : W8 := ⟨x.v.kind, x.v.S, x.v.R, x.v.N, x.b, x.l, x.c, x.e⟩
theorem encW_ws (ws : List Wd) : encW (ws.map w8) = encWs ws := by
  unfold encW encWs
  rw [List.flatMap_map]
  rfl
def RowW (W : World) (a : Option Addr) (zs : List W8) : Prop := 0 < zs.length → ∃ g, a = some ⟨g, 0, none⟩ ∧ g < W.heap.size ∧ ∀ j x, zs[j]? = some x → ∀ i u, (w8Cells x)[i]? = some u → W.cell? ⟨g, j * 8 + i, none⟩ = some u
theorem own_rowW {W : World} {base n : Nat} {v : Value} {zs : List W8} (h : W.ownsRow base 166 8 v n (encW zs)) : ∃ a c, v = .slice a zs.length c ∧ RowW W a zs ∧ n = zs.length ∧ zs.length ≤ c := by
  obtain ⟨hl, h⟩ := h
  rw [encW_length] at hl
  have hn : n = zs.length := by omega
  subst hn
  rcases h with ⟨rfl, h0⟩ | ⟨g, cap, cur, rfl, hb, hg, h1, h2, h3, h4⟩
  · exact ⟨none, 0, by rw [h0], fun h => by omega, rfl, by omega⟩
  · refine ⟨_, cap, rfl, fun h0 => ⟨g, rfl, (Array.getElem?_eq_some_iff.1 hg).1, fun j x hj i u hu => ?_⟩, rfl, h1⟩
    have hbk : Blk W g cur 166 := hg
    have e := encW_at zs j x hj i u hu
    rw [← h4] at e
    have hjl := (List.getElem?_eq_some_iff.1 hj).1
    have hil : i < 8 := (List.getElem?_eq_some_iff.1 hu).1
    rw [List.getElem?_take, if_pos (by omega)] at e
    rw [Blk.cell hbk]
    simpa using e
theorem below_drewNW {B : Nat} {a w : World} (h : Below B a w) (n : Nat) : Below B a (w.drewN n) := h.trans ⟨rfl, rfl, rfl, Nat.le_refl _, fun _ _ => rfl⟩
end Go.Proofs.YtbefahknbdjnpaaGreatDoor
