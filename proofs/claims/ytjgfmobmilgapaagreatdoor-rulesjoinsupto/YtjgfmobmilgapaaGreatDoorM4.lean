/- Texts of this claim, one behind the other. -/
import Derived.Test.YtjgfmobmilgapaaGreatDoorM3
import Derived.Test.YtjgfmobmilgapaaGreatDoorM2
import Derived.Lib.QuietBelow
import Derived.BigQuiet
import Derived.Test.YtjgfmobmilgapaaGreatDoorM1
import Derived.Maps.AppendAt
import Derived.Deep.QuietTactic
/- quoted: the rune between two quotes. -/
namespace Go.Proofs.YtjgfmobmilgapaaGreatDoor
open Go.RowKit Go.Shelf
set_option linter.unusedVariables false
def tl1 (t : ByteArray) : ByteArray := t.extract 1 t.size
def quoV (t : ByteArray) : Nat × Nat × Bool :=
  if (tl1 t).size = 0 then (0, t.size, false) else if rn (tl1 t) 0 < 32 ∨ rn (tl1 t) 0 = 39 ∨ rn (tl1 t) 0 = 127 then (0, 1, false) else if wholeB (tl1 t) = false then (0, 1 + begLen (tl1 t), false)
  else if ¬ wd (tl1 t) 0 < (tl1 t).size then (0, t.size, false) else if rn (tl1 t) (wd (tl1 t) 0) = 39 then (rn (tl1 t) 0, wd (tl1 t) 0 + 2, true) else (0, 1 + wd (tl1 t) 0, false)
theorem tl1_size (t : ByteArray) : (tl1 t).size = t.size - 1 := by unfold tl1; rw [ByteArray.size_extract]; omega
theorem tupR_mk {a n : Nat} {i : Int} {b : Bool} (h : i = n) : Ending.returned (.tuple #[.int .i32 (a : Int), .int .i64 i, .bool b]) = .returned (tupR (a, n, b)) := by subst h; rfl
set_option maxRecDepth 100000 in
set_option maxHeartbeats 4000000 in
theorem quoted_any (t : ByteArray) (ht : t.size ≤ 4611686018427387904) (hp : 0 < t.size) (w : World) : Calls Tryz.prog 73 #[.string t] w fun e w' => e = .returned (tupR (quoV t)) ∧ Below w.heap.size w w' := by
  have hz := tl1_size t
  have h1t : (1 : Int) ≤ (t.size : Int) := by omega
  obtain ⟨u, hu⟩ : ∃ u, u = tl1 t := ⟨_, rfl⟩
  have hue : t.extract 1 t.size = u := by rw [hu]; rfl
  have hq : quoV t = if u.size = 0 then (0, t.size, false) else if rn u 0 < 32 ∨ rn u 0 = 39 ∨ rn u 0 = 127 then (0, 1, false) else if wholeB u = false then (0, 1 + begLen u, false) else if ¬ wd u 0 < u.size then (0, t.size, false) else if rn u (wd u 0) = 39 then (rn u 0, wd u 0 + 2, true) else (0, 1 + wd u 0, false) := by unfold quoV; rw [hu]
  rw [← hu] at hz
  clear hu
  have HQ := hide hq
  have HZ := hide hz
  clear hq hz
  go_enter Tryz.func73, Tryz.ntmps73
  go_wp2_with fail
  refine wp_loop_rounds 3 ?_
  rw [rounds_succ]
  by_cases h0 : 0 < u.size
  · have hnx : ∀ ty, (Instr.next (.pointer (some ⟨w.heap.size, 0, none⟩)) true ty).run Tryz.prog (w.iter u 0) = _ := fun ty => run_next_any w u 0 ty h0
    have hr := (at_told u 0)
    obtain ⟨x, hx⟩ : ∃ x, x = rn u 0 := ⟨_, rfl⟩
    obtain ⟨d, hd⟩ : ∃ d, d = wd u 0 := ⟨_, rfl⟩
    have hdr := wd_room u 0 h0
    have hdp := wd_pos u 0
    rw [← hd] at hdr hdp
    rw [show (Utf8.decode u 0).1 = x from hx.symm, show 0 + (Utf8.decode u 0).2 = d by rw [Nat.zero_add]; exact hd.symm] at hnx
    have hq := unhide HQ
    rw [← hx, ← hd, if_neg (by omega)] at hq
    clear HQ
    by_cases hlow : x < 32 ∨ x = 39 ∨ x = 127
    · rw [if_pos hlow] at hq
      have HQ := hide hq
      clear hq hr hd hx
      have hb : Below w.heap.size w (w.iter u d) := (Below.refl _ w).alloc (Nat.le_refl _) _
      have HB := hide hb
      clear hb
      rcases hlow with h | h | h
      · have h' : (x : Int) < 32 := by omega
        clear h
        go_wp2_with fail
        go_ret3
        exact ⟨by rw [unhide HQ]; rfl, unhide HB⟩
      · have h' : ¬ (x : Int) < 32 := by omega
        have h'' : ((x : Int) == 39) = true := by rw [beq_iff_eq]; omega
        clear h
        go_wp2_with fail
        go_ret3
        exact ⟨by rw [unhide HQ]; rfl, unhide HB⟩
      · have h' : ¬ (x : Int) < 32 := by omega
        have h'' : ((x : Int) == 39) = false := by rw [beq_eq_false_iff_ne]; omega
        have h3 : ((x : Int) == 127) = true := by rw [beq_iff_eq]; omega
        clear h
        go_wp2_with fail
        go_ret3
        exact ⟨by rw [unhide HQ]; rfl, unhide HB⟩
    · rw [if_neg hlow] at hq
      have h1 : ¬ (x : Int) < 32 := by omega
      have h2 : ((x : Int) == 39) = false := by rw [beq_eq_false_iff_ne]; omega
      have h3 : ((x : Int) == 127) = false := by rw [beq_eq_false_iff_ne]; omega
      clear hlow
      have HQ := hide hq
      clear hq hr
      have hu1 : u.size ≤ maxLen := by have := unhide HZ; unfold maxLen; omega
      have hu2 : u.size ≤ 4611686018427387904 := by have := unhide HZ; omega
      have hb : Below w.heap.size w (w.iter u d) := (Below.refl _ w).alloc (Nat.le_refl _) _
      have hit : (w.iter u d).heap[w.heap.size]? = some (.stringIter u d) := World.alloc_heap_new w _
      have hsz : (w.iter u d).heap.size = w.heap.size + 1 := World.size_alloc w _
      have HB := hide hb
      have HIT := hide hit
      have HSZ := hide hsz
      have HX := hide hx
      have HD := hide hd
      clear hb hit hsz hx hd
      go_wp2_with fail
      refine (whole_any u hu1 _).mono ?_
      rintro e w1 ⟨rfl, hb1⟩
      have HB1 := hide ((unhide HB).trans (hb1.mono (unhide HB).size))
      have HIT1 : Hz (w1.heap[w.heap.size]? = some (.stringIter u d)) := hide ((hb1.block _ (by rw [unhide HSZ]; omega)).trans (unhide HIT))
      clear hb1 HB HIT HSZ hnx
      cases hwh : wholeB u with
      | false =>
        have hq := unhide HQ
        rw [if_pos hwh] at hq
        have HQ2 := hide hq
        clear hq HQ hwh
        go_wp2_with fail
        refine (begun_text u hu2 _).mono ?_
        rintro e w2 ⟨rfl, hb2⟩
        have HB2 := hide ((unhide HB1).trans (hb2.mono (unhide HB1).size))
        have hbl : begLen u ≤ u.size := (scanTo_le _ (Nat.zero_le _)).2
        have hbl' : (begLen u : Int) ≤ 4611686018427387904 := by omega
        clear hb2
        go_wp2_with fail
        go_ret3
        exact ⟨by rw [unhide HQ2]; go_num, unhide HB2⟩
      | true =>
        have hq := unhide HQ
        rw [if_neg (by rw [hwh]; decide)] at hq
        clear HQ hwh
        have HQ := hide hq
        clear hq
        go_wp2_with fail
        rw [rounds_succ]
        by_cases hdu : d < u.size
        · have hnx : ∀ ty, (Instr.next (.pointer (some ⟨w.heap.size, 0, none⟩)) true ty).run Tryz.prog w1 = _ := fun ty => Lib.run_next_any_at w1 w.heap.size u d ty (unhide HIT1) hdu
          obtain ⟨y, hy⟩ : ∃ y, y = rn u d := ⟨_, rfl⟩
          rw [show (Utf8.decode u d).1 = y from hy.symm] at hnx
          have hq := unhide HQ
          rw [if_neg (by omega), ← hy] at hq
          have hB2 : Below w.heap.size w (w1.iterAt w.heap.size u (d + (Utf8.decode u d).2)) := (unhide HB1).trans (below_put w1 (Nat.le_refl _) _)
          have HB2 := hide hB2
          have hd0 : (0 : Int) < (d : Int) := by omega
          have hdb : (d : Int) ≤ 4611686018427387904 := by omega
          clear HQ hy hB2
          by_cases h39 : y = 39
          · rw [if_pos h39] at hq
            have HQ2 := hide hq
            have h' : ((y : Int) == 39) = true := by rw [beq_iff_eq]; omega
            clear hq h39
            go_wp2_with fail
            go_ret3
            exact ⟨by rw [unhide HQ2]; exact tupR_mk (by omega), unhide HB2⟩
          · rw [if_neg h39] at hq
            have HQ2 := hide hq
            have h' : ((y : Int) == 39) = false := by rw [beq_eq_false_iff_ne]; omega
            clear hq h39
            go_wp2_with fail
            go_ret3
            exact ⟨by rw [unhide HQ2]; exact tupR_mk (a := 0) (by omega), unhide HB2⟩
        · have hnx : ∀ ty, (Instr.next (.pointer (some ⟨w.heap.size, 0, none⟩)) true ty).run Tryz.prog w1 = _ := fun ty => Lib.run_next_end_at w1 w.heap.size u d ty (unhide HIT1) hdu
          have hq := unhide HQ
          rw [if_pos (by omega)] at hq
          have HQ2 := hide hq
          clear hq HQ
          go_wp2_with fail
          go_ret3
          exact ⟨by rw [unhide HQ2]; rfl, unhide HB1⟩
  · have hu0 : u.size = 0 := by omega
    have hnx : ∀ ty, (Instr.next (.pointer (some ⟨w.heap.size, 0, none⟩)) true ty).run Tryz.prog (w.iter u 0) = _ := fun ty => run_next_end w u 0 ty h0
    have hq := unhide HQ
    rw [if_pos hu0] at hq
    have HQ2 := hide hq
    have hb : Below w.heap.size w (w.iter u 0) := (Below.refl _ w).alloc (Nat.le_refl _) _
    have HB := hide hb
    clear hq hb HQ hu0
    go_wp2_with fail
    go_ret3
    exact ⟨by rw [unhide HQ2]; rfl, unhide HB⟩
theorem cut_sh (s sep : ByteArray) (m : Int) (w : World) (hs : s.size < 4294967281) (hm : w.cell? ⟨7, 0, none⟩ = some (.int .i64 m)) :
    Calls Tryz.prog 123 #[.string s, .string sep] w fun e w' => e = .returned (.tuple #[.string ⟨(Lib.cut s.data.toList sep.data.toList).1.toArray⟩, .string ⟨(Lib.cut s.data.toList sep.data.toList).2.1.toArray⟩, .bool (Lib.cut s.data.toList sep.data.toList).2.2]) ∧ ∃ n, w' = w.drewN n := Any.strings_Cut lay145 s sep m w hs hm
def nlAt (t : ByteArray) : Nat := scanTo (fun n => !decide (bt t n = 10)) t.size 0
theorem nlAt_le (t : ByteArray) : nlAt t ≤ t.size := (scanTo_le _ (Nat.zero_le _)).2
theorem scanTo_all {p : Nat → Bool} {hi m : Nat} : ∀ k n, m = n + k → m ≤ hi → (∀ j, n ≤ j → j < m → p j = true) → scanTo p hi n = scanTo p hi m
  | 0, n, h, _, _ => by rw [h]; rfl
  | k + 1, n, h, hm, hp => by
    rw [scanTo_go (by omega) (hp n (Nat.le_refl _) (by omega))]
    exact scanTo_all k (n + 1) (by omega) hm (fun j h1 h2 => hp j (by omega) h2)
theorem bt_list (t : ByteArray) (k : Nat) (h : k < t.size) : t.data.toList[k]? = some (t.get! k) := by
  rw [get_lt t k h]; simp
theorem cut_nl (t : ByteArray) : (⟨(Lib.cut t.data.toList [10]).1.toArray⟩ : ByteArray) = t.extract 0 (nlAt t) := by
  have hx := Lib.index_one t.data.toList 10
  have hlen : t.data.toList.length = t.size := Array.length_toList
  unfold Lib.cut
  rw [hx]
  by_cases h : 0 ≤ Lib.indexByte t.data.toList 10
  · obtain ⟨o, ho⟩ : ∃ o : Nat, Lib.indexByte t.data.toList 10 = o := ⟨(Lib.indexByte t.data.toList 10).toNat, by omega⟩
    obtain ⟨h1, h2⟩ := Lib.indexByte_some ho
    have hos : o < t.size := by rw [← hlen]; exact (List.getElem?_eq_some_iff.1 h1).1
    have e : nlAt t = o := by
      unfold nlAt
      rw [scanTo_all (m := o) o 0 (by omega) (by omega) (fun j _ hj => ?_), scanTo_no ?_]
      · rw [bt_list t o hos] at h1
        have : t.get! o = 10 := Option.some.inj h1
        unfold bt
        rw [this]; rfl
      · have := h2 j hj
        rw [bt_list t j (by omega)] at this
        have hn : t.get! j ≠ 10 := fun e => this (by rw [e])
        have : ¬ bt t j = 10 := fun e => hn (UInt8.toNat.inj (by unfold bt at e; rw [e]; rfl))
        simp [this]
    rw [if_pos h, ho, e]
    apply ByteArray.ext
    rw [ByteArray.data_extract]
    apply Array.toList_inj.1
    simp [Array.toList_extract, List.extract]
  · have hn : Lib.indexByte t.data.toList 10 = -1 := by have := Lib.indexByte_ge t.data.toList 10; omega
    have h2 := Lib.indexByte_none hn
    have e : nlAt t = t.size := by
      unfold nlAt
      rw [scanTo_all (m := t.size) t.size 0 (by omega) (by omega) (fun j _ hj => ?_), scanTo_end (by omega)]
      have := h2 j
      rw [bt_list t j hj] at this
      have hn : t.get! j ≠ 10 := fun e => this (by rw [e])
      have : ¬ bt t j = 10 := fun e => hn (UInt8.toNat.inj (by unfold bt at e; rw [e]; rfl))
      simp [this]
    rw [if_neg h, e, ByteArray.extract_zero_size]
def badOf (s : ByteArray) : Option Nat := (starts s).find? (badB s)
theorem validV_some {s : ByteArray} {x : Nat} (h : badOf s = some x) : ∃ y : Nat, validV s = .tuple #[.agg #[.int .i64 x, .int .i64 y], .bool false] := by
  obtain ⟨hb, q, r, e, hq⟩ := List.find?_eq_some_iff_append.1 h
  refine ⟨q.length, ?_⟩
  unfold validV
  rw [e, validFrom_some s x r hb q 0 (fun i hi => by simpa using hq i hi), Nat.zero_add]
theorem validV_none {s : ByteArray} (h : badOf s = none) : validV s = .tuple #[.agg #[.int .i64 0, .int .i64 0], .bool true] := by
  unfold validV
  exact validFrom_none s _ 0 (fun i hi => by simpa using List.find?_eq_none.1 h i hi)
def remV (t : ByteArray) : Nat × Bool :=
  match badOf (t.extract 0 (nlAt t)) with
  | none => ((t.extract 0 (nlAt t)).size, true)
  | some x => (x + begLen ((t.extract 0 (nlAt t)).extract x (t.extract 0 (nlAt t)).size), false)
abbrev tupB (x : Nat × Bool) : Value := .tuple #[.int .i64 x.1, .bool x.2]
theorem tupB_mk {n : Nat} {i : Int} {b : Bool} (h : i = n) : Ending.returned (.tuple #[.int .i64 i, .bool b]) = .returned (tupB (n, b)) := by subst h; rfl
theorem wrap_i64 {n : Int} (h1 : -9223372036854775808 ≤ n) (h2 : n ≤ 9223372036854775807) : IntKind.i64.wrap n = n := by
  simp [IntKind.wrap, IntKind.bits, IntKind.signed]
  omega




theorem startsFrom_ge (s : ByteArray) : ∀ f i p, p ∈ startsFrom s f i → i ≤ p ∧ p < s.size
  | 0, i, p, h => by simp [startsFrom] at h
  | f + 1, i, p, h => by
    unfold startsFrom at h
    split at h
    · rename_i hi
      rcases List.mem_cons.1 h with rfl | h
      · exact ⟨Nat.le_refl _, hi⟩
      · have := startsFrom_ge s f _ p h
        exact ⟨by omega, this.2⟩
    · cases h

set_option maxRecDepth 100000 in
set_option maxHeartbeats 4000000 in
theorem remark_any (t : ByteArray) (ht : t.size < 4294967281) (m : Int) (w : World) (hm : w.cell? ⟨7, 0, none⟩ = some (.int .i64 m)) : Calls Tryz.prog 103 #[.string t] w fun e w' => e = .returned (tupB (remV t)) ∧ Below w.heap.size w w' := by
  obtain ⟨l, hl⟩ : ∃ l, l = t.extract 0 (nlAt t) := ⟨_, rfl⟩
  have hls : l.size ≤ t.size := by rw [hl, ByteArray.size_extract]; omega
  have hlm : l.size ≤ maxLen := by unfold maxLen; omega
  have hrv : remV t = match badOf l with | none => (l.size, true) | some x => (x + begLen (l.extract x l.size), false) := by subst hl; unfold remV; cases badOf (t.extract 0 (nlAt t)) <;> rfl
  have hcn := cut_nl t
  rw [← hl] at hcn
  have HRV := hide hrv
  have HCN := hide hcn
  have HLM := hide hlm
  have hll : (l.size : Int) ≤ 4294967281 := by omega
  clear hl hrv hcn hlm
  go_enter Tryz.func103, Tryz.ntmps103
  go_wp2_with fail
  refine (cut_sh t ⟨#[10]⟩ m _ ht hm).mono ?_
  rintro e w1 ⟨rfl, nq, rfl⟩
  have hb0 : Below w.heap.size w (w.drewN nq) := ⟨rfl, rfl, rfl, Nat.le_refl _, fun _ _ => rfl⟩
  rw [show (⟨(Lib.cut t.data.toList (ByteArray.mk #[10]).data.toList).1.toArray⟩ : ByteArray) = l from unhide HCN]
  generalize (⟨(Lib.cut t.data.toList (ByteArray.mk #[10]).data.toList).2.1.toArray⟩ : ByteArray) = c1
  generalize (Lib.cut t.data.toList (ByteArray.mk #[10]).data.toList).2.2 = c2
  have HB0 := hide hb0
  clear hb0
  generalize w.drewN nq = w1 at *
  go_wp2_with fail
  refine (valid_any l (unhide HLM) _).mono ?_
  rintro e w2 ⟨rfl, hb⟩
  have HB1 := hide ((unhide HB0).trans (hb.mono (unhide HB0).size))
  clear hb HB0
  cases hbd : badOf l with
  | none =>
    rw [validV_none hbd]
    have hrv := unhide HRV
    rw [hbd] at hrv
    have HR := hide hrv
    have HB2 := hide ((unhide HB1).alloc (unhide HB1).size (.cells #[.int .i64 0, .int .i64 0] 206))
    clear hrv HRV HB1
    go_wp2_with fail
    go_ret2
    exact ⟨by rw [unhide HR]; rfl, unhide HB2⟩
  | some x =>
    obtain ⟨y, hy⟩ := validV_some hbd
    rw [hy]
    have hrv := unhide HRV
    rw [hbd] at hrv
    have HR := hide hrv
    have hxs : x < l.size := (startsFrom_ge l l.size 0 x (List.mem_of_find?_eq_some hbd)).2
    have hx1 : (x : Int) ≤ (l.size : Int) := by omega
    have hx3 : (x : Int) ≤ 4294967281 := by omega
    have hx2 : ((x : Nat) : Int).toNat = x := by omega
    have hq := (unhide HB1).alloc (unhide HB1).size (.cells #[.int .i64 x, .int .i64 y] 206)
    have hblk := Blk.new w2 #[.int .i64 x, .int .i64 y] 206
    have HB2 := hide hq
    have HBLK := hide hblk
    have hbl : begLen (l.extract x l.size) ≤ (l.extract x l.size).size := (scanTo_le _ (Nat.zero_le _)).2
    have hbz : (l.extract x l.size).size = l.size - x := by rw [ByteArray.size_extract]; omega
    have hbz2 : (begLen (l.extract x l.size) : Int) ≤ 4294967281 := by omega
    have hbz3 : (l.extract x l.size).size ≤ 4611686018427387904 := by omega
    clear hrv HRV HB1 hy hbd hq hblk hbz hbl
    go_wp2_with fail
    generalize w2.alloc (.cells #[.int .i64 x, .int .i64 y] 206) = w3 at *
    have k0 := cell_regrown (show w3.cell? ⟨w2.heap.size, 0, none⟩ = some (.int .i64 (x : Int)) from (unhide HBLK).cell 0)
    refine wp_region_quiet_below (by kernel_rfl) (by kernel_rfl) ?_
    repeat (quiet_step (exact Calls.regrown_of (begun_text (l.extract x l.size) hbz3 _)))
    refine wpQuiet_nil ?_
    intro _ hw'
    obtain ⟨⟨dq, osq⟩, hw''⟩ := hw'
    subst hw''
    have HB3 := hide ((unhide HB2).trans ((below_regrown w3 dq osq).mono (unhide HB2).size))
    go_wp2_with fail
    go_ret2
    exact ⟨by rw [unhide HR]; exact tupB_mk (by rw [wrap_i64 (by omega) (by omega)]; omega), unhide HB3⟩
theorem remV_cases (t : ByteArray) : (badOf (t.extract 0 (nlAt t)) = none ∧ remV t = (nlAt t, true)) ∨ ∃ x, badOf (t.extract 0 (nlAt t)) = some x ∧ remV t = (x + begLen ((t.extract 0 (nlAt t)).extract x (t.extract 0 (nlAt t)).size), false) := by
  have hz : (t.extract 0 (nlAt t)).size = nlAt t := by rw [ByteArray.size_extract]; have := nlAt_le t; omega
  unfold remV
  cases h : badOf (t.extract 0 (nlAt t)) with
  | none => exact .inl ⟨rfl, by rw [hz]⟩
  | some x => exact .inr ⟨x, rfl, rfl⟩
theorem remV_le (t : ByteArray) : (remV t).1 ≤ t.size := by
  have hz : (t.extract 0 (nlAt t)).size = nlAt t := by rw [ByteArray.size_extract]; have := nlAt_le t; omega
  have hn := nlAt_le t
  rcases remV_cases t with ⟨_, e⟩ | ⟨x, hx, e⟩
  · rw [e]; exact hn
  · rw [e]
    show x + _ ≤ t.size
    generalize t.extract 0 (nlAt t) = l at *
    have h1 := (startsFrom_ge _ _ 0 x (List.mem_of_find?_eq_some hx)).2
    have h2 : begLen (l.extract x l.size) ≤ (l.extract x l.size).size := (scanTo_le _ (Nat.zero_le _)).2
    have h3 : (l.extract x l.size).size = l.size - x := by rw [ByteArray.size_extract]; omega
    omega
theorem remV_pos (t : ByteArray) (h : 0 < t.size) (h0 : bt t 0 ≠ 10) (hok : (remV t).2 = true) : 1 ≤ (remV t).1 := by
  rcases remV_cases t with ⟨_, e⟩ | ⟨x, hx, e⟩
  · rw [e]
    show 1 ≤ nlAt t
    unfold nlAt
    rw [scanTo_go h (by simp [h0])]
    exact (scanTo_le _ (by omega)).1
  · rw [e] at hok; cases hok
def gapGo (t : ByteArray) : Nat → Nat → Nat × Bool
  | 0, n => (t.size, true)
  | f + 1, n =>
    if n < t.size then
      if blankB (bt t n) = true then gapGo t f (n + 1)
      else if bt t n = 35 then (if (remV (t.extract n t.size)).2 = true then gapGo t f (n + (remV (t.extract n t.size)).1) else (n + (remV (t.extract n t.size)).1, false))
      else (n, true)
    else (t.size, true)
def gapV (t : ByteArray) : Nat × Bool := gapGo t t.size 0
set_option maxRecDepth 100000 in
set_option maxHeartbeats 4000000 in
theorem gap_any (t : ByteArray) (ht : t.size < 4294967281) (m : Int) (w : World) (hm : w.cell? ⟨7, 0, none⟩ = some (.int .i64 m)) (hg : 7 < w.heap.size) : Calls Tryz.prog 64 #[.string t] w fun e w' => e = .returned (tupB (gapV t)) ∧ Below w.heap.size w w' := by
  have HM := hide hm
  clear hm
  have htb : (t.size : Int) ≤ 4294967281 := by omega
  go_enter Tryz.func64, Tryz.ntmps64
  go_wp2
  go_loopw [4, 5, 6, 12, 19] (fun i _ _ _ _ wr => ∃ k f : Nat, k ≤ t.size ∧ t.size ≤ k + f ∧ i = .int .i64 k ∧ Hz (gapV t = gapGo t f k) ∧ Hz (Below w.heap.size w wr)) (fun i _ _ _ _ _ => t.size - (intOf i).toNat)
  case atStart => exact ⟨0, t.size, by omega, by omega, rfl, hide rfl, hide (Below.refl _ _)⟩
  case round =>
    obtain ⟨k, f, hk, hf, rfl, HK, HW⟩ := hrel
    by_cases hkt : k < t.size
    · obtain ⟨f, rfl⟩ : ∃ g, f = g + 1 := ⟨f - 1, by omega⟩
      have hkt' : (k : Int) < (t.size : Int) := by omega
      have hkb : (k : Int) ≤ 4294967281 := by omega
      have hi2 : ((k : Nat) : Int).toNat = k := by omega
      have hbk := bt_get t k hkt
      have hgo := unhide HK
      rw [gapGo, if_pos hkt] at hgo
      cases hbl : blankB (bt t k) with
      | true =>
        rw [if_pos hbl] at hgo
        have HG := hide hgo
        rw [hbk] at hbl
        clear hbk hgo HK
        go_wp2_with fail
        refine (isBlank_any _ _).mono ?_
        rintro e w' ⟨rfl, rfl⟩
        rw [hbl]
        go_wp2_with fail
        go_roundw
        case rel => exact ⟨k + 1, f, by omega, by omega, by go_num, HG, HW⟩
        case measure => simp [intOf]; omega
      | false =>
        rw [if_neg (by rw [hbl]; decide)] at hgo
        by_cases h35 : bt t k = 35
        · rw [if_pos h35] at hgo
          have hbk0 : bt (t.extract k t.size) 0 = 35 := by
            unfold bt at h35 ⊢
            rw [get_suffix t k 0 (by omega), Nat.add_zero]
            exact h35
          have hsz : (t.extract k t.size).size = t.size - k := by rw [ByteArray.size_extract]; omega
          obtain ⟨u, hu⟩ : ∃ u, u = t.extract k t.size := ⟨_, rfl⟩
          rw [← hu] at hgo hbk0 hsz
          have hrl := remV_le u
          have hrp := remV_pos u (by omega) (by omega)
          have HM2 : ∀ wr, Below w.heap.size w wr → wr.cell? ⟨7, 0, none⟩ = some (.int .i64 m) := fun wr hb => (hb.cell (p := ⟨7, 0, none⟩) hg).trans (unhide HM)
          have hrem := remark_any u (by omega) m wr (HM2 wr (unhide HW))
          obtain ⟨rn1, rok, hrv⟩ : ∃ a b, remV u = (a, b) := ⟨_, _, rfl⟩
          rw [hrv] at hgo hrl hrp hrem
          have hrb : (rn1 : Int) ≤ 4294967281 := by have h : rn1 ≤ u.size := hrl; omega
          have hrl' : rn1 ≤ u.size := hrl
          have hrp' : rok = true → 1 ≤ rn1 := hrp
          have hc35 : (((t[k]'hkt).toNat : Int) == 35) = true := by rw [← hbk, h35]; rfl
          have hue : t.extract k t.size = u := hu.symm
          have HREM := hide hrem
          have HGO := hide hgo
          rw [hbk] at hbl
          clear hbk hgo HK h35 hbk0 hu hrl hrp hrem HM2
          go_wp2_with fail
          refine (isBlank_any _ _).mono ?_
          rintro e w' ⟨rfl, rfl⟩
          rw [hbl]
          go_wp2_with fail
          refine (unhide HREM).mono ?_
          rintro e w2 ⟨rfl, hb⟩
          have HW2 := hide ((unhide HW).trans (hb.mono (unhide HW).size))
          clear hb
          cases rok with
          | true =>
            have hgo := unhide HGO
            have HG : Hz (gapV t = gapGo t f (k + rn1)) := hide (by rw [hgo]; rfl)
            have h1 := hrp' rfl
            clear hgo HGO hrp'
            go_wp2_with fail
            go_roundw
            case rel => exact ⟨k + rn1, f, by omega, by omega, by go_num, HG, HW2⟩
            case measure => simp [intOf]; omega
          | false =>
            have HG : Hz (gapV t = (k + rn1, false)) := hide (by rw [unhide HGO]; rfl)
            clear HGO hrp'
            go_wp2_with fail
            go_ret2
            exact ⟨by rw [unhide HG]; exact tupB_mk (by omega), unhide HW2⟩
        · rw [if_neg h35] at hgo
          have HG := hide hgo
          have hc35 : (((t[k]'hkt).toNat : Int) == 35) = false := by rw [beq_eq_false_iff_ne, ← hbk]; omega
          rw [hbk] at hbl
          clear hbk hgo HK h35
          go_wp2_with fail
          refine (isBlank_any _ _).mono ?_
          rintro e w' ⟨rfl, rfl⟩
          rw [hbl]
          go_wp2_with fail
          go_ret2
          exact ⟨by rw [unhide HG]; rfl, unhide HW⟩
    · have hkt' : ¬ (k : Int) < (t.size : Int) := by omega
      have HG : Hz (gapV t = (t.size, true)) := hide (by
        rw [unhide HK]
        cases f with
        | zero => rfl
        | succ f => rw [gapGo, if_neg hkt])
      go_wp2_with fail
      go_ret2
      exact ⟨by rw [unhide HG]; rfl, unhide HW⟩
abbrev ctrC (s : ByteArray) (b l c : Int) (v : Value) : Array Value := #[.string s, .int .i64 b, .int .i64 l, .int .i64 c, v]
set_option maxHeartbeats 2000000 in
theorem rest_any (C : Nat) (s : ByteArray) (b : Nat) (hb : b ≤ s.size) (hs : s.size ≤ 4294967281) (l c : Int) (v : Value) (w : World) (h : Blk w C (ctrC s b l c v) 103) :
    Calls Tryz.prog 65 #[.pointer (some ⟨C, 0, none⟩)] w fun e w' => e = .returned (.string (s.extract b s.size)) ∧ ∃ n, w' = w.drewN n := by
  have k0 := h.cell 0
  have k1 := h.cell 1
  have hb1 : (b : Int) ≤ (s.size : Int) := by omega
  have hb2 : ((b : Nat) : Int).toNat = b := by omega
  clear h
  go_enter Tryz.func65, Tryz.ntmps65
  go_wp2
  go_quiet (fail)
  go_wp2
  go_ret
  exact ⟨rfl, _, rfl⟩
def lcStep (t : ByteArray) (x : Nat × Nat) (p : Nat) : Nat × Nat := if rn t p = 10 then (x.1 + 1, 1) else (x.1, x.2 + 1)
def lcF (t : ByteArray) (x : Nat × Nat) (ps : List Nat) : Nat × Nat := ps.foldl (lcStep t) x
theorem lcF_snoc (t : ByteArray) (x : Nat × Nat) (ps : List Nat) (p : Nat) : lcF t x (ps ++ [p]) = lcStep t (lcF t x ps) p := by simp [lcF]
theorem lcF_le (t : ByteArray) (x : Nat × Nat) : ∀ ps : List Nat, (lcF t x ps).1 ≤ x.1 + ps.length ∧ (lcF t x ps).2 ≤ x.2 + 1 + ps.length := by
  intro ps
  induction ps generalizing x with
  | nil => exact ⟨by simp [lcF], by simp [lcF]⟩
  | cons p ps ih =>
    have := ih (lcStep t x p)
    have e : lcF t x (p :: ps) = lcF t (lcStep t x p) ps := rfl
    rw [e, List.length_cons]
    have h1 : (lcStep t x p).1 ≤ x.1 + 1 ∧ (lcStep t x p).2 ≤ x.2 + 1 := by unfold lcStep; split <;> simp
    omega
structure PassSt (w wr : World) (C I : Nat) (u : ByteArray) (pos : Nat) (s : ByteArray) (b l c : Nat) (v : Value) : Prop where
  blk : Blk wr C (ctrC s b l c v) 103
  it : wr.heap[I]? = some (.stringIter u pos)
  gr : w.grownBy wr (some C)
  ne : C < I
  ge : w.heap.size ≤ I
theorem iterAt_blk {wr : World} {C I : Nat} {cs : Array Value} {ty : TypeId} (h : Blk wr C cs ty) (hne : C ≠ I) (u : ByteArray) (pos : Nat) : Blk (wr.iterAt I u pos) C cs ty := (Lib.iterAt_other wr I C u pos hne).trans h
set_option maxRecDepth 100000 in
set_option maxHeartbeats 4000000 in
theorem pass_any (C : Nat) (s : ByteArray) (b n : Nat) (hbn : b + n ≤ s.size) (hs : s.size ≤ 4294967281) (l c : Nat) (hl : l ≤ 4294967281) (hc : c ≤ 4294967281) (v : Value) (w : World) (h : Blk w C (ctrC s b l c v) 103) :
    Calls Tryz.prog 66 #[.pointer (some ⟨C, 0, none⟩), .int .i64 n] w fun e w' => e = .returned (.tuple #[]) ∧
      Blk w' C (ctrC s ((b + n : Nat) : Int) (lcF ((s.extract b s.size).extract 0 n) (l, c) (starts ((s.extract b s.size).extract 0 n))).1 (lcF ((s.extract b s.size).extract 0 n) (l, c) (starts ((s.extract b s.size).extract 0 n))).2 v) 103 ∧ w.grownBy w' (some C) := by
  have hz1 : (s.extract b s.size).size = s.size - b := by rw [ByteArray.size_extract]; omega
  obtain ⟨u, hu⟩ : ∃ u, u = (s.extract b s.size).extract 0 n := ⟨_, rfl⟩
  have hz2 : u.size = n := by rw [hu, ByteArray.size_extract, hz1]; omega
  rw [← hu]
  have hue : (s.extract b s.size).extract 0 n = u := hu.symm
  have hn1 : (n : Int) ≤ ((s.extract b s.size).size : Int) := by omega
  have hn2 : ((n : Nat) : Int).toNat = n := by omega
  have hnb : (n : Int) ≤ 4294967281 := by omega
  have hbb : (b : Int) ≤ 4294967281 := by omega
  have HZ2 := hide hz2
  have hsl := starts_length u
  have hslb : (starts u).length ≤ 4294967281 := by omega
  have HB := hide h
  clear hu hz1 hz2 h
  go_enter Tryz.func66, Tryz.ntmps66
  go_wp2_with fail
  refine (rest_any C s b (by omega) hs l c v _ (unhide HB)).mono ?_
  rintro e w1 ⟨rfl, q, rfl⟩
  have HB1 : Hz (Blk (w.drewN q) C (ctrC s b l c v) 103) := hide (unhide HB)
  have HG1 : Hz (w.grownBy (w.drewN q) (some C)) := hide ⟨rfl, rfl, rfl, Nat.le_refl _, fun _ _ _ => rfl⟩
  have hsz1 : Hz ((w.drewN q).heap.size = w.heap.size) := hide rfl
  have hCw := (unhide HB).lt
  clear HB
  generalize w.drewN q = w1 at *
  go_wp2_with fail
  have HST : Hz (PassSt w (w1.iter u 0) C w1.heap.size u 0 s b l c v) := hide ⟨(unhide HB1).alloc _, World.alloc_heap_new w1 _, (unhide HG1).trans (World.grownBy_alloc _ _ _), (unhide HB1).lt, by have := unhide hsz1; omega⟩
  obtain ⟨I, hI⟩ : ∃ I, I = w1.heap.size := ⟨_, rfl⟩
  rw [← hI] at HST
  rw [← hI]
  clear HB1 HG1 hsz1 hI
  go_loopw [5] (fun _ wr => ∃ (pre : List Nat) (pos f l' c' : Nat), Hz (starts u = pre ++ startsFrom u f pos) ∧ u.size ≤ pos + f ∧ Hz (lcF u (l, c) pre = (l', c')) ∧ Hz (PassSt w wr C I u pos s b l' c' v)) (fun _ wr => u.size - wr.iterPos I)
  case atStart => exact ⟨[], 0, u.size, l, c, hide rfl, by omega, hide rfl, HST⟩
  case round =>
    obtain ⟨pre, pos, f, l', c', HS, hf, HL, HR⟩ := hrel
    have hR := unhide HR
    have hlc := lcF_le u (l, c) pre
    rw [unhide HL] at hlc
    by_cases hp : pos < u.size
    · obtain ⟨g, rfl⟩ : ∃ g, f = g + 1 := ⟨f - 1, by omega⟩
      have hpl : pre.length < (starts u).length := by
        have h1 := congrArg List.length (unhide HS)
        rw [startsFrom_cons u g pos hp] at h1
        simp at h1
        omega
      have hlb : (l' : Int) ≤ 8589934600 := by have : l' ≤ l + pre.length := hlc.1; omega
      have hcb : (c' : Int) ≤ 8589934600 := by have : c' ≤ c + 1 + pre.length := hlc.2; omega
      have hnx : ∀ ty, (Instr.next (.pointer (some ⟨I, 0, none⟩)) true ty).run Tryz.prog wr = _ := fun ty => Lib.run_next_any_at wr I u pos ty hR.it hp
      have hwd := wd_pos u pos
      obtain ⟨d, hd⟩ : ∃ d, d = pos + (Utf8.decode u pos).2 := ⟨_, rfl⟩
      obtain ⟨x, hx⟩ : ∃ x, x = (Utf8.decode u pos).1 := ⟨_, rfl⟩
      rw [← hd, ← hx] at hnx
      have hne : C ≠ I := by have := hR.ne; omega
      have b0 := iterAt_blk hR.blk hne u d
      have b1 : Blk ((wr.iterAt I u d).setCell ⟨C, 3, none⟩ (.int .i64 ((c' : Int) + 1))) C (ctrC s b l' ((c' : Int) + 1) v) 103 := b0.set 3 _
      have b2 : Blk (((wr.iterAt I u d).setCell ⟨C, 3, none⟩ (.int .i64 ((c' : Int) + 1))).setCell ⟨C, 2, none⟩ (.int .i64 ((l' : Int) + 1))) C (ctrC s b ((l' : Int) + 1) ((c' : Int) + 1) v) 103 := b1.set 2 _
      have b3 : Blk ((((wr.iterAt I u d).setCell ⟨C, 3, none⟩ (.int .i64 ((c' : Int) + 1))).setCell ⟨C, 2, none⟩ (.int .i64 ((l' : Int) + 1))).setCell ⟨C, 3, none⟩ (.int .i64 1)) C (ctrC s b ((l' : Int) + 1) 1 v) 103 := b2.set 3 _
      have i0 : (wr.iterAt I u d).heap[I]? = some (.stringIter u d) := Lib.iterAt_heap wr I u pos d hR.it
      have hIne : I ≠ C := fun e => hne e.symm
      have i1 := (Below.heap_setCell (wr.iterAt I u d) ⟨C, 3, none⟩ (.int .i64 ((c' : Int) + 1)) I hIne).trans i0
      have i2 := (Below.heap_setCell _ ⟨C, 2, none⟩ (.int .i64 ((l' : Int) + 1)) I hIne).trans i1
      have i3 := (Below.heap_setCell _ ⟨C, 3, none⟩ (.int .i64 1) I hIne).trans i2
      have g0 : w.grownBy (wr.iterAt I u d) (some C) := hR.gr.andThen (grown_iterAt wr I u d) (fun j hj => by cases hj; exact .inl hR.ge)
      have g1 := g0.trans (grown_setCell' (wr.iterAt I u d) ⟨C, 3, none⟩ (.int .i64 ((c' : Int) + 1)))
      have g2 := g1.trans (grown_setCell' _ ⟨C, 2, none⟩ (.int .i64 ((l' : Int) + 1)))
      have g3 := g2.trans (grown_setCell' _ ⟨C, 3, none⟩ (.int .i64 1))
      have c03 := b0.cell 3
      have f03 := b0.frozen 3
      have c12 := b1.cell 2
      have f12 := b1.frozen 2
      have f23 := b2.frozen 3
      have c23 := b2.cell 3
      have HS2 : Hz (starts u = (pre ++ [pos]) ++ startsFrom u g d) := hide (by rw [unhide HS, startsFrom_cons u g pos hp, hd]; simp)
      have hL2 : lcF u (l, c) (pre ++ [pos]) = if x = 10 then (l' + 1, 1) else (l', c' + 1) := by rw [lcF_snoc, unhide HL, hx]; rfl
      by_cases h10 : x = 10
      · rw [if_pos h10] at hL2
        have HL2 := hide hL2
        have HB3 := hide (And.intro b3 (And.intro i3 g3))
        have h10' : ((x : Int) == 10) = true := by rw [beq_iff_eq]; omega
        have HGE := hide (And.intro hR.ne (And.intro hR.ge (And.intro hd hwd)))
        have HIP := hide (iterPos_at hR.it)
        clear b0 b1 b2 b3 i0 i1 i2 i3 g0 g1 g2 g3 hL2 HS HL HR hR hlc hd hx h10 hwd
        go_wp2_with fail
        go_roundw
        case rel => exact ⟨pre ++ [pos], d, g, l' + 1, 1, HS2, by have := (unhide HGE).2.2.1; have := (unhide HGE).2.2.2; simp only [wd] at this; omega, HL2, hide ⟨by have := (unhide HB3).1; simpa using this, (unhide HB3).2.1, (unhide HB3).2.2, (unhide HGE).1, (unhide HGE).2.1⟩⟩
        case measure =>
          rw [iterPos_at (unhide HB3).2.1, unhide HIP]
          have h1 := (unhide HGE).2.2.1
          have h2 := (unhide HGE).2.2.2
          simp only [wd] at h2
          omega
      · rw [if_neg h10] at hL2
        have HL2 := hide hL2
        have HB3 := hide (And.intro b1 (And.intro i1 g1))
        have h10' : ((x : Int) == 10) = false := by rw [beq_eq_false_iff_ne]; omega
        have HGE := hide (And.intro hR.ne (And.intro hR.ge (And.intro hd hwd)))
        have HIP := hide (iterPos_at hR.it)
        clear b0 b1 b2 b3 i0 i1 i2 i3 g0 g1 g2 g3 hL2 HS HL HR hR hlc hd hx h10 hwd
        go_wp2_with fail
        go_roundw
        case rel => exact ⟨pre ++ [pos], d, g, l', c' + 1, HS2, by have := (unhide HGE).2.2.1; have := (unhide HGE).2.2.2; simp only [wd] at this; omega, HL2, hide ⟨by have := (unhide HB3).1; simpa using this, (unhide HB3).2.1, (unhide HB3).2.2, (unhide HGE).1, (unhide HGE).2.1⟩⟩
        case measure =>
          rw [iterPos_at (unhide HB3).2.1, unhide HIP]
          have h1 := (unhide HGE).2.2.1
          have h2 := (unhide HGE).2.2.2
          simp only [wd] at h2
          omega
    · have hnx : ∀ ty, (Instr.next (.pointer (some ⟨I, 0, none⟩)) true ty).run Tryz.prog wr = _ := fun ty => Lib.run_next_end_at wr I u pos ty hR.it hp
      have hst := unhide HS
      rw [startsFrom_end u f pos hp, List.append_nil] at hst
      have k1 := hR.blk.cell 1
      have f1 := hR.blk.frozen 1
      have hE : Blk (wr.setCell ⟨C, 1, none⟩ (.int .i64 ((b : Int) + n))) C (ctrC s ((b : Int) + n) l' c' v) 103 := hR.blk.set 1 _
      have hG := hR.gr.trans (grown_setCell' wr ⟨C, 1, none⟩ (.int .i64 ((b : Int) + n)))
      have HL2 : Hz (lcF u (l, c) (starts u) = (l', c')) := hide (by rw [hst]; exact unhide HL)
      have HE := hide (And.intro hE hG)
      clear hE hG hst HS HL HR hR hlc
      go_wp2_with fail
      go_end0
      refine ⟨rfl, ?_, (unhide HE).2⟩
      rw [unhide HL2]
      exact (unhide HE).1
end Go.Proofs.YtjgfmobmilgapaaGreatDoor
