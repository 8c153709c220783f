/- Texts of this claim, one behind the other. -/
import Derived.Test.YtbbnppcpjpdpaaaGreatDoorM6
import Derived.Test.YtbbnppcpjpdpaaaGreatDoorM3
import Derived.Test.YtbbnppcpjpdpaaaGreatDoorM4
/- quoted: the rune between two quotes. -/
namespace Go.Proofs.YtbbnppcpjpdpaaaGreatDoor
open Go.RowKit Go.Shelf
set_option linter.unusedVariables false
/-- The text behind its first byte. -/
def tl1 (t : ByteArray) : ByteArray := t.extract 1 t.size
/-- The rune, its bytes with both quotes, whether it is one. -/
def quoV (t : ByteArray) : Nat × Nat × Bool :=
  if (tl1 t).size = 0 then (0, t.size, false) else if rn (tl1 t) 0 < 32 ∨ rn (tl1 t) 0 = 39 ∨ rn (tl1 t) 0 = 127 then (0, 1, false) else if wholeB (tl1 t) = false then (0, 1 + begLen (tl1 t), false)
  else if ¬ wd (tl1 t) 0 < (tl1 t).size then (0, t.size, false) else if rn (tl1 t) (wd (tl1 t) 0) = 39 then (rn (tl1 t) 0, wd (tl1 t) 0 + 2, true) else (0, 1 + wd (tl1 t) 0, false)
theorem tl1_size (t : ByteArray) : (tl1 t).size = t.size - 1 := by unfold tl1; rw [ByteArray.size_extract]; omega
theorem tupR_mk {a n : Nat} {i : Int} {b : Bool} (h : i = n) : Ending.returned (.tuple #[.int .i32 (a : Int), .int .i64 i, .bool b]) = .returned (tupR (a, n, b)) := by subst h; rfl
set_option maxRecDepth 100000 in
set_option maxHeartbeats 4000000 in
theorem quoted_any (t : ByteArray) (ht : t.size ≤ 4611686018427387904) (hp : 0 < t.size) (w : World) : Calls Tryz.prog 76 #[.string t] w fun e w' => e = .returned (tupR (quoV t)) ∧ Below w.heap.size w w' := by
  have hz := tl1_size t
  have h1t : (1 : Int) ≤ (t.size : Int) := by omega
  obtain ⟨u, hu⟩ : ∃ u, u = tl1 t := ⟨_, rfl⟩
  have hue : t.extract 1 t.size = u := by rw [hu]; rfl
  have hq : quoV t = if u.size = 0 then (0, t.size, false) else if rn u 0 < 32 ∨ rn u 0 = 39 ∨ rn u 0 = 127 then (0, 1, false) else if wholeB u = false then (0, 1 + begLen u, false) else if ¬ wd u 0 < u.size then (0, t.size, false) else if rn u (wd u 0) = 39 then (rn u 0, wd u 0 + 2, true) else (0, 1 + wd u 0, false) := by unfold quoV; rw [hu]
  rw [← hu] at hz
  clear hu
  have HQ := hide hq
  have HZ := hide hz
  clear hq hz
  go_enter Tryz.func76, Tryz.ntmps76
  go_wp2_with fail
  refine wp_loop_rounds 3 ?_
  rw [rounds_succ]
  by_cases h0 : 0 < u.size
  · have hnx : ∀ ty, (Instr.next (.pointer (some ⟨w.heap.size, 0, none⟩)) true ty).run Tryz.prog (w.iter u 0) = _ := fun ty => run_next_any w u 0 ty h0
    have hr := (at_told u 0)
    obtain ⟨x, hx⟩ : ∃ x, x = rn u 0 := ⟨_, rfl⟩
    obtain ⟨d, hd⟩ : ∃ d, d = wd u 0 := ⟨_, rfl⟩
    have hdr := wd_room u 0 h0
    have hdp := wd_pos u 0
    rw [← hd] at hdr hdp
    rw [show (Utf8.decode u 0).1 = x from hx.symm, show 0 + (Utf8.decode u 0).2 = d by rw [Nat.zero_add]; exact hd.symm] at hnx
    have hq := unhide HQ
    rw [← hx, ← hd, if_neg (by omega)] at hq
    clear HQ
    by_cases hlow : x < 32 ∨ x = 39 ∨ x = 127
    · rw [if_pos hlow] at hq
      have HQ := hide hq
      clear hq hr hd hx
      have hb : Below w.heap.size w (w.iter u d) := (Below.refl _ w).alloc (Nat.le_refl _) _
      have HB := hide hb
      clear hb
      rcases hlow with h | h | h
      · have h' : (x : Int) < 32 := by omega
        clear h
        go_wp2_with fail
        go_ret3
        exact ⟨by rw [unhide HQ]; rfl, unhide HB⟩
      · have h' : ¬ (x : Int) < 32 := by omega
        have h'' : ((x : Int) == 39) = true := by rw [beq_iff_eq]; omega
        clear h
        go_wp2_with fail
        go_ret3
        exact ⟨by rw [unhide HQ]; rfl, unhide HB⟩
      · have h' : ¬ (x : Int) < 32 := by omega
        have h'' : ((x : Int) == 39) = false := by rw [beq_eq_false_iff_ne]; omega
        have h3 : ((x : Int) == 127) = true := by rw [beq_iff_eq]; omega
        clear h
        go_wp2_with fail
        go_ret3
        exact ⟨by rw [unhide HQ]; rfl, unhide HB⟩
    · rw [if_neg hlow] at hq
      have h1 : ¬ (x : Int) < 32 := by omega
      have h2 : ((x : Int) == 39) = false := by rw [beq_eq_false_iff_ne]; omega
      have h3 : ((x : Int) == 127) = false := by rw [beq_eq_false_iff_ne]; omega
      clear hlow
      have HQ := hide hq
      clear hq hr
      have hu1 : u.size ≤ maxLen := by have := unhide HZ; unfold maxLen; omega
      have hu2 : u.size ≤ 4611686018427387904 := by have := unhide HZ; omega
      have hb : Below w.heap.size w (w.iter u d) := (Below.refl _ w).alloc (Nat.le_refl _) _
      have hit : (w.iter u d).heap[w.heap.size]? = some (.stringIter u d) := World.alloc_heap_new w _
      have hsz : (w.iter u d).heap.size = w.heap.size + 1 := World.size_alloc w _
      have HB := hide hb
      have HIT := hide hit
      have HSZ := hide hsz
      have HX := hide hx
      have HD := hide hd
      clear hb hit hsz hx hd
      go_wp2_with fail
      refine (whole_any u hu1 _).mono ?_
      rintro e w1 ⟨rfl, hb1⟩
      have HB1 := hide ((unhide HB).trans (hb1.mono (unhide HB).size))
      have HIT1 : Hz (w1.heap[w.heap.size]? = some (.stringIter u d)) := hide ((hb1.block _ (by rw [unhide HSZ]; omega)).trans (unhide HIT))
      clear hb1 HB HIT HSZ hnx
      cases hwh : wholeB u with
      | false =>
        have hq := unhide HQ
        rw [if_pos hwh] at hq
        have HQ2 := hide hq
        clear hq HQ hwh
        go_wp2_with fail
        refine (begun_text u hu2 _).mono ?_
        rintro e w2 ⟨rfl, hb2⟩
        have HB2 := hide ((unhide HB1).trans (hb2.mono (unhide HB1).size))
        have hbl : begLen u ≤ u.size := (scanTo_le _ (Nat.zero_le _)).2
        have hbl' : (begLen u : Int) ≤ 4611686018427387904 := by omega
        clear hb2
        go_wp2_with fail
        go_ret3
        exact ⟨by rw [unhide HQ2]; go_num, unhide HB2⟩
      | true =>
        have hq := unhide HQ
        rw [if_neg (by rw [hwh]; decide)] at hq
        clear HQ hwh
        have HQ := hide hq
        clear hq
        go_wp2_with fail
        rw [rounds_succ]
        by_cases hdu : d < u.size
        · have hnx : ∀ ty, (Instr.next (.pointer (some ⟨w.heap.size, 0, none⟩)) true ty).run Tryz.prog w1 = _ := fun ty => Lib.run_next_any_at w1 w.heap.size u d ty (unhide HIT1) hdu
          obtain ⟨y, hy⟩ : ∃ y, y = rn u d := ⟨_, rfl⟩
          rw [show (Utf8.decode u d).1 = y from hy.symm] at hnx
          have hq := unhide HQ
          rw [if_neg (by omega), ← hy] at hq
          have hB2 : Below w.heap.size w (w1.iterAt w.heap.size u (d + (Utf8.decode u d).2)) := (unhide HB1).trans (below_put w1 (Nat.le_refl _) _)
          have HB2 := hide hB2
          have hd0 : (0 : Int) < (d : Int) := by omega
          have hdb : (d : Int) ≤ 4611686018427387904 := by omega
          clear HQ hy hB2
          by_cases h39 : y = 39
          · rw [if_pos h39] at hq
            have HQ2 := hide hq
            have h' : ((y : Int) == 39) = true := by rw [beq_iff_eq]; omega
            clear hq h39
            go_wp2_with fail
            go_ret3
            exact ⟨by rw [unhide HQ2]; exact tupR_mk (by omega), unhide HB2⟩
          · rw [if_neg h39] at hq
            have HQ2 := hide hq
            have h' : ((y : Int) == 39) = false := by rw [beq_eq_false_iff_ne]; omega
            clear hq h39
            go_wp2_with fail
            go_ret3
            exact ⟨by rw [unhide HQ2]; exact tupR_mk (a := 0) (by omega), unhide HB2⟩
        · have hnx : ∀ ty, (Instr.next (.pointer (some ⟨w.heap.size, 0, none⟩)) true ty).run Tryz.prog w1 = _ := fun ty => Lib.run_next_end_at w1 w.heap.size u d ty (unhide HIT1) hdu
          have hq := unhide HQ
          rw [if_pos (by omega)] at hq
          have HQ2 := hide hq
          clear hq HQ
          go_wp2_with fail
          go_ret3
          exact ⟨by rw [unhide HQ2]; rfl, unhide HB1⟩
  · have hu0 : u.size = 0 := by omega
    have hnx : ∀ ty, (Instr.next (.pointer (some ⟨w.heap.size, 0, none⟩)) true ty).run Tryz.prog (w.iter u 0) = _ := fun ty => run_next_end w u 0 ty h0
    have hq := unhide HQ
    rw [if_pos hu0] at hq
    have HQ2 := hide hq
    have hb : Below w.heap.size w (w.iter u 0) := (Below.refl _ w).alloc (Nat.le_refl _) _
    have HB := hide hb
    clear hq hb HQ hu0
    go_wp2_with fail
    go_ret3
    exact ⟨by rw [unhide HQ2]; rfl, unhide HB⟩
end Go.Proofs.YtbbnppcpjpdpaaaGreatDoor
/- remark: a remark's bytes, or what stands ahead of what is wrong in it. -/
namespace Go.Proofs.YtbbnppcpjpdpaaaGreatDoor
open Go.RowKit Go.Shelf
set_option linter.unusedVariables false
theorem cut_sh (s sep : ByteArray) (m : Int) (w : World) (hs : s.size < 4294967281) (hm : w.cell? ⟨3, 0, none⟩ = some (.int .i64 m)) :
    Calls Tryz.prog 129 #[.string s, .string sep] w fun e w' => e = .returned (.tuple #[.string ⟨(Lib.cut s.data.toList sep.data.toList).1.toArray⟩, .string ⟨(Lib.cut s.data.toList sep.data.toList).2.1.toArray⟩, .bool (Lib.cut s.data.toList sep.data.toList).2.2]) ∧ ∃ n, w' = w.drewN n := Any.strings_Cut lay145 s sep m w hs hm
/-- Where the first line ends. -/
def nlAt (t : ByteArray) : Nat := scanTo (fun n => !decide (bt t n = 10)) t.size 0
theorem nlAt_le (t : ByteArray) : nlAt t ≤ t.size := (scanTo_le _ (Nat.zero_le _)).2
theorem scanTo_all {p : Nat → Bool} {hi m : Nat} : ∀ k n, m = n + k → m ≤ hi → (∀ j, n ≤ j → j < m → p j = true) → scanTo p hi n = scanTo p hi m
  | 0, n, h, _, _ => by rw [h]; rfl
  | k + 1, n, h, hm, hp => by
    rw [scanTo_go (by omega) (hp n (Nat.le_refl _) (by omega))]
    exact scanTo_all k (n + 1) (by omega) hm (fun j h1 h2 => hp j (by omega) h2)
theorem bt_list (t : ByteArray) (k : Nat) (h : k < t.size) : t.data.toList[k]? = some (t.get! k) := by
  rw [get_lt t k h]; simp
theorem cut_nl (t : ByteArray) : (⟨(Lib.cut t.data.toList [10]).1.toArray⟩ : ByteArray) = t.extract 0 (nlAt t) := by
  have hx := Lib.index_one t.data.toList 10
  have hlen : t.data.toList.length = t.size := Array.length_toList
  unfold Lib.cut
  rw [hx]
  by_cases h : 0 ≤ Lib.indexByte t.data.toList 10
  · obtain ⟨o, ho⟩ : ∃ o : Nat, Lib.indexByte t.data.toList 10 = o := ⟨(Lib.indexByte t.data.toList 10).toNat, by omega⟩
    obtain ⟨h1, h2⟩ := Lib.indexByte_some ho
    have hos : o < t.size := by rw [← hlen]; exact (List.getElem?_eq_some_iff.1 h1).1
    have e : nlAt t = o := by
      unfold nlAt
      rw [scanTo_all (m := o) o 0 (by omega) (by omega) (fun j _ hj => ?_), scanTo_no ?_]
      · rw [bt_list t o hos] at h1
        have : t.get! o = 10 := Option.some.inj h1
        unfold bt
        rw [this]; rfl
      · have := h2 j hj
        rw [bt_list t j (by omega)] at this
        have hn : t.get! j ≠ 10 := fun e => this (by rw [e])
        have : ¬ bt t j = 10 := fun e => hn (UInt8.toNat.inj (by unfold bt at e; rw [e]; rfl))
        simp [this]
    rw [if_pos h, ho, e]
    apply ByteArray.ext
    rw [ByteArray.data_extract]
    apply Array.toList_inj.1
    simp [Array.toList_extract, List.extract]
  · have hn : Lib.indexByte t.data.toList 10 = -1 := by have := Lib.indexByte_ge t.data.toList 10; omega
    have h2 := Lib.indexByte_none hn
    have e : nlAt t = t.size := by
      unfold nlAt
      rw [scanTo_all (m := t.size) t.size 0 (by omega) (by omega) (fun j _ hj => ?_), scanTo_end (by omega)]
      have := h2 j
      rw [bt_list t j hj] at this
      have hn : t.get! j ≠ 10 := fun e => this (by rw [e])
      have : ¬ bt t j = 10 := fun e => hn (UInt8.toNat.inj (by unfold bt at e; rw [e]; rfl))
      simp [this]
    rw [if_neg h, e, ByteArray.extract_zero_size]
/-- The first bad spot. -/
def badOf (s : ByteArray) : Option Nat := (starts s).find? (badB s)
theorem validV_some {s : ByteArray} {x : Nat} (h : badOf s = some x) : ∃ y : Nat, validV s = .tuple #[.agg #[.int .i64 x, .int .i64 y], .bool false] := by
  obtain ⟨hb, q, r, e, hq⟩ := List.find?_eq_some_iff_append.1 h
  refine ⟨q.length, ?_⟩
  unfold validV
  rw [e, validFrom_some s x r hb q 0 (fun i hi => by simpa using hq i hi), Nat.zero_add]
theorem validV_none {s : ByteArray} (h : badOf s = none) : validV s = .tuple #[.agg #[.int .i64 0, .int .i64 0], .bool true] := by
  unfold validV
  exact validFrom_none s _ 0 (fun i hi => by simpa using List.find?_eq_none.1 h i hi)
/-- The remark's bytes, and whether it is right. -/
def remV (t : ByteArray) : Nat × Bool :=
  match badOf (t.extract 0 (nlAt t)) with
  | none => ((t.extract 0 (nlAt t)).size, true)
  | some x => (x + begLen ((t.extract 0 (nlAt t)).extract x (t.extract 0 (nlAt t)).size), false)
abbrev tupB (x : Nat × Bool) : Value := .tuple #[.int .i64 x.1, .bool x.2]
theorem tupB_mk {n : Nat} {i : Int} {b : Bool} (h : i = n) : Ending.returned (.tuple #[.int .i64 i, .bool b]) = .returned (tupB (n, b)) := by subst h; rfl
theorem wrap_i64 {n : Int} (h1 : -9223372036854775808 ≤ n) (h2 : n ≤ 9223372036854775807) : IntKind.i64.wrap n = n := by
  simp [IntKind.wrap, IntKind.bits, IntKind.signed]
  omega
end Go.Proofs.YtbbnppcpjpdpaaaGreatDoor
/- The reference's own Sequence, told for every text: the width and the rune of the decoding, or nothing where it is bad. -/
namespace Go.Proofs.YtbbnppcpjpdpaaaGreatDoor
open Go.RowKit Go.Shelf
set_option linter.unusedVariables false

/-- A bound for the rune's bits. -/
def bndOf (k : Nat) : Nat := if k = 1 then 32 else if k = 2 then 2048 else if k = 3 then 131072 else 8388608
theorem bnd_step (k A c : Nat) (h1 : 1 ≤ k) (h4 : k < 4) (hA : A < bndOf k) : A < 33554432 ∧ A * 64 + c % 64 < bndOf (k + 1) := by
  have : k = 1 ∨ k = 2 ∨ k = 3 := by omega
  rcases this with rfl | rfl | rfl <;> simp [bndOf] at hA ⊢ <;> omega
theorem step_bits (A c : Nat) (hA : A < 33554432) : bits BinOp.or IntKind.i32 (wrap32 (↑A * 64)) (↑c % 64) = ((A * 64 + c % 64 : Nat) : Int) := by
  rw [show wrap32 ((A : Int) * 64) = (A : Int) * 64 by unfold wrap32; omega]
  have h := i32_or6 ((A : Int) * 64) ((c : Int) % 64) (by omega) (by omega) (by omega) (by omega) (by omega)
  rw [h]
  omega

theorem and7 (b : Nat) (h : b < 256) : bits BinOp.and IntKind.u8 (b : Int) 7 = (b : Int) % 8 := by
  have e := u8_and_nat b 7 h (by omega)
  rw [show ((7 : Nat) : Int) = 7 from rfl] at e
  rw [e, show (7 : Nat) = 2 ^ 3 - 1 from rfl, Nat.and_two_pow_sub_one_eq_mod]
  omega

end Go.Proofs.YtbbnppcpjpdpaaaGreatDoor
/- The reference's Sequence once more: leading bytes of four, and all texts together. -/
namespace Go.Proofs.YtbbnppcpjpdpaaaGreatDoor
open Go.RowKit Go.Shelf
set_option linter.unusedVariables false

end Go.Proofs.YtbbnppcpjpdpaaaGreatDoor
/- The reference's own list of spots, told for every text that is not too great: a new list, spot by spot, the decoding's. -/
namespace Go.Proofs.YtbbnppcpjpdpaaaGreatDoor
open Go.RowKit Go.Shelf
set_option linter.unusedVariables false

/-- The cells of the reference's spot at i. -/
def refCells (s : ByteArray) (i : Nat) : List Value := [.int .i32 (rn s i), .int .i64 i, .int .i64 (wd s i), .bool (decide (rn s i = 65533 ∧ wd s i = 1))]
theorem seqV_at (s : ByteArray) (i : Nat) (h : i < s.size) : seqV (s.extract i s.size) = if rn s i = 65533 ∧ wd s i = 1 then (0, 0) else ((wd s i : Int), (rn s i : Int)) := by
  unfold seqV
  have e : (s.extract i s.size).size ≠ 0 := by rw [ByteArray.size_extract]; omega
  simp only [rn, wd, decode_suffix s i 0 (Nat.le_of_lt h), Nat.add_zero, e, false_or]

theorem own_lt {W : World} {base : Nat} {e : TypeId} {size : Nat} {v : Value} {n : Nat} {xs : List Value} (h : W.ownsRow base e size v n xs) : ∀ g, v.ownBlock = some g → base ≤ g ∧ g < W.heap.size := by
  intro g hg
  rcases h.2 with ⟨rfl, _⟩ | ⟨g', cap, cur, rfl, hb, hh, _⟩
  · cases hg
  · cases hg
    exact ⟨hb, (Array.getElem?_eq_some_iff.1 hh).1⟩
theorem new_cells (W : World) (c0 c1 c2 c3 : Value) (t : TypeId) : ∀ j u, [c0, c1, c2, c3][j]? = some u → (W.alloc (.cells #[c0, c1, c2, c3] t)).cell? ((⟨W.heap.size, 0, none⟩ : Addr).add j) = some u := by
  intro j u hj
  have := (Blk.new W #[c0, c1, c2, c3] t).cell j
  rw [show (⟨W.heap.size, 0, none⟩ : Addr).add j = ⟨W.heap.size, j, none⟩ by unfold Addr.add; split <;> simp_all, this, ← hj]
  simp

end Go.Proofs.YtbbnppcpjpdpaaaGreatDoor
