/- SpotsPieces, for every text, all numbers and every list of counts: the pieces are the reference's, in new memory each time; the counts that were handed in are left as they are. -/
import Derived.Test.YtinhmhkdofoneaaBookAS
import Derived.Test.YtinhmhkdofoneaaRoomyI
import Derived.Test.YtinhmhkdofoneaaParts2
import Derived.Test.YtinhmhkdofoneaaRef2b
import Derived.Test.YtinhmhkdofoneaaSpStr
import Derived.Laws.BytesArg
namespace Go.Proofs.Ytinhmhkdofoneaa
open Go.RowKit Go.Shelf
set_option linter.unusedVariables false

theorem few_any (s : ByteArray) (hm : s.size ≤ maxLen) (w : World) : Calls Try.prog 43 #[.string s] w fun e w' => e = .returned (.bool (decide (s.size ≤ 400))) ∧ w' = w := by
  unfold maxLen at hm
  go_enter Try.func43, Try.ntmps43
  go_wp2
  go_ret
  refine ⟨?_, rfl⟩
  show Ending.returned (Value.bool (decide ((s.size : Int) ≤ 400))) = _
  rw [show decide ((s.size : Int) ≤ 400) = decide (s.size ≤ 400) from decide_eq_decide.2 (by omega)]

set_option maxHeartbeats 2000000 in
theorem refSlice_in (s : ByteArray) (hs : s.size ≤ 1048576) (a b : Nat) (hab : a ≤ b) (hb : b ≤ (starts s).length) (w : World) :
    Calls Try.prog 44 #[.string s, .int .i64 a, .int .i64 b] w fun e w' => e = .returned (.tuple #[.string (s.extract (pl s a) (pl s b)), .bool true]) ∧ Below w.heap.size w w' := by
  have hl := starts_length s
  have a0 : ¬ (a : Int) < 0 := by omega
  have a1 : ¬ (b : Int) < (a : Int) := by omega
  have a2 : ¬ ((starts s).length : Int) < (b : Int) := by omega
  have p1 := pl_mono s a b hab hb
  have p2 := pl_le s b hb
  have p3 : ((pl s a : Nat) : Int) ≤ ((pl s b : Nat) : Int) := by omega
  have p4 : ((pl s b : Nat) : Int) ≤ (s.size : Int) := by omega
  go_enter Try.func44, Try.ntmps44
  go_wp2_with fail
  refine (refSpots_any s (by omega) _).mono ?_
  rintro e w1 ⟨v, rfl, hown, hb1⟩
  obtain ⟨av, cap, rfl, _⟩ := rows_form hown
  have HB := hide hb1
  clear hb1 hown
  go_wp2_with fail
  refine (refByte_any s hs a (by omega) _).mono ?_
  rintro e w2 ⟨rfl, hb1⟩
  have HB2 := hide ((unhide HB).trans (hb1.mono (unhide HB).size))
  clear hb1
  go_wp2_with fail
  refine (refByte_any s hs b (by omega) _).mono ?_
  rintro e w3 ⟨rfl, hb1⟩
  have HB3 := hide ((unhide HB2).trans (hb1.mono (unhide HB2).size))
  clear hb1
  go_wp2
  go_ret2
  exact ⟨rfl, unhide HB3⟩

set_option maxHeartbeats 2000000 in
theorem refSlice_out (s : ByteArray) (hs : s.size ≤ 1048576) (a b : Int) (hab : a < 0 ∨ b < a ∨ ((starts s).length : Int) < b) (w : World) :
    Calls Try.prog 44 #[.string s, .int .i64 a, .int .i64 b] w fun e w' => e = .returned (.tuple #[.string ⟨#[]⟩, .bool false]) ∧ Below w.heap.size w w' := by
  have hl := starts_length s
  by_cases a0 : a < 0
  · go_enter Try.func44, Try.ntmps44
    go_wp2_with fail
    refine (refSpots_any s (by omega) _).mono ?_
    rintro e w1 ⟨v, rfl, hown, hb1⟩
    obtain ⟨av, cap, rfl, _⟩ := rows_form hown
    have HB := hide hb1
    clear hb1 hown
    go_wp2
    go_ret2
    exact ⟨rfl, unhide HB⟩
  by_cases a1 : b < a
  · go_enter Try.func44, Try.ntmps44
    go_wp2_with fail
    refine (refSpots_any s (by omega) _).mono ?_
    rintro e w1 ⟨v, rfl, hown, hb1⟩
    obtain ⟨av, cap, rfl, _⟩ := rows_form hown
    have HB := hide hb1
    clear hb1 hown
    go_wp2
    go_ret2
    exact ⟨rfl, unhide HB⟩
  have a2 : ((starts s).length : Int) < b := by omega
  go_enter Try.func44, Try.ntmps44
  go_wp2_with fail
  refine (refSpots_any s (by omega) _).mono ?_
  rintro e w1 ⟨v, rfl, hown, hb1⟩
  obtain ⟨av, cap, rfl, _⟩ := rows_form hown
  have HB := hide hb1
  clear hb1 hown
  go_wp2
  go_ret2
  exact ⟨rfl, unhide HB⟩

theorem one_cellS (W : World) (u : Value) (t : TypeId) : ∀ j v, [u][j]? = some v → (W.alloc (.cells #[u] t)).cell? ((⟨W.heap.size, 0, none⟩ : Addr).add j) = some v := by
  intro j v hj
  rw [add_none', (Blk.new W #[u] t).cell (0 + j), ← hj]
  simp
theorem RowN.grown {W W' : World} {base e size n : Nat} {v : Value} {xs : List Value} {a : Option Addr} {zs : List Int} (N : Nat) (h : RowN W a zs) (hb : Below N W W') (hN : 0 < zs.length → ∀ g o, a = some ⟨g, o, none⟩ → g < N) : RowN W' a zs := fun h0 => by
  obtain ⟨g, o, ha, hg, hc⟩ := h h0
  have hlt := hN h0 g o ha
  exact ⟨g, o, ha, Nat.lt_of_lt_of_le hg (by have := hb.size; omega), fun j hj => (hb.cell (p := ⟨g, o + j, none⟩) hlt).trans (hc j hj)⟩

set_option maxRecDepth 100000 in
set_option maxHeartbeats 4000000 in
theorem refParts_any (s : ByteArray) (hs : s.size ≤ 65536) (a : Option Addr) (cap : Nat) (zs : List Int) (hz : zs.length ≤ 300) (w : World) (hr : RowN w a zs) :
    Calls Try.prog 46 #[.string s, .slice a zs.length cap] w fun e w' => ∃ v, e = .returned v ∧ w'.ownsRow w.heap.size 9 1 v (zs.length + 1) (pcs s zs (zs.length + 1)) ∧ Below w.heap.size w w' := by
  obtain ⟨i0, hi, hz0, hz1, hz2⟩ := info_parts infoStr
  have HI := hide (And.intro hi (And.intro hz0 (And.intro hz1 hz2)))
  have hnl := starts_length s
  have HR := hide hr
  clear hi hz0 hz1 hz2 hr
  go_enter Try.func46, Try.ntmps46
  go_wp2_with fail
  refine (refSpots_any s (by omega) _).mono ?_
  rintro e w1 ⟨v, rfl, hown, hb1⟩
  obtain ⟨av, capv, rfl, _⟩ := rows_form hown
  have HB := hide hb1
  clear hb1 hown
  go_wp2
  go_loopw [6, 7, 8] (fun at_ l i wr => ∃ j : Nat, i = .int .i64 j ∧ j ≤ zs.length ∧ at_ = .int .i64 (cp (starts s).length zs j) ∧ Hid (wr.ownsRow w.heap.size 9 1 l j (pcs s zs j)) ∧ Hid (Below w.heap.size w wr)) (fun _ _ i _ => zs.length - (intOf i).toNat)
  case atStart => exact ⟨0, rfl, by omega, rfl, hide (by simp [pcs]; exact World.ownsRow_nil _ _ _ _), HB⟩
  case round =>
    obtain ⟨j, rfl, hj, rfl, HL, HBB⟩ := hrel
    have hcl := cp_le (starts s).length zs j hj
    have hlt := (unhide HBB).size
    by_cases hjn : j < zs.length
    · have hj1 : (j : Int) < (zs.length : Int) := by omega
      have hj2 : ((j : Nat) : Int).toNat = j := by omega
      obtain ⟨g, o, rfl, hg, hc⟩ := unhide HR (by omega)
      have c0 : wr.cell? ⟨g, o + j, none⟩ = some (.int .i64 (zs.getD j 0)) := ((unhide HBB).cell (p := ⟨g, o + j, none⟩) hg).trans (hc j hjn)
      have hstep := cp_succ (starts s).length zs j hjn
      have hpc : pc s zs j = s.extract (pl s (cp (starts s).length zs j)) (pl s (cp (starts s).length zs (j + 1))) := by unfold pc; rw [if_pos hjn]
      have hcl2 := cp_le (starts s).length zs (j + 1) (by omega)
      have hmono := cp_mono (starts s).length zs j hjn
      unfold cpStep at hstep
      have HPC := hide hpc
      clear hc hpc
      generalize zs.getD j 0 = z at *
      generalize hf : cp (starts s).length zs j = f at *
      generalize hf' : cp (starts s).length zs (j + 1) = f' at *
      have HF' := hide hf'
      clear hf hf'
      have hcase : (z < 0 ∧ f' = f) ∨ (¬ z < 0 ∧ ¬ ((starts s).length : Int) - (f : Int) < z ∧ (f : Int) + z = (f' : Int)) ∨ (¬ z < 0 ∧ ((starts s).length : Int) - (f : Int) < z ∧ f' = (starts s).length) := by omega
      have hb1 : (f : Int) ≤ ((starts s).length : Int) := by omega
      have hb2 : ((starts s).length : Int) ≤ 1048576 := by omega
      have hn0 : ¬ ((starts s).length : Int) - (f : Int) < 0 := by omega
      have HSL := hide (refSlice_in s (by omega) f f' hmono hcl2)
      clear hstep
      have hq3 : (f : Int) + (((starts s).length : Int) - (f : Int)) = ((starts s).length : Int) := by omega
      rcases hcase with ⟨hz1, rfl⟩ | ⟨hz1, hz2, hz3⟩ | ⟨hz1, hz2, rfl⟩
      all_goals
        go_wp2_with fail
        refine (unhide HSL _).mono ?_
        rintro e w2 ⟨rfl, hb⟩
        rw [← unhide HPC]
        have HPS := hide (pcs_succ s zs j)
        generalize pc s zs j = x at *
        have HL2 := hide (own_below (unhide HL) hb)
        have HB2 := hide ((unhide HBB).trans (hb.mono (unhide HBB).size))
        have hlt2 : w.heap.size ≤ w2.heap.size := (unhide HB2).size
        clear hb
        go_wp2_with (at_builtin; refine wpList_append_own _ rfl _ _ 84 rfl w.heap.size 9 i0 (.string ⟨#[]⟩) 1 16 Try.underlying84 (unhide HI).1 (unhide HI).2.1 (unhide HI).2.2.1 (unhide HI).2.2.2 rfl (by decide) _ _ _ rfl ((unhide HL2).alloc _) ⟨w2.heap.size, 0, none⟩ 1 1 [.string x] rfl rfl (one_cellS _ _ _) ?c2 ?c3 ?c4 ?c5 ?_)
        case c2 => intro u hu; simp at hu; rw [hu]; rfl
        case c3 => unfold maxLen; omega
        case c4 => omega
        case c5 => simp; omega
        intro v' w3 hown' hgrow _
        have HL3 : Hid (w3.ownsRow w.heap.size 9 1 v' (j + 1) (pcs s zs (j + 1))) := hide (by rw [unhide HPS]; exact hown')
        have HB3 := hide (((unhide HB2).alloc hlt2 (.cells #[.string x] 9)).grown hgrow (by simp; omega) (own_range (unhide HL2)))
        clear hown' hgrow
        go_wp2
        go_roundw
        case rel => exact ⟨j + 1, by go_num, by omega, by rw [unhide HF'], HL3, HB3⟩
        case measure => simp [intOf]; omega
    · have hj1 : ¬ (j : Int) < (zs.length : Int) := by omega
      obtain rfl : j = zs.length := by omega
      have hpc : pc s zs zs.length = s.extract (pl s (cp (starts s).length zs zs.length)) (pl s (starts s).length) := by unfold pc; rw [if_neg (by omega)]
      have HPC := hide hpc
      generalize cp (starts s).length zs zs.length = f at *
      have HSL := hide (refSlice_in s (by omega) f (starts s).length hcl (Nat.le_refl _))
      clear hpc
      go_wp2_with fail
      refine (unhide HSL _).mono ?_
      rintro e w2 ⟨rfl, hb⟩
      rw [← unhide HPC]
      have HPS := hide (pcs_succ s zs zs.length)
      generalize pc s zs zs.length = x at *
      have HL2 := hide (own_below (unhide HL) hb)
      have HB2 := hide ((unhide HBB).trans (hb.mono (unhide HBB).size))
      have hlt2 : w.heap.size ≤ w2.heap.size := (unhide HB2).size
      clear hb
      go_wp2_with (at_builtin; refine wpList_append_own _ rfl _ _ 84 rfl w.heap.size 9 i0 (.string ⟨#[]⟩) 1 16 Try.underlying84 (unhide HI).1 (unhide HI).2.1 (unhide HI).2.2.1 (unhide HI).2.2.2 rfl (by decide) _ _ _ rfl ((unhide HL2).alloc _) ⟨w2.heap.size, 0, none⟩ 1 1 [.string x] rfl rfl (one_cellS _ _ _) ?d2 ?d3 ?d4 ?d5 ?_)
      case d2 => first | rfl | (intro u hu; simp at hu; rw [hu]; rfl)
      case d3 => unfold maxLen; omega
      case d4 => omega
      case d5 => simp; omega
      intro v' w3 hown' hgrow _
      have HL3 : Hid (w3.ownsRow w.heap.size 9 1 v' (zs.length + 1) (pcs s zs (zs.length + 1))) := hide (by rw [unhide HPS]; exact hown')
      have HB3 := hide (((unhide HB2).alloc hlt2 (.cells #[.string x] 9)).grown hgrow (by simp; omega) (own_range (unhide HL2)))
      clear hown' hgrow
      go_wp2
      go_ret
      exact ⟨_, rfl, unhide HL3, unhide HB3⟩

/-- The text of a mark. -/
def mkS (i j : Nat) : ByteArray := ⟨#[109, 97, 114, 107, 32]⟩ ++ strOfNums [(i : Int) % 256, (i : Int) / 256, (i : Int) / 65536]
set_option maxRecDepth 100000 in
set_option maxHeartbeats 2000000 in
theorem strings_any (i j : Nat) (w : World) (hi : i ≤ 1001) : Calls Try.prog 50 #[.int .i64 i, .int .i64 j] w fun e w' => e = .returned (.string (mkS i j)) ∧ Below w.heap.size w w' := by
  have h1 : (i : Int) ≤ 1001 := by omega
  have b := Blk.new w #[.int .u8 ((i : Int) % 256), .int .u8 ((i : Int) / 256), .int .u8 ((i : Int) / 65536)] 5
  have kc := run_convert_bytes_arg (P := Try.prog) (w.alloc (.cells #[.int .u8 ((i : Int) % 256), .int .u8 ((i : Int) / 256), .int .u8 ((i : Int) / 65536)] 5)) 47 5 Try.underlying47 Try.underlying5 w.heap.size 0 3 3 [(i : Int) % 256, (i : Int) / 256, (i : Int) / 65536] rfl
    (fun k hk => by
      rw [Nat.zero_add, b.cell k]
      match k, hk with
      | 0, _ => rfl
      | 1, _ => rfl
      | 2, _ => rfl) 9 Try.underlying9
  have HM : Hid (mkS i j = ⟨#[109, 97, 114, 107, 32]⟩ ++ strOfNums [(i : Int) % 256, (i : Int) / 256, (i : Int) / 65536]) := hide rfl
  have hms : (strOfNums [(i : Int) % 256, (i : Int) / 256, (i : Int) / 65536]).size ≤ 3 := by rw [strOfNums_size]; simp
  generalize strOfNums [(i : Int) % 256, (i : Int) / 256, (i : Int) / 65536] = m at *
  clear b
  go_enter Try.func50, Try.ntmps50
  go_wp2
  go_ret
  exact ⟨by rw [unhide HM]; rfl, (Below.refl w.heap.size w).alloc (Nat.le_refl _) _⟩

/-- The pieces, as texts. -/
def pcL (s : ByteArray) (zs : List Int) : List ByteArray := (List.range (zs.length + 1)).map (pc s zs)
theorem pcL_enc (s : ByteArray) (zs : List Int) : encS (pcL s zs) = pcs s zs (zs.length + 1) := by simp [pcL, encS, pcs, Function.comp_def]
theorem pcL_length (s : ByteArray) (zs : List Int) : (pcL s zs).length = zs.length + 1 := by simp [pcL]
theorem own_baseS {W : World} {base base' e size n : Nat} {v : Value} {xs : List Value} (h : W.ownsRow base e size v n xs) (hb : base' ≤ base) : W.ownsRow base' e size v n xs :=
  ⟨h.1, h.2.imp id fun ⟨g, cap, cur, h1, h2, h3⟩ => ⟨g, cap, cur, h1, Nat.le_trans hb h2, h3⟩⟩

set_option maxRecDepth 100000 in
set_option maxHeartbeats 2000000 in
theorem lpieces_long (s : ByteArray) (hl : 65536 < s.size) (hm : s.size ≤ maxLen) (from_ to_ : Int) (a : Option Addr) (n cap : Nat) (w : World) : Calls Try.prog 7 #[.string s, .int .i64 from_, .int .i64 to_, .slice a n cap] w fun e w' => e = .returned (.bool true) ∧ Below w.heap.size w w' := by
  go_enter Try.func7, Try.ntmps7
  go_wp2_with fail
  refine (begun_long s hl hm _).mono ?_
  rintro e w1 ⟨rfl, hb⟩
  have HB := hide hb
  clear hb
  go_wp2
  go_ret
  exact ⟨rfl, unhide HB⟩

set_option maxRecDepth 100000 in
set_option maxHeartbeats 2000000 in
theorem lpieces_many (s : ByteArray) (hl : s.size ≤ 65536) (hf : ¬ s.size ≤ 400) (from_ to_ : Int) (a : Option Addr) (n cap : Nat) (w : World) : Calls Try.prog 7 #[.string s, .int .i64 from_, .int .i64 to_, .slice a n cap] w fun e w' => e = .returned (.bool true) ∧ Below w.heap.size w w' := by
  have hd : decide (s.size ≤ 400) = false := decide_eq_false hf
  go_enter Try.func7, Try.ntmps7
  go_wp2_with fail
  refine (begun_any s hl _).mono ?_
  rintro e w1 ⟨B, rfl, hT, hb⟩
  have HB := hide hb
  clear hb hT
  go_wp2_with fail
  refine (few_any s (by unfold maxLen; omega) _).mono ?_
  rintro e w2 ⟨rfl, rfl⟩
  rw [hd]
  go_wp2
  go_ret
  exact ⟨rfl, unhide HB⟩

set_option maxRecDepth 100000 in
set_option maxHeartbeats 8000000 in
theorem lpieces_in (s : ByteArray) (hf : s.size ≤ 400) (from_ to_ : Int) (a : Option Addr) (n cap : Nat) (zs : List Int) (hn : (n ≤ 300 ∧ zs.length = n) ∨ (300 < n ∧ n ≤ cap ∧ zs.length = 300)) (w : World) (hr : RowN w a zs) :
    Calls Try.prog 7 #[.string s, .int .i64 from_, .int .i64 to_, .slice a n cap] w fun e w' => e = .returned (.bool true) ∧ Below w.heap.size w w' := by
  have hd : decide (s.size ≤ 400) = true := decide_eq_true hf
  have hz : zs.length ≤ 300 := by omega
  have HR := hide hr
  have hpl := pcL_length s zs
  obtain ⟨x, ok, HS1, HS2⟩ : ∃ (x : ByteArray) (ok : Bool), Hid (∀ B W, TextAt W B s → Calls Try.prog 36 #[.pointer (some ⟨B, 0, none⟩), .int .i64 from_, .int .i64 to_] W fun e w' => e = .returned (.tuple #[.string x, .bool ok]) ∧ Below W.heap.size W w') ∧
      Hid (∀ W, Calls Try.prog 44 #[.string s, .int .i64 from_, .int .i64 to_] W fun e w' => e = .returned (.tuple #[.string x, .bool ok]) ∧ Below W.heap.size W w') := by
    by_cases ho : from_ < 0 ∨ to_ < from_ ∨ ((starts s).length : Int) < to_
    · exact ⟨_, _, hide (fun B W h => slice_out B s (by omega) from_ to_ ho W h), hide (fun W => refSlice_out s (by omega) from_ to_ ho W)⟩
    · obtain ⟨a', rfl⟩ := Int.eq_ofNat_of_zero_le (show 0 ≤ from_ by omega)
      obtain ⟨b', rfl⟩ := Int.eq_ofNat_of_zero_le (show 0 ≤ to_ by omega)
      exact ⟨_, _, hide (fun B W h => slice_in B s (by omega) a' b' (by omega) (by omega) W h), hide (fun W => refSlice_in s (by omega) a' b' (by omega) (by omega) W)⟩
  have hxx : (x.toList != x.toList) = false := by simp
  have hoo : (ok != ok) = false := by simp
  have hss : (s.toList == s.toList) = true := by simp
  have HPL := hide hpl
  clear hr hpl
  go_enter Try.func7, Try.ntmps7
  go_wp2_with fail
  refine (begun_any s (by omega) _).mono ?_
  rintro e w1 ⟨B, rfl, hT, hb⟩
  have HT1 := hide hT
  have HB1 := hide hb
  have HR1 := hide ((unhide HR).below hb (Nat.le_refl _))
  clear hb hT HR
  go_wp2_with fail
  refine (few_any s (by unfold maxLen; omega) _).mono ?_
  rintro e w2 ⟨rfl, rfl⟩
  rw [hd]
  clear hd
  rcases hn with ⟨h1, h2⟩ | ⟨h1, h2, h3⟩
  rotate_left
  · have H3 := hide h3
    clear h3
    have h4 : (300 : Int) < (n : Int) := by omega
    have h5 : (300 : Int) ≤ (cap : Int) := by omega
    go_wp2_with fail
    rw [show Value.slice a 300 cap = .slice a zs.length cap by rw [unhide H3]]
    clear H3 h4 h5 h1 h2
    refine (unhide HS1 B _ (unhide HT1)).mono ?_
    rintro e w3 ⟨rfl, hb⟩
    have HT3 := hide ((unhide HT1).below hb (Nat.le_refl _))
    have HR3 := hide ((unhide HR1).below hb (Nat.le_refl _))
    have HB3 := hide ((unhide HB1).trans (hb.mono (unhide HB1).size))
    clear hb HT1 HR1 HB1 HS1
    go_wp2_with fail
    refine (unhide HS2 _).mono ?_
    rintro e w4 ⟨rfl, hb⟩
    have HT4 := hide ((unhide HT3).below hb (Nat.le_refl _))
    have HR4 := hide ((unhide HR3).below hb (Nat.le_refl _))
    have HB4 := hide ((unhide HB3).trans (hb.mono (unhide HB3).size))
    clear hb HT3 HR3 HB3 HS2
    go_wp2_with fail
    have hal := (Below.refl w4.heap.size w4).alloc (Nat.le_refl _) (.cells #[.slice none 0 0, .slice none 0 0, .int .i64 0, .bool false] 93)
    refine (roomyI_any a cap zs (by omega) 77 _ ((unhide HR4).below hal (Nat.le_refl _))).mono ?_
    rintro e w5 ⟨rfl, hnum, hb⟩
    rw [World.size_alloc] at hnum hb
    have HN5 := hide hnum
    have HL5 := hide (hal.trans (hb.mono (by omega)))
    have HBK5 : Hid (BookS w5 w4.heap.size w4.heap.size [] (.slice none 0 0) (.slice none 0 0) 0) := hide ⟨⟨(Blk.new w4 _ _).below hb (by omega), SlAt.nil _ _ _, SlAt.nil _ _ _, .inl rfl, Nat.le_refl _⟩, by simp, List.Pairwise.nil⟩
    clear hb hal hnum
    have hzi : (zs.length : Int) ≤ 300 := by omega
    go_wp2
    go_loopw [18] (fun i wr => ∃ (k : Nat) (its : List ItS) (lv wv : Value) (h : Int), i = .int .i64 k ∧ k ≤ 2 ∧ its.length ≤ k ∧ Hid (BookS wr w4.heap.size w4.heap.size its lv wv h) ∧ Hid (NumsI wr (w4.heap.size + 1) (roomy zs 77)) ∧ Hid (Below w4.heap.size w4 wr)) (fun i _ => 2 - (intOf i).toNat)
    case atStart => exact ⟨0, [], _, _, _, rfl, by omega, by simp, HBK5, HN5, HL5⟩
    case round =>
      obtain ⟨k, its, lv, wv, h, rfl, hk, hil, HBK, HN, HL⟩ := hrel
      have hlo : w4.heap.size < wr.heap.size := (unhide HBK).bk.blk.lt
      have HTR := hide ((unhide HT4).below (unhide HL) (Nat.le_refl _))
      have HRR := hide ((unhide HR4).below (unhide HL) (Nat.le_refl _))
      by_cases hk2 : k < 2
      · have hk3 : (k : Int) < 2 := by omega
        have hrow : RowN wr (some ⟨w4.heap.size + 1, 0, none⟩) zs := by
          have q := NumsI.row (unhide HN) zs.length (by rw [roomy_length]; omega)
          rw [roomy_take] at q
          exact q
        have HROW := hide hrow
        clear hrow
        go_wp2_with fail
        refine (parts_text B s (by omega) _ _ zs (by omega) _ (unhide HTR) (unhide HROW)).mono ?_
        rintro e w6 ⟨v, rfl, hown, hb⟩
        have HO6 : Hid (w6.ownsRow wr.heap.size 9 1 v (pcL s zs).length (encS (pcL s zs))) := hide (by rw [pcL_enc, unhide HPL]; exact hown)
        have HDIS : Hid (∀ it ∈ its, it.v.ownBlock = none ∨ it.v.ownBlock ≠ v.ownBlock) := hide (fun it hi => by
          cases hv : it.v.ownBlock with
          | none => exact .inl rfl
          | some y =>
            refine .inr fun e => ?_
            have q1 := (((unhide HBK).own it hi).1.lt y hv).2
            have q2 := (hown.lt y e.symm).1
            omega)
        have HBK6 := hide ((unhide HBK).below (by omega) hb)
        have HN6 := hide (Blk.below (unhide HN) hb (Blk.lt (unhide HN)))
        have HL6 := hide ((unhide HL).trans (hb.mono (by omega)))
        have HR6 := hide ((unhide HRR).below hb (Nat.le_refl _))
        have hz6 : wr.heap.size ≤ w6.heap.size := hb.size
        clear hown hb
        go_wp2_with fail
        refine (refParts_any s (by omega) a cap zs hz _ (unhide HR6)).mono ?_
        rintro e w7 ⟨v3, rfl, hown, hb⟩
        have HO7 : Hid (w7.ownsRow w4.heap.size 9 1 v3 (pcL s zs).length (encS (pcL s zs))) := hide (by rw [pcL_enc, unhide HPL]; exact own_baseS hown (by omega))
        have HO67 := hide (own_baseS (own_below (unhide HO6) hb) (show w4.heap.size ≤ wr.heap.size by omega))
        have HBK7 := hide ((unhide HBK6).below (by omega) hb)
        have HN7 := hide (Blk.below (unhide HN6) hb (Blk.lt (unhide HN6)))
        have HL7 := hide ((unhide HL6).trans (hb.mono (by omega)))
        have hz7 : w6.heap.size ≤ w7.heap.size := hb.size
        clear hown hb
        go_wp2_with fail
        refine (same_ownS w4.heap.size _ _ (pcL s zs) _ (unhide HO67) (unhide HO7)).mono ?_
        rintro e w8 ⟨rfl, hb⟩
        have HO8 := hide (own_below (unhide HO67) hb)
        have HBK8 := hide ((unhide HBK7).below (by omega) hb)
        have HN8 := hide (Blk.below (unhide HN7) hb (Blk.lt (unhide HN7)))
        have HL8 := hide ((unhide HL7).trans (hb.mono (by omega)))
        have hz8 : w7.heap.size ≤ w8.heap.size := hb.size
        clear hb
        go_wp2_with fail
        refine (keep_anyS w8 w4.heap.size w4.heap.size its lv wv h _ (pcL s zs) (unhide HDIS) (unhide HO8) (by have := unhide HPL; omega) (by have := unhide HPL; unfold maxLen; omega) (unhide HBK8) (by omega) (by omega)).mono ?_
        rintro e w9 ⟨⟨r, rfl⟩, ⟨t, lv', wv', h', htn, _, htl, hbk⟩, hkk⟩
        have HBK9 := hide hbk
        have HN9 : Hid (NumsI w9 (w4.heap.size + 1) (roomy zs 77)) := hide (hkk.1 _ _ _ (unhide HN8) (by decide) (by omega))
        have HL9 := hide ((unhide HL8).trans hkk.2)
        clear hbk hkk
        go_wp2
        go_roundw
        case rel => exact ⟨k + 1, t, lv', wv', h', by go_num, by omega, by omega, HBK9, HN9, HL9⟩
        case measure => simp [intOf]; omega
      · have hk3 : ¬ (k : Int) < 2 := by omega
        go_wp2_with fail
        refine (intactI_any (w4.heap.size + 1) a cap zs (by omega) 77 _ (unhide HN) (unhide HRR)).mono ?_
        rintro e w6 ⟨rfl, hb⟩
        have HBK6 := hide ((unhide HBK).below (by omega) hb)
        have HL6 := hide ((unhide HL).trans (hb.mono (by omega)))
        have hz6 : wr.heap.size ≤ w6.heap.size := hb.size
        clear hb
        go_wp2_with fail
        refine (apart_anyS mkS (fun i j w hi _ => strings_any i j w hi) w6 w4.heap.size w4.heap.size its lv wv h (unhide HBK6) (by omega) (by omega)).mono ?_
        rintro e w7 ⟨rfl, hb⟩
        have HL7 := hide ((unhide HL6).trans hb)
        have HT7 := hide ((unhide HT4).below (unhide HL7) (Nat.le_refl _))
        clear hb
        go_wp2_with fail
        refine (string_text B s _ (unhide HT7)).mono ?_
        rintro e w8 ⟨rfl, rfl⟩
        go_wp2
        go_ret
        exact ⟨rfl, (unhide HB4).trans ((unhide HL7).mono (unhide HB4).size)⟩
  · subst h2
    have h4 : ¬ (300 : Int) < (zs.length : Int) := by omega
    go_wp2_with fail
    clear h1 h4
    refine (unhide HS1 B _ (unhide HT1)).mono ?_
    rintro e w3 ⟨rfl, hb⟩
    have HT3 := hide ((unhide HT1).below hb (Nat.le_refl _))
    have HR3 := hide ((unhide HR1).below hb (Nat.le_refl _))
    have HB3 := hide ((unhide HB1).trans (hb.mono (unhide HB1).size))
    clear hb HT1 HR1 HB1 HS1
    go_wp2_with fail
    refine (unhide HS2 _).mono ?_
    rintro e w4 ⟨rfl, hb⟩
    have HT4 := hide ((unhide HT3).below hb (Nat.le_refl _))
    have HR4 := hide ((unhide HR3).below hb (Nat.le_refl _))
    have HB4 := hide ((unhide HB3).trans (hb.mono (unhide HB3).size))
    clear hb HT3 HR3 HB3 HS2
    go_wp2_with fail
    have hal := (Below.refl w4.heap.size w4).alloc (Nat.le_refl _) (.cells #[.slice none 0 0, .slice none 0 0, .int .i64 0, .bool false] 93)
    refine (roomyI_any a cap zs (by omega) 77 _ ((unhide HR4).below hal (Nat.le_refl _))).mono ?_
    rintro e w5 ⟨rfl, hnum, hb⟩
    rw [World.size_alloc] at hnum hb
    have HN5 := hide hnum
    have HL5 := hide (hal.trans (hb.mono (by omega)))
    have HBK5 : Hid (BookS w5 w4.heap.size w4.heap.size [] (.slice none 0 0) (.slice none 0 0) 0) := hide ⟨⟨(Blk.new w4 _ _).below hb (by omega), SlAt.nil _ _ _, SlAt.nil _ _ _, .inl rfl, Nat.le_refl _⟩, by simp, List.Pairwise.nil⟩
    clear hb hal hnum
    have hzi : (zs.length : Int) ≤ 300 := by omega
    go_wp2
    go_loopw [18] (fun i wr => ∃ (k : Nat) (its : List ItS) (lv wv : Value) (h : Int), i = .int .i64 k ∧ k ≤ 2 ∧ its.length ≤ k ∧ Hid (BookS wr w4.heap.size w4.heap.size its lv wv h) ∧ Hid (NumsI wr (w4.heap.size + 1) (roomy zs 77)) ∧ Hid (Below w4.heap.size w4 wr)) (fun i _ => 2 - (intOf i).toNat)
    case atStart => exact ⟨0, [], _, _, _, rfl, by omega, by simp, HBK5, HN5, HL5⟩
    case round =>
      obtain ⟨k, its, lv, wv, h, rfl, hk, hil, HBK, HN, HL⟩ := hrel
      have hlo : w4.heap.size < wr.heap.size := (unhide HBK).bk.blk.lt
      have HTR := hide ((unhide HT4).below (unhide HL) (Nat.le_refl _))
      have HRR := hide ((unhide HR4).below (unhide HL) (Nat.le_refl _))
      by_cases hk2 : k < 2
      · have hk3 : (k : Int) < 2 := by omega
        have hrow : RowN wr (some ⟨w4.heap.size + 1, 0, none⟩) zs := by
          have q := NumsI.row (unhide HN) zs.length (by rw [roomy_length]; omega)
          rw [roomy_take] at q
          exact q
        have HROW := hide hrow
        clear hrow
        go_wp2_with fail
        refine (parts_text B s (by omega) _ _ zs (by omega) _ (unhide HTR) (unhide HROW)).mono ?_
        rintro e w6 ⟨v, rfl, hown, hb⟩
        have HO6 : Hid (w6.ownsRow wr.heap.size 9 1 v (pcL s zs).length (encS (pcL s zs))) := hide (by rw [pcL_enc, unhide HPL]; exact hown)
        have HDIS : Hid (∀ it ∈ its, it.v.ownBlock = none ∨ it.v.ownBlock ≠ v.ownBlock) := hide (fun it hi => by
          cases hv : it.v.ownBlock with
          | none => exact .inl rfl
          | some y =>
            refine .inr fun e => ?_
            have q1 := (((unhide HBK).own it hi).1.lt y hv).2
            have q2 := (hown.lt y e.symm).1
            omega)
        have HBK6 := hide ((unhide HBK).below (by omega) hb)
        have HN6 := hide (Blk.below (unhide HN) hb (Blk.lt (unhide HN)))
        have HL6 := hide ((unhide HL).trans (hb.mono (by omega)))
        have HR6 := hide ((unhide HRR).below hb (Nat.le_refl _))
        have hz6 : wr.heap.size ≤ w6.heap.size := hb.size
        clear hown hb
        go_wp2_with fail
        refine (refParts_any s (by omega) a cap zs hz _ (unhide HR6)).mono ?_
        rintro e w7 ⟨v3, rfl, hown, hb⟩
        have HO7 : Hid (w7.ownsRow w4.heap.size 9 1 v3 (pcL s zs).length (encS (pcL s zs))) := hide (by rw [pcL_enc, unhide HPL]; exact own_baseS hown (by omega))
        have HO67 := hide (own_baseS (own_below (unhide HO6) hb) (show w4.heap.size ≤ wr.heap.size by omega))
        have HBK7 := hide ((unhide HBK6).below (by omega) hb)
        have HN7 := hide (Blk.below (unhide HN6) hb (Blk.lt (unhide HN6)))
        have HL7 := hide ((unhide HL6).trans (hb.mono (by omega)))
        have hz7 : w6.heap.size ≤ w7.heap.size := hb.size
        clear hown hb
        go_wp2_with fail
        refine (same_ownS w4.heap.size _ _ (pcL s zs) _ (unhide HO67) (unhide HO7)).mono ?_
        rintro e w8 ⟨rfl, hb⟩
        have HO8 := hide (own_below (unhide HO67) hb)
        have HBK8 := hide ((unhide HBK7).below (by omega) hb)
        have HN8 := hide (Blk.below (unhide HN7) hb (Blk.lt (unhide HN7)))
        have HL8 := hide ((unhide HL7).trans (hb.mono (by omega)))
        have hz8 : w7.heap.size ≤ w8.heap.size := hb.size
        clear hb
        go_wp2_with fail
        refine (keep_anyS w8 w4.heap.size w4.heap.size its lv wv h _ (pcL s zs) (unhide HDIS) (unhide HO8) (by have := unhide HPL; omega) (by have := unhide HPL; unfold maxLen; omega) (unhide HBK8) (by omega) (by omega)).mono ?_
        rintro e w9 ⟨⟨r, rfl⟩, ⟨t, lv', wv', h', htn, _, htl, hbk⟩, hkk⟩
        have HBK9 := hide hbk
        have HN9 : Hid (NumsI w9 (w4.heap.size + 1) (roomy zs 77)) := hide (hkk.1 _ _ _ (unhide HN8) (by decide) (by omega))
        have HL9 := hide ((unhide HL8).trans hkk.2)
        clear hbk hkk
        go_wp2
        go_roundw
        case rel => exact ⟨k + 1, t, lv', wv', h', by go_num, by omega, by omega, HBK9, HN9, HL9⟩
        case measure => simp [intOf]; omega
      · have hk3 : ¬ (k : Int) < 2 := by omega
        go_wp2_with fail
        refine (intactI_any (w4.heap.size + 1) a cap zs (by omega) 77 _ (unhide HN) (unhide HRR)).mono ?_
        rintro e w6 ⟨rfl, hb⟩
        have HBK6 := hide ((unhide HBK).below (by omega) hb)
        have HL6 := hide ((unhide HL).trans (hb.mono (by omega)))
        have hz6 : wr.heap.size ≤ w6.heap.size := hb.size
        clear hb
        go_wp2_with fail
        refine (apart_anyS mkS (fun i j w hi _ => strings_any i j w hi) w6 w4.heap.size w4.heap.size its lv wv h (unhide HBK6) (by omega) (by omega)).mono ?_
        rintro e w7 ⟨rfl, hb⟩
        have HL7 := hide ((unhide HL6).trans hb)
        have HT7 := hide ((unhide HT4).below (unhide HL7) (Nat.le_refl _))
        clear hb
        go_wp2_with fail
        refine (string_text B s _ (unhide HT7)).mono ?_
        rintro e w8 ⟨rfl, rfl⟩
        go_wp2
        go_ret
        exact ⟨rfl, (unhide HB4).trans ((unhide HL7).mono (unhide HB4).size)⟩

theorem lpieces_any (s : ByteArray) (hm : s.size ≤ maxLen) (from_ to_ : Int) (a : Option Addr) (len cap : Nat) (z : List Int) (w : World) (hr : ArgRow .i64 w a len cap z) :
    Calls Try.prog 7 #[.string s, .int .i64 from_, .int .i64 to_, .slice a len cap] w fun e w' => e = .returned (.bool true) ∧ Below w.heap.size w w' := by
  by_cases hl : s.size ≤ 65536
  · by_cases hf : s.size ≤ 400
    · have hrow := hr.rowN
      obtain ⟨h1, h2, _⟩ := hr
      by_cases hn : len ≤ 300
      · exact lpieces_in s hf from_ to_ a len cap (z.take len) (.inl ⟨hn, by rw [List.length_take]; omega⟩) w hrow
      · refine lpieces_in s hf from_ to_ a len cap (z.take 300) (.inr ⟨by omega, h1, by rw [List.length_take]; omega⟩) w ?_
        intro h0
        obtain ⟨g, o, ha, hg, hcell⟩ := hrow (by rw [List.length_take]; omega)
        refine ⟨g, o, ha, hg, fun j hj => ?_⟩
        rw [List.length_take] at hj
        rw [hcell j (by rw [List.length_take]; omega)]
        simp only [List.getD, List.getElem?_take]
        rw [if_pos (by omega), if_pos (by omega)]
    · exact lpieces_many s hl hf from_ to_ a len cap w
  · exact lpieces_long s (by omega) hm from_ to_ a len cap w
end Go.Proofs.Ytinhmhkdofoneaa
