/- The reference's Lines, told for every text; Find of a text where there is no such place. -/
import Derived.Test.YtaafecaclkagiabRef2c
import Derived.Test.YtaafecaclkagiabSp3
import Derived.Deep.RegionLaw
import Derived.Deep.AppendLies
namespace Go.Proofs.Ytaafecaclkagiab
open Go.RowKit Go.Shelf
set_option linter.unusedVariables false

theorem ascii_rn (s : ByteArray) (i : Nat) (h : bt s i = 10) : rn s i = 10 := by
  have ht := at_told s i
  have h1 : (Utf8.decode s i).2 = 1 := by
    have := ht.pos
    rcases Nat.lt_or_ge (Utf8.decode s i).2 2 with e | e
    · omega
    · have := ht.lead e; omega
  rcases ht.one h1 with ⟨_, h2⟩ | ⟨h2, _⟩
  · omega
  · show (Utf8.decode s i).1 = 10
    omega
theorem ten_start (s : ByteArray) (i : Nat) (hi : i < s.size) (h : bt s i = 10) : ∃ n, n < (starts s).length ∧ pl s n = i := by
  have hb : bdB s i = true := (bd_iff s i).2 fun n h4 h1 hn => by
    rcases Nat.lt_or_ge n (wd s (i - n)) with e | e
    · have := wd_cont s (i - n) n (by omega) e
      rw [show i - n + n = i by omega, h] at this
      omega
    · exact e
  obtain ⟨n, hn, e⟩ := List.getElem_of_mem ((mem_starts s i hi).2 hb)
  refine ⟨n, hn, ?_⟩
  have h2 := pl_start s n hn
  rw [List.getElem?_eq_getElem hn, e] at h2
  exact (Option.some.inj h2).symm
theorem nl_ten (s : ByteArray) (k b : Nat) (h : (lns s)[k + 1]? = some (b + 1)) : bt s (pl s b) = 10 := by
  obtain ⟨h1, h2, h3⟩ := lns_nl s k b h
  have hl := pl_lt s b h1
  have h4 := get_extract s (pl s b) (pl s b + 1) 0 (by omega) (by omega)
  rw [h3] at h4
  show (s.get! (pl s b)).toNat = 10
  rw [Nat.add_zero] at h4
  rw [← h4]
  rfl
/-- k lines have ended before the byte i; the next begins at the spot a. -/
def Ended (s : ByteArray) (i k a : Nat) : Prop := (lns s)[k]? = some a ∧ pl s a ≤ i ∧ ∀ y, (lns s)[k + 1]? = some y → i ≤ pl s (y - 1)
/-- The text of the line number k. -/
def lnT (s : ByteArray) (k : Nat) : ByteArray := s.extract (pl s ((lns s).getD k 0)) (match (lns s)[k + 1]? with | some y => pl s (y - 1) | none => s.size)
def lnC (s : ByteArray) (n : Nat) : List Value := (List.range n).map (fun j => Value.string (lnT s j))
theorem lnC_succ (s : ByteArray) (n : Nat) : lnC s (n + 1) = lnC s n ++ [.string (lnT s n)] := by
  unfold lnC
  rw [List.range_succ, List.map_append]
  rfl
theorem lnC_at (s : ByteArray) (n k : Nat) (h : k < n) : (lnC s n)[k]? = some (.string (lnT s k)) := by
  unfold lnC
  rw [List.getElem?_map, List.getElem?_range h]
  rfl
theorem lnT_line (s : ByteArray) (k a b : Nat) (h : LineAt s k a b) : lnT s k = s.extract (pl s a) (pl s b) := by
  unfold lnT
  rw [List.getD, h.1]
  rcases h.2 with ⟨h1, rfl⟩ | h1
  · rw [List.getElem?_eq_none (by omega), pl_end]; rfl
  · rw [h1]; rfl
theorem ended_zero (s : ByteArray) : Ended s 0 0 0 := ⟨head_lns s, by rw [pl_zero]; exact Nat.le_refl _, fun y _ => Nat.zero_le _⟩
theorem ended_ten (s : ByteArray) (i k a : Nat) (h : Ended s i k a) (hi : i < s.size) (h10 : bt s i = 10) : ∃ n, Ended s (i + 1) (k + 1) n ∧ pl s n = i + 1 ∧ lnT s k = s.extract (pl s a) i := by
  obtain ⟨n, hn, rfl⟩ := ten_start s i hi h10
  obtain ⟨j, hj⟩ := lns_has s n hn (ascii_rn s _ h10)
  have hjk : j = k := by
    rcases Nat.lt_trichotomy j k with e | e | e
    · exfalso
      have hle : n + 1 ≤ a := by
        rcases Nat.lt_or_ge (j + 1) k with e2 | e2
        · have := rises_lns s (j + 1) k _ _ e2 hj h.1; omega
        · have h1 := h.1; rw [show k = j + 1 by omega, hj] at h1; cases h1; omega
      have h2 := pl_strict s n a (by omega) (lns_le s k a h.1)
      have := h.2.1
      omega
    · exact e
    · exfalso
      have hl := (List.getElem?_eq_some_iff.1 hj).1
      obtain ⟨y, hy⟩ : ∃ y, (lns s)[k + 1]? = some y := ⟨_, List.getElem?_eq_getElem (by omega)⟩
      have h1 := h.2.2 y hy
      have h2 := rises_lns s (k + 1) (j + 1) _ _ (by omega) hy hj
      have h3 := lns_pos s k y hy
      have h4 := pl_strict s (y - 1) n (by omega) (by omega)
      omega
  subst hjk
  have h5 := (lns_nl s j n hj).2.1
  refine ⟨n + 1, ⟨hj, by omega, fun y hy => ?_⟩, h5, ?_⟩
  · have h1 := rises_lns s (j + 1) (j + 1 + 1) _ _ (by omega) hj hy
    have h2 := lns_le s (j + 1 + 1) y hy
    have h3 := pl_mono s (n + 1) (y - 1) (by omega) (by omega)
    omega
  · exact lnT_line s j a n ⟨h.1, .inr hj⟩
theorem ended_no (s : ByteArray) (i k a : Nat) (h : Ended s i k a) (h10 : ¬ bt s i = 10) : Ended s (i + 1) k a := by
  refine ⟨h.1, by have := h.2.1; omega, fun y hy => ?_⟩
  have h1 := h.2.2 y hy
  rcases Nat.lt_or_ge i (pl s (y - 1)) with e | e
  · exact e
  · exfalso
    have h3 := lns_pos s k y hy
    rw [show y = (y - 1) + 1 by omega] at hy
    have := nl_ten s k (y - 1) hy
    rw [show pl s (y - 1) = i by omega] at this
    exact h10 this
theorem ended_end (s : ByteArray) (k a : Nat) (h : Ended s s.size k a) : k + 1 = (lns s).length ∧ lnT s k = s.extract (pl s a) s.size := by
  have hk := (List.getElem?_eq_some_iff.1 h.1).1
  have he : k + 1 = (lns s).length := by
    rcases Nat.lt_or_ge (k + 1) (lns s).length with e | e
    · exfalso
      obtain ⟨y, hy⟩ : ∃ y, (lns s)[k + 1]? = some y := ⟨_, List.getElem?_eq_getElem e⟩
      have h1 := h.2.2 y hy
      have h3 := lns_pos s k y hy
      have h4 := lns_le s (k + 1) y hy
      have h5 := pl_lt s (y - 1) (by omega)
      omega
    · omega
  refine ⟨he, ?_⟩
  have := lnT_line s k a (starts s).length ⟨h.1, .inl ⟨he, rfl⟩⟩
  rw [pl_end] at this
  exact this
theorem infoStrL : (Try.prog.info? 9).map (fun i => (i.zero, i.size, i.bytes)) = some (some (.string ⟨#[]⟩), 1, 16) := by kernel_rfl
theorem own_rangeL {W : World} {base e size n : Nat} {v : Value} {xs : List Value} (h : W.ownsRow base e size v n xs) : ∀ k, v.ownBlock = some k → base ≤ k := fun k hk => (h.lt k hk).1

set_option maxRecDepth 100000 in
set_option maxHeartbeats 4000000 in
theorem refLines_any (s : ByteArray) (hs : s.size ≤ 65536) (w : World) : Calls Try.prog 32 #[.string s] w fun e w' => ∃ v, e = .returned v ∧ w'.ownsRow w.heap.size 9 1 v (lns s).length (lnC s (lns s).length) ∧ Below w.heap.size w w' := by
  obtain ⟨i0, hi, hz0, hz1, hz2⟩ := info_parts infoStrL
  have HI := hide (And.intro hi (And.intro hz0 (And.intro hz1 hz2)))
  have hll := lns_length s
  have hnl := starts_length s
  have HLL : (lns s).length ≤ 65537 := by omega
  clear hi hz0 hz1 hz2 hll hnl
  go_enter Try.func32, Try.ntmps32
  go_wp2
  go_loopw [3, 4, 5] (fun v f i wr => ∃ j k a p : Nat, j ≤ s.size ∧ i = .int .i64 j ∧ f = .int .i64 p ∧ p = pl s a ∧ p ≤ j ∧ k < (lns s).length ∧ Hid (Ended s j k a) ∧ Hid (wr.ownsRow w.heap.size 9 1 v k (lnC s k)) ∧ Hid (Below w.heap.size w wr)) (fun _ _ i _ => s.size - (intOf i).toNat)
  case atStart => exact ⟨0, 0, 0, 0, by omega, rfl, rfl, (pl_zero s).symm, by omega, (List.getElem?_eq_some_iff.1 (head_lns s)).1, hide (ended_zero s), hide (World.ownsRow_nil _ _ _ _), hide (Below.refl _ _)⟩
  case round =>
    obtain ⟨j, k, a, p, hj, rfl, rfl, hpa, hpj, hkl, HE, HO, HB⟩ := hrel
    by_cases hjn : j < s.size
    · have j1 : (j : Int) < (s.size : Int) := by omega
      have j2 : ((j : Nat) : Int).toNat = j := by omega
      have HG := hide (bt_get s j hjn)
      by_cases h10 : bt s j = 10
      · obtain ⟨n2, he2, hp2, hlt⟩ := ended_ten s j k a (unhide HE) hjn h10
        have hk2 : k + 1 < (lns s).length := (List.getElem?_eq_some_iff.1 he2.1).1
        have HE2 := hide he2
        have HP2 := hide hp2
        have HLT := hide (show s.extract p j = lnT s k by rw [hlt, hpa])
        have hg := unhide HG
        rw [h10] at hg
        have hgi : ((s[j].toNat : Nat) : Int) = 10 := by omega
        have p1 : (p : Int) ≤ (j : Int) := by omega
        have j3 : (j : Int) ≤ 65536 := by omega
        have k3 : k ≤ 65537 := by omega
        have p2 : (p : Int) ≤ (s.size : Int) := by omega
        have j4 : (j : Int) ≤ (s.size : Int) := by omega
        clear he2 hp2 hlt hg h10 HG hpa
        go_wp2_with (at_builtin; refine wpList_append_own _ rfl _ _ 54 rfl w.heap.size 9 i0 (.string ⟨#[]⟩) 1 16 Try.underlying54 (unhide HI).1 (unhide HI).2.1 (unhide HI).2.2.1 (unhide HI).2.2.2 rfl (by decide) _ _ _ rfl ((unhide HO).alloc _) ⟨wr.heap.size, 0, none⟩ 1 1 [.string (s.extract p j)] rfl rfl (one_new _ _ _) ?c0 ?c1 ?c2 ?c3 ?_)
        case c0 => first | rfl | (intro u hu; simp at hu; rw [hu]; rfl)
        case c1 => unfold maxLen; omega
        case c2 => omega
        case c3 => have := (unhide HB).size; simp; omega
        intro v' w3 hown' hgrow _
        rw [unhide HLT] at hown'
        have hB2a := (unhide HB).alloc (unhide HB).size (.cells #[.string (s.extract p j)] 9)
        have HB3 := hide (hB2a.grown hgrow (by have := (unhide HB).size; simp; omega) (own_rangeL (unhide HO)))
        have HO3 := hide hown'
        clear hown' hgrow hB2a
        go_wp2
        go_roundw
        case rel =>
          refine ⟨j + 1, k + 1, n2, j + 1, by omega, by go_num, by go_num, (unhide HP2).symm, Nat.le_refl _, hk2, HE2, hide ?_, HB3⟩
          rw [lnC_succ]; exact unhide HO3
        case measure => simp [intOf]; omega
      · have HE2 := hide (ended_no s j k a (unhide HE) h10)
        have hg := unhide HG
        have hgi : (((s[j].toNat : Nat) : Int) == 10) = false := beq_eq_false_iff_ne.2 (by omega)
        have HPA := hide hpa
        clear h10 HG hpa hg
        go_wp2
        go_roundw
        case rel => exact ⟨j + 1, k, a, p, by omega, by go_num, rfl, unhide HPA, by omega, hkl, HE2, HO, HB⟩
        case measure => simp [intOf]; omega
    · obtain rfl : j = s.size := by omega
      have j1 : ¬ ((s.size : Nat) : Int) < (s.size : Int) := by omega
      obtain ⟨hke, hlt⟩ := ended_end s k a (unhide HE)
      have HKE := hide hke
      have HLT := hide (show s.extract p s.size = lnT s k by rw [hlt, hpa])
      have p1 : (p : Int) ≤ (s.size : Int) := by omega
      have k3 : k ≤ 65537 := by omega
      clear hke hlt hpa hjn
      go_wp2_with (at_builtin; refine wpList_append_own _ rfl _ _ 54 rfl w.heap.size 9 i0 (.string ⟨#[]⟩) 1 16 Try.underlying54 (unhide HI).1 (unhide HI).2.1 (unhide HI).2.2.1 (unhide HI).2.2.2 rfl (by decide) _ _ _ rfl ((unhide HO).alloc _) ⟨wr.heap.size, 0, none⟩ 1 1 [.string (s.extract p s.size)] rfl rfl (one_new _ _ _) ?c0 ?c1 ?c2 ?c3 ?_)
      case c0 => first | rfl | (intro u hu; simp at hu; rw [hu]; rfl)
      case c1 => unfold maxLen; omega
      case c2 => omega
      case c3 => have := (unhide HB).size; simp; omega
      intro v' w3 hown' hgrow _
      rw [unhide HLT] at hown'
      have hB2a := (unhide HB).alloc (unhide HB).size (.cells #[.string (s.extract p s.size)] 9)
      have HB3 := hide (hB2a.grown hgrow (by have := (unhide HB).size; simp; omega) (own_rangeL (unhide HO)))
      have HO3 := hide hown'
      clear hown' hgrow hB2a
      go_wp2
      go_ret
      refine ⟨_, rfl, ?_, unhide HB3⟩
      rw [← unhide HKE, lnC_succ]
      exact unhide HO3
end Go.Proofs.Ytaafecaclkagiab
