/- A Book of tables: what every table says alike: the sets. -/
import Derived.Test.YtnnbaodillnkkaaGreatTlK
namespace Go.Proofs.YtnnbaodillnkkaaGreat
open Go.RowKit Go.Shelf Go.Maps
set_option linter.unusedVariables false
def lowL : List (Int × Int) := [(0, 127)] ++ [(65533, 65533)]
def unfL : List (Int × Int) := [(0, 64), (91, 127), (65533, 65533), (65533, 65533)]
def stiL : List (Int × Int) := [(0, 31), (45, 46), (65533, 65533)]
def comS : List (Int × Int) := [(45, 46), (48, 57)]
def labS : List (Int × Int) := [(45, 45), (48, 57), (97, 122)]
def nevL : List (Int × Int) := [(0, 44), (46, 47), (58, 96), (123, 127), (123, 127)]
theorem low_eq {r : Int} (h : runeB r = true) : memB lowL r = lowR r := by
  have := runeB_iff h
  unfold memB lowR lowL
  rw [h, Bool.and_true, Bool.eq_iff_iff]
  simp
  omega
theorem unf_eq {r : Int} (h : runeB r = true) : memB unfL r = (lowR r && decide (r < 65 ∨ 90 < r)) := by
  have := runeB_iff h
  unfold memB lowR unfL
  rw [h, Bool.and_true, Bool.eq_iff_iff]
  simp
  omega
theorem sti_eq {r : Int} (h : runeB r = true) : memB stiL r = setR r := by
  have := runeB_iff h
  unfold memB setR stiL
  rw [h, Bool.and_true, Bool.eq_iff_iff]
  simp
  omega
theorem any_sti (s : ByteArray) : (runesL s).any (memB stiL) = setsB s := by
  unfold setsB
  rw [Bool.eq_iff_iff, List.any_eq_true, List.any_eq_true]
  constructor
  · rintro ⟨x, hx, e⟩
    exact ⟨x, hx, by rw [← sti_eq (runes_rune hx)]; exact e⟩
  · rintro ⟨x, hx, e⟩
    exact ⟨x, hx, by rw [sti_eq (runes_rune hx)]; exact e⟩
theorem unf_min (r : Int) : memB unfL r = (memB lowL r && !memB [(65, 90)] r) := by
  unfold memB unfL lowL
  cases runeB r with
  | false => simp
  | true =>
    rw [Bool.and_true, Bool.and_true, Bool.and_true, Bool.eq_iff_iff]
    simp
    omega
theorem nev_min (r : Int) : memB nevL r = (memB [(0, 127)] r && !memB labS r) := by
  unfold memB nevL labS
  cases runeB r with
  | false => simp
  | true =>
    rw [Bool.and_true, Bool.and_true, Bool.and_true, Bool.eq_iff_iff]
    simp
    omega
theorem rune_small {r : Int} (h0 : 0 ≤ r) (h1 : r ≤ 127) : runeB r = true := by
  unfold runeB
  simp
  omega
theorem low_within {x : Int × Int} (h1 : runeB x.1 = true) (h : x.1 ≤ x.2) : decide (x.1 < 128 ∨ (x.1 ≤ 65533 ∧ 65533 ≤ x.2)) = true ↔ ∃ t, memB lowL t = true ∧ x.1 ≤ t ∧ t ≤ x.2 := by
  have hr := runeB_iff h1
  rw [decide_eq_true_eq]
  constructor
  · rintro (c | c)
    · exact ⟨x.1, by rw [low_eq h1]; simp [lowR, c], Int.le_refl _, h⟩
    · exact ⟨65533, by decide, c.1, c.2⟩
  · rintro ⟨t, ht, h2, h3⟩
    have hrt := ((memB_iff lowL t).1 ht).2
    rw [low_eq hrt] at ht
    simp [lowR] at ht
    omega
theorem lab_iff (k : Int) : labR k = true ↔ k = 45 ∨ (48 ≤ k ∧ k ≤ 57) ∨ (97 ≤ k ∧ k ≤ 122) := by
  unfold labR
  rw [decide_eq_true_eq]
theorem lab_mem {r : Int} (h : runeB r = true) : memB labS r = labR r := by
  unfold memB labS
  rw [h, Bool.and_true, Bool.eq_iff_iff, lab_iff]
  simp
  omega
theorem nev_within {x : Int × Int} : (List.range 128).any (fun k => decide (x.1 ≤ (k : Int) ∧ (k : Int) ≤ x.2) && !labR k) = true ↔ ∃ t, memB nevL t = true ∧ x.1 ≤ t ∧ t ≤ x.2 := by
  rw [List.any_eq_true]
  constructor
  · rintro ⟨k, hk, e⟩
    rw [Bool.and_eq_true, decide_eq_true_eq] at e
    have hk := List.mem_range.1 hk
    have hr : runeB (k : Int) = true := rune_small (by omega) (by omega)
    refine ⟨k, ?_, e.1.1, e.1.2⟩
    rw [nev_min, lab_mem hr, e.2, Bool.and_true, memB_iff]
    exact ⟨⟨(0, 127), by simp, by dsimp only; omega, by dsimp only; omega⟩, hr⟩
  · rintro ⟨t, ht, h2, h3⟩
    rw [nev_min, Bool.and_eq_true] at ht
    obtain ⟨ha, hb⟩ := ht
    obtain ⟨⟨y, hy, h4, h5⟩, hr⟩ := (memB_iff _ _).1 ha
    obtain rfl : y = (0, 127) := by simpa using hy
    dsimp only at h4 h5
    refine ⟨t.toNat, List.mem_range.2 (by omega), ?_⟩
    rw [show ((t.toNat : Nat) : Int) = t by omega, ← lab_mem hr, hb, Bool.and_true, decide_eq_true_eq]
    exact ⟨h2, h3⟩
theorem com_mem {r : Int} (h : memB comS r = true) : r ∈ comL := by
  obtain ⟨⟨y, hy, h4, h5⟩, hr⟩ := (memB_iff _ _).1 h
  simp [comS] at hy
  rcases hy with rfl | rfl
  all_goals
    dsimp only at h4 h5
    simp [comL]
    omega
theorem com_lack (l : List (Int × Int)) : comL.all (fun r => memB l r) = true ↔ ∀ r, memB comS r = true → memB l r = true := by
  rw [List.all_eq_true]
  constructor
  · intro h r hr
    exact h r (com_mem hr)
  · intro h r hr
    refine h r ?_
    simp [comL] at hr
    rcases hr with rfl | rfl | rfl | rfl | rfl | rfl | rfl | rfl | rfl | rfl | rfl | rfl
    all_goals decide
theorem lab_memL {r : Int} (h : memB labS r = true) : r ∈ labL := by
  obtain ⟨⟨y, hy, h4, h5⟩, hr⟩ := (memB_iff _ _).1 h
  unfold labL
  rw [List.mem_append]
  simp [labS] at hy
  rcases hy with rfl | rfl | rfl
  · dsimp only at h4 h5
    refine .inl ?_
    simp
    omega
  · dsimp only at h4 h5
    refine .inl ?_
    simp
    omega
  · dsimp only at h4 h5
    refine .inr (List.mem_map.2 ⟨(r - 97).toNat, List.mem_range.2 (by omega), by omega⟩)
theorem lab_lack (l : List (Int × Int)) : labL.all (fun r => memB l r) = true ↔ ∀ r, memB labS r = true → memB l r = true := by
  rw [List.all_eq_true]
  constructor
  · intro h r hr
    exact h r (lab_memL hr)
  · intro h r hr
    refine h r ?_
    unfold labL at hr
    rw [List.mem_append] at hr
    rcases hr with hr | hr
    · simp at hr
      rcases hr with rfl | rfl | rfl | rfl | rfl | rfl | rfl | rfl | rfl | rfl | rfl
      all_goals decide
    · obtain ⟨k, hk, rfl⟩ := List.mem_map.1 hr
      have := List.mem_range.1 hk
      rw [memB_iff]
      exact ⟨⟨(97, 122), by simp [labS], by dsimp only; omega, by dsimp only; omega⟩, rune_small (by omega) (by omega)⟩
theorem blkRow {w : World} {g : Nat} {l : List (Int × Int)} {cs : Array Value} {t : TypeId} (b : Blk w g cs t) (e : cs = (encS2 l).toArray) : RowC w w.heap.size (some ⟨g, 0, none⟩) (encS2 l) := fun _ => ⟨g, 0, rfl, b.lt, fun j v hv => by
  rw [Nat.zero_add, b.cell j, e, List.getElem?_toArray]
  exact hv⟩
theorem setLit_any (l : List (Int × Int)) (n : Nat) (hn : n = l.length) (hl : l.length ≤ 10) (hR : RightL l) (g : Nat) (cs : Array Value) (t : TypeId) (w : World) (b : Blk w g cs t) (e : cs = (encS2 l).toArray) :
    Calls Tryz.prog 53 #[.slice (some ⟨g, 0, none⟩) n n] w fun e w' => ∃ (B : Nat), e = .returned (.pointer (some ⟨B, 0, none⟩)) ∧ SetV w' l B ∧ Below w.heap.size w w' := by
  subst hn
  exact setOf_made _ _ l (by omega) hR w (rowP_of (blkRow b e) (Nat.le_refl _))
theorem unionV_any {l1 l2 : List (Int × Int)} {C1 C2 : Nat} {w : World} (n1 : l1.length ≤ 5000) (n2 : l2.length ≤ 5000) (h1 : SetV w l1 C1) (h2 : SetV w l2 C2) :
    Calls Tryz.prog 114 #[.pointer (some ⟨C1, 0, none⟩), .pointer (some ⟨C2, 0, none⟩)] w fun e w' => ∃ (B : Nat), e = .returned (.pointer (some ⟨B, 0, none⟩)) ∧ SetV w' (l1 ++ l2) B ∧ Below w.heap.size w w' := by
  obtain ⟨zs, lo1, a1, a2, a3, a4⟩ := h1
  obtain ⟨ys, lo2, b1, b2, b3, b4⟩ := h2
  refine (union_any C1 (some ⟨C2, 0, none⟩) zs ys (by omega) (by omega) w (a1.set a2 (by omega)) (.inr ⟨C2, rfl, b1.set b2 (by omega)⟩)).mono ?_
  rintro e w' ⟨B', lo0, us, rfl, _, u1, u2, u3, u4, hb⟩
  exact ⟨B', rfl, ⟨us, lo0, u1, u2, by rw [List.length_append]; omega, fun r => by rw [u4, a4, b4, memB_append]⟩, hb⟩
theorem minusV_any {l1 l2 l : List (Int × Int)} {C1 C2 : Nat} {w : World} (n1 : l1.length ≤ 2000) (n2 : l2.length ≤ 2000) (hl : l1.length + l2.length + 1 ≤ l.length) (hm : ∀ r, memB l r = (memB l1 r && !memB l2 r)) (h1 : SetV w l1 C1) (h2 : SetV w l2 C2) :
    Calls Tryz.prog 115 #[.pointer (some ⟨C1, 0, none⟩), .pointer (some ⟨C2, 0, none⟩)] w fun e w' => ∃ (B : Nat), e = .returned (.pointer (some ⟨B, 0, none⟩)) ∧ SetV w' l B ∧ Below w.heap.size w w' := by
  obtain ⟨zs, lo1, a1, a2, a3, a4⟩ := h1
  obtain ⟨ys, lo2, b1, b2, b3, b4⟩ := h2
  refine (minus_any C1 (some ⟨C2, 0, none⟩) zs ys (by omega) (by omega) w (a1.set a2 (by omega)) (.inr ⟨C2, rfl, b1.set b2 (by omega)⟩)).mono ?_
  rintro e w' ⟨B', lo0, us, rfl, _, u1, u2, u3, u4, hb⟩
  exact ⟨B', rfl, ⟨us, lo0, u1, u2, by omega, fun r => by rw [u4, a4, b4, hm]⟩, hb⟩
end Go.Proofs.YtnnbaodillnkkaaGreat
