/- remark: a remark's bytes, or what stands ahead of what is wrong in it. -/
import Derived.Test.YtncmabmpkdmpfaaDoorScQuo
namespace Go.Proofs.YtncmabmpkdmpfaaDoor
open Go.RowKit Go.Shelf
set_option linter.unusedVariables false
theorem cut_sh (s sep : ByteArray) (m : Int) (w : World) (hs : s.size < 4294967281) (hm : w.cell? ⟨0, 0, none⟩ = some (.int .i64 m)) :
    Calls Tryd.prog 89 #[.string s, .string sep] w fun e w' => e = .returned (.tuple #[.string ⟨(Lib.cut s.data.toList sep.data.toList).1.toArray⟩, .string ⟨(Lib.cut s.data.toList sep.data.toList).2.1.toArray⟩, .bool (Lib.cut s.data.toList sep.data.toList).2.2]) ∧ ∃ n, w' = w.drewN n := Any.strings_Cut lay145 s sep m w hs hm
/-- Where the first line ends. -/
def nlAt (t : ByteArray) : Nat := scanTo (fun n => !decide (bt t n = 10)) t.size 0
theorem nlAt_le (t : ByteArray) : nlAt t ≤ t.size := (scanTo_le _ (Nat.zero_le _)).2
theorem scanTo_all {p : Nat → Bool} {hi m : Nat} : ∀ k n, m = n + k → m ≤ hi → (∀ j, n ≤ j → j < m → p j = true) → scanTo p hi n = scanTo p hi m
  | 0, n, h, _, _ => by rw [h]; rfl
  | k + 1, n, h, hm, hp => by
    rw [scanTo_go (by omega) (hp n (Nat.le_refl _) (by omega))]
    exact scanTo_all k (n + 1) (by omega) hm (fun j h1 h2 => hp j (by omega) h2)
theorem bt_list (t : ByteArray) (k : Nat) (h : k < t.size) : t.data.toList[k]? = some (t.get! k) := by
  rw [get_lt t k h]; simp
theorem cut_nl (t : ByteArray) : (⟨(Lib.cut t.data.toList [10]).1.toArray⟩ : ByteArray) = t.extract 0 (nlAt t) := by
  have hx := Lib.index_one t.data.toList 10
  have hlen : t.data.toList.length = t.size := Array.length_toList
  unfold Lib.cut
  rw [hx]
  by_cases h : 0 ≤ Lib.indexByte t.data.toList 10
  · obtain ⟨o, ho⟩ : ∃ o : Nat, Lib.indexByte t.data.toList 10 = o := ⟨(Lib.indexByte t.data.toList 10).toNat, by omega⟩
    obtain ⟨h1, h2⟩ := Lib.indexByte_some ho
    have hos : o < t.size := by rw [← hlen]; exact (List.getElem?_eq_some_iff.1 h1).1
    have e : nlAt t = o := by
      unfold nlAt
      rw [scanTo_all (m := o) o 0 (by omega) (by omega) (fun j _ hj => ?_), scanTo_no ?_]
      · rw [bt_list t o hos] at h1
        have : t.get! o = 10 := Option.some.inj h1
        unfold bt
        rw [this]; rfl
      · have := h2 j hj
        rw [bt_list t j (by omega)] at this
        have hn : t.get! j ≠ 10 := fun e => this (by rw [e])
        have : ¬ bt t j = 10 := fun e => hn (UInt8.toNat.inj (by unfold bt at e; rw [e]; rfl))
        simp [this]
    rw [if_pos h, ho, e]
    apply ByteArray.ext
    rw [ByteArray.data_extract]
    apply Array.toList_inj.1
    simp [Array.toList_extract, List.extract]
  · have hn : Lib.indexByte t.data.toList 10 = -1 := by have := Lib.indexByte_ge t.data.toList 10; omega
    have h2 := Lib.indexByte_none hn
    have e : nlAt t = t.size := by
      unfold nlAt
      rw [scanTo_all (m := t.size) t.size 0 (by omega) (by omega) (fun j _ hj => ?_), scanTo_end (by omega)]
      have := h2 j
      rw [bt_list t j hj] at this
      have hn : t.get! j ≠ 10 := fun e => this (by rw [e])
      have : ¬ bt t j = 10 := fun e => hn (UInt8.toNat.inj (by unfold bt at e; rw [e]; rfl))
      simp [this]
    rw [if_neg h, e, ByteArray.extract_zero_size]
/-- The first bad spot. -/
def badOf (s : ByteArray) : Option Nat := (starts s).find? (badB s)
theorem validV_some {s : ByteArray} {x : Nat} (h : badOf s = some x) : ∃ y : Nat, validV s = .tuple #[.agg #[.int .i64 x, .int .i64 y], .bool false] := by
  obtain ⟨hb, q, r, e, hq⟩ := List.find?_eq_some_iff_append.1 h
  refine ⟨q.length, ?_⟩
  unfold validV
  rw [e, validFrom_some s x r hb q 0 (fun i hi => by simpa using hq i hi), Nat.zero_add]
theorem validV_none {s : ByteArray} (h : badOf s = none) : validV s = .tuple #[.agg #[.int .i64 0, .int .i64 0], .bool true] := by
  unfold validV
  exact validFrom_none s _ 0 (fun i hi => by simpa using List.find?_eq_none.1 h i hi)
/-- The remark's bytes, and whether it is right. -/
def remV (t : ByteArray) : Nat × Bool :=
  match badOf (t.extract 0 (nlAt t)) with
  | none => ((t.extract 0 (nlAt t)).size, true)
  | some x => (x + begLen ((t.extract 0 (nlAt t)).extract x (t.extract 0 (nlAt t)).size), false)
abbrev tupB (x : Nat × Bool) : Value := .tuple #[.int .i64 x.1, .bool x.2]
theorem tupB_mk {n : Nat} {i : Int} {b : Bool} (h : i = n) : Ending.returned (.tuple #[.int .i64 i, .bool b]) = .returned (tupB (n, b)) := by subst h; rfl
theorem wrap_i64 {n : Int} (h1 : -9223372036854775808 ≤ n) (h2 : n ≤ 9223372036854775807) : IntKind.i64.wrap n = n := by
  simp [IntKind.wrap, IntKind.bits, IntKind.signed]
  omega
end Go.Proofs.YtncmabmpkdmpfaaDoor
