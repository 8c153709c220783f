/- Texts of this claim, one behind the other. -/
import Derived.Test.YtemmflhofhngbaaSoPdq
import Derived.Test.YtemmflhofhngbaaSetOf
/- gather: a set of runes. -/
namespace Go.Proofs.Ytemmflhofhngbaa
open Go.RowKit Go.Shelf
set_option linter.unusedVariables false
/-- Each rune as a span. -/
def dup (zs : List Int) : List (Int × Int) := zs.map fun x => (x, x)
theorem dup_length (zs : List Int) : (dup zs).length = zs.length := by simp [dup]
theorem dup_at {zs : List Int} {k : Nat} {x : Int × Int} (h : (dup zs)[k]? = some x) : zs[k]? = some x.1 ∧ x.2 = x.1 := by
  unfold dup at h
  rw [List.getElem?_map] at h
  cases e : zs[k]? with
  | none => rw [e] at h; cases h
  | some y => rw [e] at h; cases h; exact ⟨rfl, rfl⟩
theorem dup_right {zs : List Int} (h : ∀ x ∈ zs, runeB x = true) : RightL (dup zs) := fun x hx => by
  obtain ⟨y, hy, rfl⟩ := List.mem_map.1 hx
  exact ⟨endsB_mk (h y hy) (h y hy), Int.le_refl _⟩
/-- Nothing to sort. -/
theorem so_ins0 (p : Option Addr) (cap : Nat) (w : World) : Calls Try.prog 81 #[.slice p 0 cap, .int .i64 0, .int .i64 0] w fun e w' => e = .returned (.tuple #[]) ∧ w' = w := by
  go_enter Try.func81, Try.ntmps81
  go_wp2
  go_loopw [6] (fun vi wr => vi = .int .i64 1 ∧ wr = w) (fun vi _ => 0)
  case atStart => exact ⟨rfl, rfl⟩
  case round =>
    obtain ⟨rfl, rfl⟩ := hrel
    go_wp2
    go_end0
    exact ⟨rfl, rfl⟩
theorem so_pdq0 (p : Option Addr) (cap : Nat) (w : World) : Calls Try.prog 74 #[.slice p 0 cap, .int .i64 0, .int .i64 0, .int .i64 0] w fun e w' => e = .returned (.tuple #[]) ∧ w' = w := by
  go_enter Try.func74, Try.ntmps74
  go_wp2_with fail
  go_loopw [1, 2, 3, 8, 9] (fun s1 s2 s3 s8 s9 wr => s1 = .int .i64 0 ∧ s2 = .int .i64 0 ∧ s3 = .int .i64 0 ∧ s8 = .bool true ∧ s9 = .bool true ∧ wr = w) (fun _ _ _ _ _ _ => 0)
  case atStart => exact ⟨rfl, rfl, rfl, rfl, rfl, rfl⟩
  case round =>
    obtain ⟨rfl, rfl, rfl, rfl, rfl, rfl⟩ := hrel
    go_wp2_with (go_at_call 81; refine (so_ins0 p cap _).mono ?_; rintro e w1 ⟨rfl, rfl⟩)
    (try simp only [Exit.inBlock, Exit.then])
    refine bodyPost_ret (results_none rfl _ _ _) rfl ?_
    exact ⟨rfl, rfl⟩
theorem so_sort0 (p : Option Addr) (cap : Nat) (w : World) : Calls Try.prog 60 #[.slice p 0 cap] w fun e w' => e = .returned (.tuple #[]) ∧ w' = w := by
  have HL := hide (len_any 0 (by omega))
  have e0 : Sort.bitsLen 0 = 0 := by decide
  rw [e0] at HL
  go_enter Try.func60, Try.ntmps60
  go_wp2_with (first | (go_at_call 58; refine (unhide HL _).mono ?_; rintro e w' ⟨rfl, rfl⟩) | (go_at_call 74; refine (so_pdq0 p cap _).mono ?_; rintro e w' ⟨rfl, rfl⟩))
  go_end0
  exact ⟨rfl, rfl⟩
theorem perm_list {zs : List Int} {d : Array Int} (h : Sort.PermIn 0 zs.length zs.toArray d) : d.toList.Perm zs := by
  have h1 := h.1
  have h2 := h.2.2
  rw [show zs.toArray.extract 0 zs.length = zs.toArray by simp, show d.extract 0 zs.length = d by rw [show zs.length = d.size by simpa using h1.symm]; simp] at h2
  simpa using h2
theorem rise_list {zs : List Int} {d : Array Int} (hz : d.size = zs.length) (h : Sort.SortedIn Sort.ltInt 0 zs.length d) : RisingL (dup d.toList) := fun i j x y hij hx hy => by
  have a := (dup_at hx).1
  have b := (dup_at hy).1
  have hi := (List.getElem?_eq_some_iff.1 a)
  have hj := (List.getElem?_eq_some_iff.1 b)
  obtain ⟨i1, i2⟩ := hi
  obtain ⟨j1, j2⟩ := hj
  have hs := ltI_f (h i j (Nat.zero_le _) hij (by simp at j1; omega))
  rw [← i2, ← j2]
  simp at i1 j1
  simpa [getElem!_pos, i1, j1] using hs
/-- slices.Sort at a list of runes that lies from base on: the same ones, rising; nothing ahead of base changes. -/
theorem sort_row (p : Option Addr) (cap base : Nat) (zs : List Int) (hz : zs.length ≤ 1000000) (w : World) (hb : base ≤ w.heap.size) (hr : 0 < zs.length → ∃ g o, p = some ⟨g, o, none⟩ ∧ base ≤ g ∧ g < w.heap.size ∧ Sort.Holds (Value.int .i32) w g o zs.toArray) :
    Calls Try.prog 60 #[.slice p zs.length cap] w fun e w' => e = .returned (.tuple #[]) ∧ ∃ ys : List Int, ys.Perm zs ∧ RisingL (dup ys) ∧ (0 < zs.length → ∃ g o, p = some ⟨g, o, none⟩ ∧ g < w'.heap.size ∧ ∀ j x, ys[j]? = some x → w'.cell? ⟨g, o + j, none⟩ = some (.int .i32 x)) ∧ Below base w w' := by
  cases zs with
  | nil => exact (so_sort0 p cap w).mono fun e w' ⟨h1, h2⟩ => ⟨h1, [], List.Perm.refl _, fun i j x y _ h => by simp [dup] at h, fun h => by simp at h, h2 ▸ Below.refl _ _⟩
  | cons z zs =>
    obtain ⟨g, o, rfl, hg, hgl, hH⟩ := hr (by simp)
    refine (so_sort g o cap (z :: zs).length hz (z :: zs).toArray (by simp) w hgl hH).mono fun e w' ⟨h1, d, h2, h3, h4⟩ => ⟨h1, d.toList, perm_list h2, rise_list (by have := h2.1; simpa using this) h3, fun _ => ⟨g, o, rfl, Nat.lt_of_lt_of_le hgl h4.gr.size, fun j x hx => ?_⟩, ⟨h4.gr.os, h4.gr.tape, h4.gr.output, h4.gr.size, fun k hk => h4.gr.block k (by omega) (fun e => by injection e; omega)⟩⟩
    obtain ⟨j1, j2⟩ := List.getElem?_eq_some_iff.1 hx
    simp at j1
    have := (h4.row j j1).1
    rw [this]
    simp [getElem!_pos, j1, ← j2]
end Go.Proofs.Ytemmflhofhngbaa
/- gather: a set of runes. -/
namespace Go.Proofs.Ytemmflhofhngbaa
open Go.RowKit Go.Shelf
set_option linter.unusedVariables false
set_option maxRecDepth 100000 in
set_option maxHeartbeats 4000000 in
theorem gather_any (p : Option Addr) (cap base : Nat) (zs : List Int) (hz : zs.length ≤ 1000000) (hR : ∀ x ∈ zs, runeB x = true) (w : World) (hb : base ≤ w.heap.size) (hr : 0 < zs.length → ∃ g o, p = some ⟨g, o, none⟩ ∧ base ≤ g ∧ g < w.heap.size ∧ Sort.Holds (Value.int .i32) w g o zs.toArray) :
    Calls Try.prog 41 #[.slice p zs.length cap] w fun e w' => ∃ (B lo0 : Nat) (us : List (Int × Int)), e = .returned (.pointer (some ⟨B, 0, none⟩)) ∧ w.heap.size ≤ lo0 ∧ Made w' B lo0 us ∧ Spread us ∧ us.length ≤ zs.length ∧ (∀ r, memB us r = memB (dup zs) r) ∧ Below base w w' := by
  have HRR := hide (dup_right hR)
  have HC := hide (sort_row p cap base zs hz w hb hr)
  clear hr hR
  go_enter Try.func41, Try.ntmps41
  go_wp2_with fail
  refine (unhide HC).mono ?_
  rintro e w4 ⟨rfl, d, hperm, hris, hrow, hb4⟩
  have hdl : d.length = zs.length := hperm.length_eq
  have HPm : Hz ((dup d).Perm (dup zs)) := hide (hperm.map _)
  have HRs := hide hris
  have HRw := hide hrow
  have HB4 := hide hb4
  clear hperm hris hrow hb4 HC
  have hsz := (unhide HB4).size
  go_wp2_with fail
  go_loopw [12] (fun i wr => ∃ k : Nat, i = .int .i64 k ∧ k ≤ zs.length ∧ Hz (Grows wr w4.heap.size w4.heap.size (layAll ((dup d).take k))) ∧ Hz (Below w4.heap.size w4 wr)) (fun i _ => zs.length - (intOf i).toNat)
  case atStart => exact ⟨0, rfl, by omega, hide (grows_new w4 _ rfl), hide ((Below.refl _ w4).alloc (Nat.le_refl _) _)⟩
  case round =>
    obtain ⟨k, rfl, hk, HG, HB⟩ := hrel
    by_cases hkn : k < zs.length
    · have hk1 : (k : Int) < (zs.length : Int) := by omega
      have hk2 : ((k : Nat) : Int).toNat = k := by omega
      obtain ⟨x, hx⟩ : ∃ x, d[k]? = some x := ⟨_, List.getElem?_eq_getElem (by omega)⟩
      have hx2 : (dup d)[k]? = some (x, x) := by unfold dup; rw [List.getElem?_map, hx]; rfl
      have HT := hide (take_more hx2)
      obtain ⟨g, o, rfl, hg, hc⟩ := unhide HRw (by omega)
      have c0 := ((unhide HB).cell (p := ⟨g, o + k, none⟩) hg).trans (hc k x hx)
      have HL := hide (layAll_take (unhide HPm) (unhide HRR) (unhide HRs) k)
      have HX := hide ((unhide HL).2.2 (x, x) (List.mem_of_getElem? hx2))
      have hld : (dup d).length = zs.length := by rw [dup_length]; exact hdl
      have hbd := (unhide HL).2.1
      have hbd2 : (layAll ((dup d).take k)).length ≤ 1000000 := by omega
      have HBD := hide hbd2
      clear hc hx hx2 hld hbd hbd2
      go_wp2_with fail
      refine (lay_any w4.heap.size w4.heap.size (layAll ((dup d).take k)) (x, x) (unhide HBD) (unhide HL).1 (unhide HX).1 _ (unhide HG) (unhide HB).size).mono ?_
      rintro e w6 ⟨⟨r, rfl⟩, hG, hb, _⟩
      rw [← layAll_snoc, ← unhide HT] at hG
      have HG2 := hide hG
      have HB2 := hide ((unhide HB).trans hb)
      clear hG hb
      go_wp2_with fail
      go_roundw
      case rel => exact ⟨k + 1, by congr 1, by omega, HG2, HB2⟩
      case measure => simp [intOf]; omega
    · have hk1 : ¬ (k : Int) < (zs.length : Int) := by omega
      obtain rfl : k = zs.length := by omega
      rw [List.take_of_length_le (by rw [dup_length]; omega)] at HG
      have HE := hide (layAll_end (unhide HPm) (unhide HRR) (unhide HRs))
      go_wp2_with fail
      go_ret
      exact ⟨w4.heap.size, rfl, w4.heap.size, hsz, layAll (dup d), (unhide HG).1, (unhide HE).1, by have := (unhide HE).2.1; rw [dup_length] at this; exact this, (unhide HE).2.2, (unhide HB4).trans ((unhide HB).mono (by omega))⟩
end Go.Proofs.Ytemmflhofhngbaa
/- One value more behind a list that the call owns; a list that is made empty. -/
namespace Go.Proofs.Ytemmflhofhngbaa
open Go.RowKit Go.Shelf
set_option linter.unusedVariables false
theorem append_v {w : World} {ops : Array Oper} {rest : List Oper} {o : Oper} {a : Act} {Q : Exit → Act → World → Prop} (hgd : o.guard = none) (s x : Operand) (T E : TypeId)
    (ho : o.op = .call { callee := .builtin .append, args := #[s, x], argTypes := #[T, T] }) (i : TypeInfo) (z : Value) (bytes : Nat) (hT : Try.prog.underlying T = some (.slice E)) (hi : Try.prog.info? E = some i) (h1 : i.zero = some z) (h2 : i.size = 1) (h3 : i.bytes = bytes) (hzs : z.cells.size = 1) (hb8 : bytes ≤ 64)
    (lo : Nat) (v : Value) (xs : List Value) (u : Value) (hs : a.eval s = v) (hl : xs.length ≤ 900000) (W : World) (hW : w = W.alloc (.cells #[u] E)) (hu : u.oneCell' = true) (hv : W.ownsRow lo E 1 v xs.length xs) (hlo : lo ≤ W.heap.size) (n : Nat) (hn : n = W.heap.size) (hx : a.eval x = .slice (some ⟨n, 0, none⟩) 1 1)
    (h : ∀ v' w', w'.ownsRow lo E 1 v' (xs ++ [u]).length (xs ++ [u]) → Below lo W w' → wpList Try.prog ops Q rest (a.put o.dst v') w') : wpList Try.prog ops Q (o :: rest) a w := by
  subst hW
  subst hn
  have b := Blk.new W #[u] E
  refine wpList_append_own _ hgd s x T ho lo E i z 1 bytes hT hi h1 h2 h3 hzs (by decide) v xs.length xs hs (hv.alloc _) ⟨W.heap.size, 0, none⟩ 1 1 [u] hx (by simp) (fun j y hj => ?_) (fun y hy => by rw [List.mem_singleton.1 hy]; exact hu) (by unfold maxLen; omega) ?_ (by simp; omega) (fun v' w' h4 h5 _ => h v' w' (by rw [List.length_append, List.length_singleton]; exact h4) ?_)
  · match j, hj with
    | 0, hj => cases hj; exact b.cell 0
    | j + 1, hj => simp at hj
  · have : (xs.length + 1) * bytes ≤ 900001 * 64 := Nat.mul_le_mul (by omega) hb8
    omega
  · exact ((Below.refl lo W).alloc hlo _).grown h5 (by simp; omega) (fun k e => ((hv.alloc (.cells #[u] E)).lt k e).1)
theorem infoR32 : (Try.prog.info? 21).map (fun i => (i.zero, i.size, i.bytes)) = some (some (.int .i32 0), 1, 4) := by kernel_rfl
/-- make([]rune, 0, n). -/
theorem make_runes (n : Nat) (hn : n ≤ 1000000) (w : World) : ∃ cur : Array Value, (Instr.makeSlice 48 (.int .i64 0) (.int .i64 (n : Int))).run Try.prog w = .ok (.slice (some ⟨w.heap.size, 0, none⟩) 0 n) (w.alloc (.cells cur 21)) ∧ cur.size = n * 1 := by
  obtain ⟨i0, hi, hz0, hz1, hz2⟩ := info_parts infoR32
  have := run_make (P := Try.prog) w 48 21 i0 (.int .i32 0) Try.underlying48 hi hz0 .i64 .i64 0 (n : Int) (by omega) (by omega) (by rw [hz2]; omega) (by omega)
  refine ⟨_, this, ?_⟩
  rw [hz1]
  simp [madeCells]
end Go.Proofs.Ytemmflhofhngbaa
/- From at numbers. -/
namespace Go.Proofs.Ytemmflhofhngbaa
open Go.RowKit Go.Shelf
set_option linter.unusedVariables false
/-- A list of numbers of a kind that lies somewhere. -/
def RowN (K : IntKind) (W : World) (a : Option Addr) (zs : List Int) : Prop := 0 < zs.length → ∃ g o, a = some ⟨g, o, none⟩ ∧ g < W.heap.size ∧ ∀ j x, zs[j]? = some x → W.cell? ⟨g, o + j, none⟩ = some (.int K x)
theorem RowN.below {K : IntKind} {W W' : World} {a : Option Addr} {zs : List Int} (h : RowN K W a zs) (hb : Below W.heap.size W W') : RowN K W' a zs := fun h0 => by
  obtain ⟨g, o, e, hg, hc⟩ := h h0
  exact ⟨g, o, e, Nat.lt_of_lt_of_le hg hb.size, fun j x hx => (hb.cell (p := ⟨g, o + j, none⟩) hg).trans (hc j x hx)⟩
def e32 (zs : List Int) : List Value := zs.map (Value.int .i32)
/-- What From answers. -/
def FromP (zs : List Int) (w : World) (e : Ending) (w' : World) : Prop :=
  (zs.all runeB = true → ∃ (B lo0 : Nat) (us : List (Int × Int)), e = .returned (.tuple #[.pointer (some ⟨B, 0, none⟩), .int .i64 0]) ∧ w.heap.size ≤ lo0 ∧ Made w' B lo0 us ∧ Spread us ∧ us.length ≤ zs.length ∧ (∀ r, memB us r = memB (dup zs) r)) ∧ (zs.all runeB = false → e = .returned (.tuple #[.pointer none, .int .i64 12])) ∧ Below w.heap.size w w'
theorem fromP_no {zs : List Int} {w w' : World} {k : Nat} {x : Int} (hx : zs[k]? = some x) (h : runeB x = false) (hb : Below w.heap.size w w') : FromP zs w (.returned (.tuple #[.pointer none, .int .i64 12])) w' := by
  have e : zs.all runeB = false := List.all_eq_false.2 ⟨x, List.mem_of_getElem? hx, by rw [h]; decide⟩
  exact ⟨fun h2 => absurd (e.symm.trans h2) Bool.false_ne_true, fun _ => rfl, hb⟩
theorem wrap6432 (x : Int) : wrap64 (wrap32 x) = wrap32 x := by unfold wrap64 wrap32; omega
theorem take_snoc {zs : List Int} {k : Nat} {x : Int} (hx : zs[k]? = some x) : zs.take (k + 1) = zs.take k ++ [x] := by
  rw [List.take_add_one, hx]
  rfl
theorem own_holds {W : World} {base : Nat} {v : Value} {zs : List Int} (h : W.ownsRow base 21 1 v zs.length (e32 zs)) : ∃ p cap, v = .slice p zs.length cap ∧ (0 < zs.length → ∃ g o, p = some ⟨g, o, none⟩ ∧ base ≤ g ∧ g < W.heap.size ∧ Sort.Holds (Value.int .i32) W g o zs.toArray) := by
  obtain ⟨h1, h2⟩ := h
  rcases h2 with ⟨rfl, h3⟩ | ⟨g, cap, cur, rfl, hg, hb, hc1, hc2, hc3, ht⟩
  · exact ⟨none, 0, by rw [h3], fun h => by omega⟩
  · refine ⟨some ⟨g, 0, none⟩, cap, rfl, fun _ => ⟨g, 0, rfl, hg, (Array.getElem?_eq_some_iff.1 hb).1, fun j hj => ⟨?_, ?_⟩⟩⟩
    · have hj' : j < zs.length := by simpa using hj
      have e : cur.toList[j]? = some (.int .i32 zs[j]) := by
        have : (cur.toList.take (zs.length * 1))[j]? = (e32 zs)[j]? := by rw [ht]
        rw [List.getElem?_take, if_pos (by omega)] at this
        rw [this]
        simp [e32, hj']
      have e2 : cur[j]? = some (.int .i32 zs[j]) := by simpa using e
      rw [Nat.zero_add, show W.cell? ⟨g, j, none⟩ = cur[j]? from Blk.cell (t := 21) hb j, e2]
      simp [getElem!_pos, hj']
    · exact Blk.frozen (t := 21) hb _
set_option maxRecDepth 100000 in
set_option maxHeartbeats 4000000 in
theorem from_int (p : Option Addr) (cap : Nat) (zs : List Int) (hz : zs.length ≤ 1000) (hf : ∀ x ∈ zs, -9223372036854775808 ≤ x ∧ x ≤ 9223372036854775807) (w : World) (hr : RowN .i64 w p zs) :
    Calls Try.prog 52 #[.slice p zs.length cap] w (FromP zs w) := by
  obtain ⟨cur, hmk, hcs⟩ := make_runes zs.length (by omega) w
  obtain ⟨iR, hi0, hi1, hi2, hi3⟩ := info_parts infoR32
  have HIP := hide (And.intro hi0 (And.intro hi1 (And.intro hi2 hi3)))
  have hlen : (zs.length : Int) ≤ 1000 := by omega
  have HR := hide hr
  have HF := hide hf
  have HCS := hide hcs
  clear hr hf hcs hi0 hi1 hi2 hi3
  go_enter Try.func52, Try.ntmps52
  go_wp2_with fail
  go_loopw [4, 13] (fun v i wr => ∃ k : Nat, i = .int .i64 k ∧ k ≤ zs.length ∧ Hz (wr.ownsRow w.heap.size 21 1 v (zs.take k).length (e32 (zs.take k))) ∧ Hz (Below w.heap.size w wr) ∧ Hz (∀ j x, j < k → zs[j]? = some x → runeB x = true)) (fun _ i _ => zs.length - (intOf i).toNat)
  case atStart => exact ⟨0, rfl, by omega, hide (World.ownsRow_made w cur zs.length (Nat.le_refl _) (by unfold maxLen; omega) (unhide HCS)), hide ((Below.refl _ w).alloc (Nat.le_refl _) _), hide (fun j x h => by omega)⟩
  case round =>
    obtain ⟨k, rfl, hk, HO, HB, HA⟩ := hrel
    clear hmk
    by_cases hkn : k < zs.length
    · have hk1 : (k : Int) < (zs.length : Int) := by omega
      have hk2 : ((k : Nat) : Int).toNat = k := by omega
      obtain ⟨x, hx⟩ : ∃ x, zs[k]? = some x := ⟨_, List.getElem?_eq_getElem (by omega)⟩
      obtain ⟨g, o, rfl, hg, hc⟩ := unhide HR (by omega)
      have c0 := ((unhide HB).cell (p := ⟨g, o + k, none⟩) hg).trans (hc k x hx)
      obtain ⟨bx1, bx2⟩ := unhide HF x (List.mem_of_getElem? hx)
      have HX := hide hx
      clear hc hx
      cases hrx : runeB x with
      | true =>
        have hb := runeB_iff hrx
        have hb1 := hb.1
        have hb2 := hb.2.1
        have hw0 : (widthOf x == 0) = false := by rw [width_rune, hrx]; rfl
        have hne : (x != x) = false := by simp
        have HL := hide (show (e32 (zs.take k)).length = (zs.take k).length by simp [e32])
        have HOa : Hz (wr.ownsRow w.heap.size 21 1 _ (e32 (zs.take k)).length (e32 (zs.take k))) := hide (by rw [unhide HL]; exact unhide HO)
        have HRX := hide hrx
        clear hb hrx
        go_wp2_with (first | (go_at_call 40; refine (width_any x _).mono ?_; rintro e w' ⟨rfl, rfl⟩) | (at_builtin; refine append_v rfl _ _ 48 21 rfl iR (.int .i32 0) 4 Try.underlying48 (unhide HIP).1 (unhide HIP).2.1 (unhide HIP).2.2.1 (unhide HIP).2.2.2 rfl (by decide) w.heap.size _ (e32 (zs.take k)) (.int .i32 x) rfl ?qa _ rfl rfl (unhide HOa) ?qb _ rfl rfl ?_))
        case qa => rw [unhide HL, List.length_take]; omega
        case qb => exact (unhide HB).size
        intro v' w1 hown hb1'
        have HO2 : Hz (w1.ownsRow w.heap.size 21 1 v' (zs.take (k + 1)).length (e32 (zs.take (k + 1)))) := hide (by
          rw [take_snoc (unhide HX)]
          have e : e32 (zs.take k ++ [x]) = e32 (zs.take k) ++ [.int .i32 x] := by simp [e32]
          rw [e, List.length_append]
          rw [unhide HL] at hown
          exact hown)
        have HB2 : Hz (Below w.heap.size w w1) := hide ((unhide HB).trans hb1')
        have HA2 : Hz (∀ j y, j < k + 1 → zs[j]? = some y → runeB y = true) := hide (fun j y hj hy => by
          by_cases e : j = k
          · subst e; have := (unhide HX).symm.trans hy; cases this; exact unhide HRX
          · exact unhide HA j y (by omega) hy)
        clear hown hb1' HO HOa HB HA c0
        go_wp2_with fail
        go_roundw
        case rel => exact ⟨k + 1, by congr 1, by omega, HO2, HB2, HA2⟩
        case measure => simp [intOf]; omega
      | false =>
        have HRX := hide hrx
        clear hrx
        obtain ⟨y, hy⟩ : ∃ y, y = wrap32 x := ⟨_, rfl⟩
        by_cases hxy : y = x
        · have hyx : wrap32 x = x := by rw [← hy]; exact hxy
          have hw0 : (widthOf x == 0) = true := by rw [width_rune, unhide HRX]; rfl
          have hne : (x != x) = false := by simp
          clear hxy hy
          clear y
          go_wp2_with (first | (go_at_call 40; refine (width_any x _).mono ?_; rintro e w' ⟨rfl, rfl⟩))
          go_ret2
          exact fromP_no (unhide HX) (unhide HRX) (unhide HB)
        · have hne : (wrap64 (wrap32 x) != x) = true := by rw [wrap6432, ← hy]; exact bne_iff_ne.2 hxy
          clear hxy hy
          clear y
          go_wp2_with fail
          go_ret2
          exact fromP_no (unhide HX) (unhide HRX) (unhide HB)
    · have hk1 : ¬ (k : Int) < (zs.length : Int) := by omega
      obtain rfl : k = zs.length := by omega
      rw [List.take_length] at HO
      have hall : ∀ x ∈ zs, runeB x = true := fun x hx => by
        obtain ⟨j, hj⟩ := List.getElem?_of_mem hx
        exact unhide HA j x (List.getElem?_eq_some_iff.1 hj).1 hj
      obtain ⟨q, cq, rfl, hq⟩ := own_holds (unhide HO)
      have HG := hide (gather_any q cq w.heap.size zs (by omega) hall wr (unhide HB).size hq)
      have HALL := hide hall
      clear hq hall
      go_wp2_with fail
      refine (unhide HG).mono ?_
      rintro e w5 ⟨B, lo0, us, rfl, hlo, hM, hS, hl, hm, hb⟩
      have HM := hide hM
      have HSS := hide hS
      have HMM := hide hm
      have HB5 := hide ((unhide HB).trans hb)
      have HLL := hide (Nat.le_trans (unhide HB).size hlo)
      clear hM hS hm hb hlo
      go_wp2_with fail
      go_ret2
      exact ⟨fun _ => ⟨B, lo0, us, rfl, unhide HLL, unhide HM, unhide HSS, hl, unhide HMM⟩, fun h => absurd h (by rw [List.all_eq_true.2 (unhide HALL)]; decide), unhide HB5⟩
set_option maxRecDepth 100000 in
set_option maxHeartbeats 4000000 in
theorem from_rune (p : Option Addr) (cap : Nat) (zs : List Int) (hz : zs.length ≤ 1000) (hf : ∀ x ∈ zs, -2147483648 ≤ x ∧ x ≤ 2147483647) (w : World) (hr : RowN .i32 w p zs) :
    Calls Try.prog 13 #[.slice p zs.length cap] w (FromP zs w) := by
  obtain ⟨cur, hmk, hcs⟩ := make_runes zs.length (by omega) w
  obtain ⟨iR, hi0, hi1, hi2, hi3⟩ := info_parts infoR32
  have HIP := hide (And.intro hi0 (And.intro hi1 (And.intro hi2 hi3)))
  have hlen : (zs.length : Int) ≤ 1000 := by omega
  have HR := hide hr
  have HF := hide hf
  have HCS := hide hcs
  clear hr hf hcs hi0 hi1 hi2 hi3
  go_enter Try.func13, Try.ntmps13
  go_wp2_with fail
  go_loopw [4, 13] (fun v i wr => ∃ k : Nat, i = .int .i64 k ∧ k ≤ zs.length ∧ Hz (wr.ownsRow w.heap.size 21 1 v (zs.take k).length (e32 (zs.take k))) ∧ Hz (Below w.heap.size w wr) ∧ Hz (∀ j x, j < k → zs[j]? = some x → runeB x = true)) (fun _ i _ => zs.length - (intOf i).toNat)
  case atStart => exact ⟨0, rfl, by omega, hide (World.ownsRow_made w cur zs.length (Nat.le_refl _) (by unfold maxLen; omega) (unhide HCS)), hide ((Below.refl _ w).alloc (Nat.le_refl _) _), hide (fun j x h => by omega)⟩
  case round =>
    obtain ⟨k, rfl, hk, HO, HB, HA⟩ := hrel
    clear hmk
    by_cases hkn : k < zs.length
    · have hk1 : (k : Int) < (zs.length : Int) := by omega
      have hk2 : ((k : Nat) : Int).toNat = k := by omega
      obtain ⟨x, hx⟩ : ∃ x, zs[k]? = some x := ⟨_, List.getElem?_eq_getElem (by omega)⟩
      obtain ⟨g, o, rfl, hg, hc⟩ := unhide HR (by omega)
      have c0 := ((unhide HB).cell (p := ⟨g, o + k, none⟩) hg).trans (hc k x hx)
      obtain ⟨bx1, bx2⟩ := unhide HF x (List.mem_of_getElem? hx)
      have HX := hide hx
      clear hc hx
      cases hrx : runeB x with
      | true =>
        have hb := runeB_iff hrx
        have hb1 := hb.1
        have hb2 := hb.2.1
        have hw0 : (widthOf x == 0) = false := by rw [width_rune, hrx]; rfl
        have hne : (x != x) = false := by simp
        have HL := hide (show (e32 (zs.take k)).length = (zs.take k).length by simp [e32])
        have HOa : Hz (wr.ownsRow w.heap.size 21 1 _ (e32 (zs.take k)).length (e32 (zs.take k))) := hide (by rw [unhide HL]; exact unhide HO)
        have HRX := hide hrx
        clear hb hrx
        go_wp2_with (first | (go_at_call 40; refine (width_any x _).mono ?_; rintro e w' ⟨rfl, rfl⟩) | (at_builtin; refine append_v rfl _ _ 48 21 rfl iR (.int .i32 0) 4 Try.underlying48 (unhide HIP).1 (unhide HIP).2.1 (unhide HIP).2.2.1 (unhide HIP).2.2.2 rfl (by decide) w.heap.size _ (e32 (zs.take k)) (.int .i32 x) rfl ?qa _ rfl rfl (unhide HOa) ?qb _ rfl rfl ?_))
        case qa => rw [unhide HL, List.length_take]; omega
        case qb => exact (unhide HB).size
        intro v' w1 hown hb1'
        have HO2 : Hz (w1.ownsRow w.heap.size 21 1 v' (zs.take (k + 1)).length (e32 (zs.take (k + 1)))) := hide (by
          rw [take_snoc (unhide HX)]
          have e : e32 (zs.take k ++ [x]) = e32 (zs.take k) ++ [.int .i32 x] := by simp [e32]
          rw [e, List.length_append]
          rw [unhide HL] at hown
          exact hown)
        have HB2 : Hz (Below w.heap.size w w1) := hide ((unhide HB).trans hb1')
        have HA2 : Hz (∀ j y, j < k + 1 → zs[j]? = some y → runeB y = true) := hide (fun j y hj hy => by
          by_cases e : j = k
          · subst e; have := (unhide HX).symm.trans hy; cases this; exact unhide HRX
          · exact unhide HA j y (by omega) hy)
        clear hown hb1' HO HOa HB HA c0
        go_wp2_with fail
        go_roundw
        case rel => exact ⟨k + 1, by congr 1, by omega, HO2, HB2, HA2⟩
        case measure => simp [intOf]; omega
      | false =>
        have hw0 : (widthOf x == 0) = true := by rw [width_rune, hrx]; rfl
        have hne : (x != x) = false := by simp
        have HRX := hide hrx
        clear hrx
        go_wp2_with (first | (go_at_call 40; refine (width_any x _).mono ?_; rintro e w' ⟨rfl, rfl⟩))
        go_ret2
        exact fromP_no (unhide HX) (unhide HRX) (unhide HB)
    · have hk1 : ¬ (k : Int) < (zs.length : Int) := by omega
      obtain rfl : k = zs.length := by omega
      rw [List.take_length] at HO
      have hall : ∀ x ∈ zs, runeB x = true := fun x hx => by
        obtain ⟨j, hj⟩ := List.getElem?_of_mem hx
        exact unhide HA j x (List.getElem?_eq_some_iff.1 hj).1 hj
      obtain ⟨q, cq, rfl, hq⟩ := own_holds (unhide HO)
      have HG := hide (gather_any q cq w.heap.size zs (by omega) hall wr (unhide HB).size hq)
      have HALL := hide hall
      clear hq hall
      go_wp2_with fail
      refine (unhide HG).mono ?_
      rintro e w5 ⟨B, lo0, us, rfl, hlo, hM, hS, hl, hm, hb⟩
      have HM := hide hM
      have HSS := hide hS
      have HMM := hide hm
      have HB5 := hide ((unhide HB).trans hb)
      have HLL := hide (Nat.le_trans (unhide HB).size hlo)
      clear hM hS hm hb hlo
      go_wp2_with fail
      go_ret2
      exact ⟨fun _ => ⟨B, lo0, us, rfl, unhide HLL, unhide HM, unhide HSS, hl, unhide HMM⟩, fun h => absurd h (by rw [List.all_eq_true.2 (unhide HALL)]; decide), unhide HB5⟩
set_option maxRecDepth 100000 in
set_option maxHeartbeats 4000000 in
theorem from_u32 (p : Option Addr) (cap : Nat) (zs : List Int) (hz : zs.length ≤ 1000) (hf : ∀ x ∈ zs, 0 ≤ x ∧ x ≤ 4294967295) (w : World) (hr : RowN .u32 w p zs) :
    Calls Try.prog 53 #[.slice p zs.length cap] w (FromP zs w) := by
  obtain ⟨cur, hmk, hcs⟩ := make_runes zs.length (by omega) w
  obtain ⟨iR, hi0, hi1, hi2, hi3⟩ := info_parts infoR32
  have HIP := hide (And.intro hi0 (And.intro hi1 (And.intro hi2 hi3)))
  have hlen : (zs.length : Int) ≤ 1000 := by omega
  have HR := hide hr
  have HF := hide hf
  have HCS := hide hcs
  clear hr hf hcs hi0 hi1 hi2 hi3
  go_enter Try.func53, Try.ntmps53
  go_wp2_with fail
  go_loopw [4, 13] (fun v i wr => ∃ k : Nat, i = .int .i64 k ∧ k ≤ zs.length ∧ Hz (wr.ownsRow w.heap.size 21 1 v (zs.take k).length (e32 (zs.take k))) ∧ Hz (Below w.heap.size w wr) ∧ Hz (∀ j x, j < k → zs[j]? = some x → runeB x = true)) (fun _ i _ => zs.length - (intOf i).toNat)
  case atStart => exact ⟨0, rfl, by omega, hide (World.ownsRow_made w cur zs.length (Nat.le_refl _) (by unfold maxLen; omega) (unhide HCS)), hide ((Below.refl _ w).alloc (Nat.le_refl _) _), hide (fun j x h => by omega)⟩
  case round =>
    obtain ⟨k, rfl, hk, HO, HB, HA⟩ := hrel
    clear hmk
    by_cases hkn : k < zs.length
    · have hk1 : (k : Int) < (zs.length : Int) := by omega
      have hk2 : ((k : Nat) : Int).toNat = k := by omega
      obtain ⟨x, hx⟩ : ∃ x, zs[k]? = some x := ⟨_, List.getElem?_eq_getElem (by omega)⟩
      obtain ⟨g, o, rfl, hg, hc⟩ := unhide HR (by omega)
      have c0 := ((unhide HB).cell (p := ⟨g, o + k, none⟩) hg).trans (hc k x hx)
      obtain ⟨bx1, bx2⟩ := unhide HF x (List.mem_of_getElem? hx)
      have HX := hide hx
      clear hc hx
      cases hrx : runeB x with
      | true =>
        have hb := runeB_iff hrx
        have hb1 := hb.1
        have hb2 := hb.2.1
        have hw0 : (widthOf x == 0) = false := by rw [width_rune, hrx]; rfl
        have hne : (x != x) = false := by simp
        have HL := hide (show (e32 (zs.take k)).length = (zs.take k).length by simp [e32])
        have HOa : Hz (wr.ownsRow w.heap.size 21 1 _ (e32 (zs.take k)).length (e32 (zs.take k))) := hide (by rw [unhide HL]; exact unhide HO)
        have HRX := hide hrx
        clear hb hrx
        go_wp2_with (first | (go_at_call 40; refine (width_any x _).mono ?_; rintro e w' ⟨rfl, rfl⟩) | (at_builtin; refine append_v rfl _ _ 48 21 rfl iR (.int .i32 0) 4 Try.underlying48 (unhide HIP).1 (unhide HIP).2.1 (unhide HIP).2.2.1 (unhide HIP).2.2.2 rfl (by decide) w.heap.size _ (e32 (zs.take k)) (.int .i32 x) rfl ?qa _ rfl rfl (unhide HOa) ?qb _ rfl rfl ?_))
        case qa => rw [unhide HL, List.length_take]; omega
        case qb => exact (unhide HB).size
        intro v' w1 hown hb1'
        have HO2 : Hz (w1.ownsRow w.heap.size 21 1 v' (zs.take (k + 1)).length (e32 (zs.take (k + 1)))) := hide (by
          rw [take_snoc (unhide HX)]
          have e : e32 (zs.take k ++ [x]) = e32 (zs.take k) ++ [.int .i32 x] := by simp [e32]
          rw [e, List.length_append]
          rw [unhide HL] at hown
          exact hown)
        have HB2 : Hz (Below w.heap.size w w1) := hide ((unhide HB).trans hb1')
        have HA2 : Hz (∀ j y, j < k + 1 → zs[j]? = some y → runeB y = true) := hide (fun j y hj hy => by
          by_cases e : j = k
          · subst e; have := (unhide HX).symm.trans hy; cases this; exact unhide HRX
          · exact unhide HA j y (by omega) hy)
        clear hown hb1' HO HOa HB HA c0
        go_wp2_with fail
        go_roundw
        case rel => exact ⟨k + 1, by congr 1, by omega, HO2, HB2, HA2⟩
        case measure => simp [intOf]; omega
      | false =>
        have HRX := hide hrx
        clear hrx
        obtain ⟨y, hy⟩ : ∃ y, y = wrap32 x := ⟨_, rfl⟩
        by_cases hxy : y = x
        · have hyx : wrap32 x = x := by rw [← hy]; exact hxy
          have hw0 : (widthOf x == 0) = true := by rw [width_rune, unhide HRX]; rfl
          have hne : (x != x) = false := by simp
          clear hxy hy
          clear y
          go_wp2_with (first | (go_at_call 40; refine (width_any x _).mono ?_; rintro e w' ⟨rfl, rfl⟩))
          go_ret2
          exact fromP_no (unhide HX) (unhide HRX) (unhide HB)
        · have hne : (wrap64 (wrap32 x) != x) = true := by rw [wrap6432, ← hy]; exact bne_iff_ne.2 hxy
          clear hxy hy
          clear y
          go_wp2_with fail
          go_ret2
          exact fromP_no (unhide HX) (unhide HRX) (unhide HB)
    · have hk1 : ¬ (k : Int) < (zs.length : Int) := by omega
      obtain rfl : k = zs.length := by omega
      rw [List.take_length] at HO
      have hall : ∀ x ∈ zs, runeB x = true := fun x hx => by
        obtain ⟨j, hj⟩ := List.getElem?_of_mem hx
        exact unhide HA j x (List.getElem?_eq_some_iff.1 hj).1 hj
      obtain ⟨q, cq, rfl, hq⟩ := own_holds (unhide HO)
      have HG := hide (gather_any q cq w.heap.size zs (by omega) hall wr (unhide HB).size hq)
      have HALL := hide hall
      clear hq hall
      go_wp2_with fail
      refine (unhide HG).mono ?_
      rintro e w5 ⟨B, lo0, us, rfl, hlo, hM, hS, hl, hm, hb⟩
      have HM := hide hM
      have HSS := hide hS
      have HMM := hide hm
      have HB5 := hide ((unhide HB).trans hb)
      have HLL := hide (Nat.le_trans (unhide HB).size hlo)
      clear hM hS hm hb hlo
      go_wp2_with fail
      go_ret2
      exact ⟨fun _ => ⟨B, lo0, us, rfl, unhide HLL, unhide HM, unhide HSS, hl, unhide HMM⟩, fun h => absurd h (by rw [List.all_eq_true.2 (unhide HALL)]; decide), unhide HB5⟩
set_option maxRecDepth 100000 in
set_option maxHeartbeats 4000000 in
theorem from_kin (p : Option Addr) (cap : Nat) (zs : List Int) (hz : zs.length ≤ 1000) (hf : ∀ x ∈ zs, 0 ≤ x ∧ x ≤ 4294967295) (w : World) (hr : RowN .u32 w p zs) :
    Calls Try.prog 54 #[.slice p zs.length cap] w (FromP zs w) := by
  obtain ⟨cur, hmk, hcs⟩ := make_runes zs.length (by omega) w
  obtain ⟨iR, hi0, hi1, hi2, hi3⟩ := info_parts infoR32
  have HIP := hide (And.intro hi0 (And.intro hi1 (And.intro hi2 hi3)))
  have hlen : (zs.length : Int) ≤ 1000 := by omega
  have HR := hide hr
  have HF := hide hf
  have HCS := hide hcs
  clear hr hf hcs hi0 hi1 hi2 hi3
  go_enter Try.func54, Try.ntmps54
  go_wp2_with fail
  go_loopw [4, 13] (fun v i wr => ∃ k : Nat, i = .int .i64 k ∧ k ≤ zs.length ∧ Hz (wr.ownsRow w.heap.size 21 1 v (zs.take k).length (e32 (zs.take k))) ∧ Hz (Below w.heap.size w wr) ∧ Hz (∀ j x, j < k → zs[j]? = some x → runeB x = true)) (fun _ i _ => zs.length - (intOf i).toNat)
  case atStart => exact ⟨0, rfl, by omega, hide (World.ownsRow_made w cur zs.length (Nat.le_refl _) (by unfold maxLen; omega) (unhide HCS)), hide ((Below.refl _ w).alloc (Nat.le_refl _) _), hide (fun j x h => by omega)⟩
  case round =>
    obtain ⟨k, rfl, hk, HO, HB, HA⟩ := hrel
    clear hmk
    by_cases hkn : k < zs.length
    · have hk1 : (k : Int) < (zs.length : Int) := by omega
      have hk2 : ((k : Nat) : Int).toNat = k := by omega
      obtain ⟨x, hx⟩ : ∃ x, zs[k]? = some x := ⟨_, List.getElem?_eq_getElem (by omega)⟩
      obtain ⟨g, o, rfl, hg, hc⟩ := unhide HR (by omega)
      have c0 := ((unhide HB).cell (p := ⟨g, o + k, none⟩) hg).trans (hc k x hx)
      obtain ⟨bx1, bx2⟩ := unhide HF x (List.mem_of_getElem? hx)
      have HX := hide hx
      clear hc hx
      cases hrx : runeB x with
      | true =>
        have hb := runeB_iff hrx
        have hb1 := hb.1
        have hb2 := hb.2.1
        have hw0 : (widthOf x == 0) = false := by rw [width_rune, hrx]; rfl
        have hne : (x != x) = false := by simp
        have HL := hide (show (e32 (zs.take k)).length = (zs.take k).length by simp [e32])
        have HOa : Hz (wr.ownsRow w.heap.size 21 1 _ (e32 (zs.take k)).length (e32 (zs.take k))) := hide (by rw [unhide HL]; exact unhide HO)
        have HRX := hide hrx
        clear hb hrx
        go_wp2_with (first | (go_at_call 40; refine (width_any x _).mono ?_; rintro e w' ⟨rfl, rfl⟩) | (at_builtin; refine append_v rfl _ _ 48 21 rfl iR (.int .i32 0) 4 Try.underlying48 (unhide HIP).1 (unhide HIP).2.1 (unhide HIP).2.2.1 (unhide HIP).2.2.2 rfl (by decide) w.heap.size _ (e32 (zs.take k)) (.int .i32 x) rfl ?qa _ rfl rfl (unhide HOa) ?qb _ rfl rfl ?_))
        case qa => rw [unhide HL, List.length_take]; omega
        case qb => exact (unhide HB).size
        intro v' w1 hown hb1'
        have HO2 : Hz (w1.ownsRow w.heap.size 21 1 v' (zs.take (k + 1)).length (e32 (zs.take (k + 1)))) := hide (by
          rw [take_snoc (unhide HX)]
          have e : e32 (zs.take k ++ [x]) = e32 (zs.take k) ++ [.int .i32 x] := by simp [e32]
          rw [e, List.length_append]
          rw [unhide HL] at hown
          exact hown)
        have HB2 : Hz (Below w.heap.size w w1) := hide ((unhide HB).trans hb1')
        have HA2 : Hz (∀ j y, j < k + 1 → zs[j]? = some y → runeB y = true) := hide (fun j y hj hy => by
          by_cases e : j = k
          · subst e; have := (unhide HX).symm.trans hy; cases this; exact unhide HRX
          · exact unhide HA j y (by omega) hy)
        clear hown hb1' HO HOa HB HA c0
        go_wp2_with fail
        go_roundw
        case rel => exact ⟨k + 1, by congr 1, by omega, HO2, HB2, HA2⟩
        case measure => simp [intOf]; omega
      | false =>
        have HRX := hide hrx
        clear hrx
        obtain ⟨y, hy⟩ : ∃ y, y = wrap32 x := ⟨_, rfl⟩
        by_cases hxy : y = x
        · have hyx : wrap32 x = x := by rw [← hy]; exact hxy
          have hw0 : (widthOf x == 0) = true := by rw [width_rune, unhide HRX]; rfl
          have hne : (x != x) = false := by simp
          clear hxy hy
          clear y
          go_wp2_with (first | (go_at_call 40; refine (width_any x _).mono ?_; rintro e w' ⟨rfl, rfl⟩))
          go_ret2
          exact fromP_no (unhide HX) (unhide HRX) (unhide HB)
        · have hne : (wrap64 (wrap32 x) != x) = true := by rw [wrap6432, ← hy]; exact bne_iff_ne.2 hxy
          clear hxy hy
          clear y
          go_wp2_with fail
          go_ret2
          exact fromP_no (unhide HX) (unhide HRX) (unhide HB)
    · have hk1 : ¬ (k : Int) < (zs.length : Int) := by omega
      obtain rfl : k = zs.length := by omega
      rw [List.take_length] at HO
      have hall : ∀ x ∈ zs, runeB x = true := fun x hx => by
        obtain ⟨j, hj⟩ := List.getElem?_of_mem hx
        exact unhide HA j x (List.getElem?_eq_some_iff.1 hj).1 hj
      obtain ⟨q, cq, rfl, hq⟩ := own_holds (unhide HO)
      have HG := hide (gather_any q cq w.heap.size zs (by omega) hall wr (unhide HB).size hq)
      have HALL := hide hall
      clear hq hall
      go_wp2_with fail
      refine (unhide HG).mono ?_
      rintro e w5 ⟨B, lo0, us, rfl, hlo, hM, hS, hl, hm, hb⟩
      have HM := hide hM
      have HSS := hide hS
      have HMM := hide hm
      have HB5 := hide ((unhide HB).trans hb)
      have HLL := hide (Nat.le_trans (unhide HB).size hlo)
      clear hM hS hm hb hlo
      go_wp2_with fail
      go_ret2
      exact ⟨fun _ => ⟨B, lo0, us, rfl, unhide HLL, unhide HM, unhide HSS, hl, unhide HMM⟩, fun h => absurd h (by rw [List.all_eq_true.2 (unhide HALL)]; decide), unhide HB5⟩
end Go.Proofs.Ytemmflhofhngbaa
