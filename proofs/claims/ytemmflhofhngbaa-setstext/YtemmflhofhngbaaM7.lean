/- Texts of this claim, one behind the other. -/
import Derived.Test.YtemmflhofhngbaaM6
import Derived.Deep.Cut
/- Three lists that a call owns. -/
namespace Go.Proofs.Ytemmflhofhngbaa
open Go.RowKit Go.Shelf
set_option linter.unusedVariables false
theorem append_w {w : World} {ops : Array Oper} {rest : List Oper} {o : Oper} {a : Act} {Q : Exit → Act → World → Prop} (hgd : o.guard = none) (s x : Operand) (T E : TypeId)
    (ho : o.op = .call { callee := .builtin .append, args := #[s, x], argTypes := #[T, T] }) (i : TypeInfo) (z : Value) (bytes : Nat) (hT : Try.prog.underlying T = some (.slice E)) (hi : Try.prog.info? E = some i) (h1 : i.zero = some z) (h2 : i.size = 1) (h3 : i.bytes = bytes) (hzs : z.cells.size = 1) (hb8 : bytes ≤ 64)
    (lo : Nat) (v : Value) (xs : List Value) (u : Value) (hs : a.eval s = v) (hl : xs.length ≤ 900000) (W : World) (hW : w = W.alloc (.cells #[u] E)) (hu : u.oneCell' = true) (hv : W.ownsRow lo E 1 v xs.length xs) (hlo : lo ≤ W.heap.size) (n : Nat) (hn : n = W.heap.size) (hx : a.eval x = .slice (some ⟨n, 0, none⟩) 1 1)
    (h : ∀ v' w', w'.ownsRow lo E 1 v' (xs ++ [u]).length (xs ++ [u]) → (W.alloc (.cells #[u] E)).grownBy w' v.ownBlock → wpList Try.prog ops Q rest (a.put o.dst v') w') : wpList Try.prog ops Q (o :: rest) a w := by
  subst hW
  subst hn
  have b := Blk.new W #[u] E
  refine wpList_append_own _ hgd s x T ho lo E i z 1 bytes hT hi h1 h2 h3 hzs (by decide) v xs.length xs hs (hv.alloc _) ⟨W.heap.size, 0, none⟩ 1 1 [u] hx (by simp) (fun j y hj => ?_) (fun y hy => by rw [List.mem_singleton.1 hy]; exact hu) (by unfold maxLen; omega) ?_ (by simp; omega) (fun v' w' h4 h5 _ => h v' w' (by rw [List.length_append, List.length_singleton]; exact h4) h5)
  · match j, hj with
    | 0, hj => cases hj; exact b.cell 0
    | j + 1, hj => simp at hj
  · have : (xs.length + 1) * bytes ≤ 900001 * 64 := Nat.mul_le_mul (by omega) hb8
    omega
theorem own_other {W W' : World} {lo E sz n : Nat} {v : Value} {xs : List Value} {row : Option Nat} (h : W.ownsRow lo E sz v n xs) (hg : W.grownBy W' row) (hne : v.ownBlock = none ∨ v.ownBlock ≠ row) : W'.ownsRow lo E sz v n xs := by
  refine ⟨h.1, ?_⟩
  rcases h.2 with h2 | ⟨g, cap, cur, e, hb, h3, r⟩
  · exact .inl h2
  · refine .inr ⟨g, cap, cur, e, hb, ?_, r⟩
    subst e
    rw [hg.block g (Array.getElem?_eq_some_iff.1 h3).1 (by rcases hne with h4 | h4; exact absurd h4 (by simp [Value.ownBlock]); exact h4)]
    exact h3
def encN (K : IntKind) (zs : List Int) : List Value := zs.map (Value.int K)
theorem encN_length (K : IntKind) (zs : List Int) : (encN K zs).length = zs.length := by simp [encN]
theorem encN_snoc (K : IntKind) (zs : List Int) (x : Int) : encN K zs ++ [.int K x] = encN K (zs ++ [x]) := by simp [encN]
/-- Three lists that the call owns. -/
structure Three (w W : World) (va vb vc : Value) (xs ys zs : List Int) : Prop where
  oa : W.ownsRow w.heap.size 21 1 va (encN .i32 xs).length (encN .i32 xs)
  ob : W.ownsRow w.heap.size 51 1 vb (encN .u32 ys).length (encN .u32 ys)
  oc : W.ownsRow w.heap.size 52 1 vc (encN .u32 zs).length (encN .u32 zs)
  ra : ∀ x ∈ xs, -2147483648 ≤ x ∧ x ≤ 2147483647
  rb : ∀ x ∈ ys, 0 ≤ x ∧ x ≤ 4294967295
  rc : ∀ x ∈ zs, 0 ≤ x ∧ x ≤ 4294967295
  old : Below w.heap.size w W
theorem mem_snoc {P : Int → Prop} {zs : List Int} {x : Int} (h : ∀ y ∈ zs, P y) (hx : P x) : ∀ y ∈ zs ++ [x], P y := fun y hy => by
  rcases List.mem_append.1 hy with h1 | h1
  · exact h y h1
  · rw [List.mem_singleton.1 h1]; exact hx
theorem Three.a {w W W' : World} {va vb vc v' : Value} {xs ys zs : List Int} {x : Int} (h : Three w W va vb vc xs ys zs) (hx : -2147483648 ≤ x ∧ x ≤ 2147483647) (ho : W'.ownsRow w.heap.size 21 1 v' ((encN .i32 xs).length + 1) (encN .i32 xs ++ [Value.int .i32 x])) (hg : (W.alloc (.cells #[.int .i32 x] 21)).grownBy W' va.ownBlock) : Three w W' v' vb vc (xs ++ [x]) ys zs := by
  have oa := h.oa.alloc (.cells #[.int .i32 x] 21)
  have ob := h.ob.alloc (.cells #[.int .i32 x] 21)
  have oc := h.oc.alloc (.cells #[.int .i32 x] 21)
  have ho : W'.ownsRow w.heap.size 21 1 v' (encN .i32 (xs ++ [x])).length (encN .i32 (xs ++ [x])) := by rw [← encN_snoc, List.length_append]; exact ho
  exact ⟨ho, own_other ob hg (own_own ob oa (by decide)), own_other oc hg (own_own oc oa (by decide)), mem_snoc h.ra hx, h.rb, h.rc, (h.old.alloc h.old.size _).grown hg (by simp; exact Nat.le_succ_of_le h.old.size) (fun k e => (oa.lt k e).1)⟩
theorem Three.b {w W W' : World} {va vb vc v' : Value} {xs ys zs : List Int} {x : Int} (h : Three w W va vb vc xs ys zs) (hx : 0 ≤ x ∧ x ≤ 4294967295) (ho : W'.ownsRow w.heap.size 51 1 v' ((encN .u32 ys).length + 1) (encN .u32 ys ++ [Value.int .u32 x])) (hg : (W.alloc (.cells #[.int .u32 x] 51)).grownBy W' vb.ownBlock) : Three w W' va v' vc xs (ys ++ [x]) zs := by
  have oa := h.oa.alloc (.cells #[.int .u32 x] 51)
  have ob := h.ob.alloc (.cells #[.int .u32 x] 51)
  have oc := h.oc.alloc (.cells #[.int .u32 x] 51)
  have ho : W'.ownsRow w.heap.size 51 1 v' (encN .u32 (ys ++ [x])).length (encN .u32 (ys ++ [x])) := by rw [← encN_snoc, List.length_append]; exact ho
  exact ⟨own_other oa hg (own_own oa ob (by decide)), ho, own_other oc hg (own_own oc ob (by decide)), h.ra, mem_snoc h.rb hx, h.rc, (h.old.alloc h.old.size _).grown hg (by simp; exact Nat.le_succ_of_le h.old.size) (fun k e => (ob.lt k e).1)⟩
theorem Three.c {w W W' : World} {va vb vc v' : Value} {xs ys zs : List Int} {x : Int} (h : Three w W va vb vc xs ys zs) (hx : 0 ≤ x ∧ x ≤ 4294967295) (ho : W'.ownsRow w.heap.size 52 1 v' ((encN .u32 zs).length + 1) (encN .u32 zs ++ [Value.int .u32 x])) (hg : (W.alloc (.cells #[.int .u32 x] 52)).grownBy W' vc.ownBlock) : Three w W' va vb v' xs ys (zs ++ [x]) := by
  have oa := h.oa.alloc (.cells #[.int .u32 x] 52)
  have ob := h.ob.alloc (.cells #[.int .u32 x] 52)
  have oc := h.oc.alloc (.cells #[.int .u32 x] 52)
  have ho : W'.ownsRow w.heap.size 52 1 v' (encN .u32 (zs ++ [x])).length (encN .u32 (zs ++ [x])) := by rw [← encN_snoc, List.length_append]; exact ho
  exact ⟨own_other oa hg (own_own oa oc (by decide)), own_other ob hg (own_own ob oc (by decide)), ho, h.ra, h.rb, mem_snoc h.rc hx, (h.old.alloc h.old.size _).grown hg (by simp; exact Nat.le_succ_of_le h.old.size) (fun k e => (oc.lt k e).1)⟩
theorem own_rowN {W : World} {base E : Nat} {K : IntKind} {v : Value} {zs : List Int} (h : W.ownsRow base E 1 v (encN K zs).length (encN K zs)) : ∃ p cap, v = .slice p zs.length cap ∧ RowN K W p zs := by
  rw [encN_length] at h
  obtain ⟨h1, h2⟩ := h
  rcases h2 with ⟨rfl, h3⟩ | ⟨g, cap, cur, rfl, hg, hb, hc1, hc2, hc3, ht⟩
  · exact ⟨none, 0, by rw [h3], fun h => by omega⟩
  · refine ⟨some ⟨g, 0, none⟩, cap, rfl, fun _ => ⟨g, 0, rfl, (Array.getElem?_eq_some_iff.1 hb).1, fun j x hj => ?_⟩⟩
    have hj' := (List.getElem?_eq_some_iff.1 hj).1
    have e : cur.toList[j]? = some (.int K x) := by
      have : (cur.toList.take (zs.length * 1))[j]? = (encN K zs)[j]? := by rw [ht]
      rw [List.getElem?_take, if_pos (by omega)] at this
      rw [this]
      simp [encN, hj]
    have e2 : cur[j]? = some (.int K x) := by simpa using e
    rw [Nat.zero_add, show W.cell? ⟨g, j, none⟩ = cur[j]? from Blk.cell (t := E) hb j, e2]
theorem infoU32 : (Try.prog.info? 51).map (fun i => (i.zero, i.size, i.bytes)) = some (some (.int .u32 0), 1, 4) := by kernel_rfl
theorem infoKin : (Try.prog.info? 52).map (fun i => (i.zero, i.size, i.bytes)) = some (some (.int .u32 0), 1, 4) := by kernel_rfl
theorem wrap32_in (x : Int) : -2147483648 ≤ IntKind.i32.wrap x ∧ IntKind.i32.wrap x ≤ 2147483647 := by simp [IntKind.wrap, IntKind.bits, IntKind.signed]; omega
theorem w32_in (x : Int) : -2147483648 ≤ wrap32 x ∧ wrap32 x ≤ 2147483647 := by unfold wrap32; omega
theorem wu32_in (x : Int) : 0 ≤ x % 4294967296 ∧ x % 4294967296 ≤ 4294967295 := by omega
theorem wrapu32_in (x : Int) : 0 ≤ IntKind.u32.wrap x ∧ IntKind.u32.wrap x ≤ 4294967295 := by simp [IntKind.wrap, IntKind.bits, IntKind.signed]; omega
theorem row_arg {W : World} {a : Option Addr} {len cap n : Nat} {z : List Int} (h : ArgRow .i64 W a len cap z) (hn : n ≤ len) : (z.take n).length = n ∧ RowN .i64 W a (z.take n) ∧ ∀ x ∈ z.take n, -9223372036854775808 ≤ x ∧ x ≤ 9223372036854775807 := by
  obtain ⟨hl, hz, hw, hc⟩ := h
  refine ⟨by rw [List.length_take]; omega, fun h0 => ?_, fun x hx => ?_⟩
  · rw [List.length_take] at h0
    obtain ⟨g, o, e, hg, hcell⟩ := hc (by omega)
    refine ⟨g, o, e, hg, fun j x hj => ?_⟩
    have hj' := (List.getElem?_eq_some_iff.1 hj).1
    rw [List.length_take] at hj'
    rw [hcell j (by omega)]
    rw [List.getElem?_take, if_pos (by omega)] at hj
    simp [List.getD, hj]
  · have := hw x (List.mem_of_mem_take hx)
    simp [Lit.wf, IntKind.min, IntKind.max, IntKind.signed, IntKind.bits] at this
    omega
end Go.Proofs.Ytemmflhofhngbaa
/- SetsText: the runes of any text. -/
namespace Go.Proofs.Ytemmflhofhngbaa
open Go.RowKit Go.Shelf
set_option linter.unusedVariables false
/-- The runes at some places. -/
def rnL (s : ByteArray) (l : List Nat) : List Int := l.map fun i => ((rn s i : Nat) : Int)
theorem own_far {W : World} {lo E sz n k : Nat} {v : Value} {xs : List Value} (h : W.ownsRow lo E sz v n xs) (hk : k < lo) : v.ownBlock = none ∨ v.ownBlock ≠ some k := .inr (fun e => by have := (h.lt k e).1; omega)
set_option maxRecDepth 100000 in
set_option maxHeartbeats 8000000 in
theorem law_text (s : ByteArray) (hs : s.size ≤ maxLen) (w : World) :
    Calls Try.prog 5 #[.string s] w fun e w' => e = .returned (.bool true) ∧ Below w.heap.size w w' := by
  have HC := hide (count_any s hs w)
  have HMX := hide hs
  have hsl := starts_length s
  have hsz : s.size ≤ 9223372036854775807 := by unfold maxLen at hs; omega
  have HSL := hide hsl
  clear hs hsl
  go_enter Try.func5, Try.ntmps5
  go_upto_if 13 with (go_at_call 26; refine (unhide HC).mono ?_; rintro e w1 ⟨rfl, hb1⟩)
  have HB1 := hide hb1
  clear hb1 HC
  go_cut [3] from 4 (fun s3 wc => ∃ t : ByteArray, s3 = .string t ∧ t.size ≤ 404 ∧ Hz (Below w.heap.size w wc))
  case first =>
    by_cases hc : 100 < (starts s).length
    · have hc' : (100 : Int) < ((starts s).length : Int) := by omega
      go_wp2_with fail
      go_loopw [4, 5] (fun n _ wr => ∃ (c pos : Nat), wr = w1.iter s pos ∧ n = .int .i64 c ∧ c ≤ 100 ∧ pos ≤ 4 * c ∧ pos ≤ s.size ∧ Hz (∃ (pre : List Nat) (f : Nat), pre.length = c ∧ starts s = pre ++ startsFrom s f pos ∧ s.size ≤ pos + f)) (fun _ _ wr => s.size - wr.iterPos w1.heap.size)
      case atStart => exact ⟨0, 0, rfl, rfl, by omega, by omega, by omega, hide ⟨[], s.size, rfl, rfl, by omega⟩⟩
      case round =>
        obtain ⟨c, pos, rfl, rfl, hc100, hpc, hps, HP⟩ := hrel
        by_cases hp : pos < s.size
        · have hnx : ∀ ty, (Instr.next (.pointer (some ⟨w1.heap.size, 0, none⟩)) true ty).run Try.prog (w1.iter s pos) = _ := fun ty => run_next_any w1 s pos ty hp
          have hwd := wd_pos s pos
          have hw4 := wd_four s pos
          have hwr := wd_room s pos hp
          by_cases h100 : c = 100
          · subst h100
            clear hwd hw4 hwr
            have HB2 := hide ((unhide HB1).alloc (unhide HB1).size (.stringIter s (pos + wd s pos)))
            go_wp2_with fail
            go_meet
            case rel => exact ⟨s.extract 0 pos, rfl, by rw [ByteArray.size_extract]; omega, hide (unhide HB2)⟩
          · have h100' : ((c : Int) == 100) = false := beq_eq_false_iff_ne.2 (by omega)
            have HW := hide (And.intro hwd (And.intro hw4 hwr))
            clear hwd hw4 hwr
            go_wp2_with fail
            go_roundw
            case rel =>
              have hwd := (unhide HW).1
              have hw4 := (unhide HW).2.1
              have hwr := (unhide HW).2.2
              refine ⟨c + 1, pos + wd s pos, rfl, by go_num, by omega, by omega, by omega, hide ?_⟩
              obtain ⟨pre, f, h1, h2, h3⟩ := unhide HP
              obtain ⟨g, rfl⟩ : ∃ g, f = g + 1 := ⟨f - 1, by omega⟩
              exact ⟨pre ++ [pos], g, by simp [h1], by rw [h2, startsFrom_cons s g pos hp]; simp, by omega⟩
            case measure =>
              have hwd := (unhide HW).1
              simp
              simp only [wd] at hwd
              omega
        · exfalso
          obtain ⟨pre, f, h1, h2, h3⟩ := unhide HP
          rw [startsFrom_end s f pos hp, List.append_nil] at h2
          rw [h2, h1] at hc
          omega
    · have hc' : ¬ (100 : Int) < ((starts s).length : Int) := by omega
      have hz4 := size_starts s
      have hz5 : s.size ≤ 404 := by omega
      clear hz4
      go_wp2_with fail
      go_meet
      case rel => exact ⟨s, rfl, hz5, HB1⟩
  case rest =>
    obtain ⟨t, rfl, ht, HB⟩ := hcut
    clear HB1
    have HT := hide (settext_any t (by omega) wc)
    go_wp2_with (go_at_call 19; refine (unhide HT).mono ?_; rintro e w2 ⟨B, lo0, us, rfl, hlo, hM, hS, hl2, hm, hb⟩)
    have hul : us.length ≤ 404 := by rw [runesL_length] at hl2; have := starts_length t; omega
    have HS2 := hide (hM.set hS (by omega))
    have HSp := hide hS
    have HMm := hide hm
    have HB2 := hide ((unhide HB).trans (hb.mono (unhide HB).size))
    clear hlo hM hS hl2 hm hb HB HT
    refine (alive_any w2).mono ?_
    rintro e w3 ⟨rfl, hb⟩
    have HS3 := hide ((unhide HS2).below hb)
    have HB3 := hide ((unhide HB2).trans (hb.mono (unhide HB2).size))
    clear hb HS2 HB2
    go_wp2_with fail
    have hI0 : (w3.iter t 0).heap[w3.heap.size]? = some (.stringIter t 0) := World.alloc_heap_new w3 _
    have HI0 := hide hI0
    have HBI := hide ((Below.refl w3.heap.size w3).alloc (Nat.le_refl _) (.stringIter t 0))
    clear hI0
    go_loopw [7, 9] (fun v _ wr => ∃ (pre : List Nat) (pos : Nat), pre.length ≤ pos ∧ pos ≤ t.size ∧ Hz (wr.heap[w3.heap.size]? = some (.stringIter t pos)) ∧ Hz (Below w3.heap.size w3 wr) ∧ Hz (wr.ownsRow (w3.heap.size + 1) 28 2 v (dup (rnL t pre)).length (encP (dup (rnL t pre)))) ∧ Hz (∃ f, starts t = pre ++ startsFrom t f pos ∧ t.size ≤ pos + f)) (fun _ _ wr => t.size + 1 - wr.iterPos w3.heap.size)
    case atStart => exact ⟨[], 0, Nat.le_refl _, by omega, HI0, HBI, hide (World.ownsRow_nil _ _ _ _), hide ⟨t.size, rfl, by omega⟩⟩
    case round =>
      clear HI0 HBI
      obtain ⟨pre, pos, hpl, hps, HI, HBW, HO, HP⟩ := hrel
      by_cases hp : pos < t.size
      · have hnx : ∀ ty, (Instr.next (.pointer (some ⟨w3.heap.size, 0, none⟩)) true ty).run Try.prog wr = _ := fun ty => Lib.run_next_any_at wr w3.heap.size t pos ty (unhide HI) hp
        have hwd := wd_pos t pos
        have hwr := wd_room t pos hp
        have i0 : (wr.iterAt w3.heap.size t (pos + (Utf8.decode t pos).2)).heap[w3.heap.size]? = some (.stringIter t (pos + (Utf8.decode t pos).2)) := Lib.iterAt_heap wr w3.heap.size t pos _ (unhide HI)
        have g0 : Below w3.heap.size w3 (wr.iterAt w3.heap.size t (pos + (Utf8.decode t pos).2)) := (unhide HBW).grown (grown_iterAt wr w3.heap.size t _) (unhide HBW).size (fun k hk => by cases hk; exact Nat.le_refl _)
        have o0 := own_other (unhide HO) (grown_iterAt wr w3.heap.size t (pos + (Utf8.decode t pos).2)) (own_far (unhide HO) (by omega))
        have hst : ∃ f, starts t = (pre ++ [pos]) ++ startsFrom t f (pos + wd t pos) ∧ t.size ≤ (pos + wd t pos) + f := by
          obtain ⟨f, h2, h3⟩ := unhide HP
          obtain ⟨g, rfl⟩ : ∃ g, f = g + 1 := ⟨f - 1, by omega⟩
          exact ⟨g, by rw [h2, startsFrom_cons t g pos hp]; simp, by omega⟩
        have hsn : dup (rnL t (pre ++ [pos])) = dup (rnL t pre) ++ [((((Utf8.decode t pos).1 : Nat) : Int), (((Utf8.decode t pos).1 : Nat) : Int))] := by simp [dup, rnL, rn]
        simp only [wd] at hwd hwr hst
        obtain ⟨d, hd⟩ : ∃ d, d = pos + (Utf8.decode t pos).2 := ⟨_, rfl⟩
        obtain ⟨x, hx⟩ : ∃ x, x = (Utf8.decode t pos).1 := ⟨_, rfl⟩
        rw [← hd] at hnx hst i0 g0 o0 hwr
        rw [← hx] at hnx hsn
        have HI2 := hide i0
        have HB2 := hide g0
        have HO2 := hide o0
        have HST := hide hst
        have HSN := hide hsn
        have hdp : pos < d := by omega
        have HIP := hide (And.intro (iterPos_at (unhide HI)) hdp)
        have hdl : (dup (rnL t pre)).length ≤ 900000 := by rw [dup_length]; unfold rnL; rw [List.length_map]; omega
        have hroom : w3.heap.size + 1 ≤ (wr.iterAt w3.heap.size t d).heap.size := (Array.getElem?_eq_some_iff.1 i0).1
        have HRM := hide hroom
        clear i0 g0 o0 hst hsn hd hx HI HBW HO HP hwd hroom
        go_wp2_with (at_builtin; refine append_oneP rfl _ _ rfl rfl (w3.heap.size + 1) _ (dup (rnL t pre)) rfl hdl _ (_, _) rfl (unhide HO2) (unhide HRM) _ rfl rfl ?_)
        intro v' w4 hown hb4
        have HI4 : Hz (w4.heap[w3.heap.size]? = some (.stringIter t d)) := hide ((hb4.block _ (by omega)).trans (unhide HI2))
        have HB4 : Hz (Below w3.heap.size w3 w4) := hide ((unhide HB2).trans (hb4.mono (by omega)))
        have HO4 : Hz (w4.ownsRow (w3.heap.size + 1) 28 2 v' (dup (rnL t (pre ++ [pos]))).length (encP (dup (rnL t (pre ++ [pos]))))) := hide (by rw [unhide HSN]; first | exact hown | (rw [List.length_append]; exact hown))
        clear hown hb4
        go_wp2_with fail
        go_roundw
        case rel => exact ⟨pre ++ [pos], d, by rw [List.length_append, List.length_singleton]; omega, hwr, HI4, HB4, HO4, HST⟩
        case measure => rw [iterPos_at (unhide HI4), (unhide HIP).1]; omega
      · have hnx : ∀ ty, (Instr.next (.pointer (some ⟨w3.heap.size, 0, none⟩)) true ty).run Try.prog wr = _ := fun ty => Lib.run_next_end_at wr w3.heap.size t pos ty (unhide HI) hp
        have hpre : rnL t pre = runesL t := by
          obtain ⟨f, h2, h3⟩ := unhide HP
          rw [startsFrom_end t f pos hp, List.append_nil] at h2
          unfold rnL runesL
          rw [h2]
        have ho := unhide HO
        rw [hpre] at ho
        obtain ⟨av, cv, rfl, hrow, _, _⟩ := own_row ho
        have HRow := hide hrow
        have HSW := hide ((unhide HS3).below (unhide HBW))
        have HBB := hide ((unhide HB3).trans ((unhide HBW).mono (unhide HB3).size))
        have hdl : (dup (runesL t)).length ≤ 1073741824 := by rw [dup_length, runesL_length]; have := starts_length t; omega
        have HDL := hide hdl
        clear hrow ho hpre HO HP HI HBW hdl
        go_wp2_with fail
        refine (spans_any B us wr (unhide HSW)).mono ?_
        rintro e w6 ⟨v6, rfl, hown6, hb6⟩
        obtain ⟨a6, c6, rfl, hrow6, _, _⟩ := own_row hown6
        have HRow6 := hide hrow6
        have HRowS := hide ((unhide HRow).below hb6)
        have HB6 := hide ((unhide HBB).trans (hb6.mono (unhide HBB).size))
        clear hown6 hrow6 hb6
        have HCR := hide (refSpans_any av cv (dup (runesL t)) (unhide HDL) (dup_right (runesL_runeB t)) w6 (unhide HRowS))
        go_wp2_with fail
        refine (unhide HCR).mono ?_
        rintro e w7 ⟨v7, os, rfl, hown7, hS7, hm7, hb7⟩
        obtain rfl : us = os := spread_unique us os (unhide HSp) hS7 (fun r => (unhide HMm r).trans (hm7 r).symm)
        obtain ⟨a7, c7, rfl, hrow7, _, _⟩ := own_row hown7
        have HB7 := hide ((unhide HB6).trans (hb7.mono (unhide HB6).size))
        have HCS := hide (sameP_any a6 a7 c6 c7 us us (by omega) (by omega) w7 ((unhide HRow6).below hb7) hrow7)
        rw [sameB_refl] at HCS
        clear hown7 hrow7 hS7 hm7 hb7 HCR
        go_wp2_with fail
        refine (unhide HCS).mono ?_
        rintro e w8 ⟨rfl, hb8⟩
        have HB8 := hide ((unhide HB7).trans (hb8.mono (unhide HB7).size))
        clear hb8
        go_wp2_with fail
        go_ret
        exact ⟨rfl, unhide HB8⟩
end Go.Proofs.Ytemmflhofhngbaa
