/- A Book of tables: the runes that are taken apart, folded, or look like others. -/
import Derived.Test.YtnnbaodillnkkaaGreatM26
import Derived.Test.YtnnbaodillnkkaaGreatShT
namespace Go.Proofs.YtnnbaodillnkkaaGreat
open Go.RowKit Go.Shelf Go.Maps
set_option linter.unusedVariables false
theorem compact_facts (d : Array Int) (hs : ∀ i j, i < j → j < d.size → d[i]! ≤ d[j]!) : ∀ m, m ≤ d.size → (Lib.compactUpTo d m).Pairwise (· < ·) ∧ ∀ x, x ∈ Lib.compactUpTo d m ↔ ∃ j, j < m ∧ d[j]! = x
  | 0, _ => ⟨by simp [Lib.compactUpTo], fun x => by simp [Lib.compactUpTo]⟩
  | m + 1, hm => by
    obtain ⟨h1, h2⟩ := compact_facts d hs m (by omega)
    rw [Lib.compactUpTo_succ]
    by_cases hk : Lib.keeps d m = true
    · rw [if_pos hk]
      unfold Lib.keeps at hk
      rw [decide_eq_true_eq] at hk
      refine ⟨List.pairwise_append.2 ⟨h1, by simp, fun a ha b hb => ?_⟩, fun x => ?_⟩
      · obtain rfl : b = d[m]! := by simpa using hb
        obtain ⟨j, hj, rfl⟩ := (h2 a).1 ha
        rcases hk with rfl | hk
        · omega
        · have e1 : d[j]! ≤ d[m - 1]! := by
            rcases Nat.lt_or_ge j (m - 1) with c | c
            · exact hs j (m - 1) c (by omega)
            · rw [show j = m - 1 by omega]
              exact Int.le_refl _
          have e2 := hs (m - 1) m (by omega) (by omega)
          omega
      · rw [List.mem_append, h2 x]
        constructor
        · rintro (⟨j, hj, e⟩ | hx)
          · exact ⟨j, by omega, e⟩
          · exact ⟨m, by omega, (by simpa using hx : x = d[m]!).symm⟩
        · rintro ⟨j, hj, e⟩
          rcases Nat.lt_or_ge j m with c | c
          · exact .inl ⟨j, c, e⟩
          · obtain rfl : j = m := by omega
            exact .inr (by simp [e])
    · rw [if_neg hk, List.append_nil]
      refine ⟨h1, fun x => ?_⟩
      rw [h2 x]
      unfold Lib.keeps at hk
      rw [decide_eq_true_eq] at hk
      have k1 : ¬ m = 0 := fun q => hk (.inl q)
      have k2 : d[m]! = d[m - 1]! := Decidable.byContradiction (fun q => hk (.inr q))
      constructor
      · rintro ⟨j, hj, e⟩
        exact ⟨j, by omega, e⟩
      · rintro ⟨j, hj, e⟩
        rcases Nat.lt_or_ge j m with c | c
        · exact ⟨j, c, e⟩
        · obtain rfl : j = m := by omega
          exact ⟨j - 1, by omega, by rw [← k2]; exact e⟩
theorem sorted_le {d : Array Int} (h : Sort.SortedIn Sort.ltInt 0 d.size d) : ∀ i j, i < j → j < d.size → d[i]! ≤ d[j]! := fun i j hij hj => by
  have := h i j (Nat.zero_le _) hij hj
  unfold Sort.ltInt at this
  simpa using this
theorem own_holds {w : World} {lo : Nat} {v : Value} {zs : List Int} (h : w.ownsRow lo 21 1 v zs.length (zs.map (Value.int .i32))) (h0 : 0 < zs.length) : ∃ g cap, v = .slice (some ⟨g, 0, none⟩) zs.length cap ∧ lo ≤ g ∧ g < w.heap.size ∧ zs.length ≤ cap ∧ Sort.Holds (Value.int .i32) w g 0 zs.toArray := by
  rcases h.2 with ⟨_, e⟩ | ⟨g, cap, cur, e, hb, hg, hc, hm, hcs, hx⟩
  · omega
  · have b : Blk w g cur 21 := hg
    refine ⟨g, cap, e, hb, b.lt, hc, fun j hj => ⟨?_, b.frozen (0 + j)⟩⟩
    have hj' : j < zs.length := by simpa using hj
    rw [b.cell (0 + j), Nat.zero_add]
    have hx1 : (cur.toList.take (zs.length * 1))[j]? = (zs.map (Value.int .i32))[j]? := by rw [hx]
    rw [List.getElem?_take_of_lt (by omega), Array.getElem?_toList, List.getElem?_map, List.getElem?_eq_getElem hj'] at hx1
    rw [hx1]
    simp [getElem!_pos, hj']
theorem put_grown {w : World} {g q : Nat} (d : Array Int) : w.grownBy (Sort.putRow (Value.int .i32) (Sort.ahead w q) g 0 d) (some g) := by
  refine ⟨rfl, rfl, rfl, by simp [Sort.putRow, Sort.mapBlock, Sort.ahead], fun k hk hne => ?_⟩
  have : g ≠ k := fun e => hne (by rw [e])
  simp [Sort.putRow, Sort.mapBlock, Sort.ahead, Array.getElem?_modify, this]
set_option maxRecDepth 100000 in
theorem compact0_any (p : Option Addr) (cap : Nat) (w : World) : Calls Tryz.prog 32 #[.slice p 0 cap] w fun e w' => e = .returned (.slice p 0 cap) ∧ w' = w := by
  go_enter Tryz.func32, Tryz.ntmps32
  go_wp2_with fail
  go_ret
  exact ⟨rfl, rfl⟩
theorem dec_beq : (fun x y : Int => decide (x = y)) = fun x y => x == y := funext fun x => funext fun y => by rw [Bool.eq_iff_iff]; simp
theorem compactR_any (g cap : Nat) (d : Array Int) (hs : Sort.SortedIn Sort.ltInt 0 d.size d) (hsz : d.size ≤ 1000000) (hcap : d.size ≤ cap) (w : World) (hg : g < w.heap.size) (hH : Sort.Holds (Value.int .i32) w g 0 d) :
    Calls Tryz.prog 32 #[.slice (some ⟨g, 0, none⟩) d.size cap] w fun e w' => ∃ fs : List Int, e = .returned (.slice (some ⟨g, 0, none⟩) fs.length cap) ∧ fs.Pairwise (· < ·) ∧ (∀ x, x ∈ fs ↔ x ∈ d.toList) ∧ RnC w' w'.heap.size (some ⟨g, 0, none⟩) fs ∧ w.grownBy w' (some g) := by
  obtain ⟨f1, f2⟩ := compact_facts d (sorted_le hs) d.size (Nat.le_refl _)
  have hle : (Lib.compactUpTo d d.size).length ≤ d.size := by
    unfold Lib.compactUpTo
    rw [List.length_map]
    exact Nat.le_trans (List.length_filter_le _ _) (by simp)
  refine (show Calls Tryz.prog 32 #[.slice (some ⟨g, 0, none⟩) d.size cap] w _ from AnyE.slices_Compact compactRune (Value.int .i32) (fun _ => rfl) (by rw [dec_beq]; exact EqlAt.int _ _ _) (by rw [dec_beq]; exact NeqAt.int _ _ _) 0 (fun w => zero_i32 w) g 0 cap d w hH (by omega) hcap).mono ?_
  rintro e w' ⟨rfl, q, rfl⟩
  refine ⟨_, rfl, f1, fun x => ?_, ?_, put_grown _⟩
  · rw [f2 x, Array.mem_toList_iff, Array.mem_iff_getElem]
    constructor
    · rintro ⟨j, hj, e⟩
      exact ⟨j, hj, by rw [← e, getElem!_pos d j hj]⟩
    · rintro ⟨j, hj, e⟩
      exact ⟨j, hj, by rw [← e, getElem!_pos d j hj]⟩
  · intro _
    refine ⟨g, 0, rfl, Nat.lt_of_lt_of_le hg (put_grown _).size, fun j x hx => ?_⟩
    have hj := (List.getElem?_eq_some_iff.1 hx).1
    have hH2 : Sort.Holds (Value.int .i32) (Sort.ahead w q) g 0 d := hH
    rw [Sort.cell?_putRow (Value.int .i32) (Sort.ahead w q) g 0 d _ hH2 (by simp; omega) j (by simp; omega)]
    rw [getElem!_pos _ j (by simp; omega)]
    simp [List.getElem_append_left hj, (List.getElem?_eq_some_iff.1 hx).2]
/-- Sorted and compacted. -/
theorem own_iter {w : World} {P : Program} {k : TypeId} {R : Value → Option (DataW Unit × List MemPlace)} {b r n : Nat} {D : DataW Unit} {left : Lit → Bool} {cnt : Nat} {lo E sz m : Nat} {v : Value} {xs : List Value} (h : w.ownsRow lo E sz v m xs) (hr : w.ranges P k R b r n D left cnt) : v.ownBlock = none ∨ v.ownBlock ≠ some r := by
  rcases h.2 with ⟨e, _⟩ | ⟨g, cap, cur, e, hb, hg, _⟩
  · subst e
    exact .inl rfl
  · subst e
    refine .inr fun e => ?_
    obtain rfl : g = r := Option.some.inj e
    obtain ⟨es, clock, since, seen, c0, _, _, _, _, hr', _⟩ := hr
    rw [hg] at hr'
    cases hr'
theorem append_x {w : World} {ops : Array Oper} {rest : List Oper} {o : Oper} {a : Act} {Q : Exit → Act → World → Prop} (hgd : o.guard = none) (s x : Operand) (T E : TypeId)
    (ho : o.op = .call { callee := .builtin .append, args := #[s, x], argTypes := #[T, T] }) (i : TypeInfo) (z : Value) (bytes : Nat) (hT : Tryz.prog.underlying T = some (.slice E)) (hi : Tryz.prog.info? E = some i) (h1 : i.zero = some z) (h2 : i.size = 1) (h3 : i.bytes = bytes) (hzs : z.cells.size = 1) (hb8 : bytes ≤ 64)
    (lo : Nat) (v : Value) (xs : List Value) (u : Value) (hs : a.eval s = v) (hl : xs.length ≤ 900000) (W : World) (hW : w = W.alloc (.cells #[u] E)) (hu : u.oneCell' = true) (hv : W.ownsRow lo E 1 v xs.length xs) (hlo : lo ≤ W.heap.size) (n : Nat) (hn : n = W.heap.size) (hx : a.eval x = .slice (some ⟨n, 0, none⟩) 1 1)
    (h : ∀ v' w', w'.ownsRow lo E 1 v' (xs ++ [u]).length (xs ++ [u]) → (W.alloc (.cells #[u] E)).grownBy w' v.ownBlock → wpList Tryz.prog ops Q rest (a.put o.dst v') w') : wpList Tryz.prog ops Q (o :: rest) a w := by
  subst hW
  subst hn
  have b := Blk.new W #[u] E
  refine wpList_append_own _ hgd s x T ho lo E i z 1 bytes hT hi h1 h2 h3 hzs (by decide) v xs.length xs hs (hv.alloc _) ⟨W.heap.size, 0, none⟩ 1 1 [u] hx (by simp) (fun j y hj => ?_) (fun y hy => by rw [List.mem_singleton.1 hy]; exact hu) (by unfold maxLen; omega) ?_ (by simp; omega) (fun v' w' h4 h5 _ => h v' w' (by rw [List.length_append, List.length_singleton]; exact h4) h5)
  · match j, hj with
    | 0, hj => cases hj; exact b.cell 0
    | j + 1, hj => simp at hj
  · have : (xs.length + 1) * bytes ≤ 900001 * 64 := Nat.mul_le_mul (by omega) hb8
    omega
theorem PaAt.hasW {T : TV} (hO : RowsOk T) {w : World} {M n : Nat} (h : PaAt w M n T.pr) : ∃ D, w.ownsMap Tryz.prog 21 twoElem M n D ∧ (∀ r, R32 r → (Maps.has D (.int .i32 r) = true ↔ wholB T r = true)) ∧ Maps.size D = T.pr.length := by
  obtain ⟨G, ⟨D, ho, hD⟩, hg⟩ := h.mp
  have hw : ∀ r, R32 r → (Maps.has D (.int .i32 r) = true ↔ wholB T r = true) := fun r hr => by
    rw [(hD (.int .i32 r) trivial).1]
    unfold wholB
    rw [List.any_eq_true]
    rcases hg r hr with ⟨h1, h2⟩ | ⟨x, hx, e, h2⟩
    · rw [h2]
      exact ⟨fun q => (by cases q), fun ⟨x, hx, e⟩ => absurd (by simpa using e) (h1 x hx)⟩
    · rw [h2]
      exact ⟨fun _ => ⟨x, hx, by simp [e]⟩, fun _ => rfl⟩
  refine ⟨D, ho, hw, ?_⟩
  have := map_size ho (T.pr.map (·.1)) (by rw [List.pairwise_map]; exact hO.t3) (fun r hr => by
    obtain ⟨x, hx, rfl⟩ := List.mem_map.1 hr
    exact rune32 (hO.f3 x hx).1) (fun r hr => by
    rw [hw r hr]
    unfold wholB
    rw [List.any_eq_true, List.mem_map]
    exact ⟨fun ⟨x, hx, e⟩ => ⟨x, hx, by simpa using e⟩, fun ⟨x, hx, e⟩ => ⟨x, hx, by simp [e]⟩⟩)
  rw [this, List.length_map]
theorem FoAt.hasF {l : List (Int × ByteArray)} (hp : l.Pairwise (fun x y => x.1 ≠ y.1)) (hR : ∀ x ∈ l, runeB x.1 = true ∧ toB x.2 = true) {w : World} {M n : Nat} (h : FoAt w M n l) : ∃ D, w.ownsMap Tryz.prog 21 hdrElem M n D ∧ (∀ r, R32 r → (Maps.has D (.int .i32 r) = true ↔ fromB l r = true)) ∧ Maps.size D = l.length := by
  obtain ⟨G, ⟨D, ho, hD⟩, hg⟩ := h.mp
  have hw : ∀ r, R32 r → (Maps.has D (.int .i32 r) = true ↔ fromB l r = true) := fun r hr => by
    rw [(hD (.int .i32 r) trivial).1]
    unfold fromB
    rw [List.any_eq_true]
    rcases hg r hr with ⟨h1, h2⟩ | ⟨x, hx, e, g, c, h2, _⟩
    · rw [h2]
      exact ⟨fun q => (by cases q), fun ⟨x, hx, e⟩ => absurd (by simpa using e) (h1 x hx)⟩
    · rw [h2]
      exact ⟨fun _ => ⟨x, hx, by simp [e]⟩, fun _ => rfl⟩
  refine ⟨D, ho, hw, ?_⟩
  have := map_size ho (l.map (·.1)) (by rw [List.pairwise_map]; exact hp) (fun r hr => by
    obtain ⟨x, hx, rfl⟩ := List.mem_map.1 hr
    exact rune32 (hR x hx).1) (fun r hr => by
    rw [hw r hr]
    unfold fromB
    rw [List.any_eq_true, List.mem_map]
    exact ⟨fun ⟨x, hx, e⟩ => ⟨x, hx, by simpa using e⟩, fun ⟨x, hx, e⟩ => ⟨x, hx, by simp [e]⟩⟩)
  rw [this, List.length_map]
def mkTwo (c : Int × Int) : Value := .agg #[.int .i32 c.1, .int .i32 c.2]
def mkHdr (c : Option (Nat × Nat × Nat)) : Value := match c with
  | none => .slice none 0 0
  | some x => .slice (some ⟨x.1, 0, none⟩) x.2.1 x.2.2
theorem inv_two (v : Value) (y : DataW Unit × List MemPlace) (h : twoElem v = some y) : ∃ c, v = mkTwo c := by
  unfold twoElem at h
  split at h
  · rename_i cs
    split at h
    · rename_i x z e
      refine ⟨(x, z), ?_⟩
      have : cs = #[Value.int .i32 x, Value.int .i32 z] := by rw [← Array.toArray_toList (xs := cs), e]
      rw [this]
      rfl
    · cases h
  · cases h
theorem inv_hdr (v : Value) (y : DataW Unit × List MemPlace) (h : hdrElem v = some y) : ∃ c, v = mkHdr c := by
  unfold hdrElem at h
  split at h
  · rename_i g n c
    exact ⟨some (g, n, c), rfl⟩
  · exact ⟨none, rfl⟩
  · cases h
theorem inv_key (key : Value) (kl : Lit) (h : keyOf Tryz.prog 21 key = some kl) : ∃ x, key = Value.int .i32 x := by
  obtain ⟨r, e, _⟩ := key32 h
  exact ⟨r, e⟩
/-- Runes that are gathered. -/
structure FrS (W w : World) (v : Value) (l : List Int) : Prop where
  row : w.ownsRow W.heap.size 21 1 v l.length (l.map (Value.int .i32))
  bl : Below W.heap.size W w
/-- .. out of a map that is ranged over. -/
structure FrC (base l : List Int) (D : DataW Unit) (left : Lit → Bool) (cnt : Nat) : Prop where
  mem : ∀ x, x ∈ l ↔ x ∈ base ∨ (R32 x ∧ Maps.has D (.int .i32 x) = true ∧ left (.int .i32 x) = false)
  len : l.length + cnt ≤ base.length + Maps.size D
theorem FrC.start (base : List Int) (D : DataW Unit) : FrC base base D (Maps.has D) (Maps.size D) := ⟨fun x => ⟨.inl, fun h => h.elim id (fun ⟨_, h1, h2⟩ => by rw [h1] at h2; cases h2)⟩, Nat.le_refl _⟩
theorem FrC.step {base l : List Int} {D : DataW Unit} {left : Lit → Bool} {cnt cnt' : Nat} {x : Int} (h : FrC base l D left cnt) (h32 : R32 x) (hl : left (.int .i32 x) = true) (hh : Maps.has D (.int .i32 x) = true) (hc : cnt' < cnt) : FrC base (l ++ [x]) D (fun z => left z && !z.sameKey (.int .i32 x)) cnt' := by
  refine ⟨fun y => ?_, by rw [List.length_append, List.length_singleton]; have := h.len; omega⟩
  rw [List.mem_append, List.mem_singleton, h.mem y]
  have hs : (Lit.int .i32 y).sameKey (.int .i32 x) = true ↔ y = x := ⟨fun q => by have := WideAt.sameKey_eq q; injection this, fun q => by rw [q]; exact WideAt.sameKey_self trivial⟩
  by_cases e : y = x
  · subst e
    rw [hs.2 rfl]
    simp [h32, hh]
  · have : (Lit.int .i32 y).sameKey (.int .i32 x) = false := by
      cases q : (Lit.int .i32 y).sameKey (.int .i32 x) with
      | false => rfl
      | true => exact absurd (hs.1 q) e
    rw [this]
    simp [e]
theorem FrC.done {base l : List Int} {D : DataW Unit} {left : Lit → Bool} {cnt : Nat} (h : FrC base l D left cnt) (hl : ∀ kl, left kl = false) : (∀ x, x ∈ l ↔ x ∈ base ∨ (R32 x ∧ Maps.has D (.int .i32 x) = true)) ∧ l.length ≤ base.length + Maps.size D :=
  ⟨fun x => by rw [h.mem x, hl]; simp, by have := h.len; omega⟩
/-- Is it one of these? -/
def fromsB (T : TV) (x : Int) : Bool := wholB T x || (fromB T.fo x || fromB T.lk x)
theorem below_grownS {lo g : Nat} {W w w' : World} (h : Below lo W w) (hg : w.grownBy w' (some g)) (hl : lo ≤ g) (hs : lo ≤ w.heap.size) : Below lo W w' := h.grown hg hs (fun k e => by have := Option.some.inj e; omega)
theorem own_other1 {w w' : World} {lo E sz n : Nat} {v : Value} {xs : List Value} (h : w.ownsRow lo E sz v n xs) (hg : w.grownBy w' none) : w'.ownsRow lo E sz v n xs := rd_other h hg (by cases v.ownBlock with | none => exact .inl rfl | some b => exact .inr (fun e => by cases e))
theorem own_other2 {w w' : World} {lo E sz n r : Nat} {v : Value} {xs : List Value} (h : w.ownsRow lo E sz v n xs) (hg : w.grownBy w' (some r)) (hne : v.ownBlock = none ∨ v.ownBlock ≠ some r) : w'.ownsRow lo E sz v n xs := rd_other h hg hne
theorem sortC_any (W : World) (l : List Int) (v : Value) (w : World) (hr : w.ownsRow W.heap.size 21 1 v l.length (l.map (Value.int .i32))) (hb : Below W.heap.size W w) (hl : l.length ≤ 12288) :
    Calls Tryz.prog 31 #[v] w fun e w' => e = .returned (.tuple #[]) ∧ Below W.heap.size W w' ∧ Calls Tryz.prog 32 #[v] w' fun e w2 => ∃ a c fs, e = .returned (.slice a (List.length fs) c) ∧ fs.Pairwise (· < ·) ∧ (∀ x, x ∈ fs ↔ x ∈ l) ∧ RnC w2 w2.heap.size a fs ∧ (∀ g o, a = some ⟨g, o, none⟩ → W.heap.size ≤ g) ∧ Below W.heap.size w' w2 := by
  rcases Nat.eq_zero_or_pos l.length with h0 | h0
  · obtain rfl : l = [] := List.length_eq_zero_iff.1 h0
    obtain ⟨p, cap, e, hp⟩ : ∃ p cap, v = .slice p 0 cap ∧ ∀ g o, p = some ⟨g, o, none⟩ → W.heap.size ≤ g := by
      rcases hr.2 with ⟨e, _⟩ | ⟨g, cap, cur, e, hlo, _⟩
      · exact ⟨none, 0, e, fun g o q => by cases q⟩
      · exact ⟨_, _, e, fun g' o q => by injection q with q; injection q with q; omega⟩
    subst e
    refine (so_sort0 p cap w).mono ?_
    rintro e w' ⟨rfl, rfl⟩
    refine ⟨rfl, hb, (compact0_any p cap _).mono ?_⟩
    rintro e w2 ⟨rfl, rfl⟩
    exact ⟨p, cap, [], rfl, List.Pairwise.nil, fun x => Iff.rfl, fun q => by simp at q, hp, Below.refl _ _⟩
  · obtain ⟨g, cap, rfl, hlo, hg, hc, hH⟩ := own_holds hr h0
    refine (so_sort g 0 cap l.length (by omega) l.toArray (by simp) w hg hH).mono ?_
    rintro e w' ⟨rfl, d, hp, hs, hS⟩
    have hd : d.size = l.length := by simpa using hp.1
    have hb2 := below_grownS hb hS.gr hlo hb.size
    have hperm := perm_list hp
    have hq := compactR_any g cap d (by rw [hd]; exact hs) (by omega) (by omega) w' (Nat.lt_of_lt_of_le hg hS.gr.size) hS.row
    rw [hd] at hq
    refine ⟨rfl, hb2, hq.mono ?_⟩
    rintro e w2 ⟨fs, rfl, f1, f2, f3, f4⟩
    exact ⟨_, _, fs, rfl, f1, fun x => (f2 x).trans hperm.mem_iff, f3, fun g' o q => by (injection q with q; injection q with q; omega), (Below.refl _ w').grown f4 hb2.size (fun k e => by have := Option.some.inj e; omega)⟩
set_option maxRecDepth 100000 in
set_option maxHeartbeats 8000000 in
theorem bkFroms_any {T : TV} (hO : RowsOk T) (B : Nat) (W : World) (h : BookAt W B T) : Calls Tryz.prog 9 #[.pointer (some ⟨B, 0, none⟩)] W fun e w' => ∃ a c fs, e = .returned (.slice a (List.length fs) c) ∧ fs.Pairwise (· < ·) ∧ (∀ x, x ∈ fs ↔ fromsB T x = true) ∧ RnC w' w'.heap.size a fs ∧ (∀ g o, a = some ⟨g, o, none⟩ → W.heap.size ≤ g) ∧ Below W.heap.size W w' := by
  obtain ⟨i0, hi, hz0, hz1, hz2⟩ := info_parts infoR32
  obtain ⟨MP, nP, kP, hP⟩ := h.pas
  obtain ⟨MF, nF, kF, hF⟩ := h.fos
  obtain ⟨ML, nL, kL, hL⟩ := h.lks
  have HP : Hz (∀ w, Below W.heap.size W w → ∃ D, w.ownsMap Tryz.prog 21 twoElem MP nP D ∧ (∀ r, R32 r → (Maps.has D (.int .i32 r) = true ↔ wholB T r = true)) ∧ Maps.size D = T.pr.length) := hide (fun w hb => (hP.below hb).hasW hO)
  have HF : Hz (∀ w, Below W.heap.size W w → ∃ D, w.ownsMap Tryz.prog 21 hdrElem MF nF D ∧ (∀ r, R32 r → (Maps.has D (.int .i32 r) = true ↔ fromB T.fo r = true)) ∧ Maps.size D = T.fo.length) := hide (fun w hb => (hF.below hb).hasF hO.t4 hO.f4)
  have HL' : Hz (∀ w, Below W.heap.size W w → ∃ D, w.ownsMap Tryz.prog 21 hdrElem ML nL D ∧ (∀ r, R32 r → (Maps.has D (.int .i32 r) = true ↔ fromB T.lk r = true)) ∧ Maps.size D = T.lk.length) := hide (fun w hb => (hL.below hb).hasF hO.t5 hO.f5)
  have HKP : Hz (∀ w, Below W.heap.size W w → w.cell? ⟨B, 13, none⟩ = some (.map (some MP))) := hide (fun w hb => (hb.cell (p := ⟨B, 13, none⟩) h.lt).trans kP)
  have HKF : Hz (∀ w, Below W.heap.size W w → w.cell? ⟨B, 15, none⟩ = some (.map (some MF))) := hide (fun w hb => (hb.cell (p := ⟨B, 15, none⟩) h.lt).trans kF)
  have HKL : Hz (∀ w, Below W.heap.size W w → w.cell? ⟨B, 16, none⟩ = some (.map (some ML))) := hide (fun w hb => (hb.cell (p := ⟨B, 16, none⟩) h.lt).trans kL)
  have HMP : Hz (MP < W.heap.size) := hide hP.lt
  have HMF : Hz (MF < W.heap.size) := hide (by obtain ⟨G, h1, _⟩ := hF.mp; exact h1.lt)
  have HML : Hz (ML < W.heap.size) := hide (by obtain ⟨G, h1, _⟩ := hL.mp; exact h1.lt)
  have HL : Hz (T.pr.length ≤ 4096 ∧ T.fo.length ≤ 4096 ∧ T.lk.length ≤ 4096) := hide ⟨hO.l3, hO.l4, hO.l5⟩
  have HLB0 : Hz (([] : List Int).length ≤ 0) := hide (by simp)
  have HFI : Hz (∀ (D1 D2 D3 : DataW Unit) (l1 l2 l3 : List Int), (∀ r, R32 r → (Maps.has D1 (.int .i32 r) = true ↔ wholB T r = true)) → (∀ r, R32 r → (Maps.has D2 (.int .i32 r) = true ↔ fromB T.fo r = true)) → (∀ r, R32 r → (Maps.has D3 (.int .i32 r) = true ↔ fromB T.lk r = true)) → (∀ x, x ∈ l1 ↔ x ∈ ([] : List Int) ∨ (R32 x ∧ Maps.has D1 (.int .i32 x) = true)) → (∀ x, x ∈ l2 ↔ x ∈ l1 ∨ (R32 x ∧ Maps.has D2 (.int .i32 x) = true)) → (∀ x, x ∈ l3 ↔ x ∈ l2 ∨ (R32 x ∧ Maps.has D3 (.int .i32 x) = true)) → ∀ x, x ∈ l3 ↔ fromsB T x = true) := hide (fun D1 D2 D3 l1 l2 l3 a1 a2 a3 b1 b2 b3 x => by
    have wr : wholB T x = true → R32 x := fun q => by
      unfold wholB at q
      obtain ⟨y, hy, e⟩ := List.any_eq_true.1 q
      obtain rfl : y.1 = x := by simpa using e
      exact rune32 (hO.f3 y hy).1
    have fr : ∀ l : List (Int × ByteArray), (∀ x ∈ l, runeB x.1 = true ∧ toB x.2 = true) → fromB l x = true → R32 x := fun l hl q => by
      unfold fromB at q
      obtain ⟨y, hy, e⟩ := List.any_eq_true.1 q
      obtain rfl : y.1 = x := by simpa using e
      exact rune32 (hl y hy).1
    unfold fromsB
    rw [b3, b2, b1, Bool.or_eq_true, Bool.or_eq_true]
    constructor
    · rintro (((q | ⟨q1, q2⟩) | ⟨q1, q2⟩) | ⟨q1, q2⟩)
      · simp at q
      · exact .inl ((a1 x q1).1 q2)
      · exact .inr (.inl ((a2 x q1).1 q2))
      · exact .inr (.inr ((a3 x q1).1 q2))
    · rintro (q | q | q)
      · exact .inl (.inl (.inr ⟨wr q, (a1 x (wr q)).2 q⟩))
      · exact .inl (.inr ⟨fr _ hO.f4 q, (a2 x (fr _ hO.f4 q)).2 q⟩)
      · exact .inr ⟨fr _ hO.f5 q, (a3 x (fr _ hO.f5 q)).2 q⟩)
  have HS0 : Hz (FrS W W (.slice none 0 0) []) := hide ⟨World.ownsRow_nil _ _ _ _, Below.refl _ _⟩
  clear hP hF hL kP kF kL h hO
  go_enter Tryz.func9, Tryz.ntmps9
  obtain ⟨D1, ho1, hw1, hz1⟩ := unhide HP W (unhide HS0).bl
  have kc1 := unhide HKP W (unhide HS0).bl
  have HW1 := hide (And.intro hw1 hz1)
  have HO1 := hide ho1
  clear hw1 hz1 ho1
  go_wp2_with (first | (at_range; refine wpList_range_own _ rfl _ 78 rfl 21 _ (int_keyed Tryz.underlying21) Tryz.underlying78 twoElem MP nP D1 rfl (unhide HO1) ?_; intro y1 hrg hgr hsr) | fail)
  have HR1 : Hz (FrS W y1 (.slice none 0 0) [] ∧ y1.ranges Tryz.prog 21 twoElem MP W.heap.size nP D1 (Maps.has D1) (Maps.size D1) ∧ FrC [] [] D1 (Maps.has D1) (Maps.size D1)) := hide ⟨⟨own_other1 (unhide HS0).row hgr, (unhide HS0).bl.grown hgr (unhide HS0).bl.size (fun k e => by cases e)⟩, hrg, FrC.start _ _⟩
  obtain ⟨r1, hr1⟩ : ∃ r, r = W.heap.size := ⟨_, rfl⟩
  rw [← hr1] at HR1 ⊢
  have HRW1 : Hz (W.heap.size ≤ r1) := hide (by rw [hr1]; exact (unhide HS0).bl.size)
  clear hrg hgr hsr hr1 HO1 kc1
  go_frame
  go_loopw [3, 4] (fun s3 _ wr => ∃ (v : Value) (l : List Int) (left : Lit → Bool) (cnt : Nat), v = s3 ∧ Hz (FrS W wr v l ∧ wr.ranges Tryz.prog 21 twoElem MP r1 nP D1 left cnt ∧ FrC [] l D1 left cnt)) (fun _ _ wr => wr.rangeLeft MP r1)
  case atStart => exact ⟨_, _, _, _, rfl, HR1⟩
  case round =>
    obtain ⟨v, l, left, cnt, e3, HS⟩ := hrel
    subst e3
    clear HR1
    have hll : l.length ≤ 20000 := by have := (unhide HS).2.2.len; have := (unhide HW1).2; have := unhide HL; have := unhide HLB0; omega
    go_wp2_with (at_next; refine wpList_next_ranges _ rfl _ rfl 21 (int_keyed Tryz.underlying21) twoElem (Value.int .i32) mkTwo inv_key inv_two MP r1 nP D1 left cnt rfl (unhide HS).2.1 ?_ ?_)
    · intro hc0 hl0
      obtain ⟨hm, hlen⟩ := (unhide HS).2.2.done hl0
      obtain ⟨u1, hu1⟩ : ∃ u, u = wr := ⟨_, rfl⟩
      obtain ⟨v1, hv1⟩ : ∃ q, q = v := ⟨_, rfl⟩
      obtain ⟨l1, hl1⟩ : ∃ q, q = l := ⟨_, rfl⟩
      have HS1 : Hz (FrS W u1 v1 l1) := hide (by rw [hu1, hv1, hl1]; exact (unhide HS).1)
      have HM1 : Hz (∀ x, x ∈ l1 ↔ x ∈ [] ∨ (R32 x ∧ Maps.has D1 (.int .i32 x) = true)) := hide (by rw [hl1]; exact hm)
      have HLB1 : Hz (l1.length ≤ 4096) := hide (by rw [hl1]; have := (unhide HW1).2; have := unhide HL; have := unhide HLB0; simp at hlen; omega)
      rw [← hu1, ← hv1]
      clear hm hlen hc0 hl0 HS hll hu1 hv1 hl1
      obtain ⟨D2, ho2, hw2, hz2⟩ := unhide HF u1 (unhide HS1).bl
      have kc2 := unhide HKF u1 (unhide HS1).bl
      have HW2 := hide (And.intro hw2 hz2)
      have HO2 := hide ho2
      clear hw2 hz2 ho2
      go_wp2_with (first | (at_range; refine wpList_range_own _ rfl _ 80 rfl 21 _ (int_keyed Tryz.underlying21) Tryz.underlying80 hdrElem MF nF D2 rfl (unhide HO2) ?_; intro y2 hrg hgr hsr) | fail)
      have HR2 : Hz (FrS W y2 v1 l1 ∧ y2.ranges Tryz.prog 21 hdrElem MF u1.heap.size nF D2 (Maps.has D2) (Maps.size D2) ∧ FrC l1 l1 D2 (Maps.has D2) (Maps.size D2)) := hide ⟨⟨own_other1 (unhide HS1).row hgr, (unhide HS1).bl.grown hgr (unhide HS1).bl.size (fun k e => by cases e)⟩, hrg, FrC.start _ _⟩
      obtain ⟨r2, hr2⟩ : ∃ r, r = u1.heap.size := ⟨_, rfl⟩
      rw [← hr2] at HR2 ⊢
      have HRW2 : Hz (W.heap.size ≤ r2) := hide (by rw [hr2]; exact (unhide HS1).bl.size)
      clear hrg hgr hsr hr2 HO2 kc2
      go_frame
      go_loopw [3, 5] (fun s3 _ wr => ∃ (v : Value) (l : List Int) (left : Lit → Bool) (cnt : Nat), v = s3 ∧ Hz (FrS W wr v l ∧ wr.ranges Tryz.prog 21 hdrElem MF r2 nF D2 left cnt ∧ FrC l1 l D2 left cnt)) (fun _ _ wr => wr.rangeLeft MF r2)
      case atStart => exact ⟨_, _, _, _, rfl, HR2⟩
      case round =>
        obtain ⟨v, l, left, cnt, e3, HS⟩ := hrel
        subst e3
        clear HR2
        have hll : l.length ≤ 20000 := by have := (unhide HS).2.2.len; have := (unhide HW2).2; have := unhide HL; have := unhide HLB1; omega
        go_wp2_with (at_next; refine wpList_next_ranges _ rfl _ rfl 21 (int_keyed Tryz.underlying21) hdrElem (Value.int .i32) mkHdr inv_key inv_hdr MF r2 nF D2 left cnt rfl (unhide HS).2.1 ?_ ?_)
        · intro hc0 hl0
          obtain ⟨hm, hlen⟩ := (unhide HS).2.2.done hl0
          obtain ⟨u2, hu2⟩ : ∃ u, u = wr := ⟨_, rfl⟩
          obtain ⟨v2, hv2⟩ : ∃ q, q = v := ⟨_, rfl⟩
          obtain ⟨l2, hl2⟩ : ∃ q, q = l := ⟨_, rfl⟩
          have HS2 : Hz (FrS W u2 v2 l2) := hide (by rw [hu2, hv2, hl2]; exact (unhide HS).1)
          have HM2 : Hz (∀ x, x ∈ l2 ↔ x ∈ l1 ∨ (R32 x ∧ Maps.has D2 (.int .i32 x) = true)) := hide (by rw [hl2]; exact hm)
          have HLB2 : Hz (l2.length ≤ 8192) := hide (by rw [hl2]; have := (unhide HW2).2; have := unhide HL; have := unhide HLB1; omega)
          rw [← hu2, ← hv2]
          clear hm hlen hc0 hl0 HS hll hu2 hv2 hl2
          obtain ⟨D3, ho3, hw3, hz3⟩ := unhide HL' u2 (unhide HS2).bl
          have kc3 := unhide HKL u2 (unhide HS2).bl
          have HW3 := hide (And.intro hw3 hz3)
          have HO3 := hide ho3
          clear hw3 hz3 ho3
          go_wp2_with (first | (at_range; refine wpList_range_own _ rfl _ 80 rfl 21 _ (int_keyed Tryz.underlying21) Tryz.underlying80 hdrElem ML nL D3 rfl (unhide HO3) ?_; intro y3 hrg hgr hsr) | fail)
          have HR3 : Hz (FrS W y3 v2 l2 ∧ y3.ranges Tryz.prog 21 hdrElem ML u2.heap.size nL D3 (Maps.has D3) (Maps.size D3) ∧ FrC l2 l2 D3 (Maps.has D3) (Maps.size D3)) := hide ⟨⟨own_other1 (unhide HS2).row hgr, (unhide HS2).bl.grown hgr (unhide HS2).bl.size (fun k e => by cases e)⟩, hrg, FrC.start _ _⟩
          obtain ⟨r3, hr3⟩ : ∃ r, r = u2.heap.size := ⟨_, rfl⟩
          rw [← hr3] at HR3 ⊢
          have HRW3 : Hz (W.heap.size ≤ r3) := hide (by rw [hr3]; exact (unhide HS2).bl.size)
          clear hrg hgr hsr hr3 HO3 kc3
          go_frame
          go_loopw [3, 6] (fun s3 _ wr => ∃ (v : Value) (l : List Int) (left : Lit → Bool) (cnt : Nat), v = s3 ∧ Hz (FrS W wr v l ∧ wr.ranges Tryz.prog 21 hdrElem ML r3 nL D3 left cnt ∧ FrC l2 l D3 left cnt)) (fun _ _ wr => wr.rangeLeft ML r3)
          case atStart => exact ⟨_, _, _, _, rfl, HR3⟩
          case round =>
            obtain ⟨v, l, left, cnt, e3, HS⟩ := hrel
            subst e3
            clear HR3
            have hll : l.length ≤ 20000 := by have := (unhide HS).2.2.len; have := (unhide HW3).2; have := unhide HL; have := unhide HLB2; omega
            go_wp2_with (at_next; refine wpList_next_ranges _ rfl _ rfl 21 (int_keyed Tryz.underlying21) hdrElem (Value.int .i32) mkHdr inv_key inv_hdr ML r3 nL D3 left cnt rfl (unhide HS).2.1 ?_ ?_)
            · intro hc0 hl0
              obtain ⟨hm, hlen⟩ := (unhide HS).2.2.done hl0
              obtain ⟨u3, hu3⟩ : ∃ u, u = wr := ⟨_, rfl⟩
              obtain ⟨v3, hv3⟩ : ∃ q, q = v := ⟨_, rfl⟩
              obtain ⟨l3, hl3⟩ : ∃ q, q = l := ⟨_, rfl⟩
              have HS3 : Hz (FrS W u3 v3 l3) := hide (by rw [hu3, hv3, hl3]; exact (unhide HS).1)
              have HM3 : Hz (∀ x, x ∈ l3 ↔ x ∈ l2 ∨ (R32 x ∧ Maps.has D3 (.int .i32 x) = true)) := hide (by rw [hl3]; exact hm)
              have HLB3 : Hz (l3.length ≤ 12288) := hide (by rw [hl3]; have := (unhide HW3).2; have := unhide HL; have := unhide HLB2; omega)
              rw [← hu3, ← hv3]
              clear hm hlen hc0 hl0 HS hll hu3 hv3 hl3
              have HMM : Hz (∀ x, x ∈ l3 ↔ fromsB T x = true) := hide (unhide HFI D1 D2 D3 l1 l2 l3 (unhide HW1).1 (unhide HW2).1 (unhide HW3).1 (unhide HM1) (unhide HM2) (unhide HM3))
              clear HM1 HM2 HM3 HW1 HW2 HW3 HS0 HS1 HS2
              have hl3 : l3.length ≤ 12288 := unhide HLB3
              have HSo := hide (sortC_any W l3 v3 u3 (unhide HS3).row (unhide HS3).bl hl3)
              go_wp2_with fail
              refine (unhide HSo).mono ?_
              rintro e w8 ⟨rfl, hb8, HCo⟩
              have HCo := hide (And.intro hb8 HCo)
              clear hb8 HSo
              go_wp2_with fail
              refine (unhide HCo).2.mono ?_
              rintro e w9 ⟨a, c, fs, rfl, hp, hm, hrn, hlow, hb9⟩
              have HE := hide (And.intro hp (And.intro (fun x => (hm x).trans (unhide HMM x)) (And.intro hrn (And.intro hlow ((unhide HCo).1.trans hb9)))))
              clear hp hm hrn hlow hb9 HCo
              go_wp2_with fail
              go_ret
              exact ⟨a, c, fs, rfl, (unhide HE).1, (unhide HE).2.1, (unhide HE).2.2.1, (unhide HE).2.2.2.1, (unhide HE).2.2.2.2⟩
            · intro x c kl y1 y2 w1 cnt1 hkey hlk hv hat hrg1 hlt hg1 hs1 hen
              obtain ⟨x1, ex, rfl, h32⟩ := key32 hkey
              obtain rfl : x = x1 := by injection ex
              have hF1 : FrS W w1 v l := ⟨own_other2 (unhide HS).1.row hg1 (own_iter (unhide HS).1.row (unhide HS).2.1), below_grownS (unhide HS).1.bl hg1 (unhide HRW3) (unhide HS).1.bl.size⟩
              have HN := hide (And.intro hF1 (And.intro hrg1 ((unhide HS).2.2.step h32 hlk (Maps.has_true_of_atKey hat) hlt)))
              have HLT : Hz (cnt1 < (wr.rangeLeft ML r3)) := hide (by rw [(unhide HS).2.1.left_eq]; exact hlt)
              clear hkey hlk hv hat hrg1 hlt hg1 hs1 hF1 HS ex h32
              generalize mkHdr c = mc at *
              go_wp2_with (at_builtin; refine append_x rfl _ _ 33 21 rfl i0 _ 4 Tryz.underlying33 hi hz0 hz1 hz2 rfl (by decide) W.heap.size v (l.map (Value.int .i32)) (.int .i32 x) rfl (by rw [List.length_map]; omega) w1 rfl rfl (by rw [List.length_map]; exact (unhide HN).1.row) (unhide HN).1.bl.size _ rfl rfl ?_)
              intro v' w3 ho hg3
              have hrow := (unhide HN).1.row
              have hr3 := ((unhide HN).2.1.alloc (.cells #[.int .i32 x] 21)).kept hg3 (fun e => by have := rd_from hrow _ e.symm; have := unhide HML; omega) (fun e => (own_iter hrow (unhide HN).2.1).elim (fun q => by rw [q] at e; cases e) (fun q => q e.symm))
              have HN2 : Hz (FrS W w3 v' (l ++ [x]) ∧ w3.ranges Tryz.prog 21 hdrElem ML r3 nL D3 _ cnt1 ∧ FrC l2 (l ++ [x]) D3 _ cnt1) := hide ⟨⟨by rw [List.map_append, List.map_singleton, List.length_append]; exact ho, ((unhide HN).1.bl.alloc (unhide HN).1.bl.size _).grown hg3 (Nat.le_trans (unhide HN).1.bl.size (by simp)) (fun k e => rd_from hrow k e)⟩, hr3, (unhide HN).2.2⟩
              have HLE : Hz (w3.rangeLeft ML r3 < wr.rangeLeft ML r3) := hide (by rw [hr3.left_eq]; exact unhide HLT)
              clear ho hg3 hrow hr3 HN HLT
              go_wp2_with fail
              exact ⟨⟨_, _, _, _, rfl, HN2⟩, unhide HLE⟩
        · intro x c kl y1 y2 w1 cnt1 hkey hlk hv hat hrg1 hlt hg1 hs1 hen
          obtain ⟨x1, ex, rfl, h32⟩ := key32 hkey
          obtain rfl : x = x1 := by injection ex
          have hF1 : FrS W w1 v l := ⟨own_other2 (unhide HS).1.row hg1 (own_iter (unhide HS).1.row (unhide HS).2.1), below_grownS (unhide HS).1.bl hg1 (unhide HRW2) (unhide HS).1.bl.size⟩
          have HN := hide (And.intro hF1 (And.intro hrg1 ((unhide HS).2.2.step h32 hlk (Maps.has_true_of_atKey hat) hlt)))
          have HLT : Hz (cnt1 < (wr.rangeLeft MF r2)) := hide (by rw [(unhide HS).2.1.left_eq]; exact hlt)
          clear hkey hlk hv hat hrg1 hlt hg1 hs1 hF1 HS ex h32
          generalize mkHdr c = mc at *
          go_wp2_with (at_builtin; refine append_x rfl _ _ 33 21 rfl i0 _ 4 Tryz.underlying33 hi hz0 hz1 hz2 rfl (by decide) W.heap.size v (l.map (Value.int .i32)) (.int .i32 x) rfl (by rw [List.length_map]; omega) w1 rfl rfl (by rw [List.length_map]; exact (unhide HN).1.row) (unhide HN).1.bl.size _ rfl rfl ?_)
          intro v' w3 ho hg3
          have hrow := (unhide HN).1.row
          have hr3 := ((unhide HN).2.1.alloc (.cells #[.int .i32 x] 21)).kept hg3 (fun e => by have := rd_from hrow _ e.symm; have := unhide HMF; omega) (fun e => (own_iter hrow (unhide HN).2.1).elim (fun q => by rw [q] at e; cases e) (fun q => q e.symm))
          have HN2 : Hz (FrS W w3 v' (l ++ [x]) ∧ w3.ranges Tryz.prog 21 hdrElem MF r2 nF D2 _ cnt1 ∧ FrC l1 (l ++ [x]) D2 _ cnt1) := hide ⟨⟨by rw [List.map_append, List.map_singleton, List.length_append]; exact ho, ((unhide HN).1.bl.alloc (unhide HN).1.bl.size _).grown hg3 (Nat.le_trans (unhide HN).1.bl.size (by simp)) (fun k e => rd_from hrow k e)⟩, hr3, (unhide HN).2.2⟩
          have HLE : Hz (w3.rangeLeft MF r2 < wr.rangeLeft MF r2) := hide (by rw [hr3.left_eq]; exact unhide HLT)
          clear ho hg3 hrow hr3 HN HLT
          go_wp2_with fail
          exact ⟨⟨_, _, _, _, rfl, HN2⟩, unhide HLE⟩
    · intro x c1 c2 kl y1 y2 w1 cnt1 hkey hlk hv hat hrg1 hlt hg1 hs1 hen
      obtain ⟨x1, ex, rfl, h32⟩ := key32 hkey
      obtain rfl : x = x1 := by injection ex
      have hF1 : FrS W w1 v l := ⟨own_other2 (unhide HS).1.row hg1 (own_iter (unhide HS).1.row (unhide HS).2.1), below_grownS (unhide HS).1.bl hg1 (unhide HRW1) (unhide HS).1.bl.size⟩
      have HN := hide (And.intro hF1 (And.intro hrg1 ((unhide HS).2.2.step h32 hlk (Maps.has_true_of_atKey hat) hlt)))
      have HLT : Hz (cnt1 < (wr.rangeLeft MP r1)) := hide (by rw [(unhide HS).2.1.left_eq]; exact hlt)
      clear hkey hlk hv hat hrg1 hlt hg1 hs1 hF1 HS ex h32
      generalize mkTwo (c1, c2) = mc at *
      go_wp2_with (at_builtin; refine append_x rfl _ _ 33 21 rfl i0 _ 4 Tryz.underlying33 hi hz0 hz1 hz2 rfl (by decide) W.heap.size v (l.map (Value.int .i32)) (.int .i32 x) rfl (by rw [List.length_map]; omega) w1 rfl rfl (by rw [List.length_map]; exact (unhide HN).1.row) (unhide HN).1.bl.size _ rfl rfl ?_)
      intro v' w3 ho hg3
      have hrow := (unhide HN).1.row
      have hr3 := ((unhide HN).2.1.alloc (.cells #[.int .i32 x] 21)).kept hg3 (fun e => by have := rd_from hrow _ e.symm; have := unhide HMP; omega) (fun e => (own_iter hrow (unhide HN).2.1).elim (fun q => by rw [q] at e; cases e) (fun q => q e.symm))
      have HN2 : Hz (FrS W w3 v' (l ++ [x]) ∧ w3.ranges Tryz.prog 21 twoElem MP r1 nP D1 _ cnt1 ∧ FrC [] (l ++ [x]) D1 _ cnt1) := hide ⟨⟨by rw [List.map_append, List.map_singleton, List.length_append]; exact ho, ((unhide HN).1.bl.alloc (unhide HN).1.bl.size _).grown hg3 (Nat.le_trans (unhide HN).1.bl.size (by simp)) (fun k e => rd_from hrow k e)⟩, hr3, (unhide HN).2.2⟩
      have HLE : Hz (w3.rangeLeft MP r1 < wr.rangeLeft MP r1) := hide (by rw [hr3.left_eq]; exact unhide HLT)
      clear ho hg3 hrow hr3 HN HLT
      go_wp2_with fail
      exact ⟨⟨_, _, _, _, rfl, HN2⟩, unhide HLE⟩
end Go.Proofs.YtnnbaodillnkkaaGreat
