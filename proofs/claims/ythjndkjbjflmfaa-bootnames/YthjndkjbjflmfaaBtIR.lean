/- slices.Insert at a row that the call owns: one value. -/
import Derived.Test.YthjndkjbjflmfaaBtD
import Derived.OwnWalk
import Derived.Laws.Externs
import Derived.Laws.CopyOwn
import Derived.Lib.AppendZerosOnto
import Derived.Lib.Overlaps
import Derived.RegionTactic
import Derived.ChangeAlike
namespace Go.Proofs.Ythjndkjbjflmfaa
open Go.RowKit Go.Shelf
set_option linter.unusedVariables false
theorem addRb (g o j : Nat) : (⟨g, o, none⟩ : Addr).add j = ⟨g, o + j, none⟩ := by unfold Addr.add; split <;> simp_all
abbrev encRb (zs : List Int) : List Value := zs.map (Value.int .i32)
theorem infoRb : (Try.prog.info? 21).map (fun i => (i.zero, i.size, i.bytes)) = some (some (.int .i32 0), 1, 4) := by kernel_rfl
theorem insL_list {α : Type} {C L : List α} {x : α} {i n : Nat} (hE : C.take n = L) (hl : L.length = n) (hc : n < C.length) (hi : i < n) : ((C.take (i + 1) ++ L.drop i ++ C.drop (i + 1 + (L.drop i).length)).take i ++ [x] ++ (C.take (i + 1) ++ L.drop i ++ C.drop (i + 1 + (L.drop i).length)).drop (i + 1)).take (n + 1) = L.take i ++ x :: L.drop i := by
  rw [List.append_assoc (C.take (i + 1))]
  have h0 : (C.take (i + 1)).length = i + 1 := by rw [List.length_take]; omega
  have h1 : (C.take (i + 1) ++ (L.drop i ++ C.drop (i + 1 + (L.drop i).length))).take i = L.take i := by
    rw [List.take_append_of_le_length (by omega), List.take_take, ← hE, List.take_take]
    congr 1; omega
  rw [h1, List.drop_left' h0]
  have h2 : (L.take i ++ [x] ++ L.drop i).length = n + 1 := by simp; omega
  rw [← List.append_assoc, List.take_left' h2, List.append_assoc]
  rfl
theorem wpList_copy_runB {P : Program} (w : World) {ops : Array Oper} {rest : List Oper} {o : Oper} {a : Act} {Q : Exit → Act → World → Prop} (hgd : o.guard = none) (d s : Operand) (t t' : TypeId)
    (ho : o.op = .call { callee := .builtin .copy, args := #[d, s], argTypes := #[t, t'] }) (v u : Value) (hd : a.eval d = v) (hs : a.eval s = u) {v' : Value} {w' : World}
    (hr : (Builtin.copy_ #[t, t'] o.type #[v, u]).run P w = .ok v' w') (h : wpList P ops Q rest (a.put o.dst v') w') : wpList P ops Q (o :: rest) a w :=
  wpList_plain hgd fun K hK => by
    unfold Oper.wp execOp
    simp only [ho, resolve, invoke, builtin, Sem.run_bind, Sem.run_pure, Result.andThen_ok, List.map_toArray, List.map_cons, List.map_nil, hd, hs, hr]
    exact hK _ _ h
theorem step_copy_runB {P : Program} {ops : Array Oper} {o : Oper} {a : Act} {w : World} {K : Act → World → Prop} {Q : Exit → Act → World → Prop} {E : Prop}
    (hg : o.guard = none) (d x : Operand) (dT sT : TypeId) (hop : o.op = Op.call { callee := Callee.builtin Builtin.copy, args := #[d, x], argTypes := #[dT, sT] })
    (v u : Value) (hd : a.eval d = v) (hx : a.eval x = u) {v' : Value} {w' : World} (hr : (Builtin.copy_ #[dT, sT] o.type #[v, u]).run P w = .ok v' w') (hK : K (a.put o.dst v') w') :
    if Region.wanted o (yielded ops a.tmps) = true then Oper.wp P o a w K Q else E := by
  have hw : Region.wanted o (yielded ops a.tmps) = true := by simp [Region.wanted, hg]
  rw [if_pos hw]
  unfold Oper.wp
  simp [execOp, hop, resolve, invoke, builtin, hd, hx, hr, Result.andThen]
  exact hK
set_option maxRecDepth 100000 in
set_option maxHeartbeats 4000000 in
theorem insRb_end {lo vb n : Nat} {v : Value} {zs : List Int} {x : Int} {W : World} (hn : zs.length = n) (hown : W.ownsRow lo 21 1 v n (encRb zs)) (hz : n ≤ 100000) (hv : Blk W vb #[.int .i32 x] 21) (hlo : lo ≤ W.heap.size) :
    Calls Try.prog 53 #[v, .int .i64 n, .slice (some ⟨vb, 0, none⟩) 1 1] W fun e w' => ∃ v', e = .returned v' ∧ w'.ownsRow lo 21 1 v' (n + 1) (encRb (zs ++ [x])) ∧ W.grownBy w' v.ownBlock := by
  obtain ⟨i0, hi, hz0, hz1, hz2⟩ := info_parts infoRb
  have HI := hide (And.intro hi (And.intro hz0 (And.intro hz1 hz2)))
  clear hi hz0 hz1 hz2
  have HN := hide hn
  have HV := hide hv
  have HO := hide hown
  have HL := hide hlo
  have one : ∀ j u, [Value.int .i32 x][j]? = some u → W.cell? ((⟨vb, 0, none⟩ : Addr).add j) = some u := by
    intro j u hj
    rw [addRb, hv.cell (0 + j), ← hj]
    simp
  have ONE := hide one
  clear one hv hn hlo
  rcases hown.2 with ⟨rfl, h0⟩ | ⟨g, cap, cur, rfl, hg, hh, hc, hm, hsz, htk⟩
  · subst h0
    clear hown
    go_enter Try.func53, Try.ntmps53
    go_wp2_with (at_builtin; refine wpList_append_own _ rfl _ _ 59 rfl lo 21 i0 (.int .i32 0) 1 4 Try.underlying59 (unhide HI).1 (unhide HI).2.1 (unhide HI).2.2.1 (unhide HI).2.2.2 rfl (by decide) _ 0 _ rfl (unhide HO) ⟨vb, 0, none⟩ 1 1 [.int .i32 x] rfl rfl (unhide ONE) ?c2 ?c3 ?c4 (unhide HL) ?_)
    case c2 => intro u hu; simp at hu; rw [hu]; rfl
    case c3 => unfold maxLen; omega
    case c4 => omega
    intro v' w2 h1 h2 _
    have H1 := hide h1
    have H2 := hide h2
    clear h1 h2
    go_wp2
    go_ret
    exact ⟨_, rfl, by simp only [encRb, List.map_append, List.map_cons, List.map_nil]; exact unhide H1, unhide H2⟩
  · clear hown htk hsz hh hg
    by_cases hcn : cap = n
    · subst hcn
      go_enter Try.func53, Try.ntmps53
      go_wp2_with (at_builtin; refine wpList_append_own _ rfl _ _ 59 rfl lo 21 i0 (.int .i32 0) 1 4 Try.underlying59 (unhide HI).1 (unhide HI).2.1 (unhide HI).2.2.1 (unhide HI).2.2.2 rfl (by decide) _ _ _ rfl (unhide HO) ⟨vb, 0, none⟩ 1 1 [.int .i32 x] rfl rfl (unhide ONE) ?c2 ?c3 ?c4 (unhide HL) ?_)
      case c2 => intro u hu; simp at hu; rw [hu]; rfl
      case c3 => unfold maxLen; omega
      case c4 => omega
      intro v' w2 h1 h2 _
      have H1 := hide h1
      have H2 := hide h2
      clear h1 h2
      go_wp2
      go_ret
      exact ⟨_, rfl, by simp only [encRb, List.map_append, List.map_cons, List.map_nil]; exact unhide H1, unhide H2⟩
    · have hcn1 : ¬ n = cap := fun e => hcn e.symm
      go_enter Try.func53, Try.ntmps53
      go_wp2_with (at_builtin; refine wpList_append_own _ rfl _ _ 59 rfl lo 21 i0 (.int .i32 0) 1 4 Try.underlying59 (unhide HI).1 (unhide HI).2.1 (unhide HI).2.2.1 (unhide HI).2.2.2 rfl (by decide) _ n _ rfl (unhide HO) ⟨vb, 0, none⟩ 1 1 [.int .i32 x] rfl rfl (unhide ONE) ?c2 ?c3 ?c4 (unhide HL) ?_)
      case c2 => intro u hu; simp at hu; rw [hu]; rfl
      case c3 => unfold maxLen; omega
      case c4 => omega
      intro v' w2 h1 h2 _
      have H1 := hide h1
      have H2 := hide h2
      clear h1 h2
      go_wp2
      go_ret
      exact ⟨_, rfl, by simp only [encRb, List.map_append, List.map_cons, List.map_nil]; exact unhide H1, unhide H2⟩
set_option maxRecDepth 100000 in
set_option maxHeartbeats 4000000 in
theorem insRb_shift {lo vb n cap g i : Nat} {zs : List Int} {x : Int} {W : World} (hn : zs.length = n) (hown : W.ownsRow lo 21 1 (.slice (some ⟨g, 0, none⟩) n cap) n (encRb zs)) (hz : n ≤ 100000) (hv : Blk W vb #[.int .i32 x] 21) (hne : vb ≠ g) (hi : i < n) (hc : n < cap) :
    Calls Try.prog 53 #[.slice (some ⟨g, 0, none⟩) n cap, .int .i64 i, .slice (some ⟨vb, 0, none⟩) 1 1] W fun e w' => ∃ v', e = .returned v' ∧ w'.ownsRow lo 21 1 v' (n + 1) (encRb (zs.take i ++ x :: zs.drop i)) ∧ W.grownBy w' (some g) := by
  obtain ⟨cur, hg, hh, hm, hsz, htk⟩ : ∃ cur : Array Value, lo ≤ g ∧ W.heap[g]? = some (.cells cur 21 (0, 0)) ∧ cap ≤ maxLen ∧ cur.size = cap * 1 ∧ cur.toList.take (n * 1) = encRb zs := by
    rcases hown.2 with ⟨e, _⟩ | ⟨g', cap', cur, e, hg, hh, hc, hm, hsz, htk⟩
    · cases e
    · cases e; exact ⟨cur, hg, hh, hm, hsz, htk⟩
  clear hown
  have hm2 : cap ≤ 9223372036854775807 := by unfold maxLen at hm; exact hm
  rw [Nat.mul_one] at hsz htk
  have hel : (encRb zs).length = n := by rw [List.length_map, hn]
  obtain ⟨cs, hcs⟩ : ∃ cs, cs = (encRb zs).drop i := ⟨_, rfl⟩
  have hcl : cs.length = n - i := by rw [hcs, List.length_drop, hel]
  have hsz1 : (Try.prog.info? 21).map (·.size) = some 1 := by kernel_rfl
  have h1c : ∀ u ∈ encRb zs, u.oneCell' = true := fun u hu => by obtain ⟨y, _, rfl⟩ := List.mem_map.1 hu; rfl
  have hcur : ∀ j u, (encRb zs)[j]? = some u → cur[j]? = some u := fun j u hj => by
    have hjl := (List.getElem?_eq_some_iff.1 hj).1
    rw [← htk, List.getElem?_take, if_pos (by omega)] at hj
    rw [Array.getElem?_toList] at hj
    exact hj
  obtain ⟨R1, hR1⟩ : ∃ R1 : List Value, R1 = cur.toList.take (i + 1) ++ cs ++ cur.toList.drop (i + 1 + cs.length) := ⟨_, rfl⟩
  obtain ⟨W1, hW1⟩ : ∃ W1, W1 = W.drew.setRow g R1.toArray := ⟨_, rfl⟩
  have hcp1 : ∀ ty dc sc, (Builtin.copy_ #[59, 59] ty #[.slice (some ⟨g, i + 1, none⟩) (n - i) dc, .slice (some ⟨g, i, none⟩) (n + 1 - i) sc]).run Try.prog W.drew = .ok (goInt cs.length) W1 := fun ty dc sc => by
    rw [hW1, hR1]
    exact run_copy_row (P := Try.prog) W.drew 59 59 ty 21 g (i + 1) (n - i) dc ⟨g, i, none⟩ (n + 1 - i) sc cur 21 cs Try.underlying59 hsz1 hh (by rw [hcl]; simp only [Nat.min_def]; split <;> omega)
      (fun j u hj => by
        rw [hcs, List.getElem?_drop] at hj
        rw [addRb]
        show W.cell? ⟨g, i + j, none⟩ = some u
        rw [(show Blk W g cur 21 from hh).cell]
        exact hcur _ _ hj) (by omega) (fun u hu => h1c u (by rw [hcs] at hu; exact List.mem_of_mem_drop hu))
  have hh1 : W1.heap[g]? = some (.cells R1.toArray 21 (0, 0)) := by rw [hW1]; exact setRow_heap W.drew g cur R1.toArray 21 (0, 0) hh
  have hR1l : R1.length = cap := by rw [hR1]; simp; omega
  obtain ⟨R2, hR2⟩ : ∃ R2 : List Value, R2 = R1.take i ++ [.int .i32 x] ++ R1.drop (i + 1) := ⟨_, rfl⟩
  have hv1 : Blk W1 vb #[.int .i32 x] 21 := by
    rw [hW1]
    exact (setRow_other W.drew g vb _ hne).trans hv
  have hcp2 : ∀ ty dc, (Builtin.copy_ #[59, 59] ty #[.slice (some ⟨g, i, none⟩) (n + 1 - i) dc, .slice (some ⟨vb, 0, none⟩) 1 1]).run Try.prog W1 = .ok (goInt ([Value.int .i32 x] : List Value).length) (W1.setRow g R2.toArray) := fun ty dc => by
    rw [hR2]
    have := run_copy_row (P := Try.prog) W1 59 59 ty 21 g i (n + 1 - i) dc ⟨vb, 0, none⟩ 1 1 R1.toArray 21 [.int .i32 x] Try.underlying59 hsz1 hh1 (by simp only [Nat.min_def, List.length_singleton]; split <;> omega)
      (fun j u hj => by
        rw [addRb, hv1.cell (0 + j), ← hj]
        simp) (by simp; omega) (fun u hu => by rw [List.mem_singleton.1 hu]; rfl)
    exact this
  have hov : ∀ lb cb, (callFunc 71 #[.slice (some ⟨vb, 0, none⟩) 1 1, .slice (some ⟨g, i + 1, none⟩) lb cb]).run Try.prog W = .ok (.value (.bool false)) W := fun lb cb => by
    rw [run_callFunc_extern Try.func71 (by kernel_rfl) (by kernel_rfl) (by kernel_rfl) (e := Extern.SlicesOverlaps.overlaps #[59, 59] #[4]) (by kernel_rfl),
      Lib.run_overlaps_apart W 59 4 21 Try.underlying59 1 Try.sizeOf21 ⟨vb, 0, none⟩ ⟨g, i + 1, none⟩ 1 1 lb cb hne 21 21 1 cap (by unfold World.shape?; rw [hv]; rfl) (by unfold World.shape?; rw [hh]; simp [hsz]) (by omega) (hv.frozen 0) (hv.frozen 1)]
    rfl
  have FIN : (W1.setRow g R2.toArray).ownsRow lo 21 1 (.slice (some ⟨g, 0, none⟩) (n + 1) cap) (n + 1) (encRb (zs.take i ++ x :: zs.drop i)) := by
    refine ⟨by simp; omega, .inr ⟨g, cap, R2.toArray, rfl, hg, setRow_heap W1 g R1.toArray R2.toArray 21 (0, 0) hh1, by omega, hm, by simp [hR2, hR1l]; omega, ?_⟩⟩
    rw [Nat.mul_one, hR2, hR1, hcs, show encRb (zs.take i ++ x :: zs.drop i) = (encRb zs).take i ++ Value.int .i32 x :: (encRb zs).drop i by simp [encRb]]
    exact insL_list htk hel (by rw [Array.length_toList, hsz]; exact hc) hi
  have GR : W.grownBy (W1.setRow g R2.toArray) (some g) := by
    rw [hW1]
    exact ⟨rfl, rfl, rfl, by simp, fun k hk hkg => by
      rw [setRow_other _ g k _ (fun e => hkg (by rw [e])), setRow_other _ g k _ (fun e => hkg (by rw [e]))]; rfl⟩
  have HF := hide FIN
  have HG := hide GR
  clear FIN GR hh1 hR1l hR1 hR2 hv1 hcur h1c hh htk
  have hin : i ≤ n := by omega
  have hw1 : IntKind.i64.wrap ((i : Int) + 1) = (i : Int) + 1 := by rw [IntKind.wrap_i64]; omega
  have hb0 : (0 : Int) ≤ (i : Int) + 1 := by omega
  have htn : ((i : Int) + 1).toNat = i + 1 := by omega
  have hb5 : (i : Int) ≤ (n : Int) + 1 := by omega
  have hb1 : ¬ cap = i + 1 := by omega
  have hb2 : ¬ cap = i := by omega
  have hb3 : ¬ (i : Int) = (n : Int) := by omega
  have hb4 : (n : Int) + 1 ≤ (cap : Int) := by omega
  clear hW1
  go_enter Try.func53, Try.ntmps53
  go_wp2_with (simp only [hov])
  go_region
  go_wp2_with (refine wpList_copy_runB _ rfl _ _ 59 59 rfl _ _ rfl rfl (hcp2 _ _) ?_)
  go_ret
  exact ⟨_, rfl, unhide HF, unhide HG⟩
set_option maxRecDepth 100000 in
set_option maxHeartbeats 4000000 in
theorem insRb_grow {lo vb n g i : Nat} {zs : List Int} {x : Int} {W : World} (hn : zs.length = n) (hown : W.ownsRow lo 21 1 (.slice (some ⟨g, 0, none⟩) n n) n (encRb zs)) (hz : n ≤ 100000) (hv : Blk W vb #[.int .i32 x] 21) (hi : i < n) (hlo : lo ≤ W.heap.size) :
    Calls Try.prog 53 #[.slice (some ⟨g, 0, none⟩) n n, .int .i64 i, .slice (some ⟨vb, 0, none⟩) 1 1] W fun e w' => ∃ v', e = .returned v' ∧ w'.ownsRow lo 21 1 v' (n + 1) (encRb (zs.take i ++ x :: zs.drop i)) ∧ W.grownBy w' (some g) := by
  obtain ⟨cur, hg, hh, hsz, htk⟩ : ∃ cur : Array Value, lo ≤ g ∧ W.heap[g]? = some (.cells cur 21 (0, 0)) ∧ cur.size = n * 1 ∧ cur.toList.take (n * 1) = encRb zs := by
    rcases hown.2 with ⟨e, _⟩ | ⟨g', cap', cur, e, hg, hh, hc, hm, hsz, htk⟩
    · cases e
    · cases e; exact ⟨cur, hg, hh, hsz, htk⟩
  clear hown
  obtain ⟨i0, hif, hz0, hzs, hzb⟩ := info_parts infoRb
  rw [Nat.mul_one] at hsz htk
  have hel : (encRb zs).length = n := by rw [List.length_map, hn]
  have htk2 : cur.toList = encRb zs := by rw [← htk, List.take_of_length_le (by simp; omega)]
  have hsz1 : (Try.prog.info? 21).map (·.size) = some 1 := by kernel_rfl
  have h1c : ∀ u ∈ encRb zs, u.oneCell' = true := fun u hu => by obtain ⟨y, _, rfl⟩ := List.mem_map.1 hu; rfl
  have hcur : ∀ j u, (encRb zs)[j]? = some u → W.cell? ⟨g, j, none⟩ = some u := fun j u hj => by
    rw [(show Blk W g cur 21 from hh).cell, ← hj, ← htk2, Array.getElem?_toList]
  have hgw : g < W.heap.size := (Array.getElem?_eq_some_iff.1 hh).1
  have hvw : vb < W.heap.size := hv.lt
  have hold : (Builtin.firstCells i0.size i (.slice (some ⟨g, 0, none⟩) i n)).run Try.prog W.drew = .ok ((encRb zs).take i).toArray W.drew := by
    rw [hzs]
    exact run_firstCells_some W.drew 1 i ⟨g, 0, none⟩ i n ((encRb zs).take i) (by rw [List.length_take]; omega) (fun j u hj => by
      rw [addRb, Nat.zero_add]
      rw [List.getElem?_take] at hj
      split at hj
      · exact hcur j u hj
      · cases hj)
  obtain ⟨G, hG⟩ : ∃ G, G = grownCap W (n + 1) n 21 := ⟨_, rfl⟩
  obtain ⟨ROW, hROW⟩ : ∃ ROW : Array Value, ROW = ((encRb zs).take i).toArray ++ Builtin.zeroCells (Value.int .i32 0).cells (n + 1 - i) ++ Builtin.zeroCells (Value.int .i32 0).cells (G - (n + 1)) := ⟨_, rfl⟩
  have hkk : (n : Int) + 1 - (i : Int) = ((n + 1 - i : Nat) : Int) := by omega
  have hik : i + (n + 1 - i) = n + 1 := by omega
  have hrz : ∀ ty, (Builtin.append_ #[59, 3] ty #[.slice (some ⟨g, 0, none⟩) i n, .int .i64 ((n : Int) + 1 - (i : Int))]).run Try.prog W = .ok (.slice (some ⟨W.heap.size, 0, none⟩) (n + 1) G) (W.drew.alloc (.cells ROW 21)) := fun ty => by
    have h := Lib.run_append_grow_zeros W 59 3 ty 21 i0 _ .i64 .i64 Try.underlying59 Try.underlying3 hif hz0 (some ⟨g, 0, none⟩) i n ((encRb zs).take i) hold (n + 1 - i) (by omega) (by omega) (by omega) (by omega) (by rw [hzb]; omega) (by rw [hzb, hik]; exact growslice_fits (by omega) (by omega))
    rw [hik, ← hG, ← hROW] at h
    rw [hkk]
    exact h
  have hGn : n + 1 ≤ G := by rw [hG]; exact grownCap_ge W _ _ _
  have hGm : G ≤ maxLen := by
    have := grownCap_le_maxLen W (n + 1) n 21 (by unfold maxLen; omega)
    rw [← hG] at this
    exact this
  have hG63 : G ≤ 9223372036854775807 := by unfold maxLen at hGm; omega
  have hRl : ROW.size = G := by
    rw [hROW]
    simp [Builtin.zeroCells, Value.cells]
    omega
  obtain ⟨W1, hW1⟩ : ∃ W1, W1 = W.drew.alloc (.cells ROW 21) := ⟨_, rfl⟩
  rw [← hW1] at hrz
  obtain ⟨N, hN⟩ : ∃ N, N = W.heap.size := ⟨_, rfl⟩
  have hh1 : W1.heap[N]? = some (.cells ROW 21 (0, 0)) := by rw [hW1, hN]; exact Blk.new W.drew ROW 21
  have hgN : g ≠ N := by omega
  have hvN : vb ≠ N := by omega
  have hv1 : Blk W1 vb #[.int .i32 x] 21 := by rw [hW1]; exact Blk.alloc (W := W.drew) hv _
  have hg1 : Blk W1 g cur 21 := by rw [hW1]; exact Blk.alloc (W := W.drew) hh _
  have hcur1 : ∀ j u, (encRb zs)[j]? = some u → W1.cell? ⟨g, j, none⟩ = some u := fun j u hj => by
    rw [hg1.cell, ← hj, ← htk2, Array.getElem?_toList]
  obtain ⟨RA, hRA⟩ : ∃ RA : List Value, RA = ROW.toList.take i ++ [.int .i32 x] ++ ROW.toList.drop (i + 1) := ⟨_, rfl⟩
  obtain ⟨cs, hcs⟩ : ∃ cs, cs = (encRb zs).drop i := ⟨_, rfl⟩
  have hcl : cs.length = n - i := by rw [hcs, List.length_drop, hel]
  obtain ⟨RB, hRB⟩ : ∃ RB : List Value, RB = RA.take (i + 1) ++ cs ++ RA.drop (i + 1 + cs.length) := ⟨_, rfl⟩
  have hcpA : ∀ W' : World, W'.heap = W1.heap → ∀ ty dc, (Builtin.copy_ #[59, 59] ty #[.slice (some ⟨N, i, none⟩) (n + 1 - i) dc, .slice (some ⟨vb, 0, none⟩) 1 1]).run Try.prog W' = .ok (goInt ([Value.int .i32 x] : List Value).length) (W'.setRow N RA.toArray) := fun W' hW' ty dc => by
    rw [hRA]
    exact run_copy_row (P := Try.prog) W' 59 59 ty 21 N i (n + 1 - i) dc ⟨vb, 0, none⟩ 1 1 ROW 21 [.int .i32 x] Try.underlying59 hsz1 (by rw [hW']; exact hh1) (by simp only [Nat.min_def, List.length_singleton]; split <;> omega)
      (fun j u hj => by
        have hv2 : Blk W' vb #[.int .i32 x] 21 := by unfold Blk; rw [hW']; exact hv1
        rw [addRb, hv2.cell (0 + j), ← hj]
        simp) (by simp; omega) (fun u hu => by rw [List.mem_singleton.1 hu]; rfl)
  have hRAl : RA.length = G := by rw [hRA]; simp; omega
  have hhA : ∀ W' : World, W'.heap = W1.heap → (W'.setRow N RA.toArray).heap[N]? = some (.cells RA.toArray 21 (0, 0)) := fun W' h => setRow_heap W' N ROW RA.toArray 21 (0, 0) (by rw [h]; exact hh1)
  have hcpB : ∀ W' : World, W'.heap = (W1.setRow N RA.toArray).heap → ∀ ty dc sc, (Builtin.copy_ #[59, 59] ty #[.slice (some ⟨N, i + 1, none⟩) (n - i) dc, .slice (some ⟨g, i, none⟩) (n - i) sc]).run Try.prog W' = .ok (goInt cs.length) (W'.setRow N RB.toArray) := fun W' hW' ty dc sc => by
    rw [hRB]
    have := run_copy_row (P := Try.prog) W' 59 59 ty 21 N (i + 1) (n - i) dc ⟨g, i, none⟩ (n - i) sc RA.toArray 21 cs Try.underlying59 hsz1 (by rw [hW']; exact hhA W1 rfl) (by rw [hcl]; simp only [Nat.min_def]; split <;> omega)
      (fun j u hj => by
        rw [hcs, List.getElem?_drop] at hj
        have hv2 : Blk W' g cur 21 := by unfold Blk; rw [hW']; exact (setRow_other W1 N g _ hgN).trans hg1
        rw [addRb, hv2.cell (i + j), ← hj, ← htk2, Array.getElem?_toList]) (by simp; omega) (fun u hu => h1c u (by rw [hcs] at hu; exact List.mem_of_mem_drop hu))
    simpa using this
  have FIN : ∀ W' : World, W'.heap = ((W1.setRow N RA.toArray).setRow N RB.toArray).heap → W'.ownsRow lo 21 1 (.slice (some ⟨N, 0, none⟩) (n + 1) G) (n + 1) (encRb (zs.take i ++ x :: zs.drop i)) := fun W' hW' => by
    refine ⟨by simp; omega, .inr ⟨N, G, RB.toArray, rfl, by omega, by rw [hW']; exact setRow_heap _ N RA.toArray RB.toArray 21 (0, 0) (hhA W1 rfl), by omega, hGm, by simp [hRB]; omega, ?_⟩⟩
    have e0 : ROW.toList.take i = (encRb zs).take i := by
      rw [hROW, Array.toList_append, Array.toList_append, List.append_assoc]
      exact List.take_left' (by simp; omega)
    have e1 : RA.take (i + 1) = (encRb zs).take i ++ [.int .i32 x] := by
      rw [hRA, e0]
      exact List.take_left' (by simp; omega)
    rw [Nat.mul_one, hRB, e1]
    show ((encRb zs).take i ++ [Value.int .i32 x] ++ cs ++ _).take (n + 1) = _
    rw [List.take_left' (by simp [hcl]; omega), hcs]
    simp [encRb]
  have GR : ∀ W' : World, W'.heap = ((W1.setRow N RA.toArray).setRow N RB.toArray).heap → W'.os = W.os → W'.tape = W.tape → W'.output = W.output → W.grownBy W' (some g) := fun W' hW' h1 h2 h3 =>
    ⟨h1, h2, h3, by rw [hW', hW1]; simp, fun k hk hkg => by
      rw [hW', setRow_other _ N k _ (by omega), setRow_other _ N k _ (by omega), hW1]
      exact (World.grownBy_alloc W.drew _ none).block k hk (by simp)⟩
  have HF := hide FIN
  have HG := hide GR
  have HR := hide hrz
  have hin : i ≤ n := by omega
  have hw1 : IntKind.i64.wrap ((i : Int) + 1) = (i : Int) + 1 := by rw [IntKind.wrap_i64]; omega
  have hb0 : (0 : Int) ≤ (i : Int) + 1 := by omega
  have htn : ((i : Int) + 1).toNat = i + 1 := by omega
  have hb3 : ¬ (i : Int) = (n : Int) := by omega
  have hb6 : ¬ G = i := by omega
  have hb7 : ¬ G = i + 1 := by omega
  have hb8 : ¬ n = i := by omega
  subst hN
  subst hW1
  have HA := hide (hcpA ((W.alloc (.cells ROW 21)).drew) rfl)
  have HB := hide (hcpB ((((W.alloc (.cells ROW 21)).drew).setRow W.heap.size RA.toArray).drew) rfl)
  clear hkk hik hold hROW hG hRl FIN GR hRA hRB hRAl hhA hcs hcl hh1 hv1 hg1 hcur1 hcur h1c hrz hcpA hcpB htk htk2 hh
  go_enter Try.func53, Try.ntmps53
  go_wp2_with (first
    | (at_builtin; refine Lib.wpList_append_run _ rfl _ _ _ _ rfl _ _ rfl rfl _ _ (unhide HR _) ?_)
    | (refine wpList_copy_runB _ rfl _ _ 59 59 rfl _ _ rfl rfl (unhide HA _ _) ?_))

  have hb := unhide HB
  go_region
  go_wp2
  go_ret
  exact ⟨_, rfl, unhide HF _ rfl, unhide HG _ rfl rfl rfl rfl⟩
theorem insRb_any {lo vb n i : Nat} {v : Value} {zs : List Int} {x : Int} {W : World} (hn : zs.length = n) (hown : W.ownsRow lo 21 1 v n (encRb zs)) (hz : n ≤ 100000) (hv : Blk W vb #[.int .i32 x] 21) (hne : v.ownBlock ≠ some vb) (hi : i ≤ n) (hlo : lo ≤ W.heap.size) :
    Calls Try.prog 53 #[v, .int .i64 i, .slice (some ⟨vb, 0, none⟩) 1 1] W fun e w' => ∃ v', e = .returned v' ∧ w'.ownsRow lo 21 1 v' (n + 1) (encRb (zs.take i ++ x :: zs.drop i)) ∧ W.grownBy w' v.ownBlock := by
  by_cases h : i = n
  · subst h
    have := insRb_end hn hown hz hv hlo
    rwa [show zs.take i ++ x :: zs.drop i = zs ++ [x] by rw [List.take_of_length_le (by omega), List.drop_of_length_le (by omega)]]
  · have hin : i < n := by omega
    rcases hown.2 with ⟨rfl, h0⟩ | ⟨g, cap, cur, rfl, hg, hh, hc, hm, hsz, htk⟩
    · omega
    · by_cases hcn : cap = n
      · subst hcn
        exact insRb_grow hn hown hz hv hin hlo
      · exact insRb_shift hn hown hz hv (fun e => hne (by rw [e]; rfl)) hin (by omega)
end Go.Proofs.Ythjndkjbjflmfaa
