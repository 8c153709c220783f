/- slices.Insert at a row that the call owns: one value. -/
import Derived.Test.YthjndkjbjflmfaaBtD
import Derived.Test.YthjndkjbjflmfaaBtIR
import Derived.OwnWalk
import Derived.Laws.Externs
import Derived.Laws.CopyOwn
import Derived.Lib.AppendZerosOnto
import Derived.Lib.Overlaps
import Derived.RegionTactic
import Derived.ChangeAlike
namespace Go.Proofs.Ythjndkjbjflmfaa
open Go.RowKit Go.Shelf
set_option linter.unusedVariables false
theorem addZb (g o j : Nat) : (⟨g, o, none⟩ : Addr).add j = ⟨g, o + j, none⟩ := by unfold Addr.add; split <;> simp_all
abbrev encZb (zs : List Int) : List Value := zs.map (Value.int .i64)
theorem infoZb : (Try.prog.info? 3).map (fun i => (i.zero, i.size, i.bytes)) = some (some (.int .i64 0), 1, 8) := by kernel_rfl
set_option maxRecDepth 100000 in
set_option maxHeartbeats 4000000 in
theorem insZb_end {lo vb n : Nat} {v : Value} {zs : List Int} {x : Int} {W : World} (hn : zs.length = n) (hown : W.ownsRow lo 3 1 v n (encZb zs)) (hz : n ≤ 100000) (hv : Blk W vb #[.int .i64 x] 3) (hlo : lo ≤ W.heap.size) :
    Calls Try.prog 46 #[v, .int .i64 n, .slice (some ⟨vb, 0, none⟩) 1 1] W fun e w' => ∃ v', e = .returned v' ∧ w'.ownsRow lo 3 1 v' (n + 1) (encZb (zs ++ [x])) ∧ W.grownBy w' v.ownBlock := by
  obtain ⟨i0, hi, hz0, hz1, hz2⟩ := info_parts infoZb
  have HI := hide (And.intro hi (And.intro hz0 (And.intro hz1 hz2)))
  clear hi hz0 hz1 hz2
  have HN := hide hn
  have HV := hide hv
  have HO := hide hown
  have HL := hide hlo
  have one : ∀ j u, [Value.int .i64 x][j]? = some u → W.cell? ((⟨vb, 0, none⟩ : Addr).add j) = some u := by
    intro j u hj
    rw [addZb, hv.cell (0 + j), ← hj]
    simp
  have ONE := hide one
  clear one hv hn hlo
  rcases hown.2 with ⟨rfl, h0⟩ | ⟨g, cap, cur, rfl, hg, hh, hc, hm, hsz, htk⟩
  · subst h0
    clear hown
    go_enter Try.func46, Try.ntmps46
    go_wp2_with (at_builtin; refine wpList_append_own _ rfl _ _ 49 rfl lo 3 i0 (.int .i64 0) 1 8 Try.underlying49 (unhide HI).1 (unhide HI).2.1 (unhide HI).2.2.1 (unhide HI).2.2.2 rfl (by decide) _ 0 _ rfl (unhide HO) ⟨vb, 0, none⟩ 1 1 [.int .i64 x] rfl rfl (unhide ONE) ?c2 ?c3 ?c4 (unhide HL) ?_)
    case c2 => intro u hu; simp at hu; rw [hu]; rfl
    case c3 => unfold maxLen; omega
    case c4 => omega
    intro v' w2 h1 h2 _
    have H1 := hide h1
    have H2 := hide h2
    clear h1 h2
    go_wp2
    go_ret
    exact ⟨_, rfl, by simp only [encZb, List.map_append, List.map_cons, List.map_nil]; exact unhide H1, unhide H2⟩
  · clear hown htk hsz hh hg
    by_cases hcn : cap = n
    · subst hcn
      go_enter Try.func46, Try.ntmps46
      go_wp2_with (at_builtin; refine wpList_append_own _ rfl _ _ 49 rfl lo 3 i0 (.int .i64 0) 1 8 Try.underlying49 (unhide HI).1 (unhide HI).2.1 (unhide HI).2.2.1 (unhide HI).2.2.2 rfl (by decide) _ _ _ rfl (unhide HO) ⟨vb, 0, none⟩ 1 1 [.int .i64 x] rfl rfl (unhide ONE) ?c2 ?c3 ?c4 (unhide HL) ?_)
      case c2 => intro u hu; simp at hu; rw [hu]; rfl
      case c3 => unfold maxLen; omega
      case c4 => omega
      intro v' w2 h1 h2 _
      have H1 := hide h1
      have H2 := hide h2
      clear h1 h2
      go_wp2
      go_ret
      exact ⟨_, rfl, by simp only [encZb, List.map_append, List.map_cons, List.map_nil]; exact unhide H1, unhide H2⟩
    · have hcn1 : ¬ n = cap := fun e => hcn e.symm
      go_enter Try.func46, Try.ntmps46
      go_wp2_with (at_builtin; refine wpList_append_own _ rfl _ _ 49 rfl lo 3 i0 (.int .i64 0) 1 8 Try.underlying49 (unhide HI).1 (unhide HI).2.1 (unhide HI).2.2.1 (unhide HI).2.2.2 rfl (by decide) _ n _ rfl (unhide HO) ⟨vb, 0, none⟩ 1 1 [.int .i64 x] rfl rfl (unhide ONE) ?c2 ?c3 ?c4 (unhide HL) ?_)
      case c2 => intro u hu; simp at hu; rw [hu]; rfl
      case c3 => unfold maxLen; omega
      case c4 => omega
      intro v' w2 h1 h2 _
      have H1 := hide h1
      have H2 := hide h2
      clear h1 h2
      go_wp2
      go_ret
      exact ⟨_, rfl, by simp only [encZb, List.map_append, List.map_cons, List.map_nil]; exact unhide H1, unhide H2⟩
set_option maxRecDepth 100000 in
set_option maxHeartbeats 4000000 in
theorem insZb_shift {lo vb n cap g i : Nat} {zs : List Int} {x : Int} {W : World} (hn : zs.length = n) (hown : W.ownsRow lo 3 1 (.slice (some ⟨g, 0, none⟩) n cap) n (encZb zs)) (hz : n ≤ 100000) (hv : Blk W vb #[.int .i64 x] 3) (hne : vb ≠ g) (hi : i < n) (hc : n < cap) :
    Calls Try.prog 46 #[.slice (some ⟨g, 0, none⟩) n cap, .int .i64 i, .slice (some ⟨vb, 0, none⟩) 1 1] W fun e w' => ∃ v', e = .returned v' ∧ w'.ownsRow lo 3 1 v' (n + 1) (encZb (zs.take i ++ x :: zs.drop i)) ∧ W.grownBy w' (some g) := by
  obtain ⟨cur, hg, hh, hm, hsz, htk⟩ : ∃ cur : Array Value, lo ≤ g ∧ W.heap[g]? = some (.cells cur 3 (0, 0)) ∧ cap ≤ maxLen ∧ cur.size = cap * 1 ∧ cur.toList.take (n * 1) = encZb zs := by
    rcases hown.2 with ⟨e, _⟩ | ⟨g', cap', cur, e, hg, hh, hc, hm, hsz, htk⟩
    · cases e
    · cases e; exact ⟨cur, hg, hh, hm, hsz, htk⟩
  clear hown
  have hm2 : cap ≤ 9223372036854775807 := by unfold maxLen at hm; exact hm
  rw [Nat.mul_one] at hsz htk
  have hel : (encZb zs).length = n := by rw [List.length_map, hn]
  obtain ⟨cs, hcs⟩ : ∃ cs, cs = (encZb zs).drop i := ⟨_, rfl⟩
  have hcl : cs.length = n - i := by rw [hcs, List.length_drop, hel]
  have hsz1 : (Try.prog.info? 3).map (·.size) = some 1 := by kernel_rfl
  have h1c : ∀ u ∈ encZb zs, u.oneCell' = true := fun u hu => by obtain ⟨y, _, rfl⟩ := List.mem_map.1 hu; rfl
  have hcur : ∀ j u, (encZb zs)[j]? = some u → cur[j]? = some u := fun j u hj => by
    have hjl := (List.getElem?_eq_some_iff.1 hj).1
    rw [← htk, List.getElem?_take, if_pos (by omega)] at hj
    rw [Array.getElem?_toList] at hj
    exact hj
  obtain ⟨R1, hR1⟩ : ∃ R1 : List Value, R1 = cur.toList.take (i + 1) ++ cs ++ cur.toList.drop (i + 1 + cs.length) := ⟨_, rfl⟩
  obtain ⟨W1, hW1⟩ : ∃ W1, W1 = W.drew.setRow g R1.toArray := ⟨_, rfl⟩
  have hcp1 : ∀ ty dc sc, (Builtin.copy_ #[49, 49] ty #[.slice (some ⟨g, i + 1, none⟩) (n - i) dc, .slice (some ⟨g, i, none⟩) (n + 1 - i) sc]).run Try.prog W.drew = .ok (goInt cs.length) W1 := fun ty dc sc => by
    rw [hW1, hR1]
    exact run_copy_row (P := Try.prog) W.drew 49 49 ty 3 g (i + 1) (n - i) dc ⟨g, i, none⟩ (n + 1 - i) sc cur 3 cs Try.underlying49 hsz1 hh (by rw [hcl]; simp only [Nat.min_def]; split <;> omega)
      (fun j u hj => by
        rw [hcs, List.getElem?_drop] at hj
        rw [addZb]
        show W.cell? ⟨g, i + j, none⟩ = some u
        rw [(show Blk W g cur 3 from hh).cell]
        exact hcur _ _ hj) (by omega) (fun u hu => h1c u (by rw [hcs] at hu; exact List.mem_of_mem_drop hu))
  have hh1 : W1.heap[g]? = some (.cells R1.toArray 3 (0, 0)) := by rw [hW1]; exact setRow_heap W.drew g cur R1.toArray 3 (0, 0) hh
  have hR1l : R1.length = cap := by rw [hR1]; simp; omega
  obtain ⟨R2, hR2⟩ : ∃ R2 : List Value, R2 = R1.take i ++ [.int .i64 x] ++ R1.drop (i + 1) := ⟨_, rfl⟩
  have hv1 : Blk W1 vb #[.int .i64 x] 3 := by
    rw [hW1]
    exact (setRow_other W.drew g vb _ hne).trans hv
  have hcp2 : ∀ ty dc, (Builtin.copy_ #[49, 49] ty #[.slice (some ⟨g, i, none⟩) (n + 1 - i) dc, .slice (some ⟨vb, 0, none⟩) 1 1]).run Try.prog W1 = .ok (goInt ([Value.int .i64 x] : List Value).length) (W1.setRow g R2.toArray) := fun ty dc => by
    rw [hR2]
    have := run_copy_row (P := Try.prog) W1 49 49 ty 3 g i (n + 1 - i) dc ⟨vb, 0, none⟩ 1 1 R1.toArray 3 [.int .i64 x] Try.underlying49 hsz1 hh1 (by simp only [Nat.min_def, List.length_singleton]; split <;> omega)
      (fun j u hj => by
        rw [addZb, hv1.cell (0 + j), ← hj]
        simp) (by simp; omega) (fun u hu => by rw [List.mem_singleton.1 hu]; rfl)
    exact this
  have hov : ∀ lb cb, (callFunc 65 #[.slice (some ⟨vb, 0, none⟩) 1 1, .slice (some ⟨g, i + 1, none⟩) lb cb]).run Try.prog W = .ok (.value (.bool false)) W := fun lb cb => by
    rw [run_callFunc_extern Try.func65 (by kernel_rfl) (by kernel_rfl) (by kernel_rfl) (e := Extern.SlicesOverlaps.overlaps #[49, 49] #[4]) (by kernel_rfl),
      Lib.run_overlaps_apart W 49 4 3 Try.underlying49 1 Try.sizeOf3 ⟨vb, 0, none⟩ ⟨g, i + 1, none⟩ 1 1 lb cb hne 3 3 1 cap (by unfold World.shape?; rw [hv]; rfl) (by unfold World.shape?; rw [hh]; simp [hsz]) (by omega) (hv.frozen 0) (hv.frozen 1)]
    rfl
  have FIN : (W1.setRow g R2.toArray).ownsRow lo 3 1 (.slice (some ⟨g, 0, none⟩) (n + 1) cap) (n + 1) (encZb (zs.take i ++ x :: zs.drop i)) := by
    refine ⟨by simp; omega, .inr ⟨g, cap, R2.toArray, rfl, hg, setRow_heap W1 g R1.toArray R2.toArray 3 (0, 0) hh1, by omega, hm, by simp [hR2, hR1l]; omega, ?_⟩⟩
    rw [Nat.mul_one, hR2, hR1, hcs, show encZb (zs.take i ++ x :: zs.drop i) = (encZb zs).take i ++ Value.int .i64 x :: (encZb zs).drop i by simp [encZb]]
    exact insL_list htk hel (by rw [Array.length_toList, hsz]; exact hc) hi
  have GR : W.grownBy (W1.setRow g R2.toArray) (some g) := by
    rw [hW1]
    exact ⟨rfl, rfl, rfl, by simp, fun k hk hkg => by
      rw [setRow_other _ g k _ (fun e => hkg (by rw [e])), setRow_other _ g k _ (fun e => hkg (by rw [e]))]; rfl⟩
  have HF := hide FIN
  have HG := hide GR
  clear FIN GR hh1 hR1l hR1 hR2 hv1 hcur h1c hh htk
  have hin : i ≤ n := by omega
  have hw1 : IntKind.i64.wrap ((i : Int) + 1) = (i : Int) + 1 := by rw [IntKind.wrap_i64]; omega
  have hb0 : (0 : Int) ≤ (i : Int) + 1 := by omega
  have htn : ((i : Int) + 1).toNat = i + 1 := by omega
  have hb5 : (i : Int) ≤ (n : Int) + 1 := by omega
  have hb1 : ¬ cap = i + 1 := by omega
  have hb2 : ¬ cap = i := by omega
  have hb3 : ¬ (i : Int) = (n : Int) := by omega
  have hb4 : (n : Int) + 1 ≤ (cap : Int) := by omega
  clear hW1
  go_enter Try.func46, Try.ntmps46
  go_wp2_with (simp only [hov])
  go_region
  go_wp2_with (refine wpList_copy_runB _ rfl _ _ 49 49 rfl _ _ rfl rfl (hcp2 _ _) ?_)
  go_ret
  exact ⟨_, rfl, unhide HF, unhide HG⟩
set_option maxRecDepth 100000 in
set_option maxHeartbeats 4000000 in
theorem insZb_grow {lo vb n g i : Nat} {zs : List Int} {x : Int} {W : World} (hn : zs.length = n) (hown : W.ownsRow lo 3 1 (.slice (some ⟨g, 0, none⟩) n n) n (encZb zs)) (hz : n ≤ 100000) (hv : Blk W vb #[.int .i64 x] 3) (hi : i < n) (hlo : lo ≤ W.heap.size) :
    Calls Try.prog 46 #[.slice (some ⟨g, 0, none⟩) n n, .int .i64 i, .slice (some ⟨vb, 0, none⟩) 1 1] W fun e w' => ∃ v', e = .returned v' ∧ w'.ownsRow lo 3 1 v' (n + 1) (encZb (zs.take i ++ x :: zs.drop i)) ∧ W.grownBy w' (some g) := by
  obtain ⟨cur, hg, hh, hsz, htk⟩ : ∃ cur : Array Value, lo ≤ g ∧ W.heap[g]? = some (.cells cur 3 (0, 0)) ∧ cur.size = n * 1 ∧ cur.toList.take (n * 1) = encZb zs := by
    rcases hown.2 with ⟨e, _⟩ | ⟨g', cap', cur, e, hg, hh, hc, hm, hsz, htk⟩
    · cases e
    · cases e; exact ⟨cur, hg, hh, hsz, htk⟩
  clear hown
  obtain ⟨i0, hif, hz0, hzs, hzb⟩ := info_parts infoZb
  rw [Nat.mul_one] at hsz htk
  have hel : (encZb zs).length = n := by rw [List.length_map, hn]
  have htk2 : cur.toList = encZb zs := by rw [← htk, List.take_of_length_le (by simp; omega)]
  have hsz1 : (Try.prog.info? 3).map (·.size) = some 1 := by kernel_rfl
  have h1c : ∀ u ∈ encZb zs, u.oneCell' = true := fun u hu => by obtain ⟨y, _, rfl⟩ := List.mem_map.1 hu; rfl
  have hcur : ∀ j u, (encZb zs)[j]? = some u → W.cell? ⟨g, j, none⟩ = some u := fun j u hj => by
    rw [(show Blk W g cur 3 from hh).cell, ← hj, ← htk2, Array.getElem?_toList]
  have hgw : g < W.heap.size := (Array.getElem?_eq_some_iff.1 hh).1
  have hvw : vb < W.heap.size := hv.lt
  have hold : (Builtin.firstCells i0.size i (.slice (some ⟨g, 0, none⟩) i n)).run Try.prog W.drew = .ok ((encZb zs).take i).toArray W.drew := by
    rw [hzs]
    exact run_firstCells_some W.drew 1 i ⟨g, 0, none⟩ i n ((encZb zs).take i) (by rw [List.length_take]; omega) (fun j u hj => by
      rw [addZb, Nat.zero_add]
      rw [List.getElem?_take] at hj
      split at hj
      · exact hcur j u hj
      · cases hj)
  obtain ⟨G, hG⟩ : ∃ G, G = grownCap W (n + 1) n 3 := ⟨_, rfl⟩
  obtain ⟨ROW, hROW⟩ : ∃ ROW : Array Value, ROW = ((encZb zs).take i).toArray ++ Builtin.zeroCells (Value.int .i64 0).cells (n + 1 - i) ++ Builtin.zeroCells (Value.int .i64 0).cells (G - (n + 1)) := ⟨_, rfl⟩
  have hkk : (n : Int) + 1 - (i : Int) = ((n + 1 - i : Nat) : Int) := by omega
  have hik : i + (n + 1 - i) = n + 1 := by omega
  have hrz : ∀ ty, (Builtin.append_ #[49, 3] ty #[.slice (some ⟨g, 0, none⟩) i n, .int .i64 ((n : Int) + 1 - (i : Int))]).run Try.prog W = .ok (.slice (some ⟨W.heap.size, 0, none⟩) (n + 1) G) (W.drew.alloc (.cells ROW 3)) := fun ty => by
    have h := Lib.run_append_grow_zeros W 49 3 ty 3 i0 _ .i64 .i64 Try.underlying49 Try.underlying3 hif hz0 (some ⟨g, 0, none⟩) i n ((encZb zs).take i) hold (n + 1 - i) (by omega) (by omega) (by omega) (by omega) (by rw [hzb]; omega) (by rw [hzb, hik]; exact growslice_fits (by omega) (by omega))
    rw [hik, ← hG, ← hROW] at h
    rw [hkk]
    exact h
  have hGn : n + 1 ≤ G := by rw [hG]; exact grownCap_ge W _ _ _
  have hGm : G ≤ maxLen := by
    have := grownCap_le_maxLen W (n + 1) n 3 (by unfold maxLen; omega)
    rw [← hG] at this
    exact this
  have hG63 : G ≤ 9223372036854775807 := by unfold maxLen at hGm; omega
  have hRl : ROW.size = G := by
    rw [hROW]
    simp [Builtin.zeroCells, Value.cells]
    omega
  obtain ⟨W1, hW1⟩ : ∃ W1, W1 = W.drew.alloc (.cells ROW 3) := ⟨_, rfl⟩
  rw [← hW1] at hrz
  obtain ⟨N, hN⟩ : ∃ N, N = W.heap.size := ⟨_, rfl⟩
  have hh1 : W1.heap[N]? = some (.cells ROW 3 (0, 0)) := by rw [hW1, hN]; exact Blk.new W.drew ROW 3
  have hgN : g ≠ N := by omega
  have hvN : vb ≠ N := by omega
  have hv1 : Blk W1 vb #[.int .i64 x] 3 := by rw [hW1]; exact Blk.alloc (W := W.drew) hv _
  have hg1 : Blk W1 g cur 3 := by rw [hW1]; exact Blk.alloc (W := W.drew) hh _
  have hcur1 : ∀ j u, (encZb zs)[j]? = some u → W1.cell? ⟨g, j, none⟩ = some u := fun j u hj => by
    rw [hg1.cell, ← hj, ← htk2, Array.getElem?_toList]
  obtain ⟨RA, hRA⟩ : ∃ RA : List Value, RA = ROW.toList.take i ++ [.int .i64 x] ++ ROW.toList.drop (i + 1) := ⟨_, rfl⟩
  obtain ⟨cs, hcs⟩ : ∃ cs, cs = (encZb zs).drop i := ⟨_, rfl⟩
  have hcl : cs.length = n - i := by rw [hcs, List.length_drop, hel]
  obtain ⟨RB, hRB⟩ : ∃ RB : List Value, RB = RA.take (i + 1) ++ cs ++ RA.drop (i + 1 + cs.length) := ⟨_, rfl⟩
  have hcpA : ∀ W' : World, W'.heap = W1.heap → ∀ ty dc, (Builtin.copy_ #[49, 49] ty #[.slice (some ⟨N, i, none⟩) (n + 1 - i) dc, .slice (some ⟨vb, 0, none⟩) 1 1]).run Try.prog W' = .ok (goInt ([Value.int .i64 x] : List Value).length) (W'.setRow N RA.toArray) := fun W' hW' ty dc => by
    rw [hRA]
    exact run_copy_row (P := Try.prog) W' 49 49 ty 3 N i (n + 1 - i) dc ⟨vb, 0, none⟩ 1 1 ROW 3 [.int .i64 x] Try.underlying49 hsz1 (by rw [hW']; exact hh1) (by simp only [Nat.min_def, List.length_singleton]; split <;> omega)
      (fun j u hj => by
        have hv2 : Blk W' vb #[.int .i64 x] 3 := by unfold Blk; rw [hW']; exact hv1
        rw [addZb, hv2.cell (0 + j), ← hj]
        simp) (by simp; omega) (fun u hu => by rw [List.mem_singleton.1 hu]; rfl)
  have hRAl : RA.length = G := by rw [hRA]; simp; omega
  have hhA : ∀ W' : World, W'.heap = W1.heap → (W'.setRow N RA.toArray).heap[N]? = some (.cells RA.toArray 3 (0, 0)) := fun W' h => setRow_heap W' N ROW RA.toArray 3 (0, 0) (by rw [h]; exact hh1)
  have hcpB : ∀ W' : World, W'.heap = (W1.setRow N RA.toArray).heap → ∀ ty dc sc, (Builtin.copy_ #[49, 49] ty #[.slice (some ⟨N, i + 1, none⟩) (n - i) dc, .slice (some ⟨g, i, none⟩) (n - i) sc]).run Try.prog W' = .ok (goInt cs.length) (W'.setRow N RB.toArray) := fun W' hW' ty dc sc => by
    rw [hRB]
    have := run_copy_row (P := Try.prog) W' 49 49 ty 3 N (i + 1) (n - i) dc ⟨g, i, none⟩ (n - i) sc RA.toArray 3 cs Try.underlying49 hsz1 (by rw [hW']; exact hhA W1 rfl) (by rw [hcl]; simp only [Nat.min_def]; split <;> omega)
      (fun j u hj => by
        rw [hcs, List.getElem?_drop] at hj
        have hv2 : Blk W' g cur 3 := by unfold Blk; rw [hW']; exact (setRow_other W1 N g _ hgN).trans hg1
        rw [addZb, hv2.cell (i + j), ← hj, ← htk2, Array.getElem?_toList]) (by simp; omega) (fun u hu => h1c u (by rw [hcs] at hu; exact List.mem_of_mem_drop hu))
    simpa using this
  have FIN : ∀ W' : World, W'.heap = ((W1.setRow N RA.toArray).setRow N RB.toArray).heap → W'.ownsRow lo 3 1 (.slice (some ⟨N, 0, none⟩) (n + 1) G) (n + 1) (encZb (zs.take i ++ x :: zs.drop i)) := fun W' hW' => by
    refine ⟨by simp; omega, .inr ⟨N, G, RB.toArray, rfl, by omega, by rw [hW']; exact setRow_heap _ N RA.toArray RB.toArray 3 (0, 0) (hhA W1 rfl), by omega, hGm, by simp [hRB]; omega, ?_⟩⟩
    have e0 : ROW.toList.take i = (encZb zs).take i := by
      rw [hROW, Array.toList_append, Array.toList_append, List.append_assoc]
      exact List.take_left' (by simp; omega)
    have e1 : RA.take (i + 1) = (encZb zs).take i ++ [.int .i64 x] := by
      rw [hRA, e0]
      exact List.take_left' (by simp; omega)
    rw [Nat.mul_one, hRB, e1]
    show ((encZb zs).take i ++ [Value.int .i64 x] ++ cs ++ _).take (n + 1) = _
    rw [List.take_left' (by simp [hcl]; omega), hcs]
    simp [encZb]
  have GR : ∀ W' : World, W'.heap = ((W1.setRow N RA.toArray).setRow N RB.toArray).heap → W'.os = W.os → W'.tape = W.tape → W'.output = W.output → W.grownBy W' (some g) := fun W' hW' h1 h2 h3 =>
    ⟨h1, h2, h3, by rw [hW', hW1]; simp, fun k hk hkg => by
      rw [hW', setRow_other _ N k _ (by omega), setRow_other _ N k _ (by omega), hW1]
      exact (World.grownBy_alloc W.drew _ none).block k hk (by simp)⟩
  have HF := hide FIN
  have HG := hide GR
  have HR := hide hrz
  have hin : i ≤ n := by omega
  have hw1 : IntKind.i64.wrap ((i : Int) + 1) = (i : Int) + 1 := by rw [IntKind.wrap_i64]; omega
  have hb0 : (0 : Int) ≤ (i : Int) + 1 := by omega
  have htn : ((i : Int) + 1).toNat = i + 1 := by omega
  have hb3 : ¬ (i : Int) = (n : Int) := by omega
  have hb6 : ¬ G = i := by omega
  have hb7 : ¬ G = i + 1 := by omega
  have hb8 : ¬ n = i := by omega
  subst hN
  subst hW1
  have HA := hide (hcpA ((W.alloc (.cells ROW 3)).drew) rfl)
  have HB := hide (hcpB ((((W.alloc (.cells ROW 3)).drew).setRow W.heap.size RA.toArray).drew) rfl)
  clear hkk hik hold hROW hG hRl FIN GR hRA hRB hRAl hhA hcs hcl hh1 hv1 hg1 hcur1 hcur h1c hrz hcpA hcpB htk htk2 hh
  go_enter Try.func46, Try.ntmps46
  go_wp2_with (first
    | (at_builtin; refine Lib.wpList_append_run _ rfl _ _ _ _ rfl _ _ rfl rfl _ _ (unhide HR _) ?_)
    | (refine wpList_copy_runB _ rfl _ _ 49 49 rfl _ _ rfl rfl (unhide HA _ _) ?_))

  have hb := unhide HB
  go_region
  go_wp2
  go_ret
  exact ⟨_, rfl, unhide HF _ rfl, unhide HG _ rfl rfl rfl rfl⟩
theorem insZb_any {lo vb n i : Nat} {v : Value} {zs : List Int} {x : Int} {W : World} (hn : zs.length = n) (hown : W.ownsRow lo 3 1 v n (encZb zs)) (hz : n ≤ 100000) (hv : Blk W vb #[.int .i64 x] 3) (hne : v.ownBlock ≠ some vb) (hi : i ≤ n) (hlo : lo ≤ W.heap.size) :
    Calls Try.prog 46 #[v, .int .i64 i, .slice (some ⟨vb, 0, none⟩) 1 1] W fun e w' => ∃ v', e = .returned v' ∧ w'.ownsRow lo 3 1 v' (n + 1) (encZb (zs.take i ++ x :: zs.drop i)) ∧ W.grownBy w' v.ownBlock := by
  by_cases h : i = n
  · subst h
    have := insZb_end hn hown hz hv hlo
    rwa [show zs.take i ++ x :: zs.drop i = zs ++ [x] by rw [List.take_of_length_le (by omega), List.drop_of_length_le (by omega)]]
  · have hin : i < n := by omega
    rcases hown.2 with ⟨rfl, h0⟩ | ⟨g, cap, cur, rfl, hg, hh, hc, hm, hsz, htk⟩
    · omega
    · by_cases hcn : cap = n
      · subst hcn
        exact insZb_grow hn hown hz hv hin hlo
      · exact insZb_shift hn hown hz hv (fun e => hne (by rw [e]; rfl)) hin (by omega)
end Go.Proofs.Ythjndkjbjflmfaa
