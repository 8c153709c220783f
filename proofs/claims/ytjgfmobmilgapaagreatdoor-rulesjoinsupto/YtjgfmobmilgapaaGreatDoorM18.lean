/- Texts of this claim, one behind the other. -/
import Derived.Test.YtjgfmobmilgapaaGreatDoorM17
import Derived.Test.YtjgfmobmilgapaaGreatDoorShV
import Derived.Test.YtjgfmobmilgapaaGreatDoorM4
/- The printer of tables: maps. -/
namespace Go.Proofs.YtjgfmobmilgapaaGreatDoor
open Go.RowKit Go.Shelf
set_option linter.unusedVariables false
theorem encF2_length (t : List (Int × ByteArray)) : (encF2 t).length = t.length * 2 := by
  induction t with
  | nil => rfl
  | cons x t ih => show (encF2 t).length + 1 + 1 = (t.length + 1) * 2; omega
theorem encF2_at (l : List (Int × ByteArray)) (j : Nat) (x : Int × ByteArray) (h : l[j]? = some x) : (encF2 l)[j * 2]? = some (.int .i32 x.1) ∧ (encF2 l)[j * 2 + 1]? = some (.string x.2) := by
  induction l generalizing j with
  | nil => simp at h
  | cons y l ih => cases j with
    | zero => obtain rfl := Option.some.inj h; exact ⟨rfl, rfl⟩
    | succ j => have := ih j (by simpa using h); rw [show (j + 1) * 2 = j * 2 + 1 + 1 by omega]; exact this
def okTo (s : ByteArray) : Bool := decide (s.size ≠ 0) && Lib.validD s.data.toList
def mapP (word : ByteArray) (p : Pn) (x : Int × ByteArray) : Pn := lineV (putV ((runesL x.2).foldl runeV (putV (runeV (putV (needV p (okTo x.2)) [word]) x.1) [⟨#[61]⟩])) [⟨#[59]⟩])
theorem utab_fr {lo N : Nat} {W0 W : World} (hf : Fr lo N N W0 W) (h1 : 5 < lo) (h2 : 5 ≠ N) (h3 : 6 < lo) (h4 : 6 ≠ N) (h : Lib.Utf8Tabs 5 6 W0) : Lib.Utf8Tabs 5 6 W :=
  ⟨fun c hc => hf.cell h1 h2 h2 (h.1 c hc), fun i hi => ⟨hf.cell h3 h4 h4 (h.2 i hi).1, hf.cell h3 h4 h4 (h.2 i hi).2⟩⟩
theorem validS_any (s : ByteArray) (hs : s.size ≤ maxLen) (w : World) (h : Lib.Utf8Tabs 5 6 w) : Calls Tryz.prog 62 #[.string s] w fun e w' => e = .returned (.bool (Lib.validD s.data.toList)) ∧ Below w.heap.size w w' :=
  Any.utf8_ValidString lay196 s w (by unfold maxLen at hs; omega) h
theorem PrAt.iter {W W' : World} {lo N I : Nat} {t : List UInt8} {bg wr : Bool} {u : ByteArray} {pos : Nat} (h : PrAt W lo N t bg wr) (hg : W.grownBy W' (some I)) (hI : W.heap[I]? = some (.stringIter u pos)) : PrAt W' lo N t bg wr := by
  obtain ⟨p, v, hb, hp, ho⟩ := h.blk
  have hN : N ≠ I := fun e => by
    subst e
    have := (show W.heap[N]? = some (.cells _ _ (0, 0)) from hb).symm.trans hI
    cases this
  have hv : v.ownBlock ≠ some I := by
    rcases ho.2 with ⟨rfl, _⟩ | ⟨g, cap, cur, rfl, _, hgc, _⟩
    · simp [Value.ownBlock]
    · intro e
      have e := Option.some.inj e
      subst e
      cases hgc.symm.trans hI
  exact ⟨⟨p, v, hb.kept hg (fun e => hN (Option.some.inj e)), hp, rd_other ho hg (.inr hv)⟩, h.lt, Nat.le_trans h.lw hg.size⟩
theorem PF.iter {W wr W' : World} {lo N I : Nat} (h : PF lo N W wr) (hg : wr.grownBy W' (some I)) (h0 : W.heap.size ≤ I) (hlo : lo ≤ I) (hw : lo ≤ wr.heap.size) : PF lo N W W' :=
  ⟨h.fr.trans (Fr.grown hw hg (fun b e => .inr (.inr (by have := Option.some.inj e; omega)))), fun i o h1 h2 h3 => by
    have h4 := h.ko i o h1 h2 h3
    have hi := (Array.getElem?_eq_some_iff.1 h3).1
    rw [hg.block i (Array.getElem?_eq_some_iff.1 h4).1 (fun e => by have := Option.some.inj e; omega)]
    exact h4⟩
theorem PS.iter {W0 W W' : World} {lo N I : Nat} {p : Pn} {u : ByteArray} {pos : Nat} (h : PS W0 W lo N p) (hg : W.grownBy W' (some I)) (hI : W.heap[I]? = some (.stringIter u pos)) (h0 : W0.heap.size ≤ I) (hlo : lo ≤ I) : PS W0 W' lo N p :=
  ⟨PrAt.iter h.here hg hI, h.ok, h.pf.iter hg h0 hlo h.here.lw, (Fr.grown h.here.lw hg (fun b e => .inr (.inr (by have := Option.some.inj e; omega))) : Fr lo N N W W').cell h.low h.off h.off h.tab, h.low, h.off⟩
set_option maxRecDepth 100000 in
set_option maxHeartbeats 4000000 in
theorem ps_maps (lo N : Nat) (p : Pn) (word : ByteArray) (hword : word.size ≤ 1000) (a : Option Addr) (c : Nat) (l : List (Int × ByteArray)) (hn : l.length ≤ 1000000) (hz : ∀ x ∈ l, x.2.size ≤ maxLen) (W0 W : World) (hV : Lib.Utf8Tabs 5 6 W0) (h1 : 5 < lo) (h2 : 5 ≠ N) (h3 : 6 < lo) (h4 : 6 ≠ N) (h : PS W0 W lo N p) (hr : RowC W N a (encF2 l)) :
    Calls Tryz.prog 35 #[.pointer (some ⟨N, 0, none⟩), .string word, .slice a l.length c] W fun e w' => (∃ r, e = .returned r) ∧ PS W0 w' lo N (l.foldl (mapP word) p) ∧ PF lo N W w' := by
  obtain ⟨n, hN⟩ : ∃ n, n = l.length := ⟨_, rfl⟩
  rw [← hN]
  have HN := hide hN
  have hn1 : n ≤ 1000000 := by omega
  have HR := hide hr
  have HZ := hide hz
  have HT := hide (fun (w : World) (hf : Fr lo N N W0 w) => utab_fr hf h1 h2 h3 h4 hV)
  have hlt := h.here.lt
  have H2 : Hz (PS W0 W lo N ((l.take 0).foldl (mapP word) p) ∧ PF lo N W W) := hide ⟨h, PF.refl _ _ _⟩
  clear hN hn h hr hz h1 h2 h3 h4 hV
  go_enter Tryz.func35, Tryz.ntmps35
  go_wp2_with fail
  go_loopw [7, 12] (fun _ u12 wr => ∃ (j : Nat), u12 = .int .i64 (j : Int) ∧ j ≤ n ∧ Hz (PS W0 wr lo N ((l.take j).foldl (mapP word) p) ∧ PF lo N W wr)) (fun _ u12 _ => n - cntI u12)
  case atStart => exact ⟨0, rfl, Nat.zero_le _, H2⟩
  case round =>
    obtain ⟨j, rfl, hj, HQ⟩ := hrel
    clear H2
    obtain ⟨wo, rfl⟩ : ∃ wo, wo = wr := ⟨_, rfl⟩
    by_cases hjlt : j < n
    · have hlt2 : (j : Int) < (n : Int) := by omega
      have hj0 : (0 : Int) ≤ (j : Int) := by omega
      obtain ⟨x, hx⟩ : ∃ x, l[j]? = some x := ⟨_, List.getElem?_eq_getElem (by have := unhide HN; omega)⟩
      obtain ⟨g, o, rfl, hg, hcs⟩ := ((unhide HR).kept hlt (unhide HQ).2.fr) (by rw [encF2_length]; have := unhide HN; omega)
      have hat := encF2_at l j x hx
      have d0 : wo.cell? ⟨g, o + j * 2, none⟩ = some (.int .i32 x.1) := hcs _ _ hat.1
      have d1 : wo.cell? ⟨g, o + j * 2 + 1, none⟩ = some (.string x.2) := by rw [Nat.add_assoc]; exact hcs _ _ hat.2
      have HX := hide (fold_take (mapP word) p l j x hx)
      have HXZ := hide (unhide HZ x (List.mem_of_getElem? hx))
      clear hcs hat hx
      obtain ⟨q, hq⟩ : ∃ q, q = (l.take j).foldl (mapP word) p := ⟨_, rfl⟩
      rw [← hq] at HQ HX
      clear hq
      obtain ⟨x0, u⟩ := x
      dsimp only at d0 d1 HXZ
      have HA : Hz (PS W0 (wo.alloc (.cells #[.int .i32 x0, .string u] 77)) lo N q ∧ PF lo N wo (wo.alloc (.cells #[.int .i32 x0, .string u] 77))) := hide ⟨(unhide HQ).1.alloc _, PF.below (unhide HQ).1.here.lw ((Below.refl _ wo).alloc (Nat.le_refl _) _)⟩
      have HBX0 := hide (Blk.new wo #[.int .i32 x0, .string u] 77)
      have hNs : wo.heap.size ≠ N := by have := (unhide HQ).1.here.lw; omega
      have HSA : Hz ((wo.alloc (.cells #[.int .i32 x0, .string u] 77)).heap.size = wo.heap.size + 1) := hide (by simp)
      have HMP : Hz (∀ ok, okTo u = ok → mapP word q (x0, u) = lineV (putV ((runesL u).foldl runeV (putV (runeV (putV (needV q ok) [word]) x0) [⟨#[61]⟩])) [⟨#[59]⟩])) := hide (fun ok e => by rw [← e]; rfl)
      have HLW := hide (unhide HQ).1.here.lw
      by_cases hu0 : u.size = 0
      · have hue : u.toList = [] := by rw [ByteArray.toList_eq, toList_nil u hu0]; rfl
        have HOK : Hz (okTo u = false) := hide (by unfold okTo; rw [decide_eq_false (by omega)]; rfl)
        clear hu0
        go_wp2_with fail
        generalize wo.alloc (.cells #[.int .i32 x0, .string u] 77) = wA at *
        generalize hMM : wo.heap.size = M at *
        have HC1 := hide (ps_need lo N q false W0 wA (unhide HA).1)
        refine (unhide HC1).mono ?_
        rintro e w10 ⟨⟨r10, rfl⟩, h10, hf10⟩
        have HBX10 := hide (hf10.kp _ _ _ hNs (by decide) (unhide HBX0))
        have HH10 := hide (And.intro h10 ((unhide HA).2.trans hf10))
        have z0 := (unhide HBX10).cell 0
        have z1 := (unhide HBX10).cell 1
        have HMM := hide hMM
        clear h10 hf10 HC1 HBX0 HA d0 d1 hMM
        have HC11 := hide (ps_put lo N (needV q false) [word] (fun w hw => .inr (by rw [List.mem_singleton.1 hw]; exact hword)) (by simp) W0 w10 (unhide HH10).1)
        go_wp2_with fail
        refine (show Calls Tryz.prog 57 #[.pointer (some ⟨N, 0, none⟩), .slice (some ⟨w10.heap.size, 0, none⟩) 1 1] (w10.alloc (.cells #[.string word] 9)) _ from unhide HC11).mono ?_
        rintro e w11 ⟨⟨r11, rfl⟩, h11, hf11⟩
        have HBX11 := hide (hf11.kp _ _ _ hNs (by decide) (unhide HBX10))
        have HH11 := hide (And.intro h11 ((unhide HH10).2.trans hf11))
        clear z0 z1 h11 hf11 HC11 HBX10 HH10
        have z0 := (unhide HBX11).cell 0
        have z1 := (unhide HBX11).cell 1
        have HC12 := hide (ps_rune lo N (putV (needV q false) [word]) x0 W0 _ (unhide HH11).1)
        go_wp2_with fail
        refine (unhide HC12).mono ?_
        rintro e w12 ⟨⟨r12, rfl⟩, h12, hf12⟩
        have HBX12 := hide (hf12.kp _ _ _ hNs (by decide) (unhide HBX11))
        have HH12 := hide (And.intro h12 ((unhide HH11).2.trans hf12))
        clear z0 z1 h12 hf12 HC12 HBX11 HH11
        have z0 := (unhide HBX12).cell 0
        have z1 := (unhide HBX12).cell 1
        have HC13 := hide (ps_put lo N (runeV (putV (needV q false) [word]) x0) [⟨#[61]⟩] (fun w hw => .inr (by simp at hw; first | (rw [hw]; decide) | (rcases hw with h | h <;> rw [h] <;> decide))) (by simp) W0 w12 (unhide HH12).1)
        go_wp2_with fail
        refine (show Calls Tryz.prog 57 #[.pointer (some ⟨N, 0, none⟩), .slice (some ⟨w12.heap.size, 0, none⟩) 1 1] (w12.alloc (.cells #[.string ⟨#[61]⟩] 9)) _ from unhide HC13).mono ?_
        rintro e w13 ⟨⟨r13, rfl⟩, h13, hf13⟩
        have HBX13 := hide (hf13.kp _ _ _ hNs (by decide) (unhide HBX12))
        have HH13 := hide (And.intro h13 ((unhide HH12).2.trans hf13))
        clear z0 z1 h13 hf13 HC13 HBX12 HH12
        have z0 := (unhide HBX13).cell 0
        have z1 := (unhide HBX13).cell 1
        obtain ⟨qq, hqq⟩ : ∃ qq, qq = (putV (runeV (putV (needV q false) [word]) x0) [⟨#[61]⟩]) := ⟨_, rfl⟩
        rw [← hqq] at HH13
        have HQQ := hide hqq
        clear hqq
        go_wp2_with fail
        have hwW : wo.heap.size ≤ w13.heap.size := (unhide HH13).2.fr.size
        have hw0 : W0.heap.size ≤ w13.heap.size := (unhide HH13).1.pf.fr.size
        have hlw13 := (unhide HH13).1.here.lw
        have HST : Hz (PS W0 (w13.iter u 0) lo N qq ∧ PF lo N wo (w13.iter u 0) ∧ (w13.iter u 0).heap[w13.heap.size]? = some (.stringIter u 0) ∧ Blk (w13.iter u 0) M #[.int .i32 x0, .string u] 77) := hide ⟨(unhide HH13).1.alloc _, (unhide HH13).2.trans (PF.below hlw13 ((Below.refl _ w13).alloc (Nat.le_refl _) _)), World.alloc_heap_new w13 _, (unhide HBX13).alloc _⟩
        obtain ⟨J, hJ⟩ : ∃ J, J = w13.heap.size := ⟨_, rfl⟩
        rw [← hJ] at HST hwW hw0 hlw13
        rw [← hJ]
        have HJS := hide (And.intro hwW (And.intro hw0 hlw13))
        clear hJ hwW hw0 hlw13 HH13 HBX13 z0 z1
        go_loopw [9] (fun _ wr => ∃ (pre : List Nat) (pos f : Nat), Hz (starts u = pre ++ startsFrom u f pos) ∧ u.size ≤ pos + f ∧ Hz (PS W0 wr lo N ((pre.map (fun i => ((rn u i : Nat) : Int))).foldl runeV qq) ∧ PF lo N wo wr ∧ wr.heap[J]? = some (.stringIter u pos) ∧ Blk wr M #[.int .i32 x0, .string u] 77)) (fun _ wr => u.size - wr.iterPos J)
        case atStart => exact ⟨[], 0, u.size, hide rfl, by omega, HST⟩
        case round =>
          obtain ⟨pre, pos, f, HS, hf, HI⟩ := hrel
          clear HST
          by_cases hp : pos < u.size
          · obtain ⟨f', rfl⟩ : ∃ f', f = f' + 1 := ⟨f - 1, by omega⟩
            have hnx : ∀ ty, (Instr.next (.pointer (some ⟨J, 0, none⟩)) true ty).run Tryz.prog wr = _ := fun ty => Lib.run_next_any_at wr J u pos ty (unhide HI).2.2.1 hp
            have hwd := wd_pos u pos
            obtain ⟨d, hd⟩ : ∃ d, d = pos + (Utf8.decode u pos).2 := ⟨_, rfl⟩
            obtain ⟨y, hy⟩ : ∃ y, y = (Utf8.decode u pos).1 := ⟨_, rfl⟩
            rw [← hd, ← hy] at hnx
            have hgi := grown_iterAt wr J u d
            have i0 : (wr.iterAt J u d).heap[J]? = some (.stringIter u d) := Lib.iterAt_heap wr J u pos d (unhide HI).2.2.1
            have hMJ : M ≠ J := fun e => by
              have hb := (unhide HI).2.2.2
              rw [e] at hb
              have hb : wr.heap[J]? = some (.cells _ _ (0, 0)) := hb
              cases hb.symm.trans (unhide HI).2.2.1
            have HS2 : Hz (starts u = (pre ++ [pos]) ++ startsFrom u f' d) := hide (by rw [unhide HS, startsFrom_cons u f' pos hp, hd]; simp)
            have hps := (unhide HI).1.iter hgi (unhide HI).2.2.1 (unhide HJS).2.1 (unhide HJS).2.2
            have hpf := (unhide HI).2.1.iter hgi (unhide HJS).1 (unhide HJS).2.2 (unhide HI).1.here.lw
            have HN2 := hide (And.intro hpf (And.intro i0 ((unhide HI).2.2.2.kept hgi (fun e => hMJ (Option.some.inj e)))))
            have HRU := hide (ps_rune lo N _ (y : Int) W0 _ hps)
            have HIP := hide (iterPos_at (unhide HI).2.2.1)
            have HDW : Hz (pos < d ∧ u.size ≤ d + f') := hide (by simp only [wd] at hwd; omega)
            have HPR : Hz (((pre ++ [pos]).map (fun i => ((rn u i : Nat) : Int))).foldl runeV qq = runeV ((pre.map (fun i => ((rn u i : Nat) : Int))).foldl runeV qq) (y : Int)) := hide (by rw [List.map_append, List.foldl_append, hy]; rfl)
            clear hgi i0 hps hpf HI HS hd hy hwd hMJ
            go_wp2_with fail
            refine (unhide HRU).mono ?_
            rintro e w20 ⟨⟨r20, rfl⟩, h20, hf20⟩
            have hJN : J ≠ N := by have := (unhide HJS).2.2; omega
            have HI2 : Hz (PS W0 w20 lo N (((pre ++ [pos]).map (fun i => ((rn u i : Nat) : Int))).foldl runeV qq) ∧ PF lo N wo w20 ∧ w20.heap[J]? = some (.stringIter u d) ∧ Blk w20 M #[.int .i32 x0, .string u] 77) := hide (by rw [unhide HPR]; exact ⟨h20, (unhide HN2).1.trans hf20, hf20.ko J _ hJN (fun cs fz e => by cases e) (unhide HN2).2.1, hf20.kp _ _ _ hNs (by decide) (unhide HN2).2.2⟩)
            clear h20 hf20 HRU HN2
            go_wp2_with fail
            go_roundw
            case rel => exact ⟨pre ++ [pos], d, f', HS2, (unhide HDW).2, HI2⟩
            case measure => rw [unhide HIP, iterPos_at (unhide HI2).2.2.1]; have := (unhide HDW).1; omega
          · have hnx : ∀ ty, (Instr.next (.pointer (some ⟨J, 0, none⟩)) true ty).run Tryz.prog wr = _ := fun ty => Lib.run_next_end_at wr J u pos ty (unhide HI).2.2.1 (by omega)
            have HPRE : Hz ((pre.map (fun i => ((rn u i : Nat) : Int))).foldl runeV qq = (runesL u).foldl runeV qq) := hide (by
              have e := unhide HS
              rw [startsFrom_end u f pos (by omega), List.append_nil] at e
              unfold runesL
              rw [e])
            rw [unhide HPRE] at HI
            have HZ := hide (And.intro (unhide HI).1 (unhide HI).2.1)
            clear HS HPRE
            have HC30 := hide (ps_put lo N ((runesL u).foldl runeV qq) [⟨#[59]⟩] (fun w hw => .inr (by simp at hw; first | (rw [hw]; decide) | (rcases hw with h | h <;> rw [h] <;> decide))) (by simp) W0 wr (unhide HI).1)
            go_wp2_with fail
            refine (show Calls Tryz.prog 57 #[.pointer (some ⟨N, 0, none⟩), .slice (some ⟨wr.heap.size, 0, none⟩) 1 1] (wr.alloc (.cells #[.string ⟨#[59]⟩] 9)) _ from unhide HC30).mono ?_
            rintro e w30 ⟨⟨r30, rfl⟩, h30, hf30⟩
            have HH30 := hide (And.intro h30 ((unhide HI).2.1.trans hf30))
            have HC31 := hide (ps_line lo N _ W0 w30 h30)
            clear h30 hf30 HC30 HI
            go_wp2_with fail
            refine (unhide HC31).mono ?_
            rintro e w31 ⟨⟨r31, rfl⟩, h31, hf31⟩
            have HH31 := hide (And.intro h31 ((unhide HH30).2.trans hf31))
            clear h31 hf31 HC31
            go_wp2_with fail
            go_roundw
            case rel => exact ⟨j + 1, rfl, hjlt, hide (by rw [unhide HX, unhide HMP _ (unhide HOK), ← unhide HQQ]; exact ⟨(unhide HH31).1, (unhide HQ).2.trans (unhide HH31).2⟩)⟩
            case measure => show n - ((j : Int) + 1).toNat < n - (j : Int).toNat; omega
      · have hue : ¬ u.toList = [] := toList_ne u (by omega)
        have HVS := hide (fun (w : World) => validS_any u (unhide HXZ) w)
        have HOK : Hz (okTo u = Lib.validD u.data.toList) := hide (by unfold okTo; rw [decide_eq_true hu0]; rfl)
        clear hu0
        generalize Lib.validD u.data.toList = vd at *
        go_wp2_with fail
        generalize wo.alloc (.cells #[.int .i32 x0, .string u] 77) = wA at *
        generalize hMM : wo.heap.size = M at *
        refine (unhide HVS wA (unhide HT wA (unhide HA).1.pf.fr)).mono ?_
        rintro e wV ⟨rfl, hbV⟩
        have HPFV : Hz (PF lo N wA wV) := hide (PF.below (unhide HA).1.here.lw hbV)
        have HAV := hide (And.intro ((unhide HA).1.fresh hbV) ((unhide HA).2.trans (unhide HPFV)))
        have HBXV := hide ((unhide HPFV).kp _ _ _ hNs (by decide) (unhide HBX0))
        have HC1 := hide (ps_need lo N q vd W0 wV (unhide HAV).1)
        have HIE : Hz (u.toList.isEmpty = false) := hide (by cases h : u.toList with | nil => exact absurd h hue | cons a t => rfl)
        clear hbV HVS HPFV
        go_wp2_with fail
        rw [unhide HIE]
        refine (show Calls Tryz.prog 55 #[.pointer (some ⟨N, 0, none⟩), .bool (!false && vd)] wV _ from unhide HC1).mono ?_
        rintro e w10 ⟨⟨r10, rfl⟩, h10, hf10⟩
        have HBX10 := hide (hf10.kp _ _ _ hNs (by decide) (unhide HBXV))
        have HH10 := hide (And.intro h10 ((unhide HAV).2.trans hf10))
        have z0 := (unhide HBX10).cell 0
        have z1 := (unhide HBX10).cell 1
        have HMM := hide hMM
        clear h10 hf10 HC1 HBX0 HBXV HA HAV d0 d1 hMM
        have HC11 := hide (ps_put lo N (needV q vd) [word] (fun w hw => .inr (by rw [List.mem_singleton.1 hw]; exact hword)) (by simp) W0 w10 (unhide HH10).1)
        go_wp2_with fail
        refine (show Calls Tryz.prog 57 #[.pointer (some ⟨N, 0, none⟩), .slice (some ⟨w10.heap.size, 0, none⟩) 1 1] (w10.alloc (.cells #[.string word] 9)) _ from unhide HC11).mono ?_
        rintro e w11 ⟨⟨r11, rfl⟩, h11, hf11⟩
        have HBX11 := hide (hf11.kp _ _ _ hNs (by decide) (unhide HBX10))
        have HH11 := hide (And.intro h11 ((unhide HH10).2.trans hf11))
        clear z0 z1 h11 hf11 HC11 HBX10 HH10
        have z0 := (unhide HBX11).cell 0
        have z1 := (unhide HBX11).cell 1
        have HC12 := hide (ps_rune lo N (putV (needV q vd) [word]) x0 W0 _ (unhide HH11).1)
        go_wp2_with fail
        refine (unhide HC12).mono ?_
        rintro e w12 ⟨⟨r12, rfl⟩, h12, hf12⟩
        have HBX12 := hide (hf12.kp _ _ _ hNs (by decide) (unhide HBX11))
        have HH12 := hide (And.intro h12 ((unhide HH11).2.trans hf12))
        clear z0 z1 h12 hf12 HC12 HBX11 HH11
        have z0 := (unhide HBX12).cell 0
        have z1 := (unhide HBX12).cell 1
        have HC13 := hide (ps_put lo N (runeV (putV (needV q vd) [word]) x0) [⟨#[61]⟩] (fun w hw => .inr (by simp at hw; first | (rw [hw]; decide) | (rcases hw with h | h <;> rw [h] <;> decide))) (by simp) W0 w12 (unhide HH12).1)
        go_wp2_with fail
        refine (show Calls Tryz.prog 57 #[.pointer (some ⟨N, 0, none⟩), .slice (some ⟨w12.heap.size, 0, none⟩) 1 1] (w12.alloc (.cells #[.string ⟨#[61]⟩] 9)) _ from unhide HC13).mono ?_
        rintro e w13 ⟨⟨r13, rfl⟩, h13, hf13⟩
        have HBX13 := hide (hf13.kp _ _ _ hNs (by decide) (unhide HBX12))
        have HH13 := hide (And.intro h13 ((unhide HH12).2.trans hf13))
        clear z0 z1 h13 hf13 HC13 HBX12 HH12
        have z0 := (unhide HBX13).cell 0
        have z1 := (unhide HBX13).cell 1
        obtain ⟨qq, hqq⟩ : ∃ qq, qq = (putV (runeV (putV (needV q vd) [word]) x0) [⟨#[61]⟩]) := ⟨_, rfl⟩
        rw [← hqq] at HH13
        have HQQ := hide hqq
        clear hqq
        go_wp2_with fail
        have hwW : wo.heap.size ≤ w13.heap.size := (unhide HH13).2.fr.size
        have hw0 : W0.heap.size ≤ w13.heap.size := (unhide HH13).1.pf.fr.size
        have hlw13 := (unhide HH13).1.here.lw
        have HST : Hz (PS W0 (w13.iter u 0) lo N qq ∧ PF lo N wo (w13.iter u 0) ∧ (w13.iter u 0).heap[w13.heap.size]? = some (.stringIter u 0) ∧ Blk (w13.iter u 0) M #[.int .i32 x0, .string u] 77) := hide ⟨(unhide HH13).1.alloc _, (unhide HH13).2.trans (PF.below hlw13 ((Below.refl _ w13).alloc (Nat.le_refl _) _)), World.alloc_heap_new w13 _, (unhide HBX13).alloc _⟩
        obtain ⟨J, hJ⟩ : ∃ J, J = w13.heap.size := ⟨_, rfl⟩
        rw [← hJ] at HST hwW hw0 hlw13
        rw [← hJ]
        have HJS := hide (And.intro hwW (And.intro hw0 hlw13))
        clear hJ hwW hw0 hlw13 HH13 HBX13 z0 z1
        go_loopw [9] (fun _ wr => ∃ (pre : List Nat) (pos f : Nat), Hz (starts u = pre ++ startsFrom u f pos) ∧ u.size ≤ pos + f ∧ Hz (PS W0 wr lo N ((pre.map (fun i => ((rn u i : Nat) : Int))).foldl runeV qq) ∧ PF lo N wo wr ∧ wr.heap[J]? = some (.stringIter u pos) ∧ Blk wr M #[.int .i32 x0, .string u] 77)) (fun _ wr => u.size - wr.iterPos J)
        case atStart => exact ⟨[], 0, u.size, hide rfl, by omega, HST⟩
        case round =>
          obtain ⟨pre, pos, f, HS, hf, HI⟩ := hrel
          clear HST
          by_cases hp : pos < u.size
          · obtain ⟨f', rfl⟩ : ∃ f', f = f' + 1 := ⟨f - 1, by omega⟩
            have hnx : ∀ ty, (Instr.next (.pointer (some ⟨J, 0, none⟩)) true ty).run Tryz.prog wr = _ := fun ty => Lib.run_next_any_at wr J u pos ty (unhide HI).2.2.1 hp
            have hwd := wd_pos u pos
            obtain ⟨d, hd⟩ : ∃ d, d = pos + (Utf8.decode u pos).2 := ⟨_, rfl⟩
            obtain ⟨y, hy⟩ : ∃ y, y = (Utf8.decode u pos).1 := ⟨_, rfl⟩
            rw [← hd, ← hy] at hnx
            have hgi := grown_iterAt wr J u d
            have i0 : (wr.iterAt J u d).heap[J]? = some (.stringIter u d) := Lib.iterAt_heap wr J u pos d (unhide HI).2.2.1
            have hMJ : M ≠ J := fun e => by
              have hb := (unhide HI).2.2.2
              rw [e] at hb
              have hb : wr.heap[J]? = some (.cells _ _ (0, 0)) := hb
              cases hb.symm.trans (unhide HI).2.2.1
            have HS2 : Hz (starts u = (pre ++ [pos]) ++ startsFrom u f' d) := hide (by rw [unhide HS, startsFrom_cons u f' pos hp, hd]; simp)
            have hps := (unhide HI).1.iter hgi (unhide HI).2.2.1 (unhide HJS).2.1 (unhide HJS).2.2
            have hpf := (unhide HI).2.1.iter hgi (unhide HJS).1 (unhide HJS).2.2 (unhide HI).1.here.lw
            have HN2 := hide (And.intro hpf (And.intro i0 ((unhide HI).2.2.2.kept hgi (fun e => hMJ (Option.some.inj e)))))
            have HRU := hide (ps_rune lo N _ (y : Int) W0 _ hps)
            have HIP := hide (iterPos_at (unhide HI).2.2.1)
            have HDW : Hz (pos < d ∧ u.size ≤ d + f') := hide (by simp only [wd] at hwd; omega)
            have HPR : Hz (((pre ++ [pos]).map (fun i => ((rn u i : Nat) : Int))).foldl runeV qq = runeV ((pre.map (fun i => ((rn u i : Nat) : Int))).foldl runeV qq) (y : Int)) := hide (by rw [List.map_append, List.foldl_append, hy]; rfl)
            clear hgi i0 hps hpf HI HS hd hy hwd hMJ
            go_wp2_with fail
            refine (unhide HRU).mono ?_
            rintro e w20 ⟨⟨r20, rfl⟩, h20, hf20⟩
            have hJN : J ≠ N := by have := (unhide HJS).2.2; omega
            have HI2 : Hz (PS W0 w20 lo N (((pre ++ [pos]).map (fun i => ((rn u i : Nat) : Int))).foldl runeV qq) ∧ PF lo N wo w20 ∧ w20.heap[J]? = some (.stringIter u d) ∧ Blk w20 M #[.int .i32 x0, .string u] 77) := hide (by rw [unhide HPR]; exact ⟨h20, (unhide HN2).1.trans hf20, hf20.ko J _ hJN (fun cs fz e => by cases e) (unhide HN2).2.1, hf20.kp _ _ _ hNs (by decide) (unhide HN2).2.2⟩)
            clear h20 hf20 HRU HN2
            go_wp2_with fail
            go_roundw
            case rel => exact ⟨pre ++ [pos], d, f', HS2, (unhide HDW).2, HI2⟩
            case measure => rw [unhide HIP, iterPos_at (unhide HI2).2.2.1]; have := (unhide HDW).1; omega
          · have hnx : ∀ ty, (Instr.next (.pointer (some ⟨J, 0, none⟩)) true ty).run Tryz.prog wr = _ := fun ty => Lib.run_next_end_at wr J u pos ty (unhide HI).2.2.1 (by omega)
            have HPRE : Hz ((pre.map (fun i => ((rn u i : Nat) : Int))).foldl runeV qq = (runesL u).foldl runeV qq) := hide (by
              have e := unhide HS
              rw [startsFrom_end u f pos (by omega), List.append_nil] at e
              unfold runesL
              rw [e])
            rw [unhide HPRE] at HI
            have HZ := hide (And.intro (unhide HI).1 (unhide HI).2.1)
            clear HS HPRE
            have HC30 := hide (ps_put lo N ((runesL u).foldl runeV qq) [⟨#[59]⟩] (fun w hw => .inr (by simp at hw; first | (rw [hw]; decide) | (rcases hw with h | h <;> rw [h] <;> decide))) (by simp) W0 wr (unhide HI).1)
            go_wp2_with fail
            refine (show Calls Tryz.prog 57 #[.pointer (some ⟨N, 0, none⟩), .slice (some ⟨wr.heap.size, 0, none⟩) 1 1] (wr.alloc (.cells #[.string ⟨#[59]⟩] 9)) _ from unhide HC30).mono ?_
            rintro e w30 ⟨⟨r30, rfl⟩, h30, hf30⟩
            have HH30 := hide (And.intro h30 ((unhide HI).2.1.trans hf30))
            have HC31 := hide (ps_line lo N _ W0 w30 h30)
            clear h30 hf30 HC30 HI
            go_wp2_with fail
            refine (unhide HC31).mono ?_
            rintro e w31 ⟨⟨r31, rfl⟩, h31, hf31⟩
            have HH31 := hide (And.intro h31 ((unhide HH30).2.trans hf31))
            clear h31 hf31 HC31
            go_wp2_with fail
            go_roundw
            case rel => exact ⟨j + 1, rfl, hjlt, hide (by rw [unhide HX, unhide HMP _ (unhide HOK), ← unhide HQQ]; exact ⟨(unhide HH31).1, (unhide HQ).2.trans (unhide HH31).2⟩)⟩
            case measure => show n - ((j : Int) + 1).toNat < n - (j : Int).toNat; omega
    · have hle : ¬ ((j : Int) < (n : Int)) := by omega
      have HJ : Hz (l.take j = l) := hide (by rw [show j = l.length by have := unhide HN; omega]; exact List.take_length)
      rw [unhide HJ] at HQ
      go_wp2_with fail
      go_end0
      exact ⟨⟨_, rfl⟩, (unhide HQ).1, (unhide HQ).2⟩
theorem cellsByte8 : Tryz.prog.cellsOf 5 = 1 := by kernel_rfl
set_option maxRecDepth 100000 in
set_option maxHeartbeats 4000000 in
theorem pn_text (lo N : Nat) (t : List UInt8) (bg wr : Bool) (W : World) (h : PrAt W lo N t bg wr) :
    Calls Tryz.prog 37 #[.pointer (some ⟨N, 0, none⟩)] W fun e w' => e = .returned (.string ⟨t.toArray⟩) ∧ Below lo W w' := by
  obtain ⟨p, v, hb, hp, ho⟩ := h.blk
  have hmx : Tryz.prog.follows .mixedOrders = true := by kernel_rfl
  have a5 := Tryz.isAgg5
  by_cases ht : t = []
  · subst ht
    have hUS := fun (W : World) (q : Option Addr) => Lib.run_unsafeString_none (P := Tryz.prog) W 134 3 9 q
    have hlw := h.lw
    rcases ho.2 with ⟨rfl, _⟩ | ⟨g, cap, cur, rfl, hbg, hg, _⟩
    · have c1 : W.drew.cell? ⟨N, 1, none⟩ = some (.slice none 0 0) := hb.cell 1
      have hSD : (Builtin.unsafeSliceData_ #[91] 134 #[.slice none 0 0]).run Tryz.prog W.drew = .ok (.pointer none) W.drew := rfl
      clear h hb ho
      go_enter Tryz.func37, Tryz.ntmps37
      go_wp2
      go_region_o
      all_goals (go_wp2; go_ret; exact ⟨rfl, Below.drew (Below.refl _ _)⟩)
    · have c1 : W.drew.cell? ⟨N, 1, none⟩ = some (.slice (some ⟨g, 0, none⟩) 0 cap) := hb.cell 1
      by_cases hc0 : cap = 0
      · subst hc0
        have hSD := Lib.run_unsafeSliceData_zero (P := Tryz.prog) W.drew #[91] 134 5 Tryz.underlying134 ⟨g, 0, none⟩ 0 _ ((show Blk W g cur 5 from hg).shape)
        have c2 : (W.alloc (.view ⟨g, 0, none⟩ 5)).cell? ⟨N, 1, none⟩ = some (.slice (some ⟨g, 0, none⟩) 0 0) := (hb.alloc (.view ⟨g, 0, none⟩ 5)).cell 1
        clear h hb ho
        go_enter Tryz.func37, Tryz.ntmps37
        go_wp2
        go_region_o
        all_goals (go_wp2; go_ret; exact ⟨rfl, Below.drew ((Below.refl lo W).alloc hlw _)⟩)
      · have hSD := Lib.run_unsafeSliceData_row (P := Tryz.prog) W.drew #[91] 134 ⟨g, 0, none⟩ 0 cap hc0
        clear h hb ho
        go_enter Tryz.func37, Tryz.ntmps37
        go_wp2
        go_region_o
        all_goals (go_wp2; go_ret; exact ⟨rfl, Below.drew (Below.refl _ _)⟩)
  · have hl0 : t.length ≠ 0 := by simpa using ht
    obtain ⟨g, cap, cur, rfl, hbg, hg, hnc, hcm, hcs, htake⟩ : ∃ g cap cur, v = .slice (some ⟨g, 0, none⟩) t.length cap ∧ lo ≤ g ∧ W.heap[g]? = some (.cells cur 5 (0, 0)) ∧ t.length ≤ cap ∧ cap ≤ maxLen ∧ cur.size = cap * 1 ∧ cur.toList.take (t.length * 1) = Lib.byteCells t := by
      rcases ho.2 with ⟨_, hz⟩ | ⟨g, cap, cur, hv, r⟩
      · exact absurd hz hl0
      · exact ⟨g, cap, cur, hv, r⟩
    have c1 : W.drew.cell? ⟨N, 1, none⟩ = some (.slice (some ⟨g, 0, none⟩) t.length cap) := hb.cell 1
    have hSD : (Builtin.unsafeSliceData_ #[91] 134 #[.slice (some ⟨g, 0, none⟩) t.length cap]).run Tryz.prog W.drew = .ok (.pointer (some ⟨g, 0, none⟩)) W.drew := Lib.run_unsafeSliceData_row _ _ _ _ _ _ (by omega)
    have hUS : (Builtin.unsafeString_ #[134, 3] 9 #[.pointer (some ⟨g, 0, none⟩), .int .i64 t.length]).run Tryz.prog W.drew = .ok (.string ⟨t.toArray⟩) (W.drew.freeze ⟨g, 0, none⟩ t.length) := by
      refine Lib.run_unsafeString_row W.drew 134 3 9 5 Tryz.underlying134 cellsByte8 g cur.size (by have hg' : W.drew.heap[g]? = some (.cells cur 5 (0, 0)) := hg; simp [World.shape?, hg']) t ht (by omega) (by unfold maxLen at hcm; omega) ?_
      intro j x hx
      have := ho.cells (g := g) rfl j (.int .u8 x.toNat) (by simp [Lib.byteCells, hx])
      exact this
    clear h hb ho
    go_enter Tryz.func37, Tryz.ntmps37
    go_wp2
    go_region_o
    all_goals (go_wp2; go_ret; exact ⟨rfl, Lib.below_freeze (Below.drew (Below.refl lo W)) (p := ⟨g, 0, none⟩) hbg _⟩)
end Go.Proofs.YtjgfmobmilgapaaGreatDoor
