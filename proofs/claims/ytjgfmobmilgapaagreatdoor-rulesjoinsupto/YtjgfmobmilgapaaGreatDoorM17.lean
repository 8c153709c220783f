/- Texts of this claim, one behind the other. -/
import Derived.Test.YtjgfmobmilgapaaGreatDoorM16
import Derived.Test.YtjgfmobmilgapaaGreatDoorM3
import Derived.Test.YtjgfmobmilgapaaGreatDoorM14
/- The reader of rules: rules. -/
namespace Go.Proofs.YtjgfmobmilgapaaGreatDoor
open Go.RowKit Go.Shelf
set_option linter.unusedVariables false
def nils17 : List Value := List.replicate 17 (.slice none 0 0)
def restLen (W : World) (R : Nat) : Nat := match W.cell? ⟨R, 0, none⟩ with
  | some (.slice _ n _) => n
  | _ => 0
theorem restLen_rd {W : World} {R Tx g : Nat} {ws : List W8} {k : Nat} {bad : Option Rf} (h : RdAt W R Tx g ws k bad) : restLen W R = ws.length - k := by
  obtain ⟨a, c, v, hb, ha, hc, hv⟩ := h.blk
  have c0 : W.cell? ⟨R, 0, none⟩ = some (.slice a (ws.length - k) c) := hb.cell 0
  unfold restLen
  rw [c0]
theorem lsOf_nil : lsOf TV0 (nils17.drop 17) = [Ln.mk 64 2 0 [], Ln.mk 68 2 0 [], Ln.mk 71 2 0 [], Ln.mk 74 3 0 [], Ln.mk 77 2 0 [], Ln.mk 77 2 0 [], Ln.mk 68 2 0 [], Ln.mk 68 2 0 [], Ln.mk 49 3 0 [], Ln.mk 49 3 0 [], Ln.mk 49 3 0 [], Ln.mk 49 3 0 [], Ln.mk 49 3 0 [], Ln.mk 49 3 0 [], Ln.mk 49 3 0 [], Ln.mk 49 3 0 [], Ln.mk 49 3 0 []] := rfl
theorem nil_all (l : Ln) (i : Nat) (h : (lsOf TV0 (nils17.drop 17))[i]? = some l) : l.n = 0 ∧ l.xs = [] := by
  have hm := List.mem_of_getElem? h
  rw [lsOf_nil] at hm
  simp only [List.mem_cons, List.not_mem_nil, or_false] at hm
  rcases hm with rfl | rfl | rfl | rfl | rfl | rfl | rfl | rfl | rfl | rfl | rfl | rfl | rfl | rfl | rfl | rfl | rfl <;> exact ⟨rfl, rfl⟩
theorem nils_mem (v : Value) (i : Nat) (h : nils17[i]? = some v) : v = .slice none 0 0 := List.eq_of_mem_replicate (List.mem_of_getElem? h)
theorem start_tb {W : World} {Tx lo : Nat} {eb el ec : Int} (hb : Blk W Tx (nils17 ++ [Value.int .i64 eb, .int .i64 el, .int .i64 ec]).toArray 59) (hlo : Tx < lo) : TbAt W lo Tx nils17 (lsOf TV0 (nils17.drop 17)) eb el ec := by
  refine ⟨by decide, rfl, hb, fun i v l hv hl => ?_, fun i j v u _ hv _ => ?_, hlo⟩
  · obtain rfl := nils_mem v i hv
    obtain ⟨h1, h2⟩ := nil_all l i hl
    rw [h1, h2]
    exact World.ownsRow_nil _ _ _ _
  · obtain rfl := nils_mem v i hv
    exact .inl rfl
theorem TV0_le : TV0.Le 0 := ⟨Nat.le_refl _, Nat.le_refl _, Nat.le_refl _, Nat.le_refl _, Nat.le_refl _, Nat.le_refl _, Nat.le_refl _, Nat.le_refl _, Nat.le_refl _, Nat.le_refl _, Nat.le_refl _, Nat.le_refl _, Nat.le_refl _, Nat.le_refl _, Nat.le_refl _, Nat.le_refl _⟩
theorem field_at (a : Int) (b : ByteArray) (c d e f g h : Int) (w : World) : (Instr.field 115 (.agg #[.int .i64 a, .string b, .int .i32 c, .int .i64 d, .int .i64 e, .int .i64 f, .int .i64 g, .int .i64 h]) 4).run Tryz.prog w = .ok (.agg #[.int .i64 e, .int .i64 f, .int .i64 g]) w := by kernel_rfl
set_option maxRecDepth 100000 in
set_option maxHeartbeats 4000000 in
theorem rules_any (R Tx g : Nat) (ws : List W8) (eb el ec : Int) (hN : ∀ x ∈ ws, ruleNo x.S ≠ 0 → x.k = 1) (hS : ∀ x ∈ ws, x.S.size ≤ 262144) (W : World) (h : RdE W R Tx g ws 0 none eb el ec) (hb : Blk W Tx (nils17 ++ [Value.int .i64 eb, .int .i64 el, .int .i64 ec]).toArray 59) (hgT : g ≠ Tx) :
    Calls Tryz.prog 15 #[.pointer (some ⟨R, 0, none⟩)] W fun e w' => (∃ r, e = .returned r) ∧ ∃ lo W0, W.heap.size ≤ lo ∧ W.grownBy W0 none ∧ lo = W0.heap.size ∧ PsSt W0 w' R Tx g lo ws (rulesV ws eb el ec).k (rulesV ws eb el ec).bad eb el ec (rulesV ws eb el ec).T := by
  have hRW : R < W.heap.size := by obtain ⟨a, c, v, hb, _⟩ := h.rd.blk; exact hb.lt
  have hTW : Tx < W.heap.size := hb.lt
  have hgl := h.rd.glt
  have hnm := h.rd.nmax
  have HF : Hz (RgSt ws eb el ec (rulesV ws eb el ec) (ws.length + 1) 0 none TV0) := hide ⟨rfl, by omega, Nat.zero_le _, TV0_le⟩
  generalize rulesV ws eb el ec = F at *
  have H := hide (And.intro h hb)
  have HGL := hide hgl
  have HN := hide hN
  have HS := hide hS
  clear h hb hgl hN hS
  go_enter Tryz.func15, Tryz.ntmps15
  go_wp2_with fail
  refine (readers_any W).mono ?_
  rintro e w1 ⟨B, rfl, hmap, hBW, hg1⟩
  have hsz := hg1.size
  have HP : Hz (PsSt w1 w1 R Tx g w1.heap.size ws 0 none eb el ec TV0) := hide ⟨nils17, (unhide H).1.none hg1, start_tb ((unhide H).2.kept hg1 (by simp)) (by omega), Fr.refl _ _ _ _, Nat.le_refl _, by omega, hgT, fun j y hy => by have := unhide HGL j y hy; omega⟩
  have HM := hide hmap
  have HG1 := hide hg1
  have hBl : B < w1.heap.size := hmap.lt
  have hBR : B ≠ R := by omega
  have hBT : B ≠ Tx := by omega
  clear hmap hg1 H
  go_wp2_with fail
  go_loopw [3, 4] (fun _ _ wr => ∃ (f k : Nat) (bad : Option Rf) (T : TV), Hz (RgSt ws eb el ec F f k bad T) ∧ Hz (PsSt w1 wr R Tx g w1.heap.size ws k bad eb el ec T))
    (fun _ _ wr => restLen wr R)
  case atStart => exact ⟨_, 0, none, TV0, HF, HP⟩
  case round =>
    obtain ⟨f, k, bad, T, HG, HQ⟩ := hrel
    clear HF HP
    obtain ⟨a, c, v, hb, ha, hc, hv⟩ := (unhide HQ).choose_spec.rd.rd.blk
    have hkn := (unhide HG).le
    have c0 := hb.cell 0
    have c2 := hb.cell 2
    have HFr := hide (unhide HQ).choose_spec.fr
    have HMr : Hz (wr.ownsMap Tryz.prog 9 fnElem B 8 rdD) := hide (by
      have hf := unhide HFr
      obtain ⟨es, clock, h1, h2⟩ := unhide HM
      exact ⟨es, clock, (hf.block B hBl hBR hBT).trans h1, h2⟩)
    cases bad with
    | some z =>
      obtain ⟨Fz, rfl, _, hFz⟩ := hv
      have HE := hide ((unhide HG).stop (.inl (by simp)))
      clear hFz hb ha hc
      rcases Nat.eq_zero_or_pos (ws.length - k) with h0 | h0
      · rw [h0] at c0
        clear h0 hkn
        go_wp2_with fail
        go_end0
        exact ⟨⟨_, rfl⟩, _, w1, hsz, unhide HG1, rfl, by rw [unhide HE]; exact unhide HQ⟩
      · obtain ⟨m, hm⟩ : ∃ m, m = ws.length - k := ⟨_, rfl⟩
        rw [← hm] at c0 h0
        have hpos : (0 : Int) < (m : Int) := by omega
        clear hm h0 hkn
        go_wp2_with fail
        go_end0
        exact ⟨⟨_, rfl⟩, _, w1, hsz, unhide HG1, rfl, by rw [unhide HE]; exact unhide HQ⟩
    | none =>
      subst hv
      cases hx : ws[k]? with
      | none =>
        have HE := hide ((unhide HG).stop (.inr hx))
        have h0 : ws.length - k = 0 := by have := List.getElem?_eq_none_iff.1 hx; omega
        rw [h0] at c0
        clear h0 hkn hb ha hc hx
        go_wp2_with fail
        go_end0
        exact ⟨⟨_, rfl⟩, _, w1, hsz, unhide HG1, rfl, by rw [unhide HE]; exact unhide HQ⟩
      | some x =>
        have hlt := (List.getElem?_eq_some_iff.1 hx).1
        obtain rfl := ha hlt
        have hmem := List.mem_of_getElem? hx
        have w1' : wr.cell? ⟨g, 8 * k + 1, none⟩ = some (.string x.S) := (unhide HQ).choose_spec.rd.rd.words k x hx 1 _ rfl
        have hlook := rd_look (unhide HMr) x.S (unhide HS x hmem)
        have HX := hide hx
        have HMEM := hide hmem
        have HREST := hide (restLen_rd (unhide HQ).choose_spec.rd.rd)
        have HLT := hide hlt
        have hpos : (0 : Int) < ((ws.length - k : Nat) : Int) := by omega
        have hpos2 : 0 < ws.length - k := by omega
        obtain ⟨m, hm⟩ : ∃ m, m = ws.length - k := ⟨_, rfl⟩
        rw [← hm] at c0 hpos hpos2
        clear hx hmem hb ha hc hm hlt HMr HFr
        cases hf : ruleFn x.S with
        | none =>
          rw [hf] at hlook
          dsimp only at hlook
          have HE := hide ((unhide HG).no (unhide HX) ((ruleFn_no x.S).1 hf))
          have HRF := hide (refuse_any R Tx g ws k none eb el ec wr (unhide HQ).choose_spec.rd.rd (unhide HQ).choose_spec.rd.en)
          clear hf
          go_wp2_with fail
          refine (unhide HRF).mono ?_
          rintro e w2 ⟨⟨r, rfl⟩, hrd, hg2⟩
          have HQ2 : Hz (PsSt w1 w2 R Tx g w1.heap.size ws k (some (refV ws k eb el ec)) eb el ec T) := hide ⟨_, (unhide HQ).choose_spec.call ((unhide HQ).choose_spec.rd.step hrd hg2) hg2⟩
          clear hrd hg2
          go_wp2_with fail
          first
          | exact bodyPost_ret (results_none rfl _ _ _) rfl ⟨⟨_, rfl⟩, _, w1, hsz, unhide HG1, rfl, by rw [unhide HE]; exact unhide HQ2⟩
          | (go_end0; exact ⟨⟨_, rfl⟩, _, w1, hsz, unhide HG1, rfl, by rw [unhide HE]; exact unhide HQ2⟩)
        | some fn =>
          rw [hf] at hlook
          dsimp only at hlook
          have hr0 : ruleNo x.S ≠ 0 := fun e => by rw [(ruleFn_no x.S).2 e] at hf; cases hf
          have hsee : seesB ws k none 1 = true := by
            unfold seesB
            rw [unhide HX]
            dsimp only
            rw [unhide HN x (unhide HMEM) hr0]
            rfl
          have HTK := hide (take_e R Tx g ws k none eb el ec 1 wr (unhide HQ).choose_spec.rd)
          rw [show takeV ws k none eb el ec 1 = ⟨x, k + 1, none⟩ by unfold takeV; rw [hsee, unhide HX]] at HTK
          dsimp only at HTK
          obtain ⟨f', hnx⟩ := (unhide HG).next (unhide HX) hr0
          have hkb : k ≤ 1000000 := by omega
          have HNX := hide hnx
          have HRL := hide (ruleV_le ws eb el ec k x (unhide HX) T (unhide HG).tl hr0)
          have HRU := hide (fun (w : World) => rule_any fn R Tx g w1.heap.size ws eb el ec k x T (unhide HG).tl hkb hf (unhide HS) w1 w)
          have HCS := hide (rule_cases x.S fn hf)
          clear hnx hsee hf hr0
          unfold wV at HTK
          have hfa := field_at x.k x.S x.r x.n x.b x.l x.c x.e
          go_wp2_with fail
          refine (unhide HTK).mono ?_
          rintro e w2 ⟨rfl, hrd, hg2⟩
          have HQ2 : Hz (PsSt w1 w2 R Tx g w1.heap.size ws (k + 1) none eb el ec T) := hide ⟨_, (unhide HQ).choose_spec.call hrd hg2⟩
          clear hrd hg2 HTK
          rcases unhide HCS with ⟨_, rfl⟩ | ⟨_, rfl⟩ | ⟨_, rfl⟩ | ⟨_, rfl⟩ | ⟨_, rfl⟩ | ⟨_, rfl⟩ | ⟨_, rfl⟩ | ⟨_, rfl⟩
          all_goals
            go_wp2_with fail
            refine (unhide HRU w2 (unhide HQ2)).mono ?_
            rintro e w3 ⟨⟨r, rfl⟩, hq3⟩
            have HQ3 := hide hq3
            have HR3 := hide (restLen_rd hq3.choose_spec.rd.rd)
            clear hq3
            go_wp2_with fail
            go_roundw
            case rel => exact ⟨f', _, _, _, HNX, HQ3⟩
            case measure => rw [unhide HR3, unhide HREST]; have := unhide HRL; have := unhide HLT; omega
theorem wordV_S (t : ByteArray) : (wordV t).S.size ≤ t.size ∧ ((wordV t).S ≠ ByteArray.empty → (wordV t).kind = 1) := by
  unfold wordV
  split
  · exact ⟨by show (t.extract 0 (nameLen t)).size ≤ t.size; rw [ByteArray.size_extract]; omega, fun _ => rfl⟩
  · split
    · exact ⟨Nat.zero_le _, fun h => absurd rfl h⟩
    · split
      · exact ⟨Nat.zero_le _, fun h => absurd rfl h⟩
      · split
        · exact ⟨Nat.zero_le _, fun h => absurd rfl h⟩
        · exact ⟨Nat.zero_le _, fun h => absurd rfl h⟩
theorem cutGo_S (s : ByteArray) (f : Nat) : ∀ (b : Nat) (x : Nat × Nat) (ws : List Wd), (∀ w ∈ ws, w.v.S.size ≤ s.size ∧ (w.v.S ≠ ByteArray.empty → w.v.kind = 1)) → (∀ w ∈ (cutGo s f b x ws).ws, w.v.S.size ≤ s.size ∧ (w.v.S ≠ ByteArray.empty → w.v.kind = 1)) ∧ (cutGo s f b x ws).ws.length ≤ ws.length + f := by
  induction f with
  | zero => intro b x ws h; exact ⟨h, Nat.le_refl _⟩
  | succ f ih =>
    intro b x ws h
    unfold cutGo
    split
    · exact ⟨h, by show ws.length ≤ _; omega⟩
    · split
      · exact ⟨h, by show ws.length ≤ _; omega⟩
      · split
        · exact ⟨h, by show ws.length ≤ _; omega⟩
        · have h2 := ih (gB s b + (wordV (rst s (gB s b))).n) (lcB (rst s (gB s b)) (gLC s b x) (wordV (rst s (gB s b))).n) (ws ++ [⟨wordV (rst s (gB s b)), gB s b, (gLC s b x).1, (gLC s b x).2, gB s b + (wordV (rst s (gB s b))).n⟩]) (by
            intro w hw
            rcases List.mem_append.1 hw with hw | hw
            · exact h w hw
            · rw [List.mem_singleton.1 hw]
              have := wordV_S (rst s (gB s b))
              exact ⟨by show (wordV (rst s (gB s b))).S.size ≤ s.size; have h3 := rst_size s (gB s b); omega, this.2⟩)
          refine ⟨h2.1, ?_⟩
          have h3 := h2.2
          rw [List.length_append, List.length_singleton] at h3
          omega
def wsOf (s : ByteArray) : List W8 := (wordsV s).ws.map w8
theorem wsOf_len (s : ByteArray) (hs : s.size ≤ 262144) : (wsOf s).length ≤ 262145 := by
  have := (cutGo_S s (s.size + 1) 0 (1, 1) [] (by simp)).2
  unfold wsOf
  rw [List.length_map]
  exact Nat.le_trans this (by rw [List.length_nil]; omega)
theorem wsOf_S (s : ByteArray) (hs : s.size ≤ 262144) : (∀ x ∈ wsOf s, ruleNo x.S ≠ 0 → x.k = 1) ∧ ∀ x ∈ wsOf s, x.S.size ≤ 262144 := by
  have h := (cutGo_S s (s.size + 1) 0 (1, 1) [] (by simp)).1
  refine ⟨fun x hx hr => ?_, fun x hx => ?_⟩
  · obtain ⟨y, hy, rfl⟩ := List.mem_map.1 hx
    have := (h y hy).2 (fun e => hr (by show ruleNo y.v.S = 0; rw [e]; rfl))
    show ((y.v.kind : Nat) : Int) = 1
    rw [this]; rfl
  · obtain ⟨y, hy, rfl⟩ := List.mem_map.1 hx
    have := (h y hy).1
    show y.v.S.size ≤ 262144
    omega
def endL (s : ByteArray) : Int := ((whL s s.size).1 : Nat)
def endC (s : ByteArray) : Int := ((whL s s.size).2 : Nat)
def parseV (s : ByteArray) : Ps := rulesV (wsOf s) (s.size : Nat) (endL s) (endC s)
def ParsedAt (W W' : World) (s : ByteArray) (P : Ps) (v er : Value) : Prop := match P.bad with
  | none => er = .nilIface ∧ ∃ Tx lo vs, v = .pointer (some ⟨Tx, 0, none⟩) ∧ W.heap.size ≤ Tx ∧ W.heap.size ≤ lo ∧ TbAt W' lo Tx vs (lsOf P.T (vs.drop 17)) (s.size : Nat) (endL s) (endC s)
  | some r => v = .pointer none ∧ ∃ F, er = .iface 52 (.pointer (some ⟨F, 0, none⟩)) ∧ W.heap.size ≤ F ∧ Blk W' F (rfCells r) 54
theorem parse_start {w1 w2 : World} {s : ByteArray} (hs : s.size ≤ 262144) {wa : Option Addr} {wc : Nat} (hrow : RowW w1 wa (wsOf s)) (hcap : (wsOf s).length ≤ wc) (hb2 : Below w1.heap.size w1 w2) :
    ∃ g, RdE ((w2.alloc (.cells (nils17 ++ [Value.int .i64 (s.size : Nat), .int .i64 (endL s), .int .i64 (endC s)]).toArray 59)).alloc (.cells #[.slice wa (wsOf s).length wc, .pointer (some ⟨w2.heap.size, 0, none⟩), .pointer none] 61)) (w2.heap.size + 1) w2.heap.size g (wsOf s) 0 none (s.size : Nat) (endL s) (endC s) ∧ g ≠ w2.heap.size := by
  have hlen := wsOf_len s hs
  generalize wsOf s = ws at *
  have bT := (Blk.new w2 (nils17 ++ [Value.int .i64 (s.size : Nat), .int .i64 (endL s), .int .i64 (endC s)]).toArray 59).alloc (.cells #[.slice wa ws.length wc, .pointer (some ⟨w2.heap.size, 0, none⟩), .pointer none] 61)
  have bR := Blk.new (w2.alloc (.cells (nils17 ++ [Value.int .i64 (s.size : Nat), .int .i64 (endL s), .int .i64 (endC s)]).toArray 59)) #[.slice wa ws.length wc, .pointer (some ⟨w2.heap.size, 0, none⟩), .pointer none] 61
  rw [World.size_alloc] at bR
  have hE : EndAt ((w2.alloc (.cells (nils17 ++ [Value.int .i64 (s.size : Nat), .int .i64 (endL s), .int .i64 (endC s)]).toArray 59)).alloc (.cells #[.slice wa ws.length wc, .pointer (some ⟨w2.heap.size, 0, none⟩), .pointer none] 61)) w2.heap.size (s.size : Nat) (endL s) (endC s) := ⟨bT.cell 17, bT.cell 18, bT.cell 19⟩
  rcases Nat.eq_zero_or_pos ws.length with h0 | h0
  · obtain rfl := List.length_eq_zero_iff.1 h0
    exact ⟨w2.heap.size + 2, ⟨⟨Nat.zero_le _, by omega, ⟨wa, wc, .pointer none, bR, fun h => absurd h (by simp), Nat.zero_le _, rfl⟩, fun j x hx => by simp at hx, by omega⟩, hE, by omega⟩, by omega⟩
  · obtain ⟨g, ha, hg, hcs⟩ := hrow h0
    have hsz := hb2.size
    refine ⟨g, ⟨⟨Nat.zero_le _, by omega, ⟨wa, wc, .pointer none, bR, fun _ => ha, by omega, rfl⟩, fun j x hx i u hu => ?_, by omega⟩, hE, by omega⟩, by omega⟩
    have c1 := hcs j x hx i u hu
    rw [Nat.mul_comm] at c1
    have c2 := (hb2.cell (p := ⟨g, 8 * j + i, none⟩) hg).trans c1
    exact (World.grownBy_alloc _ _ none).cell (a := ⟨g, 8 * j + i, none⟩) ((World.grownBy_alloc _ _ none).cell (a := ⟨g, 8 * j + i, none⟩) c2 (by simp)) (by simp)
set_option maxRecDepth 100000 in
set_option maxHeartbeats 4000000 in
theorem parse_words (s : ByteArray) (hs : s.size ≤ 262144) (hok : (wordsV s).ok = true) (m : Int) (W : World) (hm : W.cell? ⟨7, 0, none⟩ = some (.int .i64 m)) (hgm : 7 < W.heap.size) :
    Calls Tryz.prog 5 #[.string s] W fun e w' => ∃ v er, e = .returned (.tuple #[v, er]) ∧ Below W.heap.size W w' ∧ ParsedAt W w' s (parseV s) v er := by
  have HS := hide (wsOf_S s hs)
  have HW := hide (words_yes s hs hok m)
  have HWH := hide (where_in s (by omega) s.size (Nat.le_refl _))
  clear hok
  have HP : Hz (parseV s = rulesV (wsOf s) (s.size : Nat) (endL s) (endC s)) := hide rfl
  generalize parseV s = P at *
  have hmx : Tryz.prog.follows .mixedOrders = true := by kernel_rfl
  go_enter Tryz.func5, Tryz.ntmps5
  go_wp2_with fail
  refine (unhide HW _ hm hgm).mono ?_
  rintro e w1 ⟨v, rfl, hown, hb1⟩
  rw [← encW_ws] at hown
  obtain ⟨wa, wc, rfl, hrow, hwl, hcap⟩ := own_rowW hown
  have HROW := hide hrow
  have HB1 := hide hb1
  have HCAP := hide hcap
  rw [← hwl]
  have HWL := hide hwl
  clear hrow hb1 hcap hown hwl
  go_wp2_with fail
  refine (unhide HWH _).mono ?_
  rintro e w2 ⟨rfl, hb2⟩
  have HB2 := hide hb2
  clear hb2
  go_wp2_with fail
  have HB12 : Hz (Below w1.heap.size w1 w2) := hide (((Below.refl w1.heap.size w1).alloc (Nat.le_refl _) _).trans ((unhide HB2).mono (by simp)))
  obtain ⟨g, hrd, hgT⟩ := parse_start hs (wa := wa) (wc := wc) (unhide HROW) (unhide HCAP) (unhide HB12)
  have hwe : (wsOf s).length = (wordsV s).ws.length := by rw [unhide HWL]; rfl
  rw [hwe] at hrd
  have hbT := (Blk.new w2 (nils17 ++ [Value.int .i64 (s.size : Nat), .int .i64 (endL s), .int .i64 (endC s)]).toArray 59).alloc (.cells #[.slice wa (wordsV s).ws.length wc, .pointer (some ⟨w2.heap.size, 0, none⟩), .pointer none] 61)
  have HR := hide (rules_any (w2.heap.size + 1) w2.heap.size g (wsOf s) (s.size : Nat) (endL s) (endC s) (unhide HS).1 (unhide HS).2 _ hrd hbT hgT)
  have hl1 := (unhide HB1).size
  have hl2 := (unhide HB12).size
  have HBW : Hz (Below W.heap.size W ((w2.alloc (.cells (nils17 ++ [Value.int .i64 (s.size : Nat), .int .i64 (endL s), .int .i64 (endC s)]).toArray 59)).alloc (.cells #[.slice wa (wordsV s).ws.length wc, .pointer (some ⟨w2.heap.size, 0, none⟩), .pointer none] 61))) := hide ((((unhide HB1).trans ((unhide HB12).mono hl1)).alloc (by omega) _).alloc (by simp; omega) _)
  have HSZ : Hz (((w2.alloc (.cells (nils17 ++ [Value.int .i64 (s.size : Nat), .int .i64 (endL s), .int .i64 (endC s)]).toArray 59)).alloc (.cells #[.slice wa (wordsV s).ws.length wc, .pointer (some ⟨w2.heap.size, 0, none⟩), .pointer none] 61)).heap.size = w2.heap.size + 2) := hide (by simp)
  rw [← unhide HP] at HR
  clear hrd hbT hwe
  refine (show Calls Tryz.prog 15 #[.pointer (some ⟨w2.heap.size + 1, 0, none⟩)] ((w2.alloc (.cells (nils17 ++ [Value.int .i64 (s.size : Nat), .int .i64 (endL s), .int .i64 (endC s)]).toArray 59)).alloc (.cells #[.slice wa (wordsV s).ws.length wc, .pointer (some ⟨w2.heap.size, 0, none⟩), .pointer none] 61)) _ from unhide HR).mono ?_
  rintro e w4 ⟨⟨r, rfl⟩, lo, W0, hlo, hg0, hlo2, vs, hru⟩
  generalize (w2.alloc (.cells (nils17 ++ [Value.int .i64 (s.size : Nat), .int .i64 (endL s), .int .i64 (endC s)]).toArray 59)).alloc (.cells #[.slice wa (wordsV s).ws.length wc, .pointer (some ⟨w2.heap.size, 0, none⟩), .pointer none] 61) = W3 at *
  have hs3 := unhide HSZ
  have HBF : Hz (Below W.heap.size W w4) := hide ((unhide HBW).trans ⟨hru.fr.os.trans hg0.os, hru.fr.tape.trans hg0.tape, hru.fr.output.trans hg0.output, Nat.le_trans hg0.size hru.fr.size, fun i hi => (hru.fr.block i (by have := hg0.size; omega) (by omega) (by omega)).trans (hg0.block i (by omega) (by simp))⟩)
  obtain ⟨ra, rc, rv, hrb, _, _, hv⟩ := hru.rd.rd.blk
  have c1 := hrb.cell 1
  have c2 := hrb.cell 2
  have HTB := hide hru.tb
  have HLO := hide (show W.heap.size ≤ lo by omega)
  clear hru hrb HR HW HWH hlo hlo2 hg0 HSZ hs3 HB1 HB2 HB12 HBW HCAP HROW HS HWL
  obtain ⟨Pk, Pb, PT⟩ := P
  dsimp only at HTB hv
  cases Pb with
  | none =>
    obtain rfl : rv = .pointer none := hv
    go_wp2_with fail
    exact bodyPost_ret (v := .tuple #[.pointer (some ⟨w2.heap.size, 0, none⟩), .nilIface]) (by simp [results, Tryz.results5, go_sem]) rfl ⟨_, _, rfl, unhide HBF, rfl, w2.heap.size, lo, vs, rfl, by omega, unhide HLO, unhide HTB⟩
  | some z =>
    obtain ⟨F, rfl, hRF, hF⟩ := hv
    have HF := hide (And.intro hRF hF)
    clear hRF hF
    go_wp2_with fail
    go_region
    all_goals
      go_wp2_with fail
      exact bodyPost_ret (v := Value.tuple #[Value.pointer none, Value.iface 52 (Value.pointer (some (⟨F, 0, none⟩ : Addr)))]) (by simp [results, Tryz.results5, go_sem]) rfl ⟨_, _, rfl, (unhide HBF).trans ⟨rfl, rfl, rfl, Nat.le_refl _, fun _ _ => rfl⟩, rfl, F, rfl, by have := (unhide HF).1; omega, (unhide HF).2⟩
def parseA (s : ByteArray) : Ps := if (wordsV s).ok = true then parseV s else ⟨0, some ⟨((wordsV s).b : Nat), ((whL s (wordsV s).b).1 : Nat), ((whL s (wordsV s).b).2 : Nat), if (wordsV s).b < s.size then 20 else 21⟩, TV0⟩
theorem wordsV_b (s : ByteArray) : (wordsV s).b ≤ s.size := by
  have : ∀ (f b : Nat) (x : Nat × Nat) (ws : List Wd), b ≤ s.size → (cutGo s f b x ws).b ≤ s.size := by
    intro f
    induction f with
    | zero => intro b x ws h; exact h
    | succ f ih =>
      intro b x ws h
      have hg := gB_le s b h
      unfold cutGo
      split
      · exact hg.2
      · split
        · exact hg.2
        · rename_i h2
          have hw := wordV_le (rst s (gB s b)) (by omega)
          rw [rst_size] at hw
          split
          · show gB s b + _ ≤ _; omega
          · exact ih _ _ _ (by omega)
  exact this _ _ _ _ (Nat.zero_le _)
set_option maxRecDepth 100000 in
set_option maxHeartbeats 4000000 in
theorem parse_no (s : ByteArray) (hs : s.size ≤ 262144) (hok : (wordsV s).ok = false) (m : Int) (W : World) (hm : W.cell? ⟨7, 0, none⟩ = some (.int .i64 m)) (hgm : 7 < W.heap.size) :
    Calls Tryz.prog 5 #[.string s] W fun e w' => ∃ v er, e = .returned (.tuple #[v, er]) ∧ Below W.heap.size W w' ∧ ParsedAt W w' s (parseA s) v er := by
  have HW := hide (words_no s hs hok (wordsV_b s) m W hm hgm)
  have HP : Hz (parseA s = ⟨0, some ⟨((wordsV s).b : Nat), ((whL s (wordsV s).b).1 : Nat), ((whL s (wordsV s).b).2 : Nat), if (wordsV s).b < s.size then 20 else 21⟩, TV0⟩) := hide (if_neg (by rw [hok]; decide))
  clear hok
  generalize parseA s = P at *
  have hmx : Tryz.prog.follows .mixedOrders = true := by kernel_rfl
  obtain ⟨y, hy, hy0⟩ : ∃ y : Int, y = (if (wordsV s).b < s.size then 20 else 21) ∧ (y == 0) = false := ⟨_, rfl, by split <;> rfl⟩
  rw [← hy] at HW HP
  clear hy
  go_enter Tryz.func5, Tryz.ntmps5
  go_wp2_with fail
  refine (unhide HW).mono ?_
  rintro e w1 ⟨rfl, hb1⟩
  have HB1 := hide hb1
  clear hb1 HW
  unfold atA
  generalize (wordsV s).b = wb at *
  generalize whL s wb = wl at *
  obtain ⟨l1, c1⟩ := wl
  dsimp only at HP
  dsimp only
  go_wp2_with fail
  go_region
  all_goals
    go_wp2_with fail
    have hl1 := (unhide HB1).size
    have hBF : Below W.heap.size W (((w1.alloc (.cells #[.int .i64 wb, .int .i64 l1, .int .i64 c1] 49)).alloc (.cells #[.int .i64 wb, .int .i64 l1, .int .i64 c1, .int .i64 y] 54)).drew) := (((unhide HB1).alloc hl1 _).alloc (by simp; omega) _).trans ⟨rfl, rfl, rfl, Nat.le_refl _, fun _ _ => rfl⟩
    have hF := Blk.new (w1.alloc (.cells #[.int .i64 wb, .int .i64 l1, .int .i64 c1] 49)) (rfCells ⟨(wb : Nat), (l1 : Nat), (c1 : Nat), y⟩) 54
    rw [World.size_alloc] at hF
    exact bodyPost_ret (v := Value.tuple #[Value.pointer none, Value.iface 52 (Value.pointer (some (⟨w1.heap.size + 1, 0, none⟩ : Addr)))]) (by simp [results, Tryz.results5, go_sem]) rfl ⟨_, _, rfl, hBF, by rw [unhide HP]; exact ⟨rfl, w1.heap.size + 1, rfl, by omega, hF⟩⟩
theorem parse_any (s : ByteArray) (hs : s.size ≤ 262144) (m : Int) (W : World) (hm : W.cell? ⟨7, 0, none⟩ = some (.int .i64 m)) (hgm : 7 < W.heap.size) :
    Calls Tryz.prog 5 #[.string s] W fun e w' => ∃ v er, e = .returned (.tuple #[v, er]) ∧ Below W.heap.size W w' ∧ ParsedAt W w' s (parseA s) v er := by
  cases hok : (wordsV s).ok with
  | false => exact parse_no s hs hok m W hm hgm
  | true =>
    have := parse_words s hs hok m W hm hgm
    rw [show parseA s = parseV s from if_pos hok]
    exact this
def legalB (s : ByteArray) : Bool := decide (0 < s.size ∧ nameLen s = s.size)
theorem legal_any (s : ByteArray) (hs : s.size ≤ maxLen) (w : World) : Calls Tryz.prog 56 #[.string s] w fun e w' => e = .returned (.bool (legalB s)) ∧ w' = w := by
  by_cases h0 : 0 < s.size
  · have hne := toList_ne s h0
    have hne' : (s.toList != []) = true := by simpa using hne
    have hv : legalB s = ((nameLen s : Int) == (s.size : Int)) := by
      unfold legalB
      rw [Bool.eq_iff_iff]
      simp [h0]
      omega
    have HV := hide hv
    have HN := hide (named_any s hs)
    have hm : s.size ≤ 9223372036854775807 := by unfold maxLen at hs; exact hs
    clear hv
    go_enter Tryz.func56, Tryz.ntmps56
    go_wp2_with fail
    refine (unhide HN _).mono ?_
    rintro e w1 ⟨rfl, rfl⟩
    go_wp2_with fail
    go_ret
    refine ⟨?_, rfl⟩
    show Ending.returned (.bool (!s.toList.isEmpty && ((nameLen s : Int) == (s.size : Int)))) = _
    rw [unhide HV, show s.toList.isEmpty = false by simpa using hne]
    rfl
  · obtain rfl := toList_nil s (by omega)
    have hv : legalB ByteArray.empty = false := by unfold legalB; simp
    rw [hv]
    go_enter Tryz.func56, Tryz.ntmps56
    go_wp2_with fail
    go_ret
    exact ⟨rfl, rfl⟩
def scriptP (p : Pn) (x : ByteArray × List (Int × Int)) : Pn := spansP (putV (needV p (legalB x.1)) [⟨#[115, 99, 114, 105, 112, 116]⟩, x.1]) x.2
theorem legalB_size (s : ByteArray) (h : legalB s = true) : s.size ≤ 1000 := by
  have := of_decide_eq_true h
  have h2 := nameLen_le s
  omega
theorem encSc_at0 (t : List (ByteArray × List (Int × Int))) (us : List Value) (h : us.length = t.length) (j : Nat) (x : ByteArray × List (Int × Int)) (hx : t[j]? = some x) : (encSc t us)[j * 2]? = some (.string x.1) := by
  induction t generalizing us j with
  | nil => simp at hx
  | cons y t ih => cases us with
    | nil => cases h
    | cons v us => cases j with
      | zero => obtain rfl := Option.some.inj hx; rfl
      | succ j => have := ih us (by simpa using h) j (by simpa using hx); rw [show (j + 1) * 2 = j * 2 + 1 + 1 by omega]; exact this
set_option maxRecDepth 100000 in
set_option maxHeartbeats 4000000 in
theorem ps_scripts (lo N : Nat) (p : Pn) (a : Option Addr) (c : Nat) (l : List (ByteArray × List (Int × Int))) (us : List Value) (hu : us.length = l.length) (hn : l.length ≤ 1000000) (hz : ∀ x ∈ l, x.1.size ≤ maxLen ∧ x.2.length ≤ 1000000) (W0 W : World) (h : PS W0 W lo N p) (hr : RowC W N a (encSc l us)) (hs : ∀ (j : Nat) (x : ByteArray × List (Int × Int)) (u : Value), l[j]? = some x → us[j]? = some u → ∃ b d, u = .slice b x.2.length d ∧ RowC W N b (encS2 x.2)) :
    Calls Tryz.prog 31 #[.pointer (some ⟨N, 0, none⟩), .slice a l.length c] W fun e w' => (∃ r, e = .returned r) ∧ PS W0 w' lo N (l.foldl scriptP p) ∧ PF lo N W w' := by
  obtain ⟨n, hN⟩ : ∃ n, n = l.length := ⟨_, rfl⟩
  rw [← hN]
  have HN := hide hN
  have hn1 : n ≤ 1000000 := by omega
  have HR := hide hr
  have HS := hide hs
  have HU := hide hu
  have HZ := hide hz
  have hlt := h.here.lt
  have H2 : Hz (PS W0 W lo N ((l.take 0).foldl scriptP p) ∧ PF lo N W W) := hide ⟨h, PF.refl _ _ _⟩
  clear hN hn h hr hs hu hz
  go_enter Tryz.func31, Tryz.ntmps31
  go_wp2_with fail
  go_loopw [5, 8] (fun _ u8 wr => ∃ (j : Nat), u8 = .int .i64 (j : Int) ∧ j ≤ n ∧ Hz (PS W0 wr lo N ((l.take j).foldl scriptP p) ∧ PF lo N W wr)) (fun _ u8 _ => n - cntI u8)
  case atStart => exact ⟨0, rfl, Nat.zero_le _, H2⟩
  case round =>
    obtain ⟨j, rfl, hj, HQ⟩ := hrel
    clear H2
    by_cases hjlt : j < n
    · have hlt2 : (j : Int) < (n : Int) := by omega
      have hj0 : (0 : Int) ≤ (j : Int) := by omega
      obtain ⟨x, hx⟩ : ∃ x, l[j]? = some x := ⟨_, List.getElem?_eq_getElem (by have := unhide HN; omega)⟩
      obtain ⟨u, hxu⟩ : ∃ u, us[j]? = some u := ⟨_, List.getElem?_eq_getElem (by have := unhide HN; have := unhide HU; omega)⟩
      obtain ⟨b, d, rfl, hrow⟩ := unhide HS j x u hx hxu
      obtain ⟨g, o, rfl, hg, hcs⟩ := ((unhide HR).kept hlt (unhide HQ).2.fr) (by rw [encSc_length _ _ (unhide HU)]; have := unhide HN; omega)
      have d0 : wr.cell? ⟨g, o + j * 2, none⟩ = some (.string x.1) := hcs _ _ (encSc_at0 l us (unhide HU) j x hx)
      have d1 : wr.cell? ⟨g, o + j * 2 + 1, none⟩ = some (.slice b x.2.length d) := by rw [Nat.add_assoc]; exact hcs _ _ (by rw [Nat.mul_comm, encSc_at _ _ (unhide HU)]; exact hxu)
      have HX := hide (fold_take scriptP p l j x hx)
      have HXZ := hide (unhide HZ x (List.mem_of_getElem? hx))
      have HROW := hide hrow
      clear hcs hx hxu hrow
      obtain ⟨q, hq⟩ : ∃ q, q = (l.take j).foldl scriptP p := ⟨_, rfl⟩
      rw [← hq] at HQ HX
      clear hq
      obtain ⟨nm, sp⟩ := x
      dsimp only at d0 d1 HXZ HROW
      have HSN := hide (fun (q2 : Pn) (w : World) => ps_spans lo N q2 b d sp (unhide HXZ).2 W0 w)
      obtain ⟨m, hm⟩ : ∃ m, m = sp.length := ⟨_, rfl⟩
      rw [← hm] at d1 HSN
      clear hm
      have HA : Hz (PS W0 (wr.alloc (.cells #[.string nm, .slice b m d] 64)) lo N q ∧ PF lo N wr (wr.alloc (.cells #[.string nm, .slice b m d] 64))) := hide ⟨(unhide HQ).1.alloc _, PF.below (unhide HQ).1.here.lw ((Below.refl _ wr).alloc (Nat.le_refl _) _)⟩
      have HBX0 := hide (Blk.new wr #[.string nm, .slice b m d] 64)
      have hNs : wr.heap.size ≠ N := by have := (unhide HQ).1.here.lw; omega
      have HLG := hide (fun w => legal_any nm (unhide HXZ).1 w)
      have HLB := hide (legalB_size nm)
      have HSP : Hz (scriptP q (nm, sp) = spansP (putV (needV q (legalB nm)) [⟨#[115, 99, 114, 105, 112, 116]⟩, nm]) sp) := hide rfl
      generalize legalB nm = lg at *
      go_wp2_with fail
      refine (unhide HLG _).mono ?_
      rintro e w1 ⟨rfl, hw1⟩
      rw [hw1]
      clear hw1 HLG
      generalize wr.alloc (.cells #[.string nm, .slice b m d] 64) = wA at *
      generalize wr.heap.size = M at *
      have HC1 := hide (ps_need lo N q lg W0 wA (unhide HA).1)
      go_wp2_with fail
      refine (unhide HC1).mono ?_
      rintro e w2 ⟨⟨r2, rfl⟩, h2, hf2⟩
      have HBX2 := hide (hf2.kp _ _ _ hNs (by decide) (unhide HBX0))
      have H2 := hide (And.intro h2 ((unhide HA).2.trans hf2))
      have z0 := (unhide HBX2).cell 0
      have z1 := (unhide HBX2).cell 1
      have HC2 := hide (ps_put lo N (needV q lg) [⟨#[115, 99, 114, 105, 112, 116]⟩, nm] (fun w hw => by
        simp at hw
        rcases hw with h | h
        · exact .inr (by rw [h]; decide)
        · rw [h]
          cases hlg : lg with
          | true => exact .inr (unhide HLB hlg)
          | false => exact .inl (by show (q.wr || !false) = true; cases q.wr <;> rfl)) (by simp) W0 w2 h2)
      clear h2 hf2 HC1 HBX0 HA d0 d1
      go_wp2_with fail
      refine (show Calls Tryz.prog 57 #[.pointer (some ⟨N, 0, none⟩), .slice (some ⟨w2.heap.size, 0, none⟩) 2 2] (w2.alloc (.cells #[.string ⟨#[115, 99, 114, 105, 112, 116]⟩, .string nm] 9)) _ from unhide HC2).mono ?_
      rintro e w3 ⟨⟨r3, rfl⟩, h3, hf3⟩
      have HBX3 := hide (hf3.kp _ _ _ hNs (by decide) (unhide HBX2))
      have H3 := hide (And.intro h3 ((unhide H2).2.trans hf3))
      clear z0 z1
      have z1 := (unhide HBX3).cell 1
      have HC3 := hide (unhide HSN _ w3 h3 ((unhide HROW).kept hlt (((unhide HQ).2.trans (unhide H3).2).fr)))
      clear h3 hf3 HC2 HBX2
      go_wp2_with fail
      refine (unhide HC3).mono ?_
      rintro e w4 ⟨⟨r4, rfl⟩, h4, hf4⟩
      have H4 := hide (And.intro h4 ((unhide H3).2.trans hf4))
      clear h4 hf4 HC3
      go_wp2_with fail
      go_roundw
      case rel => exact ⟨j + 1, rfl, hjlt, hide (by rw [unhide HX, unhide HSP]; exact ⟨(unhide H4).1, (unhide HQ).2.trans (unhide H4).2⟩)⟩
      case measure => show n - ((j : Int) + 1).toNat < n - (j : Int).toNat; omega
    · have hle : ¬ ((j : Int) < (n : Int)) := by omega
      have HJ : Hz (l.take j = l) := hide (by rw [show j = l.length by have := unhide HN; omega]; exact List.take_length)
      rw [unhide HJ] at HQ
      go_wp2_with fail
      go_end0
      exact ⟨⟨_, rfl⟩, (unhide HQ).1, (unhide HQ).2⟩
end Go.Proofs.YtjgfmobmilgapaaGreatDoor
