/- Texts of this claim, one behind the other. -/
import Derived.Test.YtbbnppcpjpdpaaaGreatDoorM10
import Derived.Maps.AppendAt
/- The reader of rules: spans. -/
namespace Go.Proofs.YtbbnppcpjpdpaaaGreatDoor
open Go.RowKit Go.Shelf
set_option linter.unusedVariables false
theorem infoSpan : (Tryz.prog.info? 54).map (fun i => (i.zero, i.size, i.bytes)) = some (some (.agg #[.int .i32 0, .int .i32 0]), 2, 8) := by kernel_rfl
theorem infoAt : (Tryz.prog.info? 61).map (fun i => (i.zero, i.size, i.bytes)) = some (some (.agg #[.int .i64 0, .int .i64 0, .int .i64 0]), 3, 24) := by kernel_rfl
theorem span_e (R Tx g : Nat) (ws : List W8) (k : Nat) (bad : Option Rf) (eb el ec : Int) (lo hi : Int) (k2 : Nat) (bad2 : Option Rf) (he : spanV ws k bad eb el ec = ⟨lo, hi, k2, bad2⟩) (W : World) (h : RdE W R Tx g ws k bad eb el ec) :
    Calls Tryz.prog 138 #[.pointer (some ⟨R, 0, none⟩)] W fun e w' => e = .returned (.agg #[.int .i32 lo, .int .i32 hi]) ∧ RdE w' R Tx g ws k2 bad2 eb el ec ∧ W.grownBy w' (some R) := by
  have := span_any R Tx g ws k bad eb el ec W h
  rw [he] at this
  exact this
theorem append_k {w : World} {ops : Array Oper} {rest : List Oper} {o : Oper} {a : Act} {Q : Exit → Act → World → Prop} (hgd : o.guard = none) (s x : Operand) (T E : TypeId)
    (ho : o.op = .call { callee := .builtin .append, args := #[s, x], argTypes := #[T, T] }) (i : TypeInfo) (z : Value) (sz bytes : Nat) (hT : Tryz.prog.underlying T = some (.slice E)) (hi : Tryz.prog.info? E = some i ∧ i.zero = some z ∧ i.size = sz ∧ i.bytes = bytes) (hzs : z.cells.size = sz) (hsz : 0 < sz) (hb8 : bytes ≤ 64)
    (lo : Nat) (v : Value) (n : Nat) (xs : List Value) (cs : List Value) (hcs : cs.length = sz) (hs : a.eval s = v) (hl : n ≤ 1000000) (W : World) (hW : w = W.alloc (.cells cs.toArray E)) (hu : ∀ u ∈ cs, u.oneCell' = true) (hv : W.ownsRow lo E sz v n xs) (hlo : lo ≤ W.heap.size) (m : Nat) (hm : m = W.heap.size) (hx : a.eval x = .slice (some ⟨m, 0, none⟩) 1 1)
    (h : ∀ v' w', w'.ownsRow lo E sz v' (n + 1) (xs ++ cs) → (W.alloc (.cells cs.toArray E)).grownBy w' v.ownBlock → wpList Tryz.prog ops Q rest (a.put o.dst v') w') : wpList Tryz.prog ops Q (o :: rest) a w := by
  subst hW
  subst hm
  have b := Blk.new W cs.toArray E
  refine wpList_append_own _ hgd s x T ho lo E i z sz bytes hT hi.1 hi.2.1 hi.2.2.1 hi.2.2.2 hzs hsz v n xs hs (hv.alloc _) ⟨W.heap.size, 0, none⟩ 1 1 cs hx (by omega) (fun j y hj => ?_) hu (by unfold maxLen; omega) ?_ (by simp; omega) (fun v' w' h4 h5 _ => h v' w' h4 h5)
  · have e := b.cell j
    rw [List.getElem?_toArray, hj] at e
    have ea : (⟨W.heap.size, 0, none⟩ : Addr).add j = ⟨W.heap.size, j, none⟩ := by cases j <;> simp [Addr.add]
    rw [ea]
    exact e
  · have : (n + 1) * bytes ≤ 1000001 * 64 := Nat.mul_le_mul (by omega) hb8
    omega
def slLen : Value → Nat
  | .slice _ n _ => n
  | _ => 0
theorem own_len {W : World} {lo E sz n : Nat} {v : Value} {xs : List Value} (h : W.ownsRow lo E sz v n xs) : slLen v = n := by
  rcases h.2 with ⟨rfl, h2⟩ | ⟨g, cap, cur, rfl, _⟩
  · exact h2.symm
  · rfl
set_option maxRecDepth 100000 in
set_option maxHeartbeats 4000000 in
theorem spans_any (R Tx g : Nat) (ws : List W8) (k : Nat) (bad : Option Rf) (eb el ec : Int) (W : World) (h : RdE W R Tx g ws k bad eb el ec) :
    Calls Tryz.prog 112 #[.pointer (some ⟨R, 0, none⟩)] W fun e w' => ∃ vs vp, e = .returned (.tuple #[vs, vp]) ∧ SpSt W w' R Tx g ws (spansV ws k bad eb el ec).k (spansV ws k bad eb el ec).bad eb el ec vs vp (spansV ws k bad eb el ec).ss (spansV ws k bad eb el ec).ps := by
  have hRW : R < W.heap.size := by obtain ⟨a, c, v, hb, _⟩ := h.rd.blk; exact hb.lt
  have hTW : Tx < W.heap.size := cell_lt h.en.c0
  have hgl := h.rd.glt
  have hkn := h.rd.kn
  have hnm := h.rd.nmax
  have H := hide h
  have H0 := fun (w1 : World) (k1 : Nat) (bad1 : Option Rf) (h1 : RdE w1 R Tx g ws k1 bad1 eb el ec) (hg1 : W.grownBy w1 (some R)) => (⟨h1, World.ownsRow_nil _ _ _ _, World.ownsRow_nil _ _ _ _, hg1, hRW, hTW, hgl, fun _ => rfl, fun _ => rfl⟩ : SpSt W w1 R Tx g ws k1 bad1 eb el ec (.slice none 0 0) (.slice none 0 0) [] [])
  have H0 := hide H0
  have HT := hide (takeV_le ws k bad eb el ec 4 hkn)
  obtain ⟨T, hT⟩ : ∃ T, T = spansGo ws eb el ec (ws.length + 1) (takeV ws k bad eb el ec 4).k (takeV ws k bad eb el ec 4).bad := ⟨_, rfl⟩
  have HV : Hz (spansV ws k bad eb el ec = ⟨T.ss, T.ps, (takeV ws T.k T.bad eb el ec 5).k, (takeV ws T.k T.bad eb el ec 5).bad⟩) := hide (by rw [hT]; rfl)
  have HT2 := hide hT
  clear hT h hgl
  generalize spansV ws k bad eb el ec = V at *
  obtain ⟨ia, hia, ha0, ha1, ha2⟩ := info_parts infoAt
  obtain ⟨is, his, hs0, hs1, hs2⟩ := info_parts infoSpan
  have HIA := hide (And.intro hia (And.intro ha0 (And.intro ha1 ha2)))
  have HIS := hide (And.intro his (And.intro hs0 (And.intro hs1 hs2)))
  clear hia ha0 ha1 ha2 his hs0 hs1 hs2
  go_enter Tryz.func112, Tryz.ntmps112
  go_wp2_with fail
  refine (take_e R Tx g ws k bad eb el ec 4 W (unhide H)).mono ?_
  rintro e w1 ⟨rfl, hR1, hg1⟩
  generalize takeV ws k bad eb el ec 4 = A at *
  obtain ⟨ax, k1, bad1⟩ := A
  dsimp only at hR1 HT HT2
  dsimp only
  generalize wV ax = vax
  have HS1 := hide (unhide H0 w1 k1 bad1 hR1 hg1)
  have HG1 : Hz (SgSt ws eb el ec T (ws.length + 1) k1 bad1 [] []) := hide ⟨by rw [unhide HT2]; simp, by omega, (unhide HT).2, by simp, by simp⟩
  clear hR1 hg1 HT2 H0 H HT
  go_wp2_with fail
  go_loopw [4, 5] (fun vs vp wr => ∃ (f k2 : Nat) (bad2 : Option Rf) (ss : List (Int × Int)) (ps : List (Int × Int × Int)), Hz (SgSt ws eb el ec T f k2 bad2 ss ps) ∧ Hz (SpSt W wr R Tx g ws k2 bad2 eb el ec vs vp ss ps))
    (fun vs _ _ => ws.length - slLen vs)
  case atStart => exact ⟨_, k1, bad1, [], [], HG1, HS1⟩
  case round =>
    obtain ⟨f, k2, bad2, ss, ps, HG, HS⟩ := hrel
    clear HG1 HS1 H0
    have HSE := hide (sees_any R Tx g ws k2 bad2 3 wr (unhide HS).rd.rd)
    cases hs : seesB ws k2 bad2 3 with
    | false =>
      rw [hs] at HSE
      have HTE := hide ((unhide HG).stop hs)
      clear hs HG
      go_wp2_with fail
      refine (unhide HSE).mono ?_
      rintro e w2 ⟨rfl, hw2⟩
      rw [hw2]
      clear hw2 HSE
      go_wp2_with fail
      refine (take_e R Tx g ws k2 bad2 eb el ec 5 wr (unhide HS).rd).mono ?_
      rintro e w3 ⟨rfl, hR3, hg3⟩
      have HF := hide ((unhide HS).call hR3 hg3)
      clear hR3 hg3
      generalize wV (takeV ws k2 bad2 eb el ec 5).x = vz
      go_wp2_with fail
      exact bodyPost_ret (v := .tuple #[u4, u5]) (by simp [results, Tryz.results112, go_sem]) rfl ⟨_, _, rfl, by rw [unhide HV, unhide HTE]; exact unhide HF⟩
    | true =>
      rw [hs] at HSE
      obtain ⟨x, hx, hlt, hbad⟩ := seesB_some hs
      obtain ⟨f', hnext⟩ := (unhide HG).next hs
      rw [show atV ws k2 = (x.b, x.l, x.c) by unfold atV; rw [hx]] at hnext
      have hls : ss.length ≤ 999999 := by have := (unhide HG).len; omega
      have hlp : ps.length ≤ 999999 := by have := (unhide HG).lep; omega
      have hme : ss.length < ws.length := by have := (unhide HG).len; omega
      obtain ⟨a, c, v, hb, ha, hc, hv⟩ := (unhide HS).rd.rd.blk
      obtain rfl := ha hlt
      have hw := (unhide HS).rd.rd.words
      have c0 := hb.cell 0
      have w4 : wr.cell? ⟨g, 8 * k2 + 4, none⟩ = some (.int .i64 x.b) := hw k2 x hx 4 _ rfl
      have w5 : wr.cell? ⟨g, 8 * k2 + 4 + 1, none⟩ = some (.int .i64 x.l) := hw k2 x hx 5 _ rfl
      have w6 : wr.cell? ⟨g, 8 * k2 + 4 + 2, none⟩ = some (.int .i64 x.c) := hw k2 x hx 6 _ rfl
      have hpos : (0 : Int) < ((ws.length - k2 : Nat) : Int) := by omega
      have hpos2 : 0 < ws.length - k2 := by omega
      obtain ⟨m, hm⟩ : ∃ m, m = ws.length - k2 := ⟨_, rfl⟩
      rw [← hm] at c0 hpos hpos2
      have HSP := hide (fun (w : World) => span_e R Tx g ws k2 bad2 eb el ec (spanV ws k2 bad2 eb el ec).lo (spanV ws k2 bad2 eb el ec).hi (spanV ws k2 bad2 eb el ec).k (spanV ws k2 bad2 eb el ec).bad rfl w)
      have HNX := hide hnext
      have HME := hide hme
      clear hb ha hc hv hw hx hm hlt hbad hs hnext HG hme
      generalize spanV ws k2 bad2 eb el ec = SV at *
      obtain ⟨lo, hi, k3, bad3⟩ := SV
      dsimp only at HSP HNX
      go_wp2_with fail
      refine (unhide HSE).mono ?_
      rintro e w2 ⟨rfl, hw2⟩
      rw [hw2]
      clear hw2 HSE
      go_wp2_with (at_builtin; refine append_k rfl _ _ 85 61 rfl ia (.agg #[.int .i64 0, .int .i64 0, .int .i64 0]) 3 24 Tryz.underlying85 (unhide HIA) rfl (by decide) (by decide) W.heap.size _ ps.length (encA3 ps) [.int .i64 x.b, .int .i64 x.l, .int .i64 x.c] rfl rfl (by omega) wr rfl (by intro u hu; simp at hu; rcases hu with rfl | rfl | rfl <;> rfl) (unhide HS).op (unhide HS).gr.size _ rfl rfl ?_)
      intro vp' w3 hown hgrow
      have HS3 := hide (((unhide HS).alloc _).place hown hgrow)
      clear hown hgrow HS c0 w4 w5 w6
      go_wp2_with fail
      refine (unhide HSP w3 (unhide HS3).rd).mono ?_
      rintro e w4 ⟨rfl, hR4, hg4⟩
      have HS4 := hide ((unhide HS3).call hR4 hg4)
      clear hR4 hg4 HS3 HSP
      go_wp2_with (at_builtin; refine append_k rfl _ _ 26 54 rfl is (.agg #[.int .i32 0, .int .i32 0]) 2 8 Tryz.underlying26 (unhide HIS) rfl (by decide) (by decide) W.heap.size _ ss.length (encS2 ss) [.int .i32 lo, .int .i32 hi] rfl rfl (by omega) w4 rfl (by intro u hu; simp at hu; rcases hu with rfl | rfl <;> rfl) (unhide HS4).os (unhide HS4).gr.size _ rfl rfl ?_)
      intro vs' w5 hown hgrow
      have HS5 := hide (((unhide HS4).alloc _).span hown hgrow)
      have HL1 := hide (own_len (unhide HS4).os)
      have HL2 := hide (own_len hown)
      clear hown hgrow HS4
      go_wp2_with fail
      go_roundw
      case rel => exact ⟨f', k3, bad3, _, _, HNX, HS5⟩
      case measure => have := unhide HL1; have := unhide HL2; have := unhide HME; omega
end Go.Proofs.YtbbnppcpjpdpaaaGreatDoor
/- The reader of rules: the text's lists. -/
namespace Go.Proofs.YtbbnppcpjpdpaaaGreatDoor
open Go.RowKit Go.Shelf
set_option linter.unusedVariables false
/-- What one of the text's lists holds. -/
structure Ln where
  E : Nat
  sz : Nat
  n : Nat
  xs : List Value
/-- The text's box: its seventeen lists (eight of tables, nine of places) and its end; behind these the lists that lie in rows of them. -/
structure TbAt (W : World) (lo Tx : Nat) (vs : List Value) (ls : List Ln) (eb el ec : Int) : Prop where
  lv : 17 ≤ vs.length
  ll : ls.length = vs.length
  blk : Blk W Tx (vs.take 17 ++ [Value.int .i64 eb, Value.int .i64 el, Value.int .i64 ec]).toArray 88
  own : ∀ (i : Nat) (v : Value) (l : Ln), vs[i]? = some v → ls[i]? = some l → W.ownsRow lo l.E l.sz v l.n l.xs
  apart : ∀ (i j : Nat) (v u : Value), i ≠ j → vs[i]? = some v → vs[j]? = some u → v.ownBlock = none ∨ v.ownBlock ≠ u.ownBlock
  lt : Tx < lo
theorem TbAt.cell {W : World} {lo Tx : Nat} {vs : List Value} {ls : List Ln} {eb el ec : Int} (h : TbAt W lo Tx vs ls eb el ec) {i : Nat} {v : Value} (hi : i < 17) (hv : vs[i]? = some v) : W.cell? ⟨Tx, i, none⟩ = some v := by
  have hl := h.lv
  have := h.blk.cell i
  rw [List.getElem?_toArray, List.getElem?_append_left (by rw [List.length_take]; omega), List.getElem?_take_of_lt hi, hv] at this
  exact this
theorem TbAt.ending {W : World} {lo Tx : Nat} {vs : List Value} {ls : List Ln} {eb el ec : Int} (h : TbAt W lo Tx vs ls eb el ec) : EndAt W Tx eb el ec := by
  have hl : (vs.take 17).length = 17 := by rw [List.length_take]; have := h.lv; omega
  have e := fun i => h.blk.cell i
  refine ⟨(e 17).trans ?_, (e 18).trans ?_, (e 19).trans ?_⟩ <;> rw [List.getElem?_toArray, List.getElem?_append_right (by omega), hl] <;> rfl
/-- All but the reader's own box is as it was, or newer. -/
theorem TbAt.kept {W W' : World} {lo Tx R : Nat} {vs : List Value} {ls : List Ln} {eb el ec : Int} (h : TbAt W lo Tx vs ls eb el ec) (hR : R < lo) (hT : Tx ≠ R) (hg : W.grownBy W' (some R)) : TbAt W' lo Tx vs ls eb el ec :=
  ⟨h.lv, h.ll, h.blk.kept hg (fun e => hT (Option.some.inj e)), fun i v l hv hl => rd_other (h.own i v l hv hl) hg (.inr fun e => by have := rd_from (h.own i v l hv hl) R e; omega), h.apart, h.lt⟩
theorem own_ltW {W : World} {lo E sz n : Nat} {v : Value} {xs : List Value} (h : W.ownsRow lo E sz v n xs) : ∀ k, v.ownBlock = some k → k < W.heap.size := by
  rcases h.2 with ⟨rfl, _⟩ | ⟨g, cap, cur, rfl, hl, hg, _⟩
  · intro k e; simp [Value.ownBlock] at e
  · intro k e; simp [Value.ownBlock] at e; subst e; exact (Array.getElem?_eq_some_iff.1 hg).1
theorem grown_none {W W' : World} {row : Option Nat} (h : W.grownBy W' none) : W.grownBy W' row := ⟨h.os, h.tape, h.output, h.size, fun i hi _ => h.block i hi (by simp)⟩
/-- A list of the text is written, and its value is laid into the text's box. -/
theorem TbAt.put {W W1 : World} {lo Tx i : Nat} {vs : List Value} {ls : List Ln} {eb el ec : Int} {v v' : Value} {l : Ln} {n : Nat} {xs : List Value} (h : TbAt W lo Tx vs ls eb el ec) (h17 : i < 17) (hv : vs[i]? = some v) (hl : ls[i]? = some l)
    (ho : W1.ownsRow lo l.E l.sz v' n xs) (hg : W.grownBy W1 v.ownBlock) (hat : v'.ownBlock = v.ownBlock ∨ v'.ownBlock = some W.heap.size) : TbAt (W1.setCell ⟨Tx, i, none⟩ v') lo Tx (vs.set i v') (ls.set i ⟨l.E, l.sz, n, xs⟩) eb el ec := by
  have hi := (List.getElem?_eq_some_iff.1 hv).1
  have hq := grown_set' W1 Tx i v'
  have hvl := rd_from (h.own i v l hv hl)
  have hlt := h.lt
  have hTne : ∀ (u : Value) (m : Ln) (V : World), V.ownsRow lo m.E m.sz u m.n m.xs → u.ownBlock = none ∨ u.ownBlock ≠ some Tx := fun u m V hu => .inr fun e => by have := rd_from hu Tx e; omega
  have hA : ∀ (j : Nat) (u : Value), j ≠ i → vs[j]? = some u → u.ownBlock = none ∨ u.ownBlock ≠ v'.ownBlock := by
    intro j u hj hu
    rcases hat with e | e
    · rw [e]; exact h.apart j i u v hj hu hv
    · rw [e]
      refine .inr fun e2 => ?_
      obtain ⟨m, hm⟩ : ∃ m, ls[j]? = some m := ⟨_, List.getElem?_eq_getElem (by have := (List.getElem?_eq_some_iff.1 hu).1; have := h.lv; have := h.ll; omega)⟩
      have := own_ltW (h.own j u m hu hm) _ e2
      omega
  refine ⟨by rw [List.length_set]; exact h.lv, by rw [List.length_set, List.length_set]; exact h.ll, ?_, ?_, ?_, h.lt⟩
  · have b1 : Blk W1 Tx _ _ := h.blk.kept hg (fun e => by have := hvl Tx e.symm; omega)
    have b2 := b1.set i v'
    rw [show ((vs.set i v').take 17 ++ [Value.int .i64 eb, .int .i64 el, .int .i64 ec]).toArray = ((vs.take 17 ++ [Value.int .i64 eb, .int .i64 el, .int .i64 ec]).toArray).setIfInBounds i v' by
      rw [List.setIfInBounds_toArray, List.set_append_left _ _ (by rw [List.length_take]; have := h.lv; omega), List.take_set]]
    exact b2
  · intro j u m hu hm
    by_cases hj : j = i
    · subst hj
      rw [List.getElem?_set_self (by omega)] at hu
      rw [List.getElem?_set_self (by have := h.lv; have := h.ll; omega)] at hm
      obtain rfl := Option.some.inj hu
      obtain rfl := Option.some.inj hm
      exact rd_other ho hq (.inr fun e => by have := rd_from ho Tx e; omega)
    · rw [List.getElem?_set_ne (Ne.symm hj)] at hu
      rw [List.getElem?_set_ne (Ne.symm hj)] at hm
      have o1 := h.own j u m hu hm
      exact rd_other (rd_other o1 hg (h.apart j i u v hj hu hv)) hq (.inr fun e => by have := rd_from o1 Tx e; omega)
  · intro j p u x hjp hu hx
    by_cases hj : j = i
    · subst hj
      rw [List.getElem?_set_self (by omega)] at hu
      rw [List.getElem?_set_ne hjp] at hx
      obtain rfl := Option.some.inj hu
      rcases hA p x (Ne.symm hjp) hx with e | e
      · rw [e]
        cases e2 : v'.ownBlock with
        | none => exact .inl rfl
        | some y => exact .inr (by simp)
      · exact .inr (Ne.symm e)
    · rw [List.getElem?_set_ne (Ne.symm hj)] at hu
      by_cases hp : p = i
      · subst hp
        rw [List.getElem?_set_self (by omega)] at hx
        obtain rfl := Option.some.inj hx
        exact hA j u hj hu
      · rw [List.getElem?_set_ne (Ne.symm hp)] at hx
        exact h.apart j p u x hjp hu hx
/-- One list more, which lies in a row of a list of the text. -/
theorem TbAt.more {W : World} {lo Tx : Nat} {vs : List Value} {ls : List Ln} {eb el ec : Int} (h : TbAt W lo Tx vs ls eb el ec) {u : Value} {m : Ln} (hu : W.ownsRow lo m.E m.sz u m.n m.xs) (ha : ∀ (j : Nat) (x : Value), vs[j]? = some x → u.ownBlock = none ∨ u.ownBlock ≠ x.ownBlock) : TbAt W lo Tx (vs ++ [u]) (ls ++ [m]) eb el ec := by
  have hlv := h.lv
  have hll := h.ll
  have hq : ∀ (a b : Option Nat), a = none ∨ a ≠ b → b = none ∨ b ≠ a := by
    intro a b hab
    cases b with
    | none => exact .inl rfl
    | some y => rcases hab with e | e
                · rw [e]; exact .inr (by simp)
                · exact .inr (Ne.symm e)
  refine ⟨by rw [List.length_append]; omega, by rw [List.length_append, List.length_append, hll]; rfl, by rw [List.take_append_of_le_length hlv]; exact h.blk, ?_, ?_, h.lt⟩
  · intro i v l hv hl
    by_cases hi : i < vs.length
    · rw [List.getElem?_append_left hi] at hv
      rw [List.getElem?_append_left (by omega)] at hl
      exact h.own i v l hv hl
    · have hi2 := (List.getElem?_eq_some_iff.1 hv).1
      rw [List.length_append, List.length_singleton] at hi2
      obtain rfl : i = vs.length := by omega
      rw [List.getElem?_concat_length] at hv
      rw [← hll, List.getElem?_concat_length] at hl
      obtain rfl := Option.some.inj hv
      obtain rfl := Option.some.inj hl
      exact hu
  · intro i j v x hij hv hx
    have key : ∀ (i : Nat) (v : Value), (vs ++ [u])[i]? = some v → (i < vs.length ∧ vs[i]? = some v) ∨ (i = vs.length ∧ v = u) := by
      intro i v hv
      by_cases hi : i < vs.length
      · rw [List.getElem?_append_left hi] at hv; exact .inl ⟨hi, hv⟩
      · have hi2 := (List.getElem?_eq_some_iff.1 hv).1
        rw [List.length_append, List.length_singleton] at hi2
        obtain rfl : i = vs.length := by omega
        rw [List.getElem?_concat_length] at hv
        exact .inr ⟨rfl, (Option.some.inj hv).symm⟩
    rcases key i v hv with ⟨h1, h2⟩ | ⟨h1, rfl⟩ <;> rcases key j x hx with ⟨h3, h4⟩ | ⟨h3, rfl⟩
    · exact h.apart i j v x hij h2 h4
    · exact hq _ _ (ha i v h2)
    · exact ha j x h4
    · exact absurd (h1.trans h3.symm) hij
end Go.Proofs.YtbbnppcpjpdpaaaGreatDoor
