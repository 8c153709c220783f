/- Texts of this claim, one behind the other. -/
import Derived.Test.YtjgfmobmilgapaaGreatDoorM5
import Derived.Maps.OwnSet
import Derived.Test.YtjgfmobmilgapaaGreatDoorM12
/- The reader of rules: the readers. -/
namespace Go.Proofs.YtjgfmobmilgapaaGreatDoor
open Go.RowKit Go.Shelf Go.Maps
set_option linter.unusedVariables false
def fnElem : Value → Option (DataW Unit × List MemPlace)
  | .func (.func f) a b => if (a.isEmpty && b.isEmpty) = true then some (.lit (.int .i64 (f : Int)), []) else none
  | .nilFunc => some (.lit (.int .i64 (-1)), [])
  | _ => none
theorem fnElem_some {v : Value} {f : Nat} {ps : List MemPlace} (h : fnElem v = some (.lit (.int .i64 (f : Int)), ps)) : v = .func (.func f) #[] #[] := by
  match v, h with
  | .func (.func g) a b, h =>
    simp only [fnElem] at h
    by_cases hab : (a.isEmpty && b.isEmpty) = true
    · rw [if_pos hab] at h
      simp only [Bool.and_eq_true, Array.isEmpty_iff] at hab
      obtain ⟨rfl, rfl⟩ := hab
      injection h with h
      injection h with h1 h2
      injection h1 with h1
      injection h1 with h3 h4
      have h5 : g = f := Int.ofNat.inj h4
      rw [h5]
    · rw [if_neg hab] at h
      cases h
  | .nilFunc, h =>
    simp only [fnElem] at h
    injection h with h
    injection h with h1 h2
    injection h1 with h1
    injection h1 with h3 h4
    omega
theorem fnElem_nil {v : Value} {ps : List MemPlace} (h : fnElem v = some (.lit (.int .i64 (-1)), ps)) : v = .nilFunc := by
  match v, h with
  | .func (.func g) a b, h =>
    simp only [fnElem] at h
    by_cases hab : (a.isEmpty && b.isEmpty) = true
    · rw [if_pos hab] at h
      injection h with h
      injection h with h1 h2
      injection h1 with h1
      injection h1 with h3 h4
      omega
    · rw [if_neg hab] at h
      cases h
  | .nilFunc, h => rfl
def rdD : DataW Unit := (((((((((DataW.map [] : DataW Unit).put (.string [115, 99, 114, 105, 112, 116]) (.lit (.int .i64 80))).put (.string [99, 111, 109, 109, 111, 110]) (.lit (.int .i64 81))).put (.string [109, 97, 114, 107]) (.lit (.int .i64 82))).put (.string [112, 97, 105, 114]) (.lit (.int .i64 83))).put (.string [102, 111, 108, 100]) (.lit (.int .i64 84))).put (.string [108, 111, 111, 107]) (.lit (.int .i64 85))).put (.string [100, 114, 111, 112]) (.lit (.int .i64 86))).put (.string [97, 108, 108, 111, 119]) (.lit (.int .i64 87)))
def ruleFn (S : ByteArray) : Option Nat :=
  if S = ⟨#[115, 99, 114, 105, 112, 116]⟩ then some 80 else
  if S = ⟨#[99, 111, 109, 109, 111, 110]⟩ then some 81 else
  if S = ⟨#[109, 97, 114, 107]⟩ then some 82 else
  if S = ⟨#[112, 97, 105, 114]⟩ then some 83 else
  if S = ⟨#[102, 111, 108, 100]⟩ then some 84 else
  if S = ⟨#[108, 111, 111, 107]⟩ then some 85 else
  if S = ⟨#[100, 114, 111, 112]⟩ then some 86 else
  if S = ⟨#[97, 108, 108, 111, 119]⟩ then some 87 else
  none
theorem zeroF (w : World) : (zeroValue 112).run Tryz.prog w = .ok .nilFunc w := by kernel_rfl
theorem lit_ne {S : ByteArray} {T : ByteArray} (h : S ≠ T) : Lit.string S.data.toList ≠ Lit.string T.data.toList := by
  intro e
  apply h
  injection e with e
  apply ByteArray.ext
  exact Array.toList_inj.1 e
theorem rd_look {W : World} {B : Nat} (h : W.ownsMap Tryz.prog 9 fnElem B 8 rdD) (S : ByteArray) (hs : S.size ≤ 262144) :
    (Instr.lookup 110 (.map (some B)) (.string S) true).run Tryz.prog W = match ruleFn S with
      | some f => .ok (.tuple #[.func (.func f) #[] #[], .bool true]) W
      | none => .ok (.tuple #[.nilFunc, .bool false]) W := by
  obtain ⟨v, ps, hrun, hv⟩ := h.look_ok (string_keyed Tryz.underlying9) Tryz.underlying110 (zeroF W) (show fnElem .nilFunc = some (.lit (.int .i64 (-1)), []) from rfl) (Go.WideMaps.keyOf_string_mk Tryz.underlying9 (s := S) (by unfold maxLen; omega))
  rw [hrun]
  unfold ruleFn
  by_cases h_script : S = ⟨#[115, 99, 114, 105, 112, 116]⟩
  · subst h_script
    rw [if_pos rfl]
    obtain rfl := fnElem_some (f := 80) (ps := ps) hv
    rfl
  rw [if_neg h_script]
  by_cases h_common : S = ⟨#[99, 111, 109, 109, 111, 110]⟩
  · subst h_common
    rw [if_pos rfl]
    obtain rfl := fnElem_some (f := 81) (ps := ps) hv
    rfl
  rw [if_neg h_common]
  by_cases h_mark : S = ⟨#[109, 97, 114, 107]⟩
  · subst h_mark
    rw [if_pos rfl]
    obtain rfl := fnElem_some (f := 82) (ps := ps) hv
    rfl
  rw [if_neg h_mark]
  by_cases h_pair : S = ⟨#[112, 97, 105, 114]⟩
  · subst h_pair
    rw [if_pos rfl]
    obtain rfl := fnElem_some (f := 83) (ps := ps) hv
    rfl
  rw [if_neg h_pair]
  by_cases h_fold : S = ⟨#[102, 111, 108, 100]⟩
  · subst h_fold
    rw [if_pos rfl]
    obtain rfl := fnElem_some (f := 84) (ps := ps) hv
    rfl
  rw [if_neg h_fold]
  by_cases h_look : S = ⟨#[108, 111, 111, 107]⟩
  · subst h_look
    rw [if_pos rfl]
    obtain rfl := fnElem_some (f := 85) (ps := ps) hv
    rfl
  rw [if_neg h_look]
  by_cases h_drop : S = ⟨#[100, 114, 111, 112]⟩
  · subst h_drop
    rw [if_pos rfl]
    obtain rfl := fnElem_some (f := 86) (ps := ps) hv
    rfl
  rw [if_neg h_drop]
  by_cases h_allow : S = ⟨#[97, 108, 108, 111, 119]⟩
  · subst h_allow
    rw [if_pos rfl]
    obtain rfl := fnElem_some (f := 87) (ps := ps) hv
    rfl
  rw [if_neg h_allow]
  have hn : ∀ z, rdD.atKey (.string S.data.toList) z = z ∧ Maps.has rdD (.string S.data.toList) = false := by
    intro z
    unfold rdD
    rw [atKey_put_other (lit_ne h_allow), atKey_put_other (lit_ne h_drop), atKey_put_other (lit_ne h_look), atKey_put_other (lit_ne h_fold), atKey_put_other (lit_ne h_pair), atKey_put_other (lit_ne h_mark), atKey_put_other (lit_ne h_common), atKey_put_other (lit_ne h_script), has_put_other (lit_ne h_allow), has_put_other (lit_ne h_drop), has_put_other (lit_ne h_look), has_put_other (lit_ne h_fold), has_put_other (lit_ne h_pair), has_put_other (lit_ne h_mark), has_put_other (lit_ne h_common), has_put_other (lit_ne h_script)]
    exact ⟨rfl, rfl⟩
  rw [(hn _).1] at hv
  obtain rfl := fnElem_nil hv
  rw [(hn (.lit (.int .i64 (-1)))).2]
theorem wpList_insert_own {H : Type} {P : Program} (w : World) {ops : Array Oper} {rest : List Oper} {o : Oper} {a : Act} {Q : Exit → Act → World → Prop}
    (hg : o.guard = none) (m x v : Operand) (t : TypeId) (hop : o.op = Op.insert t m x v)
    (k e : TypeId) (K : Keyed P k) (ht : P.underlying t = some (.map k e)) (R : Value → Option (DataW H × List MemPlace)) (b n : Nat) (D : DataW H)
    (hm : a.eval m = .map (some b)) (hown : w.ownsMap P k R b n D) (hn : n < maxLen) (key val : Value) (kl : Lit) (hx : a.eval x = key) (hv : a.eval v = val) (hkey : keyOf P k key = some kl)
    (d : DataW H) (ps : List MemPlace) (hval : R val = some (d, ps))
    (hK : ∀ w', w'.ownsMap P k R b (n + 1) (D.put kl d) → w.grownBy w' (some b) → wpList P ops Q rest (a.put o.dst undef) w') :
    wpList P ops Q (o :: rest) a w := by
  refine wpList_plain hg fun K' hK' => ?_
  obtain ⟨w', hrun, r1, r2⟩ := hown.update K ht hn hkey hval
  unfold Oper.wp
  simp [execOp, hop, hm, hx, hv, hrun, Result.andThen]
  exact hK' _ _ (hK w' r1 r2)
theorem grownBy_but {W W1 W2 : World} (h : W.grownBy W1 none) (hg : W1.grownBy W2 (some W.heap.size)) : W.grownBy W2 none :=
  ⟨hg.os.trans h.os, hg.tape.trans h.tape, hg.output.trans h.output, Nat.le_trans h.size hg.size, fun i hi _ => (hg.block i (by have := h.size; omega) (fun e => by have := Option.some.inj e; omega)).trans (h.block i hi (by simp))⟩
set_option maxRecDepth 100000 in
set_option maxHeartbeats 4000000 in
theorem readers_any (W : World) : Calls Tryz.prog 43 #[] W fun e w' => ∃ B, e = .returned (.map (some B)) ∧ w'.ownsMap Tryz.prog 9 fnElem B 8 rdD ∧ W.heap.size ≤ B ∧ W.grownBy w' none := by
  have hmm := @run_makeMap Tryz.prog
  have h0 : (W.alloc (.map #[] 0)).ownsMap Tryz.prog 9 fnElem W.heap.size 0 (.map []) := World.ownsMap_made _ _ _ _
  have HG0 := hide (World.grownBy_alloc W (.map #[] 0) none)
  have H0 := hide h0
  clear h0
  go_enter Tryz.func43, Tryz.ntmps43
  go_wp2_with (refine wpList_insert_own _ (by rfl) _ _ _ 110 (by rfl) 9 112 (string_keyed Tryz.underlying9) Tryz.underlying110 fnElem W.heap.size 0 _ (by rfl) (unhide H0) (by unfold maxLen; omega) (.string ⟨#[115, 99, 114, 105, 112, 116]⟩) (.func (.func 80) #[] #[]) _ (by rfl) (by rfl) (Go.WideMaps.keyOf_string_mk Tryz.underlying9 (s := ⟨#[115, 99, 114, 105, 112, 116]⟩) (by unfold maxLen; decide)) (.lit (.int .i64 80)) [] rfl ?_)
  intro w1 hown1 hgr1
  have H1 := hide hown1
  have HG1 := hide (grownBy_but (unhide HG0) hgr1)
  clear hown1 hgr1 H0 HG0
  go_wp2_with (refine wpList_insert_own _ (by rfl) _ _ _ 110 (by rfl) 9 112 (string_keyed Tryz.underlying9) Tryz.underlying110 fnElem W.heap.size 1 _ (by rfl) (unhide H1) (by unfold maxLen; omega) (.string ⟨#[99, 111, 109, 109, 111, 110]⟩) (.func (.func 81) #[] #[]) _ (by rfl) (by rfl) (Go.WideMaps.keyOf_string_mk Tryz.underlying9 (s := ⟨#[99, 111, 109, 109, 111, 110]⟩) (by unfold maxLen; decide)) (.lit (.int .i64 81)) [] rfl ?_)
  intro w2 hown2 hgr2
  have H2 := hide hown2
  have HG2 := hide (grownBy_but (unhide HG1) hgr2)
  clear hown2 hgr2 H1 HG1
  go_wp2_with (refine wpList_insert_own _ (by rfl) _ _ _ 110 (by rfl) 9 112 (string_keyed Tryz.underlying9) Tryz.underlying110 fnElem W.heap.size 2 _ (by rfl) (unhide H2) (by unfold maxLen; omega) (.string ⟨#[109, 97, 114, 107]⟩) (.func (.func 82) #[] #[]) _ (by rfl) (by rfl) (Go.WideMaps.keyOf_string_mk Tryz.underlying9 (s := ⟨#[109, 97, 114, 107]⟩) (by unfold maxLen; decide)) (.lit (.int .i64 82)) [] rfl ?_)
  intro w3 hown3 hgr3
  have H3 := hide hown3
  have HG3 := hide (grownBy_but (unhide HG2) hgr3)
  clear hown3 hgr3 H2 HG2
  go_wp2_with (refine wpList_insert_own _ (by rfl) _ _ _ 110 (by rfl) 9 112 (string_keyed Tryz.underlying9) Tryz.underlying110 fnElem W.heap.size 3 _ (by rfl) (unhide H3) (by unfold maxLen; omega) (.string ⟨#[112, 97, 105, 114]⟩) (.func (.func 83) #[] #[]) _ (by rfl) (by rfl) (Go.WideMaps.keyOf_string_mk Tryz.underlying9 (s := ⟨#[112, 97, 105, 114]⟩) (by unfold maxLen; decide)) (.lit (.int .i64 83)) [] rfl ?_)
  intro w4 hown4 hgr4
  have H4 := hide hown4
  have HG4 := hide (grownBy_but (unhide HG3) hgr4)
  clear hown4 hgr4 H3 HG3
  go_wp2_with (refine wpList_insert_own _ (by rfl) _ _ _ 110 (by rfl) 9 112 (string_keyed Tryz.underlying9) Tryz.underlying110 fnElem W.heap.size 4 _ (by rfl) (unhide H4) (by unfold maxLen; omega) (.string ⟨#[102, 111, 108, 100]⟩) (.func (.func 84) #[] #[]) _ (by rfl) (by rfl) (Go.WideMaps.keyOf_string_mk Tryz.underlying9 (s := ⟨#[102, 111, 108, 100]⟩) (by unfold maxLen; decide)) (.lit (.int .i64 84)) [] rfl ?_)
  intro w5 hown5 hgr5
  have H5 := hide hown5
  have HG5 := hide (grownBy_but (unhide HG4) hgr5)
  clear hown5 hgr5 H4 HG4
  go_wp2_with (refine wpList_insert_own _ (by rfl) _ _ _ 110 (by rfl) 9 112 (string_keyed Tryz.underlying9) Tryz.underlying110 fnElem W.heap.size 5 _ (by rfl) (unhide H5) (by unfold maxLen; omega) (.string ⟨#[108, 111, 111, 107]⟩) (.func (.func 85) #[] #[]) _ (by rfl) (by rfl) (Go.WideMaps.keyOf_string_mk Tryz.underlying9 (s := ⟨#[108, 111, 111, 107]⟩) (by unfold maxLen; decide)) (.lit (.int .i64 85)) [] rfl ?_)
  intro w6 hown6 hgr6
  have H6 := hide hown6
  have HG6 := hide (grownBy_but (unhide HG5) hgr6)
  clear hown6 hgr6 H5 HG5
  go_wp2_with (refine wpList_insert_own _ (by rfl) _ _ _ 110 (by rfl) 9 112 (string_keyed Tryz.underlying9) Tryz.underlying110 fnElem W.heap.size 6 _ (by rfl) (unhide H6) (by unfold maxLen; omega) (.string ⟨#[100, 114, 111, 112]⟩) (.func (.func 86) #[] #[]) _ (by rfl) (by rfl) (Go.WideMaps.keyOf_string_mk Tryz.underlying9 (s := ⟨#[100, 114, 111, 112]⟩) (by unfold maxLen; decide)) (.lit (.int .i64 86)) [] rfl ?_)
  intro w7 hown7 hgr7
  have H7 := hide hown7
  have HG7 := hide (grownBy_but (unhide HG6) hgr7)
  clear hown7 hgr7 H6 HG6
  go_wp2_with (refine wpList_insert_own _ (by rfl) _ _ _ 110 (by rfl) 9 112 (string_keyed Tryz.underlying9) Tryz.underlying110 fnElem W.heap.size 7 _ (by rfl) (unhide H7) (by unfold maxLen; omega) (.string ⟨#[97, 108, 108, 111, 119]⟩) (.func (.func 87) #[] #[]) _ (by rfl) (by rfl) (Go.WideMaps.keyOf_string_mk Tryz.underlying9 (s := ⟨#[97, 108, 108, 111, 119]⟩) (by unfold maxLen; decide)) (.lit (.int .i64 87)) [] rfl ?_)
  intro w8 hown8 hgr8
  have H8 := hide hown8
  have HG8 := hide (grownBy_but (unhide HG7) hgr8)
  clear hown8 hgr8 H7 HG7
  go_wp2_with fail
  go_ret
  exact ⟨_, rfl, unhide H8, Nat.le_refl _, unhide HG8⟩
end Go.Proofs.YtjgfmobmilgapaaGreatDoor
namespace Go.Proofs.YtjgfmobmilgapaaGreatDoor
open Go.RowKit Go.Shelf
set_option linter.unusedVariables false
set_option maxRecDepth 100000 in
set_option maxHeartbeats 4000000 in
theorem look_any (R Tx g lo : Nat) (ws : List W8) (k : Nat) (bad : Option Rf) (eb el ec fb fl fc : Int) (vs : List Value) (ls : List Ln) (n1 n2 : Nat) (xs1 xs2 : List Value) (hl1 : ls[5]? = some ⟨77, 2, n1, xs1⟩) (hl2 : ls[8 + 6]? = some ⟨49, 3, n2, xs2⟩) (hn1 : n1 ≤ 1000000) (hn2 : n2 ≤ 1000000) (W0 W : World) (h : RuSt W0 W R Tx g lo ws k bad eb el ec vs ls) :
    Calls Tryz.prog 85 #[.pointer (some ⟨R, 0, none⟩), .agg #[.int .i64 fb, .int .i64 fl, .int .i64 fc]] W fun e w' => (∃ r, e = .returned r) ∧ ∃ va vb, RuSt W0 w' R Tx g lo ws (mapV ws k bad eb el ec).k (mapV ws k bad eb el ec).bad eb el ec ((vs.set 5 va).set (8 + 6) vb) ((ls.set 5 ⟨77, 2, n1 + 1, xs1 ++ [.int .i32 (mapV ws k bad eb el ec).fr, .string (runesBytes (mapV ws k bad eb el ec).tw)]⟩).set (8 + 6) ⟨49, 3, n2 + 1, xs2 ++ [.int .i64 fb, .int .i64 fl, .int .i64 fc]⟩) := by
  have hNR : R < W.heap.size := Nat.lt_of_lt_of_le h.hR h.low
  have HLo := hide h.low
  have HM := hide (fun (w : World) => mapping_e R Tx g ws k bad eb el ec _ rfl w)
  generalize mapV ws k bad eb el ec = V at *
  obtain ⟨fr, tw, k2, bad2⟩ := V
  dsimp only at HM
  dsimp only
  generalize runesBytes tw = tob at *
  obtain ⟨im, him, hm0, hm1, hm2⟩ := info_parts infoMap
  have HIM := hide (And.intro him (And.intro hm0 (And.intro hm1 hm2)))
  clear him hm0 hm1 hm2
  have hmx : Tryz.prog.follows .mixedOrders = true := by kernel_rfl
  have H := hide (h.alloc (.cells #[.int .i64 fb, .int .i64 fl, .int .i64 fc] 49))
  have HX := hide (Blk.new W #[.int .i64 fb, .int .i64 fl, .int .i64 fc] 49)
  clear h
  go_enter Tryz.func85, Tryz.ntmps85
  go_wp2_with fail
  generalize W.alloc (.cells #[.int .i64 fb, .int .i64 fl, .int .i64 fc] 49) = WA at *
  generalize W.heap.size = N at *
  obtain ⟨v, hv⟩ : ∃ v, vs[5]? = some v := ⟨_, List.getElem?_eq_getElem (by have := (unhide H).tb.lv; omega)⟩
  have how := (unhide H).tb.own _ _ _ hv hl1
  obtain ⟨va, vc, rfl⟩ := own_slice how
  have hg0 : ∀ b, Value.ownBlock (.slice va n1 vc) = some b → lo ≤ b := rd_from how
  obtain ⟨ra, rc, rv, hrb, _, _, _⟩ := (unhide H).rd.rd.blk
  have c1 : WA.cell? ⟨R, 1, none⟩ = some (.pointer (some ⟨Tx, 0, none⟩)) := hrb.cell 1
  have t0 := (unhide H).tb.cell (by omega) hv
  have hTl := (unhide H).tb.lt
  have hRl := (unhide H).hR
  have hl3 := (unhide H).low
  have hltR : R < WA.heap.size := by omega
  have hltT : Tx < WA.heap.size := by omega
  clear hrb
  go_region_law (first
    | (refine step_append_lies _ (by rfl) _ _ _ (by rfl) lo 77 im (.agg #[.int .i32 0, .string ⟨#[]⟩]) 2 24 Tryz.underlying26 (unhide HIM).1 (unhide HIM).2.1 (unhide HIM).2.2.1 (unhide HIM).2.2.2 rfl (by omega) _ n1 xs1 (by rfl) (((unhide H2).tb.own _ _ _ hv hl1).alloc _) ⟨w2.heap.size, 0, none⟩ 1 1 [.int .i32 fr, .string tob] (by rfl) (by rfl) (World.news_of_block (cs := #[.int .i32 fr, .string tob]) (t := 77) (fr := (0, 0)) (heap_alloc_new w2 _)) (by simp [Value.oneCell']) (by omega) (by unfold maxLen; omega) (by omega) (by simp; omega) (w2.heap.size + 1) (by simp) ?_; intro gg cap w4 hown1 hgrow hatt hlt; have q1 : w4.cell? ⟨Tx, 5, none⟩ = some (.slice va n1 vc) := hgrow.cell (a := ⟨Tx, 5, none⟩) t2 (by show some Tx ≠ Value.ownBlock (.slice va n1 vc); intro e; have := hg0 Tx e.symm; omega); have q2 : w4.frozen? ⟨Tx, 5, none⟩ = false := (Blk.kept ((unhide H2).alloc (.cells #[.int .i32 fr, .string tob] 77)).tb.blk hgrow (fun e => by have := hg0 Tx e.symm; omega)).frozen 5; have q3 : w4.cell? ⟨R, 1, none⟩ = some (.pointer (some ⟨Tx, 0, none⟩)) := hgrow.cell (a := ⟨R, 1, none⟩) ca2 (by show some R ≠ Value.ownBlock (.slice va n1 vc); intro e; have := hg0 R e.symm; omega))
    | (go_simp; refine (unhide HM _ (unhide H).rd.drew).mono ?_; rintro e w2 ⟨rfl, hR2, hg2⟩; have H2 := hide ((unhide H).call hR2 ⟨hg2.os, hg2.tape, hg2.output, hg2.size, hg2.block⟩); have HX2 := hide ((unhide HX).kept (W' := w2) ⟨hg2.os, hg2.tape, hg2.output, hg2.size, hg2.block⟩ (fun e => by have := Option.some.inj e; omega)); have hb2 := (unhide H2).rd.rd.blk; obtain ⟨ra2, rc2, rv2, hrb2, _, _, _⟩ := hb2; have c2 : w2.cell? ⟨R, 1, none⟩ = some (.pointer (some ⟨Tx, 0, none⟩)) := hrb2.cell 1; have ca2 := (hrb2.alloc (.cells #[.int .i32 fr, .string tob] 77)).cell 1; have t1 := (unhide H2).tb.cell (by omega) hv; have t2 := ((unhide H2).alloc (.cells #[.int .i32 fr, .string tob] 77)).tb.cell (by omega) hv; have hl2' := (unhide H2).low; have hltR2 : R < w2.heap.size := (by omega); have hltT2 : Tx < w2.heap.size := (by omega); clear hrb2 hR2 hg2))
  all_goals
    have hNx : some N ≠ Value.ownBlock (.slice va n1 vc) := blk_row (unhide HX2) ((unhide H2).tb.own _ _ _ hv hl1) (show (77 : Nat) ≠ 49 by decide)
    have H4 := hide (((unhide H2).alloc (.cells #[.int .i32 fr, .string tob] 77)).put (W1 := w4) (by omega) hv hl1 (show (77 : Nat) ≠ 54 by decide) hown1 ⟨hgrow.os, hgrow.tape, hgrow.output, hgrow.size, hgrow.block⟩ (by rcases hatt with e | e; exact .inl e.symm; exact .inr (by rw [e]; simp [Value.ownBlock])))
    have hx5 := (Blk.kept (W := (w2.alloc (.cells #[.int .i32 fr, .string tob] 77))) ((unhide HX2).alloc _) hgrow hNx).kept (grown_set' w4 Tx 5 (.slice (some ⟨gg, 0, none⟩) (n1 + 1) cap)) (fun e => by have := Option.some.inj e; have := unhide HLo; omega)
    clear hgrow hown1 hatt hlt q1 q2 q3 H2 HX2 how c1 t0 ca2 t1 t2 c2
    generalize w4.setCell ⟨Tx, 5, none⟩ (.slice (some ⟨gg, 0, none⟩) (n1 + 1) cap) = w5 at *
    have x0 := hx5.cell 0
    have x1 := hx5.cell 1
    have x2 := hx5.cell 2
    clear hx5
    have HP := hide (Blk.new w5 #[.int .i64 fb, .int .i64 fl, .int .i64 fc] 49)
    go_wp2_with fail
    refine (rows_ru W0 R Tx g lo ws k2 bad2 eb el ec _ _ 6 (by omega) n2 xs2 (by rw [List.getElem?_set_ne (by decide)]; exact hl2) _ 1 1 [.int .i64 fb, .int .i64 fl, .int .i64 fc] (by omega) _ ((unhide H4).alloc _) (.inr ⟨_, rfl, by decide, rfl, World.news_of_block (cs := #[.int .i64 fb, .int .i64 fl, .int .i64 fc]) (t := 49) (fr := (0, 0)) (heap_alloc_new w5 _), by simp [Value.oneCell']⟩)).mono ?_
    rintro e w6 ⟨⟨r, rfl⟩, vb, hfin⟩
    go_wp2_with fail
    go_end0
    exact ⟨⟨_, rfl⟩, _, vb, hfin⟩
def PsSt (W0 W : World) (R Tx g lo : Nat) (ws : List W8) (k : Nat) (bad : Option Rf) (eb el ec : Int) (T : TV) : Prop := ∃ vs, RuSt W0 W R Tx g lo ws k bad eb el ec vs (lsOf T (vs.drop 17))
theorem drop_set2 (vs : List Value) (i j : Nat) (a b : Value) (hi : i < 17) (hj : j < 17) : ((vs.set i a).set j b).drop 17 = vs.drop 17 := by
  rw [List.drop_set_of_lt hj, List.drop_set_of_lt hi]
theorem drop_snoc2 (vs : List Value) (u : Value) (i j : Nat) (a b : Value) (hi : i < 17) (hj : j < 17) (hl : 17 ≤ vs.length) : (((vs ++ [u]).set i a).set j b).drop 17 = vs.drop 17 ++ [u] := by
  rw [List.drop_set_of_lt hj, List.drop_set_of_lt hi, List.drop_append_of_le_length hl]
theorem lsOf_len (T : TV) (us : List Value) : (lsOf T us).length = T.sc.length + 17 := by
  unfold lsOf
  simp only [List.length_cons, List.length_map]
theorem ruleFn_no (S : ByteArray) : ruleFn S = none ↔ ruleNo S = 0 := by
  unfold ruleFn ruleNo
  repeat' (split; · simp)
  simp
theorem rule_cases (S : ByteArray) (f : Nat) (h : ruleFn S = some f) : (ruleNo S = 1 ∧ f = 80) ∨ (ruleNo S = 2 ∧ f = 81) ∨ (ruleNo S = 3 ∧ f = 82) ∨ (ruleNo S = 4 ∧ f = 83) ∨ (ruleNo S = 5 ∧ f = 84) ∨ (ruleNo S = 6 ∧ f = 85) ∨ (ruleNo S = 7 ∧ f = 86) ∨ (ruleNo S = 8 ∧ f = 87) := by
  by_cases h1 : S = ⟨#[115, 99, 114, 105, 112, 116]⟩
  · subst h1; injection h with h; exact .inl ⟨rfl, h.symm⟩
  by_cases h2 : S = ⟨#[99, 111, 109, 109, 111, 110]⟩
  · subst h2; injection h with h; exact .inr (.inl ⟨rfl, h.symm⟩)
  by_cases h3 : S = ⟨#[109, 97, 114, 107]⟩
  · subst h3; injection h with h; exact .inr (.inr (.inl ⟨rfl, h.symm⟩))
  by_cases h4 : S = ⟨#[112, 97, 105, 114]⟩
  · subst h4; injection h with h; exact .inr (.inr (.inr (.inl ⟨rfl, h.symm⟩)))
  by_cases h5 : S = ⟨#[102, 111, 108, 100]⟩
  · subst h5; injection h with h; exact .inr (.inr (.inr (.inr (.inl ⟨rfl, h.symm⟩))))
  by_cases h6 : S = ⟨#[108, 111, 111, 107]⟩
  · subst h6; injection h with h; exact .inr (.inr (.inr (.inr (.inr (.inl ⟨rfl, h.symm⟩)))))
  by_cases h7 : S = ⟨#[100, 114, 111, 112]⟩
  · subst h7; injection h with h; exact .inr (.inr (.inr (.inr (.inr (.inr (.inl ⟨rfl, h.symm⟩))))))
  by_cases h8 : S = ⟨#[97, 108, 108, 111, 119]⟩
  · subst h8; injection h with h; exact .inr (.inr (.inr (.inr (.inr (.inr (.inr (⟨rfl, h.symm⟩)))))))
  unfold ruleFn at h
  rw [if_neg h1, if_neg h2, if_neg h3, if_neg h4, if_neg h5, if_neg h6, if_neg h7, if_neg h8] at h
  cases h
theorem rule_script (R Tx g lo : Nat) (ws : List W8) (eb el ec : Int) (k : Nat) (x : W8) (T : TV) (hT : T.Le k) (hk : k ≤ 1000000) (hr : ruleNo x.S = 1) (hS : ∀ y ∈ ws, y.S.size ≤ 262144) (W0 W : World) (h : PsSt W0 W R Tx g lo ws (k + 1) none eb el ec T) :
    Calls Tryz.prog 80 #[.pointer (some ⟨R, 0, none⟩), .agg #[.int .i64 x.b, .int .i64 x.l, .int .i64 x.c]] W fun e w' => (∃ r, e = .returned r) ∧ PsSt W0 w' R Tx g lo ws (ruleV ws eb el ec k x T).k (ruleV ws eb el ec k x T).bad eb el ec (ruleV ws eb el ec k x T).T := by
  obtain ⟨vs, h⟩ := h
  have hlv := h.tb.lv
  have hll := h.tb.ll
  have hnm : (scriptV ws (k + 1) none eb el ec).nm.size ≤ 262144 := by
    show (takeV ws (k + 1) none eb el ec 1).x.S.size ≤ 262144
    unfold takeV
    split
    · rename_i y h1 h2; exact hS y (List.mem_of_getElem? h2)
    · show (⟨#[]⟩ : ByteArray).size ≤ 262144; decide
  refine (script_any R Tx g lo ws (k + 1) none eb el ec x.b x.l x.c vs _ T.sc.length T.r1.length (encSc T.sc (vs.drop 17)) (encA3 T.r1) rfl rfl (by have := hT.sc; omega) (by have := hT.r1; omega) hnm W0 W h).mono ?_
  rintro e w' ⟨h1, sv, va, vb, h2⟩
  unfold ruleV
  rw [hr]
  simp only [ruleAt]
  refine ⟨h1, ((vs ++ [sv]).set 0 va).set 9 vb, ?_⟩
  show RuSt W0 w' R Tx g lo ws (scriptV ws (k + 1) none eb el ec).sp.k (scriptV ws (k + 1) none eb el ec).sp.bad eb el ec (((vs ++ [sv]).set 0 va).set 9 vb) (lsOf _ ((((vs ++ [sv]).set 0 va).set 9 vb).drop 17))
  rw [drop_snoc2 vs sv 0 9 va vb (by omega) (by omega) hlv]
  have e1 : T.sc.length = (vs.drop 17).length := by
    rw [List.length_drop, ← hll, lsOf_len]
    omega
  unfold lsOf
  dsimp only
  rw [encSc_snoc _ _ _ _ e1, encA3_app, List.length_append, List.length_append, List.map_append]
  exact h2
theorem rule_common (R Tx g lo : Nat) (ws : List W8) (eb el ec : Int) (k : Nat) (x : W8) (T : TV) (hT : T.Le k) (hk : k ≤ 1000000) (hr : ruleNo x.S = 2) (hS : ∀ y ∈ ws, y.S.size ≤ 262144) (W0 W : World) (h : PsSt W0 W R Tx g lo ws (k + 1) none eb el ec T) :
    Calls Tryz.prog 81 #[.pointer (some ⟨R, 0, none⟩), .agg #[.int .i64 x.b, .int .i64 x.l, .int .i64 x.c]] W fun e w' => (∃ r, e = .returned r) ∧ PsSt W0 w' R Tx g lo ws (ruleV ws eb el ec k x T).k (ruleV ws eb el ec k x T).bad eb el ec (ruleV ws eb el ec k x T).T := by
  obtain ⟨vs, h⟩ := h
  have hlv := h.tb.lv
  have hll := h.tb.ll
  refine (common_any R Tx g lo ws (k + 1) none eb el ec (.bool true) vs _ T.co.length T.r2.length (encS2 T.co) (encA3 T.r2) rfl rfl (by have := hT.co; omega) (by have := hT.r2; omega) x.b x.l x.c W0 W h).mono ?_
  rintro e w' ⟨h1, va, vb, h2⟩
  unfold ruleV
  rw [hr]
  simp only [ruleAt]
  refine ⟨h1, (vs.set 1 va).set 10 vb, ?_⟩
  show RuSt W0 w' R Tx g lo ws (spansV ws (k + 1) none eb el ec).k (spansV ws (k + 1) none eb el ec).bad eb el ec ((vs.set 1 va).set 10 vb) (lsOf _ (((vs.set 1 va).set 10 vb).drop 17))
  rw [drop_set2 vs 1 10 va vb (by omega) (by omega)]
  unfold lsOf
  dsimp only
  rw [encS2_app, encA3_app, List.length_append, List.length_append]
  exact h2
theorem rule_mark (R Tx g lo : Nat) (ws : List W8) (eb el ec : Int) (k : Nat) (x : W8) (T : TV) (hT : T.Le k) (hk : k ≤ 1000000) (hr : ruleNo x.S = 3) (hS : ∀ y ∈ ws, y.S.size ≤ 262144) (W0 W : World) (h : PsSt W0 W R Tx g lo ws (k + 1) none eb el ec T) :
    Calls Tryz.prog 82 #[.pointer (some ⟨R, 0, none⟩), .agg #[.int .i64 x.b, .int .i64 x.l, .int .i64 x.c]] W fun e w' => (∃ r, e = .returned r) ∧ PsSt W0 w' R Tx g lo ws (ruleV ws eb el ec k x T).k (ruleV ws eb el ec k x T).bad eb el ec (ruleV ws eb el ec k x T).T := by
  obtain ⟨vs, h⟩ := h
  have hlv := h.tb.lv
  have hll := h.tb.ll
  refine (mark_any R Tx g lo ws (k + 1) none eb el ec x.b x.l x.c vs _ T.ma.length T.r3.length (encM2 T.ma) (encA3 T.r3) rfl rfl (by have := hT.ma; omega) (by have := hT.r3; omega) W0 W h).mono ?_
  rintro e w' ⟨h1, va, vb, h2⟩
  unfold ruleV
  rw [hr]
  simp only [ruleAt]
  refine ⟨h1, (vs.set 2 va).set 11 vb, ?_⟩
  show RuSt W0 w' R Tx g lo ws (markV ws (k + 1) none eb el ec).k (markV ws (k + 1) none eb el ec).bad eb el ec ((vs.set 2 va).set 11 vb) (lsOf _ (((vs.set 2 va).set 11 vb).drop 17))
  rw [drop_set2 vs 2 11 va vb (by omega) (by omega)]
  unfold lsOf
  dsimp only
  rw [encM2_app, encA3_app, List.length_append, List.length_append]
  exact h2
theorem rule_pair (R Tx g lo : Nat) (ws : List W8) (eb el ec : Int) (k : Nat) (x : W8) (T : TV) (hT : T.Le k) (hk : k ≤ 1000000) (hr : ruleNo x.S = 4) (hS : ∀ y ∈ ws, y.S.size ≤ 262144) (W0 W : World) (h : PsSt W0 W R Tx g lo ws (k + 1) none eb el ec T) :
    Calls Tryz.prog 83 #[.pointer (some ⟨R, 0, none⟩), .agg #[.int .i64 x.b, .int .i64 x.l, .int .i64 x.c]] W fun e w' => (∃ r, e = .returned r) ∧ PsSt W0 w' R Tx g lo ws (ruleV ws eb el ec k x T).k (ruleV ws eb el ec k x T).bad eb el ec (ruleV ws eb el ec k x T).T := by
  obtain ⟨vs, h⟩ := h
  have hlv := h.tb.lv
  have hll := h.tb.ll
  refine (pair_any R Tx g lo ws (k + 1) none eb el ec x.b x.l x.c vs _ T.pr.length T.r4.length (encP3 T.pr) (encA3 T.r4) rfl rfl (by have := hT.pr; omega) (by have := hT.r4; omega) W0 W h).mono ?_
  rintro e w' ⟨h1, va, vb, h2⟩
  unfold ruleV
  rw [hr]
  simp only [ruleAt]
  refine ⟨h1, (vs.set 3 va).set 12 vb, ?_⟩
  show RuSt W0 w' R Tx g lo ws (pairV ws (k + 1) none eb el ec).k (pairV ws (k + 1) none eb el ec).bad eb el ec ((vs.set 3 va).set 12 vb) (lsOf _ (((vs.set 3 va).set 12 vb).drop 17))
  rw [drop_set2 vs 3 12 va vb (by omega) (by omega)]
  unfold lsOf
  dsimp only
  rw [encP3_app, encA3_app, List.length_append, List.length_append]
  exact h2
theorem rule_fold (R Tx g lo : Nat) (ws : List W8) (eb el ec : Int) (k : Nat) (x : W8) (T : TV) (hT : T.Le k) (hk : k ≤ 1000000) (hr : ruleNo x.S = 5) (hS : ∀ y ∈ ws, y.S.size ≤ 262144) (W0 W : World) (h : PsSt W0 W R Tx g lo ws (k + 1) none eb el ec T) :
    Calls Tryz.prog 84 #[.pointer (some ⟨R, 0, none⟩), .agg #[.int .i64 x.b, .int .i64 x.l, .int .i64 x.c]] W fun e w' => (∃ r, e = .returned r) ∧ PsSt W0 w' R Tx g lo ws (ruleV ws eb el ec k x T).k (ruleV ws eb el ec k x T).bad eb el ec (ruleV ws eb el ec k x T).T := by
  obtain ⟨vs, h⟩ := h
  have hlv := h.tb.lv
  have hll := h.tb.ll
  refine (fold_any R Tx g lo ws (k + 1) none eb el ec x.b x.l x.c vs _ T.fo.length T.r5.length (encF2 T.fo) (encA3 T.r5) rfl rfl (by have := hT.fo; omega) (by have := hT.r5; omega) W0 W h).mono ?_
  rintro e w' ⟨h1, va, vb, h2⟩
  unfold ruleV
  rw [hr]
  simp only [ruleAt]
  refine ⟨h1, (vs.set 4 va).set 13 vb, ?_⟩
  show RuSt W0 w' R Tx g lo ws (mapV ws (k + 1) none eb el ec).k (mapV ws (k + 1) none eb el ec).bad eb el ec ((vs.set 4 va).set 13 vb) (lsOf _ (((vs.set 4 va).set 13 vb).drop 17))
  rw [drop_set2 vs 4 13 va vb (by omega) (by omega)]
  unfold lsOf
  dsimp only
  rw [encF2_app, encA3_app, List.length_append, List.length_append]
  exact h2
theorem rule_look (R Tx g lo : Nat) (ws : List W8) (eb el ec : Int) (k : Nat) (x : W8) (T : TV) (hT : T.Le k) (hk : k ≤ 1000000) (hr : ruleNo x.S = 6) (hS : ∀ y ∈ ws, y.S.size ≤ 262144) (W0 W : World) (h : PsSt W0 W R Tx g lo ws (k + 1) none eb el ec T) :
    Calls Tryz.prog 85 #[.pointer (some ⟨R, 0, none⟩), .agg #[.int .i64 x.b, .int .i64 x.l, .int .i64 x.c]] W fun e w' => (∃ r, e = .returned r) ∧ PsSt W0 w' R Tx g lo ws (ruleV ws eb el ec k x T).k (ruleV ws eb el ec k x T).bad eb el ec (ruleV ws eb el ec k x T).T := by
  obtain ⟨vs, h⟩ := h
  have hlv := h.tb.lv
  have hll := h.tb.ll
  refine (look_any R Tx g lo ws (k + 1) none eb el ec x.b x.l x.c vs _ T.lk.length T.r6.length (encF2 T.lk) (encA3 T.r6) rfl rfl (by have := hT.lk; omega) (by have := hT.r6; omega) W0 W h).mono ?_
  rintro e w' ⟨h1, va, vb, h2⟩
  unfold ruleV
  rw [hr]
  simp only [ruleAt]
  refine ⟨h1, (vs.set 5 va).set 14 vb, ?_⟩
  show RuSt W0 w' R Tx g lo ws (mapV ws (k + 1) none eb el ec).k (mapV ws (k + 1) none eb el ec).bad eb el ec ((vs.set 5 va).set 14 vb) (lsOf _ (((vs.set 5 va).set 14 vb).drop 17))
  rw [drop_set2 vs 5 14 va vb (by omega) (by omega)]
  unfold lsOf
  dsimp only
  rw [encF2_app, encA3_app, List.length_append, List.length_append]
  exact h2
theorem rule_drop (R Tx g lo : Nat) (ws : List W8) (eb el ec : Int) (k : Nat) (x : W8) (T : TV) (hT : T.Le k) (hk : k ≤ 1000000) (hr : ruleNo x.S = 7) (hS : ∀ y ∈ ws, y.S.size ≤ 262144) (W0 W : World) (h : PsSt W0 W R Tx g lo ws (k + 1) none eb el ec T) :
    Calls Tryz.prog 86 #[.pointer (some ⟨R, 0, none⟩), .agg #[.int .i64 x.b, .int .i64 x.l, .int .i64 x.c]] W fun e w' => (∃ r, e = .returned r) ∧ PsSt W0 w' R Tx g lo ws (ruleV ws eb el ec k x T).k (ruleV ws eb el ec k x T).bad eb el ec (ruleV ws eb el ec k x T).T := by
  obtain ⟨vs, h⟩ := h
  have hlv := h.tb.lv
  have hll := h.tb.ll
  refine (drop_any R Tx g lo ws (k + 1) none eb el ec (.bool true) vs _ T.dr.length T.r7.length (encS2 T.dr) (encA3 T.r7) rfl rfl (by have := hT.dr; omega) (by have := hT.r7; omega) x.b x.l x.c W0 W h).mono ?_
  rintro e w' ⟨h1, va, vb, h2⟩
  unfold ruleV
  rw [hr]
  simp only [ruleAt]
  refine ⟨h1, (vs.set 6 va).set 15 vb, ?_⟩
  show RuSt W0 w' R Tx g lo ws (spansV ws (k + 1) none eb el ec).k (spansV ws (k + 1) none eb el ec).bad eb el ec ((vs.set 6 va).set 15 vb) (lsOf _ (((vs.set 6 va).set 15 vb).drop 17))
  rw [drop_set2 vs 6 15 va vb (by omega) (by omega)]
  unfold lsOf
  dsimp only
  rw [encS2_app, encA3_app, List.length_append, List.length_append]
  exact h2
theorem rule_allow (R Tx g lo : Nat) (ws : List W8) (eb el ec : Int) (k : Nat) (x : W8) (T : TV) (hT : T.Le k) (hk : k ≤ 1000000) (hr : ruleNo x.S = 8) (hS : ∀ y ∈ ws, y.S.size ≤ 262144) (W0 W : World) (h : PsSt W0 W R Tx g lo ws (k + 1) none eb el ec T) :
    Calls Tryz.prog 87 #[.pointer (some ⟨R, 0, none⟩), .agg #[.int .i64 x.b, .int .i64 x.l, .int .i64 x.c]] W fun e w' => (∃ r, e = .returned r) ∧ PsSt W0 w' R Tx g lo ws (ruleV ws eb el ec k x T).k (ruleV ws eb el ec k x T).bad eb el ec (ruleV ws eb el ec k x T).T := by
  obtain ⟨vs, h⟩ := h
  have hlv := h.tb.lv
  have hll := h.tb.ll
  refine (allow_any R Tx g lo ws (k + 1) none eb el ec (.bool true) vs _ T.al.length T.r8.length (encS2 T.al) (encA3 T.r8) rfl rfl (by have := hT.al; omega) (by have := hT.r8; omega) x.b x.l x.c W0 W h).mono ?_
  rintro e w' ⟨h1, va, vb, h2⟩
  unfold ruleV
  rw [hr]
  simp only [ruleAt]
  refine ⟨h1, (vs.set 7 va).set 16 vb, ?_⟩
  show RuSt W0 w' R Tx g lo ws (spansV ws (k + 1) none eb el ec).k (spansV ws (k + 1) none eb el ec).bad eb el ec ((vs.set 7 va).set 16 vb) (lsOf _ (((vs.set 7 va).set 16 vb).drop 17))
  rw [drop_set2 vs 7 16 va vb (by omega) (by omega)]
  unfold lsOf
  dsimp only
  rw [encS2_app, encA3_app, List.length_append, List.length_append]
  exact h2
theorem rule_any (f : Nat) (R Tx g lo : Nat) (ws : List W8) (eb el ec : Int) (k : Nat) (x : W8) (T : TV) (hT : T.Le k) (hk : k ≤ 1000000) (hf : ruleFn x.S = some f) (hS : ∀ y ∈ ws, y.S.size ≤ 262144) (W0 W : World) (h : PsSt W0 W R Tx g lo ws (k + 1) none eb el ec T) :
    Calls Tryz.prog f #[.pointer (some ⟨R, 0, none⟩), .agg #[.int .i64 x.b, .int .i64 x.l, .int .i64 x.c]] W fun e w' => (∃ r, e = .returned r) ∧ PsSt W0 w' R Tx g lo ws (ruleV ws eb el ec k x T).k (ruleV ws eb el ec k x T).bad eb el ec (ruleV ws eb el ec k x T).T := by
  rcases rule_cases x.S f hf with ⟨hr, rfl⟩ | ⟨hr, rfl⟩ | ⟨hr, rfl⟩ | ⟨hr, rfl⟩ | ⟨hr, rfl⟩ | ⟨hr, rfl⟩ | ⟨hr, rfl⟩ | ⟨hr, rfl⟩
  · exact rule_script R Tx g lo ws eb el ec k x T hT hk hr hS W0 W h
  · exact rule_common R Tx g lo ws eb el ec k x T hT hk hr hS W0 W h
  · exact rule_mark R Tx g lo ws eb el ec k x T hT hk hr hS W0 W h
  · exact rule_pair R Tx g lo ws eb el ec k x T hT hk hr hS W0 W h
  · exact rule_fold R Tx g lo ws eb el ec k x T hT hk hr hS W0 W h
  · exact rule_look R Tx g lo ws eb el ec k x T hT hk hr hS W0 W h
  · exact rule_drop R Tx g lo ws eb el ec k x T hT hk hr hS W0 W h
  · exact rule_allow R Tx g lo ws eb el ec k x T hT hk hr hS W0 W h
end Go.Proofs.YtjgfmobmilgapaaGreatDoor
