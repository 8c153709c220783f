/- The reference's Not and Meet of the fewest spans. -/
import Derived.Test.YtodikfaddfojgaaRefNotM
import Derived.Test.YtodikfaddfojgaaRefSpans
import Derived.Test.YtodikfaddfojgaaSetConcat
import Derived.BigRegion
namespace Go.Proofs.Ytodikfaddfojgaa
open Go.RowKit Go.Shelf
set_option linter.unusedVariables false
/-- One span more, behind a list that the call owns. -/
theorem append_oneP {w : World} {ops : Array Oper} {rest : List Oper} {o : Oper} {a : Act} {Q : Exit → Act → World → Prop} (hgd : o.guard = none) (s x : Operand)
    (ho : o.op = .call { callee := .builtin .append, args := #[s, x], argTypes := #[22, 22] }) (ht : o.type = 22) (lo : Nat) (v : Value) (zs : List (Int × Int)) (hs : a.eval s = v) (hz : zs.length ≤ 900000) (W : World) (y : Int × Int) (hW : w = W.alloc (.cells #[.int .i32 y.1, .int .i32 y.2] 33)) (hv : W.ownsRow lo 33 2 v zs.length (encP zs)) (hlo : lo ≤ W.heap.size) (n : Nat) (hn : n = W.heap.size) (hx : a.eval x = .slice (some ⟨n, 0, none⟩) 1 1)
    (h : ∀ v' w', w'.ownsRow lo 33 2 v' (zs ++ [y]).length (encP (zs ++ [y])) → Below lo W w' → wpList Try.prog ops Q rest (a.put o.dst v') w') : wpList Try.prog ops Q (o :: rest) a w := by
  subst hW
  subst hn
  have b := Blk.new W #[.int .i32 y.1, .int .i32 y.2] 33
  obtain ⟨v1, W1, hr, hw, hg⟩ := appendP_run (W.alloc (.cells #[.int .i32 y.1, .int .i32 y.2] 33)) lo v zs [y] (some ⟨W.heap.size, 0, none⟩) 1 (by omega) (by simp) (hv.alloc _) (fun _ => ⟨W.heap.size, 0, rfl, b.lt, fun j x hj => by
    match j, hj with
    | 0, hj => simp at hj; subst hj; exact ⟨b.cell 0, b.cell 1⟩
    | j + 1, hj => simp at hj⟩) (by simp; omega)
  refine Lib.wpList_append_run _ hgd s x 22 22 ho v (.slice (some ⟨W.heap.size, 0, none⟩) 1 1) hs hx v1 W1 (by rw [ht]; exact hr) (h v1 W1 hw ?_)
  exact ((Below.refl lo W).alloc hlo _).grown hg (by simp; omega) (fun k e => ((hv.alloc (.cells #[.int .i32 y.1, .int .i32 y.2] 33)).lt k e).1)
set_option maxRecDepth 100000 in
set_option maxHeartbeats 4000000 in
theorem refNot_any (a : Option Addr) (cap : Nat) (ys : List (Int × Int)) (hy : ys.length ≤ 100000) (hS : Spread ys) (w : World) (hr : RowP w a ys) :
    Calls Try.prog 18 #[.slice a ys.length cap] w fun e w' => ∃ (v : Value) (os : List (Int × Int)), e = .returned v ∧ w'.ownsRow w.heap.size 33 2 v os.length (encP os) ∧ Spread os ∧ os.length ≤ ys.length + 1 ∧ (∀ r, memB os r = (runeB r && !memB ys r)) ∧ Below w.heap.size w w' := by
  have HR := hide hr
  have HS := hide hS
  have hyi : (ys.length : Int) ≤ 100000 := by omega
  clear hr hS
  go_enter Try.func18, Try.ntmps18
  go_wp2
  go_loopw [3, 4, 5] (fun v av i wr => ∃ (k : Nat) (out : List (Int × Int)) (t : Int), i = .int .i64 k ∧ av = .int .i32 t ∧ k ≤ ys.length ∧ (0 ≤ t ∧ t ≤ 1114112) ∧ Hid (RNot ys k out t) ∧ Hid (wr.ownsRow w.heap.size 33 2 v out.length (encP out)) ∧ Hid (Below w.heap.size w wr)) (fun _ _ i _ => ys.length - (intOf i).toNat)
  case atStart => exact ⟨0, [], 0, rfl, rfl, by omega, by omega, hide (rnot_start (unhide HS)), hide (World.ownsRow_nil _ _ _ _), hide (Below.refl _ _)⟩
  case round =>
    obtain ⟨k, out, t, rfl, rfl, hk, ht, HI, HO, HB⟩ := hrel
    obtain ⟨va, vc, rfl, _, _, _⟩ := own_row (unhide HO)
    have hol : out.length ≤ 900000 := by have := (unhide HI).len; omega
    by_cases hkn : k < ys.length
    · have hk1 : (k : Int) < (ys.length : Int) := by omega
      have hk2 : ((k : Nat) : Int).toNat = k := by omega
      obtain ⟨y, hy'⟩ : ∃ y, ys[k]? = some y := ⟨_, List.getElem?_eq_getElem hkn⟩
      obtain ⟨g, o, rfl, hg, hc⟩ := unhide HR (by omega)
      have HN := hide (rnot_step (unhide HS) (unhide HI) hy')
      have he := endsB_iff ((unhide HS).ends y (List.mem_of_getElem? hy')).1
      have HU := hide (up_facts (endsB_parts ((unhide HS).ends y (List.mem_of_getElem? hy')).1).2)
      have HUp := hide (fun w => refUp_any y.2 (by omega) (by omega) w)
      have c0 := ((unhide HB).cell (p := ⟨g, o + k * 2, none⟩) hg).trans (hc k y hy').1
      have c1 := ((unhide HB).cell (p := ⟨g, o + k * 2 + 1, none⟩) hg).trans (hc k y hy').2
      have HC := hide (hc k y hy').2
      have HGg := hide hg
      obtain ⟨lo, hi⟩ := y
      simp only at c0 c1 he HN HUp HU HC
      have hut : 0 ≤ upOf hi ∧ upOf hi ≤ 1114112 := ⟨(unhide HU).1, (unhide HU).2.1⟩
      clear hc hy' HI
      generalize upOf hi = up at *
      by_cases c : t < lo
      · rw [if_pos c] at HN
        by_cases c2 : lo - 1 = 57343
        · rw [show dnOf lo = 55295 by unfold dnOf; rw [if_pos c2]] at HN
          have c3 : (lo - 1 == 57343) = true := by simpa using c2
          clear c2
          go_wp2_with (at_builtin; refine append_oneP rfl _ _ rfl rfl w.heap.size _ out rfl hol wr (t, 55295) rfl (unhide HO) (unhide HB).size _ rfl rfl ?_)
          intro v' w2 hown hb
          have HO2 : Hid (w2.ownsRow w.heap.size 33 2 v' (out ++ [(t, 55295)]).length (encP (out ++ [(t, 55295)]))) := hide (by rw [List.length_append, List.length_singleton]; exact hown)
          have HB2 := hide ((unhide HB).trans hb)
          have q1 := ((unhide HB2).cell (p := ⟨g, o + k * 2 + 1, none⟩) (unhide HGg)).trans (unhide HC)
          clear hown hb c0 c1
          go_wp2_with fail
          refine (unhide HUp _).mono ?_
          rintro e w3 ⟨rfl, rfl⟩
          go_wp2
          go_roundw
          case rel => exact ⟨k + 1, _, _, by congr 1, rfl, by omega, hut, HN, HO2, HB2⟩
          case measure => simp [intOf]; omega
        · rw [show dnOf lo = lo - 1 by unfold dnOf; rw [if_neg c2]] at HN
          have c3 : (lo - 1 == 57343) = false := by simpa using c2
          clear c2
          go_wp2_with (at_builtin; refine append_oneP rfl _ _ rfl rfl w.heap.size _ out rfl hol wr (t, lo - 1) rfl (unhide HO) (unhide HB).size _ rfl rfl ?_)
          intro v' w2 hown hb
          have HO2 : Hid (w2.ownsRow w.heap.size 33 2 v' (out ++ [(t, lo - 1)]).length (encP (out ++ [(t, lo - 1)]))) := hide (by rw [List.length_append, List.length_singleton]; exact hown)
          have HB2 := hide ((unhide HB).trans hb)
          have q1 := ((unhide HB2).cell (p := ⟨g, o + k * 2 + 1, none⟩) (unhide HGg)).trans (unhide HC)
          clear hown hb c0 c1
          go_wp2_with fail
          refine (unhide HUp _).mono ?_
          rintro e w3 ⟨rfl, rfl⟩
          go_wp2
          go_roundw
          case rel => exact ⟨k + 1, _, _, by congr 1, rfl, by omega, hut, HN, HO2, HB2⟩
          case measure => simp [intOf]; omega
      · rw [if_neg c] at HN
        go_wp2_with fail
        refine (unhide HUp _).mono ?_
        rintro e w3 ⟨rfl, rfl⟩
        go_wp2
        go_roundw
        case rel => exact ⟨k + 1, _, _, by congr 1, rfl, by omega, hut, HN, HO, HB⟩
        case measure => simp [intOf]; omega
    · have hk1 : ¬ (k : Int) < (ys.length : Int) := by omega
      have HE := hide (rnot_end (unhide HI) (by omega))
      have HLn := hide (unhide HI).len
      by_cases c : t ≤ 1114111
      · rw [if_pos c] at HE
        go_wp2_with (at_builtin; refine append_oneP rfl _ _ rfl rfl w.heap.size _ out rfl hol wr (t, 1114111) rfl (unhide HO) (unhide HB).size _ rfl rfl ?_)
        intro v' w2 hown hb
        have HO2 : Hid (w2.ownsRow w.heap.size 33 2 v' (out ++ [(t, 1114111)]).length (encP (out ++ [(t, 1114111)]))) := hide (by rw [List.length_append, List.length_singleton]; exact hown)
        have HB2 := hide ((unhide HB).trans hb)
        clear hown hb
        go_wp2
        go_ret
        first
          | exact ⟨_, out ++ [(t, 1114111)], rfl, unhide HO2, (unhide HE).1, by have := unhide HLn; simp; omega, (unhide HE).2, unhide HB2⟩
          | exact ⟨_, rfl, out ++ [(t, 1114111)], unhide HO2, (unhide HE).1, by have := unhide HLn; simp; omega, (unhide HE).2, unhide HB2⟩
      · rw [if_neg c] at HE
        go_wp2
        go_ret
        first
          | exact ⟨_, out, rfl, unhide HO, (unhide HE).1, by have := unhide HLn; omega, (unhide HE).2, unhide HB⟩
          | exact ⟨_, rfl, out, unhide HO, (unhide HE).1, by have := unhide HLn; omega, (unhide HE).2, unhide HB⟩
end Go.Proofs.Ytodikfaddfojgaa
