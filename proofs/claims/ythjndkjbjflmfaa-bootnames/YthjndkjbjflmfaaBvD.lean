/- A number of one digit; the form of a text without high runes. -/
import Derived.Deep.RegionHeld3
import Derived.Test.YthjndkjbjflmfaaBvC
namespace Go.Proofs.Ythjndkjbjflmfaa
open Go.RowKit Go.Shelf
set_option linter.unusedVariables false
theorem grown_via {w w' : World} {r : Option Nat} {q : Nat} {o : Obj} (h : ((w.drewN q).alloc o).grownBy w' r) : w.grownBy w' r :=
  grownC_trans (grownC_trans (show w.grownBy (w.drewN q) r from ⟨rfl, rfl, rfl, Nat.le_refl _, fun _ _ _ => rfl⟩) (show (w.drewN q).grownBy ((w.drewN q).alloc o) r from ⟨rfl, rfl, rfl, (World.grownBy_alloc (w.drewN q) o none).size, fun i hi _ => (World.grownBy_alloc (w.drewN q) o none).block i hi (by simp)⟩)) h
set_option maxRecDepth 100000 in
set_option maxHeartbeats 4000000 in
theorem write1 {p : Pm} (hp : rightP p) {W : World} {c : Nat} {bias d l n nx : Int} (hC : CAt W c p bias d l n nx) (hb : 0 ≤ bias ∧ bias ≤ 4000) (ht : 1 < thr p bias 1) {lo m : Nat} {v : Value} {xs : List Value} (hv : W.ownsRow lo 5 1 v m xs) (hlo : lo ≤ W.heap.size) (hm : m ≤ 70000) :
    Calls Try.prog 48 #[.pointer (some ⟨c, 0, none⟩), v, .int .i64 1] W fun e w' => ∃ v', e = .returned v' ∧ w'.ownsRow lo 5 1 v' (m + 1) (xs ++ [.int .u8 98]) ∧ W.grownBy w' v.ownBlock := by
  have TH := hide (thr_any (k := 1) hp hC hb (by omega))
  obtain ⟨T, hT⟩ : ∃ T, thr p bias 1 = T := ⟨_, rfl⟩
  rw [hT] at ht TH
  obtain ⟨iU, hif, hz0, hz1, hz2⟩ := info_parts infoUb
  have HIU := hide (And.intro hif (And.intro hz0 (And.intro hz1 hz2)))
  have HV := hide hv
  clear hif hz0 hz1 hz2 hT hC hp hv
  go_enter Try.func48, Try.ntmps48
  go_wp2_with fail
  refine wp_loop_rounds 1 ?_
  rw [rounds_succ]
  go_wp2_with (first
    | (go_at_call 67; refine (unhide TH).mono ?_; rintro e w3 ⟨rfl, q3, rfl⟩)
    | (at_builtin; refine wpList_append_own _ rfl _ _ 43 rfl lo 5 iU (.int .u8 0) 1 1 Try.underlying43 (unhide HIU).1 (unhide HIU).2.1 (unhide HIU).2.2.1 (unhide HIU).2.2.2 rfl (by decide) _ m _ rfl (World.ownsRow.alloc (w := W.drewN q3) (unhide HV) _) ⟨W.heap.size, 0, none⟩ 1 1 [.int .u8 98] rfl rfl ?c1 ?c2 ?c3 ?c4 ?c5 ?_))
  case c1 =>
    intro j u hj
    rw [addRb]
    exact ((Blk.new (W.drewN q3) #[.int .u8 98] 5).cell (0 + j)).trans (by rw [← hj]; simp)
  case c2 => intro u hu; simp at hu; rw [hu]; rfl
  case c3 => unfold maxLen; omega
  case c4 => omega
  case c5 => simp; omega
  intro v' w4 h1 h2 _
  have H1 := hide h1
  have H2 := hide (grown_via h2)
  clear h1 h2
  go_wp2_with fail
  go_ret
  exact ⟨_, rfl, unhide H1, unhide H2⟩
end Go.Proofs.Ythjndkjbjflmfaa
