/- Texts of this claim, one behind the other. -/
import Derived.Test.YtjgfmobmilgapaaGreatDoorM28
import Derived.Test.YtjgfmobmilgapaaGreatDoorM25
/- What was read is a row of rules; two texts behind one another. Plain mathematics. -/
namespace Go.Proofs.YtjgfmobmilgapaaGreatDoor
open Go.RowKit Go.Shelf
set_option linter.unusedVariables false
def CleW (x : W8) : Prop := stripW x = if x.k = 1 then tqN x.S else if x.k = 2 then tqC x.n else if x.k = 3 then tqR x.r else tqS x.k
def cleV (v : WV) : Tq := if v.kind = 1 then tqN v.S else if v.kind = 2 then tqC (v.N : Nat) else if v.kind = 3 then tqR (v.R : Nat) else tqS (v.kind : Nat)
theorem wordV_clean (t : ByteArray) : qOf (wordV t) = cleV (wordV t) := by
  unfold wordV
  split
  · rfl
  · split
    · rfl
    · split
      · rfl
      · split
        · rfl
        · have h1 := sgn_kind t
          have h2 : (sgnV t).1 ≠ 2 := by
            unfold sgnV
            repeat' split
            all_goals (show (_ : Nat) ≠ 2; decide)
          have h3 : (sgnV t).1 ≠ 3 := by
            unfold sgnV
            repeat' split
            all_goals (show (_ : Nat) ≠ 3; decide)
          unfold cleV
          dsimp only
          rw [if_neg h1, if_neg h2, if_neg h3]
          rfl
theorem ws_clean (s : ByteArray) : ∀ x ∈ wsOf s, CleW x := by
  intro x hx
  unfold wsOf at hx
  obtain ⟨y, hy, rfl⟩ := List.mem_map.1 hx
  have hv := ((words_places s).1 y hy).v
  have h := wordV_clean (rst s y.b)
  rw [← hv] at h
  unfold CleW
  show qOf y.v = (if ((y.v.kind : Nat) : Int) = 1 then tqN y.v.S else if ((y.v.kind : Nat) : Int) = 2 then tqC (y.v.N : Nat) else if ((y.v.kind : Nat) : Int) = 3 then tqR (y.v.R : Nat) else tqS (y.v.kind : Nat))
  have e1 : (((y.v.kind : Nat) : Int) = 1) = (y.v.kind = 1) := propext (by omega)
  have e2 : (((y.v.kind : Nat) : Int) = 2) = (y.v.kind = 2) := propext (by omega)
  have e3 : (((y.v.kind : Nat) : Int) = 3) = (y.v.kind = 3) := propext (by omega)
  rw [h]
  unfold cleV
  simp only [e1, e2, e3]
theorem ok_of {r : RuD} (n : Nat) (hn : r.n = n) (h1 : 1 ≤ n) (h8 : n ≤ 8) (h56 : (n = 5 ∨ n = 6) → r.tu ≠ []) : r.ok := by subst hn; exact ⟨h1, h8, h56⟩
theorem cle1 {x : W8} (h : CleW x) (hk : x.k = 1) : stripW x = tqN x.S := by unfold CleW at h; rw [h, if_pos hk]
theorem cle2 {x : W8} (h : CleW x) (hk : x.k = 2) : stripW x = tqC x.n := by unfold CleW at h; rw [h, if_neg (by omega), if_pos hk]
theorem cle3 {x : W8} (h : CleW x) (hk : x.k = 3) : stripW x = tqR x.r := by unfold CleW at h; rw [h, if_neg (by omega), if_neg (by omega), if_pos hk]
theorem cle4 {x : W8} (h : CleW x) {n : Int} (hk : x.k = n) (hn : 4 ≤ n) : stripW x = tqS n := by unfold CleW at h; rw [h, if_neg (by omega), if_neg (by omega), if_neg (by omega), hk]
theorem spD_inv {ws : List W8} {k : Nat} {bad : Option Rf} {eb el ec : Int} (hg : ∀ x ∈ ws, CleW x) (h : (spanV ws k bad eb el ec).bad = none) : bad = none ∧ ∃ s : SpD, Has ws k s.q ∧ ((spanV ws k bad eb el ec).lo, (spanV ws k bad eb el ec).hi) = s.v ∧ (spanV ws k bad eb el ec).k = k + s.q.length := by
  unfold spanV at h ⊢
  dsimp only at h ⊢
  by_cases hs : seesB ws (takeV ws k bad eb el ec 3).k (takeV ws k bad eb el ec 3).bad 9 = true
  · rw [if_pos hs] at h ⊢
    dsimp only at h ⊢
    obtain ⟨h1, z, hz, zk, ez⟩ := take_inv h
    obtain ⟨h2, y, hy, yk, ey⟩ := take_inv h1
    obtain ⟨h3, x, hx, xk, ex⟩ := take_inv h2
    rw [ez, ey, ex]
    rw [ey] at hz
    rw [ex] at hz hy
    dsimp only at hz hy ⊢
    refine ⟨h3, ⟨x.r, z.r, true⟩, ⟨⟨x, hx, cle3 (hg x (List.mem_of_getElem? hx)) xk⟩, ⟨y, hy, cle4 (hg y (List.mem_of_getElem? hy)) yk (by decide)⟩, ⟨z, hz, cle3 (hg z (List.mem_of_getElem? hz)) zk⟩, trivial⟩, rfl, rfl⟩
  · rw [if_neg hs] at h ⊢
    dsimp only at h ⊢
    obtain ⟨h3, x, hx, xk, ex⟩ := take_inv h
    rw [ex]
    refine ⟨h3, ⟨x.r, x.r, false⟩, ⟨⟨x, hx, cle3 (hg x (List.mem_of_getElem? hx)) xk⟩, trivial⟩, rfl, rfl⟩
theorem spDs_inv {ws : List W8} {eb el ec : Int} (hg : ∀ x ∈ ws, CleW x) : ∀ (f k : Nat) (bad : Option Rf), (spansGo ws eb el ec f k bad).bad = none → bad = none ∧ ∃ l : List SpD, Has ws k (l.flatMap SpD.q) ∧ (spansGo ws eb el ec f k bad).ss = l.map SpD.v ∧ (spansGo ws eb el ec f k bad).k = k + (l.flatMap SpD.q).length
  | 0, k, bad, h => ⟨h, [], trivial, rfl, rfl⟩
  | f + 1, k, bad, h => by
    unfold spansGo at h ⊢
    by_cases hs : seesB ws k bad 3 = true
    · rw [if_pos hs] at h ⊢
      dsimp only at h ⊢
      obtain ⟨h1, l, h2, h3, h4⟩ := spDs_inv hg f _ _ h
      obtain ⟨h5, s, h6, h7, h8⟩ := spD_inv hg h1
      refine ⟨h5, s :: l, ?_, ?_, ?_⟩
      · rw [List.flatMap_cons]
        exact has_app.2 ⟨h6, by rw [← h8]; exact h2⟩
      · rw [h3, h7]; rfl
      · rw [h4, h8, List.flatMap_cons, List.length_append]; omega
    · rw [if_neg hs] at h ⊢
      exact ⟨h, [], trivial, rfl, rfl⟩
theorem sps_inv {ws : List W8} {k : Nat} {bad : Option Rf} {eb el ec : Int} (hg : ∀ x ∈ ws, CleW x) (h : (spansV ws k bad eb el ec).bad = none) : bad = none ∧ ∃ l : List SpD, Has ws k (spsQ l) ∧ (spansV ws k bad eb el ec).ss = l.map SpD.v ∧ (spansV ws k bad eb el ec).k = k + (spsQ l).length := by
  unfold spansV at h ⊢
  dsimp only at h ⊢
  obtain ⟨h1, z, hz, zk, ez⟩ := take_inv h
  obtain ⟨h2, l, h3, h4, h5⟩ := spDs_inv hg _ _ _ h1
  obtain ⟨h6, x, hx, xk, ex⟩ := take_inv h2
  have e1 : (takeV ws k bad eb el ec 4).k = k + 1 := by rw [ex]
  rw [e1] at h3 h5
  refine ⟨h6, l, ⟨⟨x, hx, cle4 (hg x (List.mem_of_getElem? hx)) xk (by decide)⟩, has_app.2 ⟨h3, ⟨z, by rw [← h5, ← e1]; exact hz, cle4 (hg z (List.mem_of_getElem? hz)) zk (by decide)⟩, trivial⟩⟩, h4, ?_⟩
  rw [ez, spsQ_len]
  dsimp only
  rw [e1, h5]
  omega
theorem mapGo_inv2 {ws : List W8} {eb el ec : Int} (hg : ∀ x ∈ ws, CleW x) : ∀ (f k : Nat) (bad : Option Rf), (mapGo ws eb el ec f k bad).bad = none → bad = none ∧ Has ws k ((mapGo ws eb el ec f k bad).l.map tqR) ∧ (mapGo ws eb el ec f k bad).k = k + (mapGo ws eb el ec f k bad).l.length
  | 0, k, bad, h => ⟨h, trivial, rfl⟩
  | f + 1, k, bad, h => by
    unfold mapGo at h ⊢
    by_cases hs : seesB ws k bad 3 = true
    · rw [if_pos hs] at h ⊢
      dsimp only at h ⊢
      obtain ⟨h1, h2, h3⟩ := mapGo_inv2 hg f _ _ h
      obtain ⟨h4, x, hx, xk, ex⟩ := take_inv h1
      have e1 : (takeV ws k bad eb el ec 3).k = k + 1 := by rw [ex]
      have e2 : (takeV ws k bad eb el ec 3).x = x := by rw [ex]
      refine ⟨h4, ⟨⟨x, hx, by rw [e2]; exact cle3 (hg x (List.mem_of_getElem? hx)) xk⟩, by rw [← e1]; exact h2⟩, ?_⟩
      rw [h3, List.length_cons, e1]
      omega
    · rw [if_neg hs] at h ⊢
      exact ⟨h, trivial, rfl⟩
theorem map_inv2 {ws : List W8} {k : Nat} {bad : Option Rf} {eb el ec : Int} (hg : ∀ x ∈ ws, CleW x) (h : (mapV ws k bad eb el ec).bad = none) : bad = none ∧ Has ws k (mapQ (mapV ws k bad eb el ec).fr (Mp.tw (mapV ws k bad eb el ec))) ∧ (mapV ws k bad eb el ec).k = k + (mapQ (mapV ws k bad eb el ec).fr (Mp.tw (mapV ws k bad eb el ec))).length ∧ (Mp.tw (mapV ws k bad eb el ec)) ≠ [] := by
  unfold mapV at h ⊢
  dsimp only at h ⊢
  obtain ⟨h1, z, hz, zk, ez⟩ := take_inv h
  obtain ⟨h2, h3, h4⟩ := mapGo_inv2 hg _ _ _ h1
  obtain ⟨h5, y, hy, yk, ey⟩ := take_inv h2
  obtain ⟨h6, u, hu, uk, eu⟩ := take_inv h5
  obtain ⟨h7, x, hx, xk, ex⟩ := take_inv h6
  have e1 : (takeV ws k bad eb el ec 3).k = k + 1 := by rw [ex]
  have e2 : (takeV ws k bad eb el ec 3).x = x := by rw [ex]
  have e3 : (takeV ws (takeV ws k bad eb el ec 3).k (takeV ws k bad eb el ec 3).bad eb el ec 7).k = k + 1 + 1 := by rw [eu, e1]
  rw [e1] at hu
  generalize takeV ws (takeV ws k bad eb el ec 3).k (takeV ws k bad eb el ec 3).bad eb el ec 7 = B at *
  have e4 : (takeV ws B.k B.bad eb el ec 3).k = k + 1 + 1 + 1 := by rw [ey, e3]
  have e5 : (takeV ws B.k B.bad eb el ec 3).x = y := by rw [ey]
  rw [e3] at hy
  rw [e4] at h3 h4 hz ⊢
  rw [h4] at hz
  rw [e2, e5]
  refine ⟨h7, ⟨⟨x, hx, cle3 (hg x (List.mem_of_getElem? hx)) xk⟩, ⟨u, hu, cle4 (hg u (List.mem_of_getElem? hu)) uk (by decide)⟩, ⟨y, hy, cle3 (hg y (List.mem_of_getElem? hy)) yk⟩, has_app.2 ⟨h3, by rw [List.length_map]; exact ⟨⟨z, hz, cle4 (hg z (List.mem_of_getElem? hz)) zk (by decide)⟩, trivial⟩⟩⟩, ?_, List.cons_ne_nil _ _⟩
  rw [mapQ_len, List.length_cons]
  rw [e4] at ez
  rw [ez]
  dsimp only
  rw [h4]
  omega
theorem rule_inv2 {ws : List W8} {eb el ec : Int} {k : Nat} {x : W8} {T : TV} (hg : ∀ x ∈ ws, CleW x) (hx : ws[k]? = some x) (hn : ∀ x ∈ ws, ruleNo x.S ≠ 0 → x.k = 1) (h : (ruleV ws eb el ec k x T).bad = none) : ∃ r : RuD, r.ok ∧ Has ws k r.q ∧ (ruleV ws eb el ec k x T).k = k + r.q.length ∧ (ruleV ws eb el ec k x T).T.t8 = T.t8.add r.t := by
  have h8 := ruleNo_le x.S
  have hS : ∀ n, ruleNo x.S = n → n ≠ 0 → stripW x = tqN x.S := fun n e1 e2 => cle1 (hg x (List.mem_of_getElem? hx)) (hn x (List.mem_of_getElem? hx) (by rw [e1]; exact e2))
  have hW : ∀ n, ruleNo x.S = n → x.S = (match n with | 1 => ⟨#[115, 99, 114, 105, 112, 116]⟩ | 2 => ⟨#[99, 111, 109, 109, 111, 110]⟩ | 3 => ⟨#[109, 97, 114, 107]⟩ | 4 => ⟨#[112, 97, 105, 114]⟩ | 5 => ⟨#[102, 111, 108, 100]⟩ | 6 => ⟨#[108, 111, 111, 107]⟩ | 7 => ⟨#[100, 114, 111, 112]⟩ | 8 => ⟨#[97, 108, 108, 111, 119]⟩ | _ => x.S) := by
    intro n e
    unfold ruleNo at e
    repeat' split at e
    all_goals (subst e; first | assumption | rfl)
  unfold ruleV at h ⊢
  generalize hno : ruleNo x.S = n at *
  rcases (by omega : n = 0 ∨ n = 1 ∨ n = 2 ∨ n = 3 ∨ n = 4 ∨ n = 5 ∨ n = 6 ∨ n = 7 ∨ n = 8) with rfl | rfl | rfl | rfl | rfl | rfl | rfl | rfl | rfl
  · cases h
  · have hw := hS 1 rfl (by decide)
    rw [hW 1 rfl] at hw
    simp only [ruleAt] at h ⊢
    unfold scriptV at h ⊢
    dsimp only at h ⊢
    obtain ⟨h1, l, h2, h3, h4⟩ := sps_inv hg h
    obtain ⟨h5, y, hy, yk, ey⟩ := take_inv h1
    have e1 : (takeV ws (k + 1) none eb el ec 1).k = k + 1 + 1 := by rw [ey]
    have e2 : (takeV ws (k + 1) none eb el ec 1).x = y := by rw [ey]
    rw [e1] at h2 h4
    refine ⟨⟨1, y.S, l, 0, 0, 0, []⟩, ok_of 1 rfl (by decide) (by decide) (fun q => absurd q (by decide)), ⟨⟨x, hx, hw⟩, ⟨y, hy, cle1 (hg y (List.mem_of_getElem? hy)) yk⟩, h2⟩, ?_, ?_⟩
    · rw [e1, h4]; show _ = k + ((spsQ l).length + 1 + 1); omega
    · rw [h3, e2]
      simp only [TV.t8, T8.add, RuD.t, T80, List.append_nil]
  · have hw := hS 2 rfl (by decide)
    rw [hW 2 rfl] at hw
    simp only [ruleAt] at h ⊢
    obtain ⟨h1, l, h2, h3, h4⟩ := sps_inv hg h
    refine ⟨⟨2, ByteArray.empty, l, 0, 0, 0, []⟩, ok_of 2 rfl (by decide) (by decide) (fun q => absurd q (by decide)), ⟨⟨x, hx, hw⟩, h2⟩, ?_, ?_⟩
    · rw [h4]; show _ = k + ((spsQ l).length + 1); omega
    · rw [h3]
      simp only [TV.t8, T8.add, RuD.t, T80, List.append_nil]
  · have hw := hS 3 rfl (by decide)
    rw [hW 3 rfl] at hw
    simp only [ruleAt] at h ⊢
    unfold markV at h ⊢
    dsimp only at h ⊢
    obtain ⟨h1, z, hz, zk, ez⟩ := take_inv h
    obtain ⟨h2, u, hu, uk, eu⟩ := take_inv h1
    obtain ⟨h4, y, hy, yk, ey⟩ := take_inv h2
    rw [ez, eu, ey]
    rw [eu, ey] at hz
    rw [ey] at hu
    dsimp only at hz hu ⊢
    refine ⟨⟨3, ByteArray.empty, [], y.r, u.n, 0, []⟩, ok_of 3 rfl (by decide) (by decide) (fun q => absurd q (by decide)), ⟨⟨x, hx, hw⟩, ⟨y, hy, cle3 (hg y (List.mem_of_getElem? hy)) yk⟩, ⟨u, hu, cle2 (hg u (List.mem_of_getElem? hu)) uk⟩, ⟨z, hz, cle4 (hg z (List.mem_of_getElem? hz)) zk (by decide)⟩, trivial⟩, rfl, ?_⟩
    simp only [TV.t8, T8.add, RuD.t, T80, List.append_nil]
  · have hw := hS 4 rfl (by decide)
    rw [hW 4 rfl] at hw
    simp only [ruleAt] at h ⊢
    unfold pairV at h ⊢
    dsimp only at h ⊢
    obtain ⟨h1, z, hz, zk, ez⟩ := take_inv h
    obtain ⟨h2, u, hu, uk, eu⟩ := take_inv h1
    obtain ⟨h3, v, hv, vk, ev⟩ := take_inv h2
    obtain ⟨h5, p, hp, pk, ep⟩ := take_inv h3
    obtain ⟨h6, q, hq, qk, eq⟩ := take_inv h5
    obtain ⟨h4, y, hy, yk, ey⟩ := take_inv h6
    rw [ez, eu, ev, ep, eq, ey]
    rw [eu, ev, ep, eq, ey] at hz
    rw [ev, ep, eq, ey] at hu
    rw [ep, eq, ey] at hv
    rw [eq, ey] at hp
    rw [ey] at hq
    dsimp only at hz hu hv hp hq ⊢
    refine ⟨⟨4, ByteArray.empty, [], y.r, p.r, u.r, []⟩, ok_of 4 rfl (by decide) (by decide) (fun q => absurd q (by decide)), ⟨⟨x, hx, hw⟩, ⟨y, hy, cle3 (hg y (List.mem_of_getElem? hy)) yk⟩, ⟨q, hq, cle4 (hg q (List.mem_of_getElem? hq)) qk (by decide)⟩, ⟨p, hp, cle3 (hg p (List.mem_of_getElem? hp)) pk⟩, ⟨v, hv, cle4 (hg v (List.mem_of_getElem? hv)) vk (by decide)⟩, ⟨u, hu, cle3 (hg u (List.mem_of_getElem? hu)) uk⟩, ⟨z, hz, cle4 (hg z (List.mem_of_getElem? hz)) zk (by decide)⟩, trivial⟩, rfl, ?_⟩
    simp only [TV.t8, T8.add, RuD.t, T80, List.append_nil]
  · have hw := hS 5 rfl (by decide)
    rw [hW 5 rfl] at hw
    simp only [ruleAt] at h ⊢
    obtain ⟨h1, h2, h3, h4⟩ := map_inv2 hg h
    generalize mapV ws (k + 1) none eb el ec = V at *
    refine ⟨⟨5, ByteArray.empty, [], V.fr, 0, 0, V.tw⟩, ok_of 5 rfl (by decide) (by decide) (fun _ => h4), ⟨⟨x, hx, hw⟩, h2⟩, ?_, ?_⟩
    · rw [h3]; show _ = k + ((mapQ V.fr V.tw).length + 1); omega
    · simp only [TV.t8, T8.add, RuD.t, T80, List.append_nil]
  · have hw := hS 6 rfl (by decide)
    rw [hW 6 rfl] at hw
    simp only [ruleAt] at h ⊢
    obtain ⟨h1, h2, h3, h4⟩ := map_inv2 hg h
    generalize mapV ws (k + 1) none eb el ec = V at *
    refine ⟨⟨6, ByteArray.empty, [], V.fr, 0, 0, V.tw⟩, ok_of 6 rfl (by decide) (by decide) (fun _ => h4), ⟨⟨x, hx, hw⟩, h2⟩, ?_, ?_⟩
    · rw [h3]; show _ = k + ((mapQ V.fr V.tw).length + 1); omega
    · simp only [TV.t8, T8.add, RuD.t, T80, List.append_nil]
  · have hw := hS 7 rfl (by decide)
    rw [hW 7 rfl] at hw
    simp only [ruleAt] at h ⊢
    obtain ⟨h1, l, h2, h3, h4⟩ := sps_inv hg h
    refine ⟨⟨7, ByteArray.empty, l, 0, 0, 0, []⟩, ok_of 7 rfl (by decide) (by decide) (fun q => absurd q (by decide)), ⟨⟨x, hx, hw⟩, h2⟩, ?_, ?_⟩
    · rw [h4]; show _ = k + ((spsQ l).length + 1); omega
    · rw [h3]
      simp only [TV.t8, T8.add, RuD.t, T80, List.append_nil]
  · have hw := hS 8 rfl (by decide)
    rw [hW 8 rfl] at hw
    simp only [ruleAt] at h ⊢
    obtain ⟨h1, l, h2, h3, h4⟩ := sps_inv hg h
    refine ⟨⟨8, ByteArray.empty, l, 0, 0, 0, []⟩, ok_of 8 rfl (by decide) (by decide) (fun q => absurd q (by decide)), ⟨⟨x, hx, hw⟩, h2⟩, ?_, ?_⟩
    · rw [h4]; show _ = k + ((spsQ l).length + 1); omega
    · rw [h3]
      simp only [TV.t8, T8.add, RuD.t, T80, List.append_nil]
theorem rules_inv2 {ws : List W8} {eb el ec : Int} (hg : ∀ x ∈ ws, CleW x) (hn : ∀ x ∈ ws, ruleNo x.S ≠ 0 → x.k = 1) : ∀ (f k : Nat) (T : TV), ws.length - k < f → k ≤ ws.length → (rulesGo ws eb el ec f k none T).bad = none → ∃ l : List RuD, (∀ r ∈ l, r.ok) ∧ Has ws k (l.flatMap RuD.q) ∧ k + (l.flatMap RuD.q).length = ws.length ∧ (rulesGo ws eb el ec f k none T).T.t8 = T.t8.add (sumT l)
  | 0, k, T, hf, _, _ => by omega
  | f + 1, k, T, hf, hk, h => by
    cases hx : ws[k]? with
    | none =>
      have hk2 : k = ws.length := by
        rcases Nat.lt_or_ge k ws.length with q | q
        · rw [List.getElem?_eq_getElem q] at hx; cases hx
        · omega
      subst hk2
      rw [rules_end]
      exact ⟨[], fun r hr => (by cases hr), trivial, rfl, (T8.add_zero _).symm⟩
    | some x =>
      have e : rulesGo ws eb el ec (f + 1) k none T = rulesGo ws eb el ec f (ruleV ws eb el ec k x T).k (ruleV ws eb el ec k x T).bad (ruleV ws eb el ec k x T).T := by
        conv => lhs; unfold rulesGo
        rw [hx]
      rw [e] at h ⊢
      cases hb : (ruleV ws eb el ec k x T).bad with
      | some r => rw [hb, rulesGo_some] at h; cases h
      | none =>
        obtain ⟨r, r1, r2, r3, r4⟩ := rule_inv2 hg hx hn hb
        have hp := ruD_pos r
        have hle := has_le r2 hk
        rw [hb, r3] at h
        rw [r3]
        obtain ⟨l, l1, l2, l3, l4⟩ := rules_inv2 hg hn f (k + r.q.length) _ (by omega) hle h
        refine ⟨r :: l, fun z hz => ?_, ?_, ?_, ?_⟩
        · rcases List.mem_cons.1 hz with rfl | hz
          · exact r1
          · exact l1 z hz
        · rw [List.flatMap_cons]; exact has_app.2 ⟨r2, l2⟩
        · rw [List.flatMap_cons, List.length_append]; omega
        · rw [l4, r4]; exact T8.add_assoc _ _ _
theorem has_strip {ws : List W8} : ∀ {qs : List Tq} {k : Nat}, Has ws k qs → k + qs.length = ws.length → (ws.drop k).map stripW = qs
  | [], k, _, h => by rw [List.drop_eq_nil_of_le (by have : k + 0 = ws.length := h; omega)]; rfl
  | q :: qs, k, h, hl => by
    obtain ⟨⟨x, hx, ex⟩, h2⟩ := h
    have hk := (List.getElem?_eq_some_iff.1 hx).1
    rw [List.length_cons] at hl
    rw [List.drop_eq_getElem_cons hk, List.map_cons, has_strip h2 (by omega)]
    have : ws[k] = x := by rw [List.getElem?_eq_getElem hk] at hx; exact Option.some.inj hx
    rw [this, ex]
theorem parse_rules {s : ByteArray} (hs : s.size ≤ 262144) {k : Nat} {T : TV} (h : parseA s = ⟨k, none, T⟩) : (wordsV s).ok = true ∧ ∃ l : List RuD, (∀ r ∈ l, r.ok) ∧ (wsOf s).map stripW = l.flatMap RuD.q ∧ T.t8 = sumT l := by
  have hok : (wordsV s).ok = true := by
    cases hw : (wordsV s).ok with
    | true => rfl
    | false => unfold parseA at h; rw [hw, if_neg (by decide)] at h; cases h
  have hp : parseV s = ⟨k, none, T⟩ := by unfold parseA at h; rw [if_pos hok] at h; exact h
  unfold parseV rulesV at hp
  obtain ⟨l, l1, l2, l3, l4⟩ := rules_inv2 (ws_clean s) (wsOf_S s hs).1 (eb := (s.size : Nat)) (el := endL s) (ec := endC s) ((wsOf s).length + 1) 0 TV0 (by omega) (Nat.zero_le _) (by rw [hp])
  rw [hp] at l4
  refine ⟨hok, l, l1, ?_, ?_⟩
  · have := has_strip l2 l3
    rwa [List.drop_zero] at this
  · have e : TV0.t8 = T80 := rfl
    rw [e, T8.zero_add] at l4
    exact l4
theorem rules_parse {s : ByteArray} (hok : (wordsV s).ok = true) {l : List RuD} (hl : ∀ r ∈ l, r.ok) (hw : (wsOf s).map stripW = l.flatMap RuD.q) : ∃ k T, parseA s = ⟨k, none, T⟩ ∧ T.t8 = sumT l := by
  have hh : Has (wsOf s) 0 (l.flatMap RuD.q) := by rw [← hw]; exact has_self (wsOf s) []
  have hlen : (l.flatMap RuD.q).length = (wsOf s).length := by rw [← hw, List.length_map]
  have hge : l.length ≤ (l.flatMap RuD.q).length := flat_ge RuD.q ruD_pos l
  have := rules_tok (eb := (s.size : Nat)) (el := endL s) (ec := endC s) l ((wsOf s).length + 1) 0 TV0 hl hh (by omega) (by omega)
  have e : parseA s = rulesGo (wsOf s) (s.size : Nat) (endL s) (endC s) ((wsOf s).length + 1) 0 none TV0 := by unfold parseA; rw [if_pos hok]; rfl
  rw [← e] at this
  generalize parseA s = P at *
  obtain ⟨k, bad, T⟩ := P
  obtain ⟨h1, h2⟩ := this
  dsimp only at h1 h2
  subst h1
  refine ⟨k, T, rfl, ?_⟩
  have e2 : TV0.t8 = T80 := rfl
  rw [e2, T8.zero_add] at h2
  exact h2
theorem app_congr {α : Type} {a b c d : List α} (h1 : a = c) (h2 : b = d) : a ++ b = c ++ d := by rw [h1, h2]
theorem words_join {a b : ByteArray} (ha : (wordsV a).ok = true) (hb : (wordsV b).ok = true) : (wordsV (joinT a b)).ok = true ∧ (wsOf (joinT a b)).map stripW = (wsOf a).map stripW ++ (wsOf b).map stripW := by
  cases hpa : posV a with
  | none => rw [words_none hpa] at ha; cases ha
  | some ps =>
    cases hpb : posV b with
    | none => rw [words_none hpb] at hb; cases hb
    | some qs =>
      have hj := pos_join hpa hpb
      have w1 := words_pos hj
      have w2 := words_pos hpa
      have w3 := words_pos hpb
      refine ⟨w1.1, ?_⟩
      unfold wsOf
      rw [w1.2, w2.2, w3.2, List.map_append]
      simp only [List.map_map, List.map_append]
      refine app_congr ?_ ?_
      · refine List.map_congr_left (fun p hp => ?_)
        have hm := cutP_mem a _ 0 ps (Nat.zero_le _) hpa p hp
        show stripW (w8 (mkW (joinT a b) p)) = stripW (w8 (mkW a p))
        rw [mk_left hm.1 hm.2]
      · refine List.map_congr_left (fun q hq => ?_)
        have hm := cutP_mem b _ 0 qs (Nat.zero_le _) hpb q hq
        show stripW (w8 (mkW (joinT a b) (a.size + 1 + q))) = stripW (w8 (mkW b q))
        rw [mk_right (by omega)]
        generalize mkW b q = mm
        rfl
theorem parse_join {a b : ByteArray} (ha : a.size ≤ 131071) (hb : b.size ≤ 131071) {k1 k2 : Nat} {T1 T2 : TV} (h1 : parseA a = ⟨k1, none, T1⟩) (h2 : parseA b = ⟨k2, none, T2⟩) : ∃ k T, parseA (joinT a b) = ⟨k, none, T⟩ ∧ T.t8 = T1.t8.add T2.t8 := by
  obtain ⟨o1, l1, p1, q1, r1⟩ := parse_rules (by omega) h1
  obtain ⟨o2, l2, p2, q2, r2⟩ := parse_rules (by omega) h2
  obtain ⟨o3, w3⟩ := words_join o1 o2
  rw [q1, q2, ← List.flatMap_append] at w3
  obtain ⟨k, T, h3, h4⟩ := rules_parse o3 (l := l1 ++ l2) (fun r hr => by
    rcases List.mem_append.1 hr with h | h
    · exact p1 r h
    · exact p2 r h) w3
  exact ⟨k, T, h3, by rw [h4, sumT_app, r1, r2]⟩
def spd (s : Int × Int) : SpD := ⟨s.1, s.2, decide (s.2 ≠ s.1)⟩
theorem spd_q (s : Int × Int) : (spd s).q = spanQ s := by
  unfold SpD.q spd spanQ
  by_cases h : s.2 = s.1
  · rw [if_pos h]
    dsimp only
    rw [if_neg (by simp [h])]
  · rw [if_neg h]
    dsimp only
    rw [if_pos (by simpa using h)]
theorem spd_v (s : Int × Int) : (spd s).v = s := by
  obtain ⟨a, b⟩ := s
  unfold SpD.v spd
  by_cases h : b = a
  · subst h
    dsimp only
    rw [if_neg (by simp)]
  · dsimp only
    rw [if_pos (by simpa using h)]
theorem spds_q : ∀ (l : List (Int × Int)), (l.map spd).flatMap SpD.q = l.flatMap spanQ
  | [] => rfl
  | s :: l => by rw [List.map_cons, List.flatMap_cons, List.flatMap_cons, spd_q, spds_q l]
theorem spds_v : ∀ (l : List (Int × Int)), (l.map spd).map SpD.v = l
  | [] => rfl
  | s :: l => by rw [List.map_cons, List.map_cons, spd_v, spds_v l]
theorem spds_qq (l : List (Int × Int)) : spsQ (l.map spd) = spansQ l := by unfold spsQ spansQ; rw [spds_q]
def ru1 (x : ByteArray × List (Int × Int)) : RuD := ⟨1, x.1, x.2.map spd, 0, 0, 0, []⟩
def ruL (n : Nat) (l : List (Int × Int)) : RuD := ⟨n, ByteArray.empty, l.map spd, 0, 0, 0, []⟩
def ru3 (x : Int × Int) : RuD := ⟨3, ByteArray.empty, [], x.1, x.2, 0, []⟩
def ru4 (x : Int × Int × Int) : RuD := ⟨4, ByteArray.empty, [], x.1, x.2.1, x.2.2, []⟩
def ru5 (n : Nat) (x : Int × ByteArray) : RuD := ⟨n, ByteArray.empty, [], x.1, 0, 0, runesL x.2⟩
def rulesT (T : TV) : List RuD := T.sc.map ru1 ++ ((liS T.co).map (ruL 2) ++ (T.ma.map ru3 ++ (T.pr.map ru4 ++ (T.fo.map (ru5 5) ++ (T.lk.map (ru5 6) ++ ((liS T.dr).map (ruL 7) ++ (liS T.al).map (ruL 8)))))))
theorem rulesT_q (T : TV) : (rulesT T).flatMap RuD.q = toksT T := by
  unfold rulesT toksT
  simp only [List.flatMap_append, List.flatMap_map]
  have e1 : ∀ x, (ru1 x).q = scQ x := fun x => by show _ :: _ :: spsQ (x.2.map spd) = _; rw [spds_qq]; rfl
  have e2 : ∀ l, (ruL 2 l).q = coQ l := fun l => by show _ :: spsQ (l.map spd) = _; rw [spds_qq]; rfl
  have e7 : ∀ l, (ruL 7 l).q = drQ l := fun l => by show _ :: spsQ (l.map spd) = _; rw [spds_qq]; rfl
  have e8 : ∀ l, (ruL 8 l).q = alQ l := fun l => by show _ :: spsQ (l.map spd) = _; rw [spds_qq]; rfl
  have e5 : ∀ x, (ru5 5 x).q = foQ (runesX x) := fun x => rfl
  have e6 : ∀ x, (ru5 6 x).q = lkQ (runesX x) := fun x => rfl
  have e3 : ∀ x, (ru3 x).q = maQ x := fun x => rfl
  have e4 : ∀ x, (ru4 x).q = prQ x := fun x => rfl
  simp only [e1, e2, e3, e4, e5, e6, e7, e8]
theorem rulesT_ok {T : TV} (h : okT T = true) : ∀ r ∈ rulesT T, r.ok := by
  obtain ⟨_, _, _, _, o5, o6, _, _⟩ := okT_parts h
  obtain ⟨_, n5⟩ := maps_back o5
  obtain ⟨_, n6⟩ := maps_back o6
  intro r hr
  unfold rulesT at hr
  simp only [List.mem_append, List.mem_map] at hr
  rcases hr with ⟨x, _, rfl⟩ | ⟨x, _, rfl⟩ | ⟨x, _, rfl⟩ | ⟨x, _, rfl⟩ | ⟨x, hx, rfl⟩ | ⟨x, hx, rfl⟩ | ⟨x, _, rfl⟩ | ⟨x, _, rfl⟩
  · exact ok_of 1 rfl (by decide) (by decide) (fun q => absurd q (by decide))
  · exact ok_of 2 rfl (by decide) (by decide) (fun q => absurd q (by decide))
  · exact ok_of 3 rfl (by decide) (by decide) (fun q => absurd q (by decide))
  · exact ok_of 4 rfl (by decide) (by decide) (fun q => absurd q (by decide))
  · exact ok_of 5 rfl (by decide) (by decide) (fun _ => n5 (runesX x) (List.mem_map.2 ⟨x, hx, rfl⟩))
  · exact ok_of 6 rfl (by decide) (by decide) (fun _ => n6 (runesX x) (List.mem_map.2 ⟨x, hx, rfl⟩))
  · exact ok_of 7 rfl (by decide) (by decide) (fun q => absurd q (by decide))
  · exact ok_of 8 rfl (by decide) (by decide) (fun q => absurd q (by decide))
theorem sum1 : ∀ (l : List (ByteArray × List (Int × Int))), sumT (l.map ru1) = { T80 with sc := l }
  | [] => rfl
  | x :: l => by
    show (ru1 x).t.add (sumT (l.map ru1)) = _
    rw [sum1 l]
    show T8.add { T80 with sc := [(x.1, (x.2.map spd).map SpD.v)] } _ = _
    rw [spds_v]
    rfl
theorem sum3 : ∀ (l : List (Int × Int)), sumT (l.map ru3) = { T80 with ma := l }
  | [] => rfl
  | x :: l => by show (ru3 x).t.add (sumT (l.map ru3)) = _; rw [sum3 l]; rfl
theorem sum4 : ∀ (l : List (Int × Int × Int)), sumT (l.map ru4) = { T80 with pr := l }
  | [] => rfl
  | x :: l => by show (ru4 x).t.add (sumT (l.map ru4)) = _; rw [sum4 l]; rfl
theorem sum5 : ∀ (l : List (Int × ByteArray)), sumT (l.map (ru5 5)) = { T80 with fo := l.map (fun x => (x.1, runesBytes (runesL x.2))) }
  | [] => rfl
  | x :: l => by show (ru5 5 x).t.add (sumT (l.map (ru5 5))) = _; rw [sum5 l]; rfl
theorem sum6 : ∀ (l : List (Int × ByteArray)), sumT (l.map (ru5 6)) = { T80 with lk := l.map (fun x => (x.1, runesBytes (runesL x.2))) }
  | [] => rfl
  | x :: l => by show (ru5 6 x).t.add (sumT (l.map (ru5 6))) = _; rw [sum6 l]; rfl
theorem sumL (n : Nat) (l : List (Int × Int)) : sumT ((liS l).map (ruL n)) = if l.length = 0 then T80 else (ruL n l).t := by
  unfold liS
  by_cases h : l.length = 0
  · rw [if_pos h, if_pos h]; rfl
  · rw [if_neg h, if_neg h]
    show (ruL n l).t.add T80 = _
    rw [T8.add_zero]
theorem sum2 (l : List (Int × Int)) : sumT ((liS l).map (ruL 2)) = { T80 with co := l } := by
  rw [sumL]
  split
  · rename_i h; rw [List.length_eq_zero_iff.1 h]; rfl
  · show { T80 with co := (l.map spd).map SpD.v } = _; rw [spds_v]
theorem sum7 (l : List (Int × Int)) : sumT ((liS l).map (ruL 7)) = { T80 with dr := l } := by
  rw [sumL]
  split
  · rename_i h; rw [List.length_eq_zero_iff.1 h]; rfl
  · show { T80 with dr := (l.map spd).map SpD.v } = _; rw [spds_v]
theorem sum8 (l : List (Int × Int)) : sumT ((liS l).map (ruL 8)) = { T80 with al := l } := by
  rw [sumL]
  split
  · rename_i h; rw [List.length_eq_zero_iff.1 h]; rfl
  · show { T80 with al := (l.map spd).map SpD.v } = _; rw [spds_v]
theorem rulesT_sum {T : TV} (h : okT T = true) : sumT (rulesT T) = T.t8 := by
  obtain ⟨_, _, _, _, o5, o6, _, _⟩ := okT_parts h
  have e5 := (maps_back o5).1
  have e6 := (maps_back o6).1
  rw [List.map_map] at e5 e6
  unfold rulesT
  simp only [sumT_app, sum1, sum2, sum3, sum4, sum5, sum6, sum7, sum8]
  rw [show T.fo.map (fun x => (x.1, runesBytes (runesL x.2))) = T.fo from e5, show T.lk.map (fun x => (x.1, runesBytes (runesL x.2))) = T.lk from e6]
  simp only [T8.add, T80, List.nil_append, List.append_nil, TV.t8]
def pairsT (T : TV) : List (ByteArray × UInt8) := (linesT T).flatMap lineP
def catB (Ts : List TV) : ByteArray := sepB (Ts.flatMap pairsT)
theorem sepB_cat (a b : List (ByteArray × UInt8)) : sepB (a ++ b) = sepB a ++ sepB b := by
  have h := sepB_app a b
  have e : (sepB a ++ sepB b).data.toList = (sepB a).data.toList ++ (sepB b).data.toList := by simp
  rw [← e] at h
  have h2 : (sepB (a ++ b)).data = (sepB a ++ sepB b).data := Array.ext' h
  generalize sepB (a ++ b) = x at *
  generalize sepB a ++ sepB b = y at *
  obtain ⟨x⟩ := x
  obtain ⟨y⟩ := y
  dsimp only at h2
  rw [h2]
theorem catB_snoc (Ts : List TV) (T : TV) : catB (Ts ++ [T]) = catB Ts ++ textT T := by
  unfold catB
  rw [List.flatMap_append, sepB_cat]
  congr 1
  show sepB (pairsT T ++ []) = _
  rw [List.append_nil]
  rfl
theorem catB_nil : catB [] = ByteArray.empty := rfl
def toksL (Ts : List TV) : List Tq := Ts.flatMap toksT
theorem ones_cat : ∀ (Ts : List TV), (∀ T ∈ Ts, okT T = true) → ∃ vs, OnesL (Ts.flatMap pairsT) vs ∧ vs.map qOf = toksL Ts
  | [], _ => ⟨[], trivial, rfl⟩
  | T :: Ts, h => by
    obtain ⟨vs, h1, h2⟩ := ones_sep (pairsT T) (toksT T) (fun x hx => by
      obtain ⟨l, _, hl⟩ := List.mem_flatMap.1 hx
      exact lineP_blank l x hl) (by unfold pairsT; rw [flat_fst]; exact q_table (h T (List.mem_cons_self ..)))
    obtain ⟨us, h3, h4⟩ := ones_cat Ts (fun x hx => h x (List.mem_cons_of_mem _ hx))
    refine ⟨vs ++ us, ?_, ?_⟩
    · rw [List.flatMap_cons]; exact onesL_app h1 h3
    · rw [List.map_append, h2, h4]; rfl
theorem words_cat {Ts : List TV} (h : ∀ T ∈ Ts, okT T = true) : (wordsV (catB Ts)).ok = true ∧ (wsOf (catB Ts)).map stripW = toksL Ts := by
  obtain ⟨vs, h1, h2⟩ := ones_cat Ts h
  obtain ⟨h3, h4, h5⟩ := words_sep h1
  have e : wsOf (catB Ts) = (places 0 (Ts.flatMap pairsT)).map (fun q => w8 (mkW (catB Ts) q)) := by
    unfold wsOf catB
    rw [h4, List.map_map]
    rfl
  refine ⟨h3, ?_⟩
  have e2 : ∀ q, stripW (w8 (mkW (catB Ts) q)) = qOf (wordV (rst (catB Ts) q)) := fun q => by
    generalize hv : wordV (rst (catB Ts) q) = v
    unfold w8 mkW stripW qOf
    rw [hv]
  rw [e, List.map_map, ← h2, ← h5, List.map_map]
  exact List.map_congr_left (fun q _ => e2 q)
def sum8T : List TV → T8
  | [] => T80
  | T :: l => T.t8.add (sum8T l)
theorem sum_rules : ∀ (Ts : List TV), (∀ T ∈ Ts, okT T = true) → sumT (Ts.flatMap rulesT) = sum8T Ts
  | [], _ => rfl
  | T :: Ts, h => by rw [List.flatMap_cons, sumT_app, rulesT_sum (h T (List.mem_cons_self ..)), sum_rules Ts (fun x hx => h x (List.mem_cons_of_mem _ hx))]; rfl
theorem toks_rules : ∀ (Ts : List TV), (Ts.flatMap rulesT).flatMap RuD.q = toksL Ts
  | [] => rfl
  | T :: Ts => by rw [List.flatMap_cons, List.flatMap_append, rulesT_q, toks_rules Ts]; rfl
theorem parse_cat {Ts : List TV} (h : ∀ T ∈ Ts, okT T = true) : ∃ k T, parseA (catB Ts) = ⟨k, none, T⟩ ∧ T.t8 = sum8T Ts := by
  obtain ⟨o, w⟩ := words_cat h
  rw [← toks_rules] at w
  obtain ⟨k, T, h1, h2⟩ := rules_parse o (l := Ts.flatMap rulesT) (fun r hr => by
    obtain ⟨T, hT, hr⟩ := List.mem_flatMap.1 hr
    exact rulesT_ok (h T hT) r hr) w
  exact ⟨k, T, h1, by rw [h2, sum_rules Ts h]⟩
def single (T : TV) : Nat → TV
  | 0 => { TV0 with sc := T.sc } | 1 => { TV0 with co := T.co } | 2 => { TV0 with ma := T.ma } | 3 => { TV0 with pr := T.pr } | 4 => { TV0 with fo := T.fo } | 5 => { TV0 with lk := T.lk } | 6 => { TV0 with dr := T.dr } | 7 => { TV0 with al := T.al } | _ => TV0
theorem single_ok {T : TV} (h : okT T = true) (c : Nat) : okT (single T c) = true := by
  obtain ⟨h1, h2, h3, h4, h5, h6, h7, h8⟩ := okT_parts h
  rcases c with _ | _ | _ | _ | _ | _ | _ | _ | c
  · exact okT_of h1 rfl rfl rfl rfl rfl rfl rfl
  · exact okT_of rfl h2 rfl rfl rfl rfl rfl rfl
  · exact okT_of rfl rfl h3 rfl rfl rfl rfl rfl
  · exact okT_of rfl rfl rfl h4 rfl rfl rfl rfl
  · exact okT_of rfl rfl rfl rfl h5 rfl rfl rfl
  · exact okT_of rfl rfl rfl rfl rfl h6 rfl rfl
  · exact okT_of rfl rfl rfl rfl rfl rfl h7 rfl
  · exact okT_of rfl rfl rfl rfl rfl rfl rfl h8
  · rfl
theorem flat_one {α : Type} (X : List α) (c : Nat) : ∀ (l : List Nat), l.Nodup → (c ∉ l → l.flatMap (fun i => if i = c then X else []) = []) ∧ (c ∈ l → l.flatMap (fun i => if i = c then X else []) = X)
  | [], _ => ⟨fun _ => rfl, fun h => by cases h⟩
  | i :: l, hn => by
    obtain ⟨h1, h2⟩ := List.nodup_cons.1 hn
    obtain ⟨a, b⟩ := flat_one X c l h2
    refine ⟨fun h => ?_, fun h => ?_⟩
    · rw [List.flatMap_cons, if_neg (fun e => h (by rw [e]; exact List.mem_cons_self ..)), a (fun q => h (List.mem_cons_of_mem _ q))]
      rfl
    · rw [List.flatMap_cons]
      by_cases e : i = c
      · subst e
        rw [if_pos rfl, a h1, List.append_nil]
      · rw [if_neg e, b (by rcases List.mem_cons.1 h with q | q; exact absurd q.symm e; exact q)]
        rfl
theorem sum8_sc : ∀ (l : List TV), (sum8T l).sc = l.flatMap (·.sc)
  | [] => rfl
  | T :: l => by show T.sc ++ (sum8T l).sc = _; rw [sum8_sc l]; rfl
theorem sum8_co : ∀ (l : List TV), (sum8T l).co = l.flatMap (·.co)
  | [] => rfl
  | T :: l => by show T.co ++ (sum8T l).co = _; rw [sum8_co l]; rfl
theorem sum8_ma : ∀ (l : List TV), (sum8T l).ma = l.flatMap (·.ma)
  | [] => rfl
  | T :: l => by show T.ma ++ (sum8T l).ma = _; rw [sum8_ma l]; rfl
theorem sum8_pr : ∀ (l : List TV), (sum8T l).pr = l.flatMap (·.pr)
  | [] => rfl
  | T :: l => by show T.pr ++ (sum8T l).pr = _; rw [sum8_pr l]; rfl
theorem sum8_fo : ∀ (l : List TV), (sum8T l).fo = l.flatMap (·.fo)
  | [] => rfl
  | T :: l => by show T.fo ++ (sum8T l).fo = _; rw [sum8_fo l]; rfl
theorem sum8_lk : ∀ (l : List TV), (sum8T l).lk = l.flatMap (·.lk)
  | [] => rfl
  | T :: l => by show T.lk ++ (sum8T l).lk = _; rw [sum8_lk l]; rfl
theorem sum8_dr : ∀ (l : List TV), (sum8T l).dr = l.flatMap (·.dr)
  | [] => rfl
  | T :: l => by show T.dr ++ (sum8T l).dr = _; rw [sum8_dr l]; rfl
theorem sum8_al : ∀ (l : List TV), (sum8T l).al = l.flatMap (·.al)
  | [] => rfl
  | T :: l => by show T.al ++ (sum8T l).al = _; rw [sum8_al l]; rfl
theorem single_all (T : TV) {l : List Nat} (hp : l.Perm [0, 1, 2, 3, 4, 5, 6, 7]) : sum8T (l.map (single T)) = T.t8 := by
  have hn : l.Nodup := hp.symm.nodup (by decide)
  have hm : ∀ c, c < 8 → c ∈ l := fun c hc => hp.symm.mem_iff.1 (by
    rcases (by omega : c = 0 ∨ c = 1 ∨ c = 2 ∨ c = 3 ∨ c = 4 ∨ c = 5 ∨ c = 6 ∨ c = 7) with rfl | rfl | rfl | rfl | rfl | rfl | rfl | rfl <;> decide)
  have e : sum8T (l.map (single T)) = ⟨(sum8T (l.map (single T))).sc, (sum8T (l.map (single T))).co, (sum8T (l.map (single T))).ma, (sum8T (l.map (single T))).pr, (sum8T (l.map (single T))).fo, (sum8T (l.map (single T))).lk, (sum8T (l.map (single T))).dr, (sum8T (l.map (single T))).al⟩ := rfl
  rw [e, sum8_sc, sum8_co, sum8_ma, sum8_pr, sum8_fo, sum8_lk, sum8_dr, sum8_al]
  simp only [List.flatMap_map]
  have f0 : (fun c => (single T c).sc) = fun i => if i = 0 then T.sc else [] := funext fun c => by rcases c with _ | _ | _ | _ | _ | _ | _ | _ | c <;> rfl
  have f1 : (fun c => (single T c).co) = fun i => if i = 1 then T.co else [] := funext fun c => by rcases c with _ | _ | _ | _ | _ | _ | _ | _ | c <;> rfl
  have f2 : (fun c => (single T c).ma) = fun i => if i = 2 then T.ma else [] := funext fun c => by rcases c with _ | _ | _ | _ | _ | _ | _ | _ | c <;> rfl
  have f3 : (fun c => (single T c).pr) = fun i => if i = 3 then T.pr else [] := funext fun c => by rcases c with _ | _ | _ | _ | _ | _ | _ | _ | c <;> rfl
  have f4 : (fun c => (single T c).fo) = fun i => if i = 4 then T.fo else [] := funext fun c => by rcases c with _ | _ | _ | _ | _ | _ | _ | _ | c <;> rfl
  have f5 : (fun c => (single T c).lk) = fun i => if i = 5 then T.lk else [] := funext fun c => by rcases c with _ | _ | _ | _ | _ | _ | _ | _ | c <;> rfl
  have f6 : (fun c => (single T c).dr) = fun i => if i = 6 then T.dr else [] := funext fun c => by rcases c with _ | _ | _ | _ | _ | _ | _ | _ | c <;> rfl
  have f7 : (fun c => (single T c).al) = fun i => if i = 7 then T.al else [] := funext fun c => by rcases c with _ | _ | _ | _ | _ | _ | _ | _ | c <;> rfl
  rw [f0, f1, f2, f3, f4, f5, f6, f7, (flat_one T.sc 0 l hn).2 (hm 0 (by decide)), (flat_one T.co 1 l hn).2 (hm 1 (by decide)), (flat_one T.ma 2 l hn).2 (hm 2 (by decide)), (flat_one T.pr 3 l hn).2 (hm 3 (by decide)), (flat_one T.fo 4 l hn).2 (hm 4 (by decide)), (flat_one T.lk 5 l hn).2 (hm 5 (by decide)), (flat_one T.dr 6 l hn).2 (hm 6 (by decide)), (flat_one T.al 7 l hn).2 (hm 7 (by decide))]
  rfl
theorem catB_size (Ts : List TV) : (catB Ts).size = (Ts.map (fun T => (textT T).size)).sum := by
  induction Ts with
  | nil => rfl
  | cons T Ts ih =>
    have e : catB (T :: Ts) = textT T ++ catB Ts := by
      unfold catB
      rw [List.flatMap_cons, sepB_cat]
      rfl
    rw [e, ByteArray.size_append, ih, List.map_cons, List.sum_cons]
theorem single_sizes (T : TV) : ([0, 1, 2, 3, 4, 5, 6, 7].map (fun c => (textT (single T c)).size)).sum = (textT T).size := by
  simp only [List.map_cons, List.map_nil, List.sum_cons, List.sum_nil, textT_wsz, linesT, single, TV0, List.flatten_append, wsz_app]
  have hz : ∀ w, wsz (liL w []).flatten = 0 := fun w => rfl
  simp only [List.flatten_nil, hz, show wsz [] = 0 from rfl]
  omega
theorem perm_size (T : TV) {l : List Nat} (hp : l.Perm [0, 1, 2, 3, 4, 5, 6, 7]) : (catB (l.map (single T))).size = (textT T).size := by
  rw [catB_size, List.map_map, ← single_sizes T]
  exact (hp.map _).sum_nat
theorem take_size (T : TV) (l : List Nat) (i : Nat) : (catB ((l.take i).map (single T))).size ≤ (catB (l.map (single T))).size := by
  conv => rhs; rw [← List.take_append_drop i l]
  rw [List.map_append]
  unfold catB
  rw [List.flatMap_append, sepB_cat, ByteArray.size_append]
  omega
theorem parse_perm {T : TV} (hk : okT T = true) {l : List Nat} (hp : l.Perm [0, 1, 2, 3, 4, 5, 6, 7]) : ∃ k T', parseA (catB (l.map (single T))) = ⟨k, none, T'⟩ ∧ T'.t8 = T.t8 := by
  obtain ⟨k, T', h1, h2⟩ := parse_cat (Ts := l.map (single T)) (fun X hX => by
    obtain ⟨c, _, rfl⟩ := List.mem_map.1 hX
    exact single_ok hk c)
  exact ⟨k, T', h1, by rw [h2, single_all T hp]⟩
end Go.Proofs.YtjgfmobmilgapaaGreatDoor
