/- UtfRunes, for every text of at most a million letters: the runes of the text, in new memory each time. -/
import Derived.Test.YtinhmhkdofoneaaBookAR
import Derived.Test.YtinhmhkdofoneaaText
import Derived.Test.YtinhmhkdofoneaaRefSpots
import Derived.Laws.OwnMore
namespace Go.Proofs.Ytinhmhkdofoneaa
open Go.RowKit Go.Shelf
set_option linter.unusedVariables false

theorem mark_any (i j : Nat) (w : World) (hi : i ≤ 1001) : Calls Try.prog 21 #[.int .i64 i, .int .i64 j] w fun e w' => e = .returned (.int .i32 (-1000 - (i : Int))) ∧ Below w.heap.size w w' := by
  have h1 : (i : Int) ≤ 1001 := by omega
  go_enter Try.func21, Try.ntmps21
  go_wp2
  go_ret
  refine ⟨?_, Below.refl _ _⟩
  first | rfl | (congr 2; simp [wrap32]; omega) | (simp [wrap32]; omega)

theorem own_base {W : World} {base base' e size n : Nat} {v : Value} {xs : List Value} (h : W.ownsRow base e size v n xs) (hb : base' ≤ base) : W.ownsRow base' e size v n xs :=
  ⟨h.1, h.2.imp id fun ⟨g, cap, cur, h1, h2, h3⟩ => ⟨g, cap, cur, h1, Nat.le_trans hb h2, h3⟩⟩
theorem own_below {W W' : World} {base e size n : Nat} {v : Value} {xs : List Value} (h : W.ownsRow base e size v n xs) (hb : Below W.heap.size W W') : W'.ownsRow base e size v n xs :=
  h.kept (grown_of_below hb) (by cases v.ownBlock <;> simp)

set_option maxHeartbeats 2000000 in
theorem runes_own (s : ByteArray) (hs : s.size ≤ 70368744177664) (w : World) : Calls Try.prog 16 #[.string s] w fun e w' => ∃ cap, e = .returned (.slice (some ⟨w.heap.size, 0, none⟩) (runesL s).length cap) ∧
    w'.ownsRow w.heap.size 21 1 (.slice (some ⟨w.heap.size, 0, none⟩) (runesL s).length cap) (runesL s).length (encR (runesL s)) ∧ Below w.heap.size w w' := by
  have hl : (Conv.runesFrom s s.size 0 #[]).size = (runesL s).length := by rw [runesFrom_all]; simp
  have h46 : (Conv.runesFrom s s.size 0 #[]).size ≤ 70368744177664 := by
    have := starts_length s; rw [hl, runesL_length]; omega
  have kc := run_runes_of_string (P := Try.prog) w 9 40 21 s Try.underlying9 Try.underlying40 Try.underlying21 h46
  have hge := grownCap_ge w (Conv.runesFrom s s.size 0 #[]).size 0 21
  have hle := grownCap_le_maxLen w (Conv.runesFrom s s.size 0 #[]).size 0 21 (by unfold maxLen; omega)
  rw [hl] at hge hle
  rw [hl, runesFrom_all] at kc
  generalize grownCap w (runesL s).length 0 21 = cap at kc hge hle
  obtain ⟨cs, hcs⟩ : ∃ cs, cs = Array.replicate (cap - (runesL s).length) (Value.int IntKind.i32 0) := ⟨_, rfl⟩
  have hsz : cs.size = cap - (runesL s).length := by rw [hcs]; simp
  rw [← hcs] at kc
  have HSZ := hide hsz
  clear h46 hl hcs hsz
  go_enter Try.func16, Try.ntmps16
  go_wp2
  go_ret
  refine ⟨cap, rfl, ⟨by simp [encR], .inr ⟨w.heap.size, cap, _, rfl, Nat.le_refl _, World.alloc_heap_new w.drew _, hge, hle, ?_, ?_⟩⟩, ((Below.refl _ _).drew).alloc (Nat.le_refl _) _⟩
  · have := unhide HSZ
    simp
    omega
  · simp [encR]

theorem flat4' (f : Nat → List Value) (hf : ∀ x, (f x).length = 4) : ∀ (l : List Nat) (k j x : Nat), l[k]? = some x → j < 4 → (l.flatMap f)[k * 4 + j]? = (f x)[j]?
  | [], k, j, x, h, hj => by simp at h
  | y :: l, 0, j, x, h, hj => by
    simp at h
    subst h
    rw [List.flatMap_cons, List.getElem?_append_left (by rw [hf]; omega)]
    simp
  | y :: l, k + 1, j, x, h, hj => by
    rw [List.flatMap_cons, List.getElem?_append_right (by rw [hf]; omega), hf, show (k + 1) * 4 + j - 4 = k * 4 + j by omega]
    exact flat4' f hf l k j x (by simpa using h) hj
theorem rows_types {W : World} {b1 b2 e1 e2 s1 s2 n1 n2 : Nat} {v1 v2 : Value} {x1 x2 : List Value} (h1 : W.ownsRow b1 e1 s1 v1 n1 x1) (h2 : W.ownsRow b2 e2 s2 v2 n2 x2) (he : e1 ≠ e2) : v1.ownBlock = none ∨ v1.ownBlock ≠ v2.ownBlock := by
  rcases h1.2 with ⟨rfl, _⟩ | ⟨g, cap, cur, rfl, _, hh, _⟩
  · exact .inl rfl
  · refine .inr fun e => ?_
    rcases h2.2 with ⟨rfl, _⟩ | ⟨g2, cap2, cur2, rfl, _, hh2, _⟩
    · simp [Value.ownBlock] at e
    · obtain rfl : g = g2 := by simpa [Value.ownBlock] using e
      rw [hh] at hh2
      simp at hh2
      exact he hh2.2
theorem infoRn : (Try.prog.info? 21).map (fun i => (i.zero, i.size, i.bytes)) = some (some (.int .i32 0), 1, 4) := by kernel_rfl
theorem one_cell (W : World) (u : Value) (t : TypeId) : ∀ j v, [u][j]? = some v → (W.alloc (.cells #[u] t)).cell? ((⟨W.heap.size, 0, none⟩ : Addr).add j) = some v := by
  intro j v hj
  rw [add_none', (Blk.new W #[u] t).cell (0 + j), ← hj]
  simp

set_option maxRecDepth 100000 in
set_option maxHeartbeats 4000000 in
theorem refRunes_any (s : ByteArray) (hs : s.size ≤ 1048576) (w : World) : Calls Try.prog 18 #[.string s] w fun e w' => ∃ v, e = .returned v ∧ w'.ownsRow w.heap.size 21 1 v (runesL s).length (encR (runesL s)) ∧ Below w.heap.size w w' := by
  obtain ⟨i0, hi, hz0, hz1, hz2⟩ := info_parts infoRn
  have HI := hide (And.intro hi (And.intro hz0 (And.intro hz1 hz2)))
  have hnl := starts_length s
  clear hi hz0 hz1 hz2
  go_enter Try.func18, Try.ntmps18
  go_wp2_with fail
  refine (refSpots_any s (by omega) _).mono ?_
  rintro e w1 ⟨x, rfl, hx, hb⟩
  have hxf : ∃ ax cx, x = .slice ax (starts s).length cx := by
    rcases hx.2 with ⟨rfl, h0⟩ | ⟨g, cap, cur, rfl, _⟩
    · exact ⟨none, 0, by rw [h0]⟩
    · exact ⟨_, cap, rfl⟩
  obtain ⟨ax, cx, rfl⟩ := hxf
  have HX := hide hx
  have HB := hide hb
  clear hx hb
  go_wp2
  go_loopw [3, 5] (fun l i wr => ∃ k : Nat, i = .int .i64 k ∧ k ≤ (starts s).length ∧ Hid (wr.ownsRow w.heap.size 21 1 l k (encR ((runesL s).take k))) ∧ Hid (wr.ownsRow w.heap.size 33 4 (.slice ax (starts s).length cx) (starts s).length ((starts s).flatMap (refCells s))) ∧ Hid (Below w.heap.size w wr)) (fun _ i _ => (starts s).length - (intOf i).toNat)
  case atStart => exact ⟨0, rfl, by omega, hide (by simp [encR]; exact World.ownsRow_nil _ _ _ _), HX, HB⟩
  case round =>
    obtain ⟨k, rfl, hk, HL, HXX, HBB⟩ := hrel
    by_cases hkn : k < (starts s).length
    · have hk1 : (k : Int) < ((starts s).length : Int) := by omega
      have hk2 : ((k : Nat) : Int).toNat = k := by omega
      obtain ⟨y, hy⟩ : ∃ y, (starts s)[k]? = some y := ⟨_, List.getElem?_eq_getElem hkn⟩
      obtain ⟨gx, hax⟩ : ∃ gx, ax = some ⟨gx, 0, none⟩ := by
        rcases (unhide HXX).2 with ⟨e, h0⟩ | ⟨g, cap, cur, e, _⟩
        · omega
        · cases e; exact ⟨g, rfl⟩
      subst hax
      have c0 : wr.cell? ⟨gx, k * 4, none⟩ = some (.int .i32 ((rn s y : Nat) : Int)) := by
        have := (unhide HXX).cells (g := gx) rfl (k * 4 + 0) (.int .i32 ((rn s y : Nat) : Int)) ((flat4' (refCells s) (fun _ => rfl) (starts s) k 0 y hy (by omega)).trans rfl)
        rwa [add_none', Nat.zero_add] at this
      have hlt := (unhide HBB).size
      have hnext : Hid (encR ((runesL s).take (k + 1)) = encR ((runesL s).take k) ++ [.int .i32 ((rn s y : Nat) : Int)]) := hide (by
        rw [List.take_add_one]
        have : (runesL s)[k]? = some ((rn s y : Nat) : Int) := by simp [runesL, hy]
        rw [this]
        simp [encR])
      generalize ((rn s y : Nat) : Int) = ry at *
      go_wp2_with (at_builtin; refine wpList_append_own _ rfl _ _ 40 rfl w.heap.size 21 i0 (.int .i32 0) 1 4 Try.underlying40 (unhide HI).1 (unhide HI).2.1 (unhide HI).2.2.1 (unhide HI).2.2.2 rfl (by decide) _ _ _ rfl ((unhide HL).alloc _) ⟨wr.heap.size, 0, none⟩ 1 1 [.int .i32 ry] rfl rfl (one_cell _ _ _) ?c2 ?c3 ?c4 ?c5 ?_)
      case c2 => intro u hu; simp at hu; rw [hu]; rfl
      case c3 => unfold maxLen; omega
      case c4 => omega
      case c5 => simp; omega
      intro v' w2 hown' hgrow _
      have HL2 : Hid (w2.ownsRow w.heap.size 21 1 v' (k + 1) (encR ((runesL s).take (k + 1)))) := hide (by rw [unhide hnext]; simp only [encR, List.map_take]; exact hown')
      have HX2 := hide (((unhide HXX).alloc (.cells #[.int .i32 ry] 21)).kept hgrow (rows_types (unhide HXX) (unhide HL) (by decide)))
      have HB2 := hide (((unhide HBB).alloc hlt (.cells #[.int .i32 ry] 21)).grown hgrow (by simp; omega) (fun k hk => (own_lt (unhide HL) k hk).1))
      clear hown' hgrow
      go_wp2
      go_roundw
      case rel => exact ⟨k + 1, by go_num, by omega, HL2, HX2, HB2⟩
      case measure => simp [intOf]; omega
    · have hk1 : ¬ (k : Int) < ((starts s).length : Int) := by omega
      have HE : Hid (wr.ownsRow w.heap.size 21 1 u3 (runesL s).length (encR (runesL s))) := hide (by
        have := unhide HL
        rw [List.take_of_length_le (by rw [runesL_length]; omega)] at this
        rw [runesL_length, show (starts s).length = k by omega]
        exact this)
      go_wp2
      go_ret
      exact ⟨_, rfl, unhide HE, unhide HBB⟩

set_option maxRecDepth 100000 in
set_option maxHeartbeats 4000000 in
theorem lrunes_any (s : ByteArray) (hs : s.size ≤ 1048576) (w : World) : Calls Try.prog 4 #[.string s] w fun e w' => e = .returned (.bool true) ∧ Below w.heap.size w w' := by
  have hrl : (runesL s).length ≤ 1048576 := by have h1 := runesL_length s; have h2 := starts_length s; omega
  go_enter Try.func4, Try.ntmps4
  go_wp2_with fail
  refine (alive_any _).mono ?_
  rintro e w1 ⟨rfl, hb⟩
  have HB1 := hide hb
  have hs1 := hb.size
  clear hb
  go_wp2
  go_loopw [4] (fun i wr => ∃ (k : Nat) (its : List ItR) (lv wv : Value) (h : Int), i = .int .i64 k ∧ k ≤ 2 ∧ its.length ≤ k ∧ Hid (BookR wr w1.heap.size w1.heap.size its lv wv h) ∧ Hid (Below w.heap.size w wr)) (fun i _ => 2 - (intOf i).toNat)
  case atStart =>
    refine ⟨0, [], .slice none 0 0, .slice none 0 0, 0, rfl, by omega, by simp, hide ⟨⟨Blk.new w1 _ _, SlAt.nil _ _ _, SlAt.nil _ _ _, .inl rfl, Nat.le_refl _⟩, by simp, List.Pairwise.nil⟩, hide ((unhide HB1).alloc hs1 _)⟩
  case round =>
    obtain ⟨k, its, lv, wv, h, rfl, hk, hil, HBK, HBB⟩ := hrel
    have hlo : w1.heap.size < wr.heap.size := (unhide HBK).bk.blk.lt
    by_cases hk2 : k < 2
    · have hk3 : (k : Int) < 2 := by omega
      go_wp2_with fail
      refine (runes_own s (by omega) _).mono ?_
      rintro e w2 ⟨cap, rfl, hown, hb⟩
      have HO2 := hide (own_base hown (show w1.heap.size ≤ wr.heap.size by omega))
      have HBK2 := hide ((unhide HBK).below (by omega) hb)
      have HBB2 := hide ((unhide HBB).trans (hb.mono (unhide HBB).size))
      have HDIS : Hid (∀ it ∈ its, it.v.ownBlock = none ∨ it.v.ownBlock ≠ Value.ownBlock (.slice (some ⟨wr.heap.size, 0, none⟩) (runesL s).length cap)) := hide (fun it hi => by
        cases hv : it.v.ownBlock with
        | none => exact .inl rfl
        | some x =>
          refine .inr fun e => ?_
          have := (own_lt ((unhide HBK).own it hi).1 x hv).2
          have e' : x = wr.heap.size := by simpa [Value.ownBlock] using e
          omega)
      have hz2 : wr.heap.size ≤ w2.heap.size := hb.size
      clear hown hb
      go_wp2_with fail
      refine (refRunes_any s hs _).mono ?_
      rintro e w3 ⟨v3, rfl, hown, hb⟩
      have HO3 := hide (own_base hown (show w1.heap.size ≤ w2.heap.size by omega))
      have HO23 := hide (own_below (unhide HO2) hb)
      have HBK3 := hide ((unhide HBK2).below (by omega) hb)
      have HBB3 := hide ((unhide HBB2).trans (hb.mono (unhide HBB2).size))
      have hz3 : w2.heap.size ≤ w3.heap.size := hb.size
      clear hown hb
      go_wp2_with fail
      refine (same_ownR w1.heap.size _ _ (runesL s) _ (unhide HO23) (unhide HO3)).mono ?_
      rintro e w4 ⟨rfl, hb⟩
      have HO4 := hide (own_below (unhide HO23) hb)
      have HBK4 := hide ((unhide HBK3).below (by omega) hb)
      have HBB4 := hide ((unhide HBB3).trans (hb.mono (unhide HBB3).size))
      have hz4 : w3.heap.size ≤ w4.heap.size := hb.size
      clear hb
      go_wp2_with fail
      refine (keep_anyR w4 w1.heap.size w1.heap.size its lv wv h _ (runesL s) (unhide HDIS) (unhide HO4) (by omega) (by unfold maxLen; omega) (unhide HBK4) (by omega) (by omega)).mono ?_
      rintro e w5 ⟨⟨r, rfl⟩, ⟨t, lv', wv', h', htn, _, htl, hbk⟩, hkk⟩
      have HBK5 := hide hbk
      have HBB5 := hide ((unhide HBB4).trans (hkk.2.mono hs1))
      clear hbk hkk
      go_wp2
      go_roundw
      case rel => exact ⟨k + 1, t, lv', wv', h', by go_num, by omega, by omega, HBK5, HBB5⟩
      case measure => simp [intOf]; omega
    · have hk3 : ¬ (k : Int) < 2 := by omega
      go_wp2_with fail
      refine (apart_anyR (fun i _ => -1000 - (i : Int)) (fun i j w hi _ => mark_any i j w hi) wr w1.heap.size w1.heap.size its lv wv h (unhide HBK) (by omega) (by omega)).mono ?_
      rintro e w5 ⟨rfl, hb⟩
      have HE := hide ((unhide HBB).trans (hb.mono hs1))
      clear hb
      go_wp2
      go_ret
      exact ⟨rfl, unhide HE⟩
end Go.Proofs.Ytinhmhkdofoneaa
