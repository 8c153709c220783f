/- The reader of rules in memory; what it sees. -/
import Derived.Test.YtbbnppcpjpdpaaaGreatDoorM9
import Derived.WalkKit
import Derived.BigQuiet
import Derived.BigRegion
namespace Go.Proofs.YtbbnppcpjpdpaaaGreatDoor
open Go.RowKit Go.Shelf
set_option linter.unusedVariables false
/-- What a text is refused for, and where. -/
structure Rf where
  b : Int
  l : Int
  c : Int
  why : Int
def rfCells (x : Rf) : Array Value := #[.int .i64 x.b, .int .i64 x.l, .int .i64 x.c, .int .i64 x.why]
/-- How a refusal is held. -/
def RefAt (W : World) (R : Nat) (v : Value) : Option Rf → Prop
  | none => v = .pointer none
  | some x => ∃ F, v = .pointer (some ⟨F, 0, none⟩) ∧ R < F ∧ Blk W F (rfCells x) 83
/-- The words lie in a row. -/
def WordsAt (W : World) (g : Nat) (ws : List W8) : Prop := ∀ j x, ws[j]? = some x → ∀ i u, (w8Cells x)[i]? = some u → W.cell? ⟨g, 8 * j + i, none⟩ = some u
/-- The reader: k of the words ws are taken; bad: what was refused. -/
structure RdAt (W : World) (R Tx g : Nat) (ws : List W8) (k : Nat) (bad : Option Rf) : Prop where
  kn : k ≤ ws.length
  nmax : ws.length ≤ 1000000
  blk : ∃ a c v, Blk W R #[.slice a (ws.length - k) c, .pointer (some ⟨Tx, 0, none⟩), v] 90 ∧ (k < ws.length → a = some ⟨g, 8 * k, none⟩) ∧ ws.length - k ≤ c ∧ RefAt W R v bad
  words : WordsAt W g ws
  gR : g ≠ R
/-- Is the next word of that kind? -/
def seesB (ws : List W8) (k : Nat) (bad : Option Rf) (kind : Int) : Bool := match bad, ws[k]? with
  | none, some x => x.k == kind
  | _, _ => false
theorem WordsAt.first {W : World} {g : Nat} {ws : List W8} (h : WordsAt W g ws) {k : Nat} {x : W8} (hx : ws[k]? = some x) : W.cell? ⟨g, 8 * k, none⟩ = some (.int .i64 x.k) := h k x hx 0 _ rfl
set_option maxRecDepth 100000 in
set_option maxHeartbeats 4000000 in
theorem sees_any (R Tx g : Nat) (ws : List W8) (k : Nat) (bad : Option Rf) (kind : Int) (W : World) (h : RdAt W R Tx g ws k bad) :
    Calls Tryz.prog 91 #[.pointer (some ⟨R, 0, none⟩), .int .i64 kind] W fun e w' => e = .returned (.bool (seesB ws k bad kind)) ∧ w' = W := by
  obtain ⟨a, c, v, hb, ha, hc, hv⟩ := h.blk
  have hw := h.words
  have hkn := h.kn
  have hnm := h.nmax
  have c0 := hb.cell 0
  have c2 := hb.cell 2
  clear h hb
  go_enter Tryz.func91, Tryz.ntmps91
  cases bad with
  | some x =>
    obtain ⟨F, rfl, _, hF⟩ := hv
    clear hF
    go_wp2_with fail
    go_ret
    exact ⟨rfl, rfl⟩
  | none =>
    subst hv
    cases hx : ws[k]? with
    | none =>
      have hk : ws.length - k = 0 := by have := List.getElem?_eq_none_iff.1 hx; omega
      rw [hk] at c0
      have HE := hide (show seesB ws k none kind = false by simp only [seesB, hx])
      clear hx hk hkn hc ha hw
      go_wp2_with fail
      go_ret
      exact ⟨by rw [unhide HE]; rfl, rfl⟩
    | some x =>
      have hk := (List.getElem?_eq_some_iff.1 hx).1
      obtain rfl := ha hk
      have w0 := hw.first hx
      have hpos : (0 : Int) < ((ws.length - k : Nat) : Int) := by omega
      have HE := hide (show seesB ws k none kind = (x.k == kind) by simp only [seesB, hx])
      obtain ⟨m, hm⟩ : ∃ m, m = ws.length - k := ⟨_, rfl⟩
      rw [← hm] at c0 hpos
      clear hx ha hw hm hc hkn hk
      go_wp2_with fail
      go_ret
      exact ⟨by rw [unhide HE]; rfl, rfl⟩
end Go.Proofs.YtbbnppcpjpdpaaaGreatDoor
