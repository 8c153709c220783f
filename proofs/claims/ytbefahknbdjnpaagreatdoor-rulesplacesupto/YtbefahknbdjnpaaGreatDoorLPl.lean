/- RulesPlaces: where the rows of a printed table stand. -/
import Derived.Test.YtbefahknbdjnpaaGreatDoorLBk
import Derived.Test.YtbefahknbdjnpaaGreatDoorM32
import Derived.Test.YtbefahknbdjnpaaGreatDoorScRTxt
namespace Go.Proofs.YtbefahknbdjnpaaGreatDoor
open Go.RowKit Go.Shelf
set_option linter.unusedVariables false
theorem field_at0 (a b c : Int) (w : World) : (Instr.field 56 (.agg #[.int .i64 a, .int .i64 b, .int .i64 c]) 0).run Tryz.prog w = .ok (.int .i64 a) w := by kernel_rfl
def wordsA : Array Value := #[.string ⟨#[]⟩, .string ⟨#[115, 99, 114, 105, 112, 116]⟩, .string ⟨#[]⟩, .string ⟨#[109, 97, 114, 107]⟩, .string ⟨#[112, 97, 105, 114]⟩, .string ⟨#[102, 111, 108, 100]⟩, .string ⟨#[108, 111, 111, 107]⟩, .string ⟨#[]⟩, .string ⟨#[]⟩]
def intsA (T : TV) : Array Value := #[.int .i64 0, .int .i64 T.sc.length, .int .i64 T.co.length, .int .i64 T.ma.length, .int .i64 T.pr.length, .int .i64 T.fo.length, .int .i64 T.lk.length, .int .i64 T.dr.length, .int .i64 T.al.length]
def spansA (T : TV) (a1 a6 a7 : Option Addr) (c1 c6 c7 : Nat) : Array Value := #[.slice none 0 0, .slice none 0 0, .slice a1 T.co.length c1, .slice none 0 0, .slice none 0 0, .slice none 0 0, .slice none 0 0, .slice a6 T.dr.length c6, .slice a7 T.al.length c7]
/-- The law at work: the text that was read, the table, the three lists of its own. -/
structure PwSt (T : TV) (m : Int) (W wr : World) (B la Ta : Nat) (va us : List Value) (a0 a1 a2 a3 a4 a5 a6 a7 : Option Addr) (c1 c6 c7 : Nat) : Prop where
  e : EnvK m wr
  tb : TbAt wr la Ta va (lsOf (backT (wsOf (textT T)) T) (va.drop 17)) ((textT T).size : Nat) (endL (textT T)) (endC (textT T))
  ti : TabIn wr T a0 a1 a2 a3 a4 a5 a6 a7 us
  bl : Below W.heap.size W wr
  b0 : Blk wr B wordsA 9
  b1 : Blk wr (B + 1) (intsA T) 3
  b2 : Blk wr (B + 2) (spansA T a1 a6 a7 c1 c6 c7) 28
theorem PwSt.below {T : TV} {m : Int} {W wr w' : World} {B la Ta : Nat} {va us : List Value} {a0 a1 a2 a3 a4 a5 a6 a7 : Option Addr} {c1 c6 c7 : Nat} (h : PwSt T m W wr B la Ta va us a0 a1 a2 a3 a4 a5 a6 a7 c1 c6 c7) (hb : Below wr.heap.size wr w') : PwSt T m W w' B la Ta va us a0 a1 a2 a3 a4 a5 a6 a7 c1 c6 c7 :=
  ⟨h.e.below hb, h.tb.fresh (below_grown2 (row := none) hb), h.ti.lower hb, h.bl.trans (hb.mono h.bl.size), h.b0.below hb h.b0.lt, h.b1.below hb h.b1.lt, h.b2.below hb h.b2.lt⟩
theorem words_at9 (l : Nat) (h : l < 9) : wordsA[l]? = some (.string (kwOf l)) := by
  rcases l with _ | _ | _ | _ | _ | _ | _ | _ | _ | l
  all_goals first | rfl | omega
theorem ints_at9 (T : TV) (l : Nat) (h : l < 9) : (intsA T)[l]? = some (.int .i64 (lenOf T l : Nat)) := by
  rcases l with _ | _ | _ | _ | _ | _ | _ | _ | _ | l
  all_goals first | rfl | omega
theorem spans_at9 {T : TV} {m : Int} {W wr : World} {B la Ta : Nat} {va us : List Value} {a0 a1 a2 a3 a4 a5 a6 a7 : Option Addr} {c1 c6 c7 : Nat} (h : PwSt T m W wr B la Ta va us a0 a1 a2 a3 a4 a5 a6 a7 c1 c6 c7) (l : Nat) (h1 : 1 ≤ l) (h9 : l < 9) (hk : kwOf l = ByteArray.empty) : ∃ a c, wr.cell? ⟨B + 2, l, none⟩ = some (.slice a (lenOf T l) c) ∧ RowC wr wr.heap.size a (encS2 (spOf T l)) ∧ lenOf T l = (spOf T l).length := by
  rcases l with _ | _ | _ | _ | _ | _ | _ | _ | _ | l
  · omega
  · exact absurd (congrArg ByteArray.size hk) (by decide)
  · exact ⟨a1, c1, h.b2.cell 2, h.ti.r1, rfl⟩
  · exact absurd (congrArg ByteArray.size hk) (by decide)
  · exact absurd (congrArg ByteArray.size hk) (by decide)
  · exact absurd (congrArg ByteArray.size hk) (by decide)
  · exact absurd (congrArg ByteArray.size hk) (by decide)
  · exact ⟨a6, c6, h.b2.cell 7, h.ti.r6, rfl⟩
  · exact ⟨a7, c7, h.b2.cell 8, h.ti.r7, rfl⟩
  · omega
theorem spOf_ok {T : TV} (hk : okT T = true) (l : Nat) : (spOf T l).all spanK = true := by
  obtain ⟨_, h2, _, _, _, _, h7, h8⟩ := okT_parts hk
  unfold spOf
  split
  · exact h2
  · exact h7
  · exact h8
  · rfl
def RowP (T : TV) (l r p : Nat) : Prop := ∃ i, (idxs T l)[r]? = some i ∧ (places 0 ((linesT T).flatMap lineP))[i]? = some p
theorem kTL_le (T : TV) {a : Nat} : ∀ {b : Nat}, a ≤ b → kTL T a ≤ kTL T b
  | 0, h => by rw [Nat.le_zero.1 h]; exact Nat.le_refl _
  | b + 1, h => by
    rcases Nat.lt_or_ge a (b + 1) with q | q
    · exact Nat.le_trans (kTL_le T (Nat.le_of_lt_succ q)) (kTL_mono T b)
    · rw [show a = b + 1 by omega]; exact Nat.le_refl _
theorem RowP.lt {T : TV} {l r p l2 r2 p2 : Nat} (h : RowP T l r p) (h2 : RowP T l2 r2 p2) (hl : 1 ≤ l) (ho : l < l2 ∨ (l2 = l ∧ r < r2)) : p < p2 := by
  obtain ⟨i, hi, hp⟩ := h
  obtain ⟨j, hj, hq⟩ := h2
  refine places_lt _ 0 i j p p2 ?_ hp hq
  rcases ho with ho | ⟨rfl, ho⟩
  · obtain ⟨a, rfl⟩ : ∃ a, l = a + 1 := ⟨l - 1, by omega⟩
    obtain ⟨b, rfl⟩ : ∃ b, l2 = b + 1 := ⟨l2 - 1, by omega⟩
    have h3 := idxs_in hi
    have h4 := idxs_in hj
    have h5 := kTL_le T (show a + 1 ≤ b by omega)
    omega
  · exact idxs_lt ho hi hj
/-- What was told last stands ahead of all that is still to come. -/
def Low (T : TV) (last : Int) (l r : Nat) : Prop := ∀ l2 r2 p2, (l < l2 ∨ (l2 = l ∧ r ≤ r2)) → RowP T l2 r2 p2 → last < (p2 : Nat)
theorem where_row (T : TV) (eb el ec : Int) (l r : Nat) (h : l < 9) (x : Int × Int × Int) (hx : (rowsOf T l)[r]? = some x) : whereV T eb el ec (l : Nat) (r : Nat) = x := by
  unfold whereV
  rw [if_pos (by omega)]
  simp only [Int.toNat_natCast]
  rw [hx]
theorem where_none (T : TV) (eb el ec : Int) (l r : Nat) (h : l < 9) (hx : (rowsOf T l)[r]? = none) : whereV T eb el ec (l : Nat) (r : Nat) = (eb, el, ec) := by
  unfold whereV
  rw [if_pos (by omega)]
  simp only [Int.toNat_natCast]
  rw [hx]
set_option maxRecDepth 100000 in
set_option maxHeartbeats 4000000 in
theorem places_any5 (T : TV) (hT : TabB T) (a0 a1 a2 a3 a4 a5 a6 a7 : Option Addr) (c0 c1 c2 c3 c4 c5 c6 c7 : Nat) (us : List Value) (m : Int) (W : World) (hE : EnvK m W) (hA : TabIn W T a0 a1 a2 a3 a4 a5 a6 a7 us) :
    Calls Tryz.prog 7 #[.agg (tabV T a0 a1 a2 a3 a4 a5 a6 a7 c0 c1 c2 c3 c4 c5 c6 c7)] W fun e w' => e = .returned (.bool true) ∧ Below W.heap.size W w' := by
  have hmx : Tryz.prog.follows .mixedOrders = true := by kernel_rfl
  have hB0 : Below W.heap.size W (W.alloc (.cells (tabV T a0 a1 a2 a3 a4 a5 a6 a7 c0 c1 c2 c3 c4 c5 c6 c7) 33)) := (Below.refl _ W).alloc (Nat.le_refl _) _
  have bA := Blk.new W (tabV T a0 a1 a2 a3 a4 a5 a6 a7 c0 c1 c2 c3 c4 c5 c6 c7) 33
  have HH := hide (And.intro (hE.below hB0) (And.intro (hA.lower hB0) (And.intro hB0 bA)))
  have HT := hide hT
  have HL := hide (fun (w : World) (h : TabIn w T a0 a1 a2 a3 a4 a5 a6 a7 us) => large_any T hT a0 a1 a2 a3 a4 a5 a6 a7 c0 c1 c2 c3 c4 c5 c6 c7 us w h)
  have z0 := bA.cell 0
  have z1 := bA.cell 1
  have z2 := bA.cell 2
  have z3 := bA.cell 3
  have z4 := bA.cell 4
  have z5 := bA.cell 5
  have z6 := bA.cell 6
  have z7 := bA.cell 7
  clear hE hA hB0 bA hT
  unfold tabV at HH z0 z1 z2 z3 z4 z5 z6 z7 HL ⊢
  go_enter Tryz.func7, Tryz.ntmps7
  go_wp2_with fail
  generalize W.alloc (.cells #[.slice a0 T.sc.length c0, .slice a1 T.co.length c1, .slice a2 T.ma.length c2, .slice a3 T.pr.length c3, .slice a4 T.fo.length c4, .slice a5 T.lk.length c5, .slice a6 T.dr.length c6, .slice a7 T.al.length c7] 33) = w0 at *
  refine (unhide HL _ (unhide HH).2.1).mono ?_
  rintro e w1 ⟨rfl, hb⟩
  have HH1 := hide (And.intro ((unhide HH).1.below hb) (And.intro ((unhide HH).2.1.lower hb) (And.intro ((unhide HH).2.2.1.trans (hb.mono (unhide HH).2.2.1.size)) ((unhide HH).2.2.2.below hb (unhide HH).2.2.2.lt))))
  clear hb HH HL z0 z1 z2 z3 z4 z5 z6 z7
  cases hLB : largeB T with
  | true =>
    have HK := hide (known_any5 m w1 (unhide HH1).1)
    go_wp2_with fail
    refine (unhide HK).mono ?_
    rintro e w2 ⟨rfl, hb2⟩
    have HB := hide ((unhide HH1).2.2.1.trans (hb2.mono (unhide HH1).2.2.1.size))
    clear hb2
    go_wp2_with fail
    go_ret
    exact ⟨rfl, unhide HB⟩
  | false =>
    have HO := hide ((unhide HT).ok hLB)
    clear hLB
    have z0 := (unhide HH1).2.2.2.cell 0
    have z1 := (unhide HH1).2.2.2.cell 1
    have z2 := (unhide HH1).2.2.2.cell 2
    have z3 := (unhide HH1).2.2.2.cell 3
    have z4 := (unhide HH1).2.2.2.cell 4
    have z5 := (unhide HH1).2.2.2.cell 5
    have z6 := (unhide HH1).2.2.2.cell 6
    have z7 := (unhide HH1).2.2.2.cell 7
    have HPR := hide (print_any T a0 a1 a2 a3 a4 a5 a6 a7 c0 c1 c2 c3 c4 c5 c6 c7 us w1 (unhide HH1).2.1 (unhide HO) (unhide HH1).1.p)
    go_wp2_with fail
    refine (unhide HPR).mono ?_
    rintro e w2 ⟨rfl, hb2⟩
    have HH2 := hide (And.intro ((unhide HH1).1.below hb2) (And.intro ((unhide HH1).2.1.lower hb2) (And.intro ((unhide HH1).2.2.1.trans (hb2.mono (unhide HH1).2.2.1.size)) ((unhide HH1).2.2.2.below hb2 (unhide HH1).2.2.2.lt))))
    clear hb2 HPR HH1 z0 z1 z2 z3 z4 z5 z6 z7
    generalize hPV : printV T = PV at *
    have HPV := hide hPV
    clear hPV
    obtain ⟨s1, f1⟩ := PV
    dsimp only
    cases hf1 : (f1 == 0) with
    | false =>
      have hf1' : (f1 != 0) = true := by rw [bne, hf1]; rfl
      have HK := hide (known_any5 m w2 (unhide HH2).1)
      go_wp2_with fail
      refine (unhide HK).mono ?_
      rintro e w3 ⟨rfl, hb3⟩
      have HB := hide ((unhide HH2).2.2.1.trans (hb3.mono (unhide HH2).2.2.1.size))
      clear hb3
      go_wp2_with fail
      go_ret
      exact ⟨rfl, unhide HB⟩
    | true =>
      obtain rfl : f1 = 0 := by simpa using hf1
      clear hf1
      obtain ⟨g1, g2, rfl⟩ : okT T = true ∧ (textT T).size ≤ 262144 ∧ s1 = textT T := by
        rcases print_three T with ⟨h1, h2, h3⟩ | ⟨_, _, h3⟩ | ⟨_, h3⟩
        · rw [unhide HPV] at h3; exact ⟨h1, h2, (Prod.mk.inj h3).1⟩
        · rw [unhide HPV] at h3; exact absurd (Prod.mk.inj h3).2 (by decide)
        · rw [unhide HPV] at h3; exact absurd (Prod.mk.inj h3).2 (by decide)
      have hbig2 := (unhide HH2).1.p.big
      have HP3 := hide (parse_eq (textT T) g2 _ (parse_text g1) m w2 (unhide HH2).1.max (by omega))
      have HROW : Hz (∀ l r, r < lenOf T l → ∃ i p, (idxs T l)[r]? = some i ∧ (places 0 ((linesT T).flatMap lineP))[i]? = some p ∧ p + (wordOf T l r).size + 1 ≤ (textT T).size ∧ (textT T).extract p (p + (wordOf T l r).size) = wordOf T l r ∧ (rowsOf (backT (wsOf (textT T)) T) l)[r]? = some (((p : Nat) : Int), (((mkW (textT T) p).l : Nat) : Int), (((mkW (textT T) p).c : Nat) : Int))) := hide (fun l r hr => row_at g1 hr)
      have HPO := hide (And.intro g2 g1)
      clear g1 g2 HPV
      go_wp2_with fail
      refine (unhide HP3).mono ?_
      rintro e w3 ⟨v3, er3, rfl, hb3, hpa3⟩
      obtain ⟨rfl, Ta, la, va, rfl, hTa, hla, hTba⟩ := hpa3
      have HH3 := hide (And.intro ((unhide HH2).1.below hb3) (And.intro ((unhide HH2).2.1.lower hb3) (And.intro ((unhide HH2).2.2.1.trans (hb3.mono (unhide HH2).2.2.1.size)) ((unhide HH2).2.2.2.below hb3 (unhide HH2).2.2.2.lt))))
      have HTB := hide hTba
      have z0 : w3.cell? ⟨W.heap.size, 0, none⟩ = some (.slice a0 T.sc.length c0) := (unhide HH3).2.2.2.cell 0
      have z1 : w3.cell? ⟨W.heap.size, 1, none⟩ = some (.slice a1 T.co.length c1) := (unhide HH3).2.2.2.cell 1
      have z2 : w3.cell? ⟨W.heap.size, 2, none⟩ = some (.slice a2 T.ma.length c2) := (unhide HH3).2.2.2.cell 2
      have z3 : w3.cell? ⟨W.heap.size, 3, none⟩ = some (.slice a3 T.pr.length c3) := (unhide HH3).2.2.2.cell 3
      have z4 : w3.cell? ⟨W.heap.size, 4, none⟩ = some (.slice a4 T.fo.length c4) := (unhide HH3).2.2.2.cell 4
      have z5 : w3.cell? ⟨W.heap.size, 5, none⟩ = some (.slice a5 T.lk.length c5) := (unhide HH3).2.2.2.cell 5
      have z6 : w3.cell? ⟨W.heap.size, 6, none⟩ = some (.slice a6 T.dr.length c6) := (unhide HH3).2.2.2.cell 6
      have z7 : w3.cell? ⟨W.heap.size, 7, none⟩ = some (.slice a7 T.al.length c7) := (unhide HH3).2.2.2.cell 7
      clear hb3 hTba hTa hla HP3 HH2
      have y0 : ∀ o, (w3.alloc o).cell? ⟨W.heap.size, 0, none⟩ = some (.slice a0 T.sc.length c0) := fun o => (World.grownBy_alloc w3 o none).cell (a := ⟨W.heap.size, 0, none⟩) z0 (by simp)
      have y1 : ∀ o, (w3.alloc o).cell? ⟨W.heap.size, 1, none⟩ = some (.slice a1 T.co.length c1) := fun o => (World.grownBy_alloc w3 o none).cell (a := ⟨W.heap.size, 1, none⟩) z1 (by simp)
      have y2 : ∀ o, (w3.alloc o).cell? ⟨W.heap.size, 2, none⟩ = some (.slice a2 T.ma.length c2) := fun o => (World.grownBy_alloc w3 o none).cell (a := ⟨W.heap.size, 2, none⟩) z2 (by simp)
      have y3 : ∀ o, (w3.alloc o).cell? ⟨W.heap.size, 3, none⟩ = some (.slice a3 T.pr.length c3) := fun o => (World.grownBy_alloc w3 o none).cell (a := ⟨W.heap.size, 3, none⟩) z3 (by simp)
      have y4 : ∀ o, (w3.alloc o).cell? ⟨W.heap.size, 4, none⟩ = some (.slice a4 T.fo.length c4) := fun o => (World.grownBy_alloc w3 o none).cell (a := ⟨W.heap.size, 4, none⟩) z4 (by simp)
      have y5 : ∀ o, (w3.alloc o).cell? ⟨W.heap.size, 5, none⟩ = some (.slice a5 T.lk.length c5) := fun o => (World.grownBy_alloc w3 o none).cell (a := ⟨W.heap.size, 5, none⟩) z5 (by simp)
      have y6 : ∀ o, (w3.alloc o).cell? ⟨W.heap.size, 6, none⟩ = some (.slice a6 T.dr.length c6) := fun o => (World.grownBy_alloc w3 o none).cell (a := ⟨W.heap.size, 6, none⟩) z6 (by simp)
      have y7 : ∀ o, (w3.alloc o).cell? ⟨W.heap.size, 7, none⟩ = some (.slice a7 T.al.length c7) := fun o => (World.grownBy_alloc w3 o none).cell (a := ⟨W.heap.size, 7, none⟩) z7 (by simp)
      have x0 : ∀ o o2, ((w3.alloc o).alloc o2).cell? ⟨W.heap.size, 0, none⟩ = some (.slice a0 T.sc.length c0) := fun o o2 => (World.grownBy_alloc _ o2 none).cell (a := ⟨W.heap.size, 0, none⟩) (y0 o) (by simp)
      have x1 : ∀ o o2, ((w3.alloc o).alloc o2).cell? ⟨W.heap.size, 1, none⟩ = some (.slice a1 T.co.length c1) := fun o o2 => (World.grownBy_alloc _ o2 none).cell (a := ⟨W.heap.size, 1, none⟩) (y1 o) (by simp)
      have x2 : ∀ o o2, ((w3.alloc o).alloc o2).cell? ⟨W.heap.size, 2, none⟩ = some (.slice a2 T.ma.length c2) := fun o o2 => (World.grownBy_alloc _ o2 none).cell (a := ⟨W.heap.size, 2, none⟩) (y2 o) (by simp)
      have x3 : ∀ o o2, ((w3.alloc o).alloc o2).cell? ⟨W.heap.size, 3, none⟩ = some (.slice a3 T.pr.length c3) := fun o o2 => (World.grownBy_alloc _ o2 none).cell (a := ⟨W.heap.size, 3, none⟩) (y3 o) (by simp)
      have x4 : ∀ o o2, ((w3.alloc o).alloc o2).cell? ⟨W.heap.size, 4, none⟩ = some (.slice a4 T.fo.length c4) := fun o o2 => (World.grownBy_alloc _ o2 none).cell (a := ⟨W.heap.size, 4, none⟩) (y4 o) (by simp)
      have x5 : ∀ o o2, ((w3.alloc o).alloc o2).cell? ⟨W.heap.size, 5, none⟩ = some (.slice a5 T.lk.length c5) := fun o o2 => (World.grownBy_alloc _ o2 none).cell (a := ⟨W.heap.size, 5, none⟩) (y5 o) (by simp)
      have x6 : ∀ o o2, ((w3.alloc o).alloc o2).cell? ⟨W.heap.size, 6, none⟩ = some (.slice a6 T.dr.length c6) := fun o o2 => (World.grownBy_alloc _ o2 none).cell (a := ⟨W.heap.size, 6, none⟩) (y6 o) (by simp)
      have x7 : ∀ o o2, ((w3.alloc o).alloc o2).cell? ⟨W.heap.size, 7, none⟩ = some (.slice a7 T.al.length c7) := fun o o2 => (World.grownBy_alloc _ o2 none).cell (a := ⟨W.heap.size, 7, none⟩) (y7 o) (by simp)
      have HS : Hz (PwSt T m W (((w3.alloc (.cells wordsA 9)).alloc (.cells (intsA T) 3)).alloc (.cells (spansA T a1 a6 a7 c1 c6 c7) 28)) w3.heap.size la Ta va us a0 a1 a2 a3 a4 a5 a6 a7 c1 c6 c7) := hide (by
        have hb := ((((Below.refl w3.heap.size w3).alloc (Nat.le_refl _) (.cells wordsA 9)).alloc (by simp) (.cells (intsA T) 3)).alloc (by simp; omega) (.cells (spansA T a1 a6 a7 c1 c6 c7) 28))
        have b0 := ((Blk.new w3 wordsA 9).alloc (.cells (intsA T) 3)).alloc (.cells (spansA T a1 a6 a7 c1 c6 c7) 28)
        have b1 := (Blk.new (w3.alloc (.cells wordsA 9)) (intsA T) 3).alloc (.cells (spansA T a1 a6 a7 c1 c6 c7) 28)
        have b2 := Blk.new ((w3.alloc (.cells wordsA 9)).alloc (.cells (intsA T) 3)) (spansA T a1 a6 a7 c1 c6 c7) 28
        rw [World.size_alloc] at b1
        rw [World.size_alloc, World.size_alloc] at b2
        exact ⟨(unhide HH3).1.below hb, (unhide HTB).fresh (below_grown2 (row := none) hb), (unhide HH3).2.1.lower hb, (unhide HH3).2.2.1.trans (hb.mono (unhide HH3).2.2.1.size), b0, b1, b2⟩)
      have HRL : Hz (∀ i, (rowsOf (backT (wsOf (textT T)) T) i).length ≤ 1000000) := hide (fun i => by
        rw [rows_idxs, List.length_map, idxs_len]
        have := unhide HO
        unfold lenOf
        split
        · exact this.n0
        · exact this.n1
        · exact this.n2
        · exact this.n3
        · exact this.n4
        · exact this.n5
        · exact this.n6
        · exact this.n7
        · omega)
      have HLN : Hz (∀ l, lenOf T l ≤ 1000000) := hide (fun l => by have := unhide HRL l; rw [rows_idxs, List.length_map, idxs_len] at this; exact this)
      go_wp2_with fail
      clear z0 z1 z2 z3 z4 z5 z6 z7 y0 y1 y2 y3 y4 y5 y6 y7 x0 x1 x2 x3 x4 x5 x6 x7 HH3 HTB
      unfold wordsA intsA spansA at HS
      generalize ((w3.alloc _).alloc _).alloc _ = w4 at *
      generalize w3.heap.size = B at *
      have hts : (textT T).size ≤ 262144 := (unhide HPO).1
      go_loopw [10, 11] (fun la2 li wr => ∃ (l : Nat) (last : Int), 1 ≤ l ∧ l ≤ 9 ∧ la2 = .int .i64 last ∧ li = .int .i64 l ∧ Hz (-1 ≤ last ∧ last ≤ 262144 ∧ Low T last l 0) ∧ Hz (PwSt T m W wr B la Ta va us a0 a1 a2 a3 a4 a5 a6 a7 c1 c6 c7)) (fun _ li _ => 9 - (intOf li).toNat)
      case atStart => exact ⟨1, -1, by omega, by omega, rfl, rfl, hide ⟨by omega, by omega, fun l2 r2 p2 _ _ => by omega⟩, HS⟩
      case round =>
        obtain ⟨l, last, hl1, hl9, rfl, rfl, HLo, HSt⟩ := hrel
        by_cases hl8 : l ≤ 8
        · have k1 : (l : Int) ≤ 8 := by omega
          have k2 : (l : Int) < 9 := by omega
          have k3 : ((l : Nat) : Int).toNat = l := by omega
          go_wp2_with fail
          obtain ⟨w5, hw5⟩ : ∃ w5, w5 = wr := ⟨_, rfl⟩
          rw [← hw5] at HSt ⊢
          clear hw5
          go_loopw [10, 12] (fun la2 ro wq => ∃ (r : Nat) (last : Int), r ≤ lenOf T l ∧ la2 = .int .i64 last ∧ ro = .int .i64 r ∧ Hz (-1 ≤ last ∧ last ≤ 262144 ∧ Low T last l r) ∧ Hz (PwSt T m W wq B la Ta va us a0 a1 a2 a3 a4 a5 a6 a7 c1 c6 c7)) (fun _ ro _ => 1000000 - (intOf ro).toNat)
          case atStart => exact ⟨0, last, Nat.zero_le _, rfl, rfl, HLo, HSt⟩
          case round =>
            obtain ⟨r, last2, hr, rfl, rfl, HLo2, HSt2⟩ := hrel
            clear HLo HSt
            have hln := unhide HLN l
            have e1 : wr.cell? ⟨B + 1, l, none⟩ = some (.int .i64 (lenOf T l : Nat)) := ((unhide HSt2).b1.cell l).trans (ints_at9 T l (by omega))
            by_cases hgo : r < lenOf T l ∧ r < 40
            · have q1 : (r : Int) < (lenOf T l : Int) := by omega
              have q2 : (r : Int) < 40 := by omega
              have q3 : ((r : Nat) : Int).toNat = r := by omega
              obtain ⟨i, p, hi, hp, hps, hpx, hrow⟩ := unhide HROW l r hgo.1
              have HWH := hide (whereT_any la Ta va (backT (wsOf (textT T)) T) _ _ _ (l : Nat) (r : Nat) wr (unhide HSt2).tb (by omega) (by omega) (unhide HRL))
              rw [where_row _ _ _ _ l r (by omega) _ hrow] at HWH
              unfold atV3 at HWH
              dsimp only at HWH
              have HRP : Hz (RowP T l r p) := hide ⟨i, hi, hp⟩
              have hlow := (unhide HLo2).2.2 l r p (.inr ⟨rfl, Nat.le_refl _⟩) (unhide HRP)
              have HPX := hide (And.intro hps hpx)
              clear hi hp hrow hpx
              generalize ((mkW (textT T) p).l : Int) = pl at *
              generalize ((mkW (textT T) p).c : Int) = pc at *
              have hfa := field_at0 (p : Nat) pl pc
              have p1 : ¬ ((p : Nat) : Int) ≤ last2 := by omega
              have p2 : ¬ (((textT T).size : Nat) : Int) ≤ ((p : Nat) : Int) := by omega
              have e2 : ∀ w, Below wr.heap.size wr w → w.cell? ⟨B, l, none⟩ = some (.string (kwOf l)) := fun w hb => ((unhide HSt2).below hb).b0.cell l |>.trans (words_at9 l (by omega))
              have HE2 := hide e2
              clear e2 hps
              go_wp2_with fail
              refine (unhide HWH).mono ?_
              rintro e w6 ⟨rfl, hb6⟩
              have e3 := unhide HE2 w6 hb6
              have HSt6 := hide ((unhide HSt2).below hb6)
              clear hb6 HWH HE2
              have HLo6 : Hz (-1 ≤ ((p : Nat) : Int) ∧ ((p : Nat) : Int) ≤ 262144 ∧ Low T ((p : Nat) : Int) l (r + 1)) := hide ⟨by omega, by omega, fun l2 r2 p2 ho h2 => by
                have := (unhide HRP).lt h2 hl1 (ho.imp id (fun q => ⟨q.1, by omega⟩))
                omega⟩
              have hpb := (unhide HPX).1
              by_cases hkw : kwOf l = ByteArray.empty
              · obtain ⟨sa, sc, s1, s2, s3⟩ := spans_at9 (unhide HSt6) l hl1 (by omega) hkw
                obtain ⟨x, hx⟩ : ∃ x, (spOf T l)[r]? = some x := ⟨_, List.getElem?_eq_getElem (by omega)⟩
                obtain ⟨g, o, rfl, hg, hcs⟩ := s2 (by rw [encS2_length]; omega)
                have c0 : w6.cell? ⟨g, o + r * 2, none⟩ = some (.int .i32 x.1) := hcs _ _ (encS2_at _ r x hx).1
                have hwo : wordOf T l r = rtB x.1 := by
                  unfold wordOf
                  rw [if_pos hkw, List.getD_eq_getElem?_getD, hx]
                  rfl
                have hok : okR x.1 = true := by
                  have := List.all_eq_true.1 (spOf_ok (unhide HPO).2 l) x (List.mem_of_getElem? hx)
                  unfold spanK at this
                  rw [Bool.and_eq_true] at this
                  exact this.1
                have hbd := width_bound x.1 (okR_width.1 hok)
                have ht2 : (textV x.1).2 = 0 := by have := hok; unfold okR at this; simpa using this
                have HRT := hide (refText_any x.1 (by omega) (by omega) w6)
                rw [ht2, show (textV x.1).1 = rtB x.1 from rfl] at HRT
                rw [hwo] at hpb HPX
                rw [hkw] at e3
                have s1' : w6.cell? ⟨B + 1 + 1, l, none⟩ = some (.slice (some ⟨g, o, none⟩) (lenOf T l) sc) := s1
                obtain ⟨x1, x2⟩ := x
                dsimp only at c0 HRT hpb HPX
                generalize rtB x1 = kw at *
                obtain ⟨q, hq⟩ : ∃ q : Nat, q = p + kw.size := ⟨_, rfl⟩
                have HQ : Hz ((textT T).extract p q = kw) := hide (by rw [hq]; exact (unhide HPX).2)
                have p4 : ((p : Nat) : Int) + ((kw.size : Nat) : Int) = ((q : Nat) : Int) := by omega
                have p3 : ¬ (((textT T).size : Nat) : Int) < ((q : Nat) : Int) := by omega
                have p5 : ((q : Nat) : Int) ≤ (((textT T).size : Nat) : Int) := by omega
                have p6 : ((p : Nat) : Int) ≤ ((q : Nat) : Int) := by omega
                have p7 : ((p : Nat) : Int).toNat = p := by omega
                have p8 : ((q : Nat) : Int).toNat = q := by omega
                have m1 : (((textT T).extract p q).toList != kw.toList) = false := by rw [unhide HQ]; simp
                have m2 : ((textT T).extract p q).toList = kw.toList := by rw [unhide HQ]
                have e9 : (ByteArray.empty.toList).isEmpty = true := by decide +kernel
                clear hq hpb s1 s3 hx hcs hwo hok hbd ht2 hkw hg
                go_wp2_with fail
                refine (unhide HRT).mono ?_
                rintro e w7 ⟨rfl, hb7⟩
                have HSt7 := hide ((unhide HSt6).below hb7)
                clear hb7 HRT
                go_wp2_with fail
                exact ⟨⟨r + 1, _, by omega, rfl, by first | rfl | (congr 1; omega), HLo6, HSt7⟩, by simp [intOf]; omega⟩
              · have hwo : wordOf T l r = kwOf l := if_neg hkw
                rw [hwo] at hpb HPX
                have HKW := hide hkw
                have hk0 : 0 < (kwOf l).size := by
                  rcases Nat.eq_zero_or_pos (kwOf l).size with q | q
                  · exact absurd (toList_nil _ q) hkw
                  · exact q
                have n1 := toList_ne _ hk0
                have n2 := ne_isEmpty _ n1
                clear hwo hkw
                generalize kwOf l = kw at *
                obtain ⟨q, hq⟩ : ∃ q : Nat, q = p + kw.size := ⟨_, rfl⟩
                have HQ : Hz ((textT T).extract p q = kw) := hide (by rw [hq]; exact (unhide HPX).2)
                have p4 : ((p : Nat) : Int) + ((kw.size : Nat) : Int) = ((q : Nat) : Int) := by omega
                have p3 : ¬ (((textT T).size : Nat) : Int) < ((q : Nat) : Int) := by omega
                have p5 : ((q : Nat) : Int) ≤ (((textT T).size : Nat) : Int) := by omega
                have p6 : ((p : Nat) : Int) ≤ ((q : Nat) : Int) := by omega
                have p7 : ((p : Nat) : Int).toNat = p := by omega
                have p8 : ((q : Nat) : Int).toNat = q := by omega
                have m1 : (((textT T).extract p q).toList != kw.toList) = false := by rw [unhide HQ]; simp
                have m2 : ((textT T).extract p q).toList = kw.toList := by rw [unhide HQ]
                clear hq hpb
                go_wp2_with fail
                exact ⟨⟨r + 1, _, by omega, rfl, by first | rfl | (congr 1; omega), HLo6, HSt6⟩, by simp [intOf]; omega⟩
            · by_cases hrl : r < lenOf T l
              · have q1 : (r : Int) < (lenOf T l : Int) := by omega
                have q2 : ¬ (r : Int) < 40 := by omega
                have HWH := hide (whereT_any la Ta va (backT (wsOf (textT T)) T) _ _ _ (l : Nat) (lenOf T l : Nat) wr (unhide HSt2).tb (by omega) (by omega) (unhide HRL))
                rw [where_none _ _ _ _ l _ (by omega) (rows_end _ l)] at HWH
                unfold atV3 at HWH
                dsimp only at HWH
                generalize endL (textT T) = pl at *
                generalize endC (textT T) = pc at *
                have hfa := field_at0 ((textT T).size : Nat) pl pc
                have hne : ((((textT T).size : Nat) : Int) != (((textT T).size : Nat) : Int)) = false := by simp
                have HLoN : Hz (-1 ≤ last2 ∧ last2 ≤ 262144 ∧ Low T last2 (l + 1) 0) := hide ⟨(unhide HLo2).1, (unhide HLo2).2.1, fun l2 r2 p2 ho h2 => (unhide HLo2).2.2 l2 r2 p2 (.inl (by rcases ho with q | q <;> omega)) h2⟩
                have HBL := HSt2
                go_wp2_with fail
                refine (unhide HWH).mono ?_
                rintro e w6 ⟨rfl, hb6⟩
                have HSt6 := hide ((unhide HSt2).below hb6)
                clear hb6 HWH
                go_wp2_with fail
                exact ⟨⟨l + 1, last2, by omega, by omega, rfl, by first | rfl | (congr 1; omega), HLoN, HSt6⟩, by simp [intOf]; omega⟩
              · have q1 : ¬ (r : Int) < (lenOf T l : Int) := by omega
                have HWH := hide (whereT_any la Ta va (backT (wsOf (textT T)) T) _ _ _ (l : Nat) (lenOf T l : Nat) wr (unhide HSt2).tb (by omega) (by omega) (unhide HRL))
                rw [where_none _ _ _ _ l _ (by omega) (rows_end _ l)] at HWH
                unfold atV3 at HWH
                dsimp only at HWH
                generalize endL (textT T) = pl at *
                generalize endC (textT T) = pc at *
                have hfa := field_at0 ((textT T).size : Nat) pl pc
                have hne : ((((textT T).size : Nat) : Int) != (((textT T).size : Nat) : Int)) = false := by simp
                have HLoN : Hz (-1 ≤ last2 ∧ last2 ≤ 262144 ∧ Low T last2 (l + 1) 0) := hide ⟨(unhide HLo2).1, (unhide HLo2).2.1, fun l2 r2 p2 ho h2 => (unhide HLo2).2.2 l2 r2 p2 (.inl (by rcases ho with q | q <;> omega)) h2⟩
                have HBL := HSt2
                go_wp2_with fail
                refine (unhide HWH).mono ?_
                rintro e w6 ⟨rfl, hb6⟩
                have HSt6 := hide ((unhide HSt2).below hb6)
                clear hb6 HWH
                go_wp2_with fail
                exact ⟨⟨l + 1, last2, by omega, by omega, rfl, by first | rfl | (congr 1; omega), HLoN, HSt6⟩, by simp [intOf]; omega⟩
        · have k1 : ¬ (l : Int) ≤ 8 := by omega
          have HK := hide (known_any5 m wr (unhide HSt).e)
          go_wp2_with fail
          refine (unhide HK).mono ?_
          rintro e w6 ⟨rfl, hb6⟩
          have HB6 := hide ((unhide HSt).bl.trans (hb6.mono (unhide HSt).bl.size))
          clear hb6
          go_wp2_with fail
          go_ret
          exact ⟨rfl, unhide HB6⟩
end Go.Proofs.YtbefahknbdjnpaaGreatDoor
