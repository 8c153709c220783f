/- SpotsNames: the chapter's runs. -/
import Derived.Test.YtnphbjhikapoeaaTextBads
import Derived.Test.YtnphbjhikapoeaaSp3
import Derived.Test.YtnphbjhikapoeaaRef2
import Derived.Test.YtnphbjhikapoeaaParts2
import Derived.Test.YtnphbjhikapoeaaSpStr
import Derived.Test.YtnphbjhikapoeaaSameS
import Derived.Test.YtnphbjhikapoeaaRow4
namespace Go.Proofs.Ytnphbjhikapoeaa
open Go.RowKit Go.Shelf
attribute [local go_sem] Oper.semAt_some
set_option linter.unusedVariables false
theorem eq_nilN (f : FuncId) (p : Value) (w : World) : (binOp BinOp.eql 42 (.func (.func f) #[] #[p]) .nilFunc).run Try.prog w = .ok (.bool false) w := by
  have e : ∃ d, Op.maxDepth = d + 1 := ⟨_, rfl⟩
  obtain ⟨d, hd⟩ := e
  simp [binOp, Op.equal, hd, Op.equalIn, run_underlying Try.underlying42]
theorem tbads_callN (B : Nat) (w : World) : Calls Try.prog 13 #[.pointer (some ⟨B, 0, none⟩)] w fun e w' => e = .returned (.func (.func 44) #[] #[.pointer (some ⟨w.heap.size, 0, none⟩)]) ∧ w' = w.alloc (.cells #[.pointer (some ⟨B, 0, none⟩)] 22) := by
  go_enter Try.func13, Try.ntmps13
  go_wp2
  go_ret
  exact ⟨rfl, rfl⟩
theorem run_starts : starts runS = [0, 1, 3, 4, 5, 6] := by decide
theorem run_lns : lns runS = [0, 3] := by decide
theorem run_holds4 : Holds runS 4 3 := ⟨by decide, by decide, fun _ => by decide⟩
theorem run_holds2 : Holds runS 2 1 := ⟨by decide, by decide, fun _ => by decide⟩
theorem run_lineOf : LineOf runS 3 1 3 := ⟨by rw [run_lns]; rfl, by omega, fun y h => by rw [run_lns] at h; simp at h⟩
theorem run_lineAt : LineAt runS 1 3 6 := ⟨by rw [run_lns]; rfl, .inl ⟨by rw [run_lns]; rfl, by rw [run_starts]; rfl⟩⟩
theorem run_bad : ∀ y, y < 6 → badAt runS y = true → y = 3 ∨ y = 4 := by decide
theorem run_bads : bads runS 6 = [3, 4] := by decide
theorem run_bads3 : bads runS 3 = [] := by decide
theorem run_bads4 : bads runS 4 = [3] := by decide
theorem take_two {i j : Nat} (hi : i ≤ 2) (hj : j ≤ 2) (h : [3, 4].take i = [3, 4].take j) : i = j := by
  have := congrArg List.length h
  simp at this
  omega
def RunI (T : World) (Bn : Nat) (pre : List Nat) (W : World) : Prop := ∃ j : Nat, pre = [3, 4].take j ∧ j ≤ 2 ∧ Blk W Bn #[.int .i64 j] 3 ∧ Below T.heap.size T W
theorem RunI.old {T : World} {Bn B : Nat} (h1 : Bn < B) (h3 : T.heap.size ≤ B) : Old B (RunI T Bn) := fun s X Y ⟨m, p1, p2, p3, p4⟩ hb => ⟨m, p1, p2, p3.below hb h1, p4.trans (hb.mono h3)⟩
theorem run_where : atV ((4 : Nat) : Int) (((1 : Nat) : Int) + 1) (((3 : Nat) : Int) - ((3 : Nat) : Int) + 1) = .tuple #[.agg #[.int .i64 4, .int .i64 2, .int .i64 1], .bool true] := by rfl
theorem run_find : placeV (pl runS 6) 6 = .tuple #[.agg #[.int .i64 7, .int .i64 6], .bool true] := by kernel_rfl
theorem run_of : placeV (pl runS 1) 1 = .tuple #[.agg #[.int .i64 1, .int .i64 1], .bool true] := by kernel_rfl
theorem run_spot : spotY runS 3 = .tuple #[.agg #[.int .i32 65533, .int .i64 1, .bool true], .bool true] := by kernel_rfl
theorem run_line : runS.extract (pl runS 3) (pl runS 6) = ⟨#[226, 130, 122]⟩ := by decide +kernel
theorem run_slice : runS.extract (pl runS 1) (pl runS 4) = ⟨#[195, 169, 10, 226]⟩ := by decide +kernel
theorem run_parts : pcs runS [1, 3, 99] 4 = encS [⟨#[97]⟩, ⟨#[195, 169, 10, 226]⟩, ⟨#[130, 122]⟩, ⟨#[]⟩] := by kernel_rfl
/-- What the walk stands on. -/
structure NmSt (w W : World) (B : Nat) (bs : List (Nat × Array Value × TypeId)) : Prop where
  text : TextAt W B runS
  old : Below w.heap.size w W
  has : ∀ p ∈ bs, Blk W p.1 p.2.1 p.2.2
theorem NmSt.below {w W W' : World} {B : Nat} {bs : List (Nat × Array Value × TypeId)} (h : NmSt w W B bs) (hb : Below W.heap.size W W') : NmSt w W' B bs :=
  ⟨h.text.below hb (Nat.le_refl _), h.old.trans (hb.mono h.old.size), fun p hp => (h.has p hp).below hb (h.has p hp).lt⟩
theorem NmSt.push {w W : World} {B : Nat} {bs : List (Nat × Array Value × TypeId)} (h : NmSt w W B bs) (cs : Array Value) (t : TypeId) : NmSt w (W.alloc (.cells cs t)) B ((W.heap.size, cs, t) :: bs) := by
  have k := h.below ((Below.refl W.heap.size W).alloc (Nat.le_refl _) (.cells cs t))
  refine ⟨k.text, k.old, fun p hp => ?_⟩
  rcases List.mem_cons.1 hp with rfl | hp
  · exact Blk.new W cs t
  · exact k.has p hp
set_option maxRecDepth 100000 in
set_option maxHeartbeats 8000000 in
theorem law_snames_in (n : Nat) (hn : 8 ≤ n) (w : World) :
    CallsIn Fence.wide n Try.prog 3 #[] w fun e w' => e = .returned (.bool true) ∧ Below w.heap.size w w' := by
  have h1 : 1 ≤ n := by omega
  refine callsIn_of_wp_marks Try.func3 rfl trivial ?_ rfl
  simp only [Try.ntmps3, List.size_toArray, List.length_nil, Nat.reduceSub, Array.replicate_succ, Array.replicate_zero, List.push_toArray, List.append_toArray, List.nil_append, List.cons_append]
  have Hb0 := hide (Blk.new w #[.bool false] 4)
  have HB0 := hide ((Below.refl w.heap.size w).alloc (Nat.le_refl _) (.cells #[.bool false] 4))
  gi_wp2_with fail
  refine ⟨trivial, ?_⟩
  refine (callsIn_wide.2 (begun_any runS (by decide) _)).mono ?_
  rintro e w1 ⟨B, rfl, hT, hb⟩
  have H1 : Hid (NmSt w w1 B [(w.heap.size, #[.bool false], 4)]) := hide ⟨hT, (unhide HB0).trans (hb.mono (unhide HB0).size), fun p hp => by
    rcases List.mem_singleton.1 hp with rfl
    exact (unhide Hb0).below hb (unhide Hb0).lt⟩
  clear hT hb Hb0 HB0
  gi_wp2_with fail
  refine ⟨trivial, ?_⟩
  refine (callsIn_wide.2 (where_in B runS (by decide) 4 3 1 3 (by decide) run_holds4 run_lineOf _ (unhide H1).text)).mono ?_
  rintro e w2 ⟨rfl, hb⟩
  rw [run_where]
  have H2 := hide (((unhide H1).below hb).push #[.int .i64 4, .int .i64 2, .int .i64 1] 26)
  clear hb H1
  gi_wp2_with fail
  refine ⟨trivial, ?_⟩
  refine (callsIn_wide.2 (show Calls Try.prog _ #[.pointer (some ⟨B, 0, none⟩), .int .i64 2, .int .i64 4] _ _ from find_in B runS (by decide) 1 3 6 6 run_lineAt (by decide) (by decide) _ (unhide H2).text)).mono ?_
  rintro e w3 ⟨rfl, hb⟩
  rw [run_find]
  have H3 := hide (((unhide H2).below hb).push #[.int .i64 7, .int .i64 6] 30)
  clear hb H2
  gi_wp2_with fail
  refine ⟨trivial, ?_⟩
  refine (callsIn_wide.2 (show Calls Try.prog _ #[.pointer (some ⟨B, 0, none⟩), .int .i64 2] _ _ from line_in B runS (by decide) 1 3 6 run_lineAt _ (unhide H3).text)).mono ?_
  rintro e w4 ⟨rfl, hb⟩
  rw [run_line]
  have H4 := hide ((unhide H3).below hb)
  clear hb H3
  gi_wp2_with fail
  refine ⟨trivial, ?_⟩
  refine (callsIn_wide.2 (show Calls Try.prog _ #[.pointer (some ⟨B, 0, none⟩), .int .i64 1, .int .i64 4] _ _ from slice_in B runS (by decide) 1 4 (by decide) (by decide) _ (unhide H4).text)).mono ?_
  rintro e w5 ⟨rfl, hb⟩
  rw [run_slice]
  have H5 := hide ((unhide H4).below hb)
  clear hb H4
  gi_wp2_with fail
  refine ⟨trivial, ?_⟩
  refine (callsIn_wide.2 (show Calls Try.prog _ #[.pointer (some ⟨B, 0, none⟩), .int .i64 3] _ _ from spot_in B runS (by decide) 3 (by decide) _ (unhide H5).text)).mono ?_
  rintro e w6 ⟨rfl, hb⟩
  rw [run_spot]
  have H6 := hide (((unhide H5).below hb).push #[.int .i32 65533, .int .i64 1, .bool true] 37)
  clear hb H5
  gi_wp2_with fail
  refine ⟨trivial, ?_⟩
  refine (callsIn_wide.2 (show Calls Try.prog _ #[.pointer (some ⟨B, 0, none⟩), .int .i64 2] _ _ from of_in B runS (by decide) 2 1 (by decide) run_holds2 _ (unhide H6).text)).mono ?_
  rintro e w7 ⟨rfl, hb⟩
  rw [run_of]
  have H7 := hide (((unhide H6).below hb).push #[.int .i64 1, .int .i64 1] 30)
  clear hb H6
  have q0 := (unhide H7).has _ (.head _)
  have q1 := (unhide H7).has _ (.tail _ (.head _))
  have q2 := (unhide H7).has _ (.tail _ (.tail _ (.head _)))
  have q3 := (unhide H7).has _ (.tail _ (.tail _ (.tail _ (.head _))))
  have a0 := q0.cell 0
  have a1 := q0.cell 1
  have b2 := q1.cell 2
  have c0 := q2.cell 0
  have c1 := q2.cell 1
  have d0 := q3.cell 0
  have d1 := q3.cell 1
  have d2 := q3.cell 2
  clear q0 q1 q2 q3
  gi_wp2_with fail
  refine ⟨trivial, ?_⟩
  refine (callsIn_wide.2 (tbads_callN B _)).mono ?_
  rintro e w8 ⟨rfl, rfl⟩
  have H8 := hide ((unhide H7).push #[.pointer (some ⟨B, 0, none⟩)] 22)
  clear H7 a0 a1 b2 c0 c1 d0 d1 d2
  generalize hW8 : w7.alloc (.cells #[.int .i64 1, .int .i64 1] 30) = w8 at *
  clear hW8
  obtain ⟨Bc, hBc⟩ : ∃ Bc, Bc = w8.heap.size := ⟨_, rfl⟩
  rw [← hBc] at H8
  rw [← hBc]
  have hn3 := eq_nilN 44 (.pointer (some ⟨Bc, 0, none⟩))
  clear hBc
  generalize w8.alloc (.cells #[.pointer (some ⟨B, 0, none⟩)] 22) = T at *
  gi_wp2
  rename_i K1 hK1
  obtain ⟨Bn, hBn⟩ : ∃ Bn, Bn = T.heap.size := ⟨_, rfl⟩
  have hn0 : Blk (T.alloc (.cells #[.int .i64 0] 3)) Bn #[.int .i64 0] 3 := by rw [hBn]; exact Blk.new T _ _
  have ho0 := (Below.refl T.heap.size T).alloc (Nat.le_refl _) (.cells #[.int .i64 0] 3)
  have hz1 : (T.alloc (.cells #[.int .i64 0] 3)).heap.size = T.heap.size + 1 := by simp
  rw [← hBn]
  have hTB : T.heap.size ≤ Bn := by omega
  generalize T.alloc (.cells #[.int .i64 0] 3) = W1 at *
  have hBW : Bn < W1.heap.size := by omega
  have hTW : T.heap.size ≤ W1.heap.size := by omega
  clear hBn hz1 hn3
  have hcB := (unhide H8).has _ (.head _)
  have hcS : T.cell? ⟨B, 0, none⟩ = some (.string runS) := by
    obtain ⟨g1, c1, g2, c2, hB, _⟩ := (unhide H8).text
    exact hB.cell 0
  have hK1' := hide hK1
  clear hK1
  refine range_deep rfl h1 (gf := 44) (lb := #[.pointer (some ⟨Bc, 0, none⟩)]) rfl trivial (enters_of Try.func44 (by kernel_rfl) rfl)
    (tbads_deep (fun _ _ => True) (n - 1) Bc B (by omega) runS (by decide) T hcS (hcB.cell 0)) (fun _ _ => trivial) (fun _ _ _ _ => trivial) ho0 (fun _ => rfl)
    (RunI T Bn) (fun _ _ _ => False) (RunI.old hBW hTW) (fun _ _ _ _ h _ => h) ⟨0, rfl, by omega, hn0, ho0⟩ ?round ?done ?stop
  case round =>
    rintro pre x W ⟨j, hpre, hj, hn, ho⟩ ⟨hx, hbx, hp2⟩ hge
    rw [run_count] at hx
    rcases run_bad x hx hbx with rfl | rfl
    · obtain rfl : j = 0 := take_two hj (by omega) (hpre.symm.trans (hp2.trans run_bads3))
      have hal := (Below.refl W.heap.size W).alloc (Nat.le_refl _) (.cells #[.int .i64 4, .int .i64 3] 30)
      have hP := Blk.new W #[.int .i64 4, .int .i64 3] 30
      have hen : encsD runS 3 = #[.agg #[.int .i64 4, .int .i64 3]] := by kernel_rfl
      rw [hen]
      have HPRE : Hid ([] ++ [3] = [3, 4].take 1) := hide rfl
      subst hpre
      clear hen
      gi_wp2
      refine ⟨Above.below hal, ⟨0, rfl, by omega, hn.below hal hn.lt, ho.trans (hal.mono ho.size)⟩, ?_⟩
      intro Wr hgr hsr ⟨j2, hpre2, hj2, hn2, ho2⟩
      obtain rfl : 0 = j2 := take_two (by omega) hj2 hpre2
      have hPr := hP.kept hgr (by simp; omega)
      have k0 := hn2.cell 0
      have kf := hn2.frozen 0
      have hPs := hPr.other (show W.heap.size ≠ Bn by omega) (i := 0) (.int .i64 1)
      have p0 := hPs.cell 0
      have p1 := hPs.cell 1
      have kn := (hn2.set 0 (.int .i64 1)).cell 0
      have HC := hide (And.intro ((Above.refl W1.heap.size Wr).set (b := Bn) (i := 0) (by omega) (.int .i64 1)) (And.intro (hn2.set 0 (.int .i64 1)) (ho2.setCell (p := ⟨Bn, 0, none⟩) hTB (.int .i64 1))))
      clear hP hPr hPs hal hn ho hn2 ho2 hpre2 hgr hsr
      gi_wp2
      exact ⟨(unhide HC).1, trivial, 1, unhide HPRE, by omega, (unhide HC).2.1, (unhide HC).2.2⟩
    · obtain rfl : j = 1 := take_two hj (by omega) (hpre.symm.trans (hp2.trans run_bads4))
      have hal := (Below.refl W.heap.size W).alloc (Nat.le_refl _) (.cells #[.int .i64 5, .int .i64 4] 30)
      have hP := Blk.new W #[.int .i64 5, .int .i64 4] 30
      have hen : encsD runS 4 = #[.agg #[.int .i64 5, .int .i64 4]] := by kernel_rfl
      rw [hen]
      have HPRE : Hid ([3] ++ [4] = [3, 4].take 2) := hide rfl
      subst hpre
      clear hen
      gi_wp2
      refine ⟨Above.below hal, ⟨1, rfl, by omega, hn.below hal hn.lt, ho.trans (hal.mono ho.size)⟩, ?_⟩
      intro Wr hgr hsr ⟨j2, hpre2, hj2, hn2, ho2⟩
      obtain rfl : 1 = j2 := take_two (by omega) hj2 hpre2
      have hPr := hP.kept hgr (by simp; omega)
      have k0 := hn2.cell 0
      have kf := hn2.frozen 0
      have hPs := hPr.other (show W.heap.size ≠ Bn by omega) (i := 0) (.int .i64 2)
      have p0 := hPs.cell 0
      have p1 := hPs.cell 1
      have kn := (hn2.set 0 (.int .i64 2)).cell 0
      have HC := hide (And.intro ((Above.refl W1.heap.size Wr).set (b := Bn) (i := 0) (by omega) (.int .i64 2)) (And.intro (hn2.set 0 (.int .i64 2)) (ho2.setCell (p := ⟨Bn, 0, none⟩) hTB (.int .i64 2))))
      clear hP hPr hPs hal hn ho hn2 ho2 hpre2 hgr hsr
      gi_wp2
      exact ⟨(unhide HC).1, trivial, 2, unhide HPRE, by omega, (unhide HC).2.1, (unhide HC).2.2⟩
  case done =>
    rintro D xs W2 hD hS ⟨j, hpre, hj, hn, ho⟩ hdef
    rw [run_count, run_bads] at hS
    obtain rfl : j = 2 := take_two hj (by omega) (hpre.symm.trans hS)
    have kn := hn.cell 0
    have HN := hide hn
    have HO := hide ho
    have HD := hide hdef
    clear hn ho hdef
    apply unhide hK1'
    gi_wp2_with fail
    refine ⟨trivial, ?_⟩
    have S2 := (unhide H8).below ((unhide HO).mono (Nat.le_refl _))
    have M2 : Marks w.heap.size W2 W2.heap.size [{ target := .collected D, args := #[] }] := Marks.push (W := W2) (lo := w.heap.size) (hi := 0) (ds := []) trivial (Nat.zero_le _) (by have := (unhide H8).old.size; omega) (unhide HD)
    have ha3 := (Below.refl W2.heap.size W2).alloc (Nat.le_refl _) (.cells #[.int .i64 1, .int .i64 3, .int .i64 99] 3)
    have hr3 : RowN (W2.alloc (.cells #[.int .i64 1, .int .i64 3, .int .i64 99] 3)) (some ⟨W2.heap.size, 0, none⟩) [1, 3, 99] := fun _ => ⟨W2.heap.size, 0, rfl, by simp, fun j hj => by
      have b := Blk.new W2 #[.int .i64 1, .int .i64 3, .int .i64 99] 3
      have hj' : j < 3 := hj
      rw [Nat.zero_add]
      rcases show j = 0 ∨ j = 1 ∨ j = 2 by omega with rfl | rfl | rfl
      · exact b.cell 0
      · exact b.cell 1
      · exact b.cell 2⟩
    have S3 := S2.below ha3
    have M3 := M2.below ha3
    have N3 := (unhide HN).below ha3 (unhide HN).lt
    have H3 := hide (And.intro S3 (And.intro M3 N3))
    clear S2 M2 S3 M3 N3 ha3 HN HO HD kn H8
    refine (callsIn_wide.2 (show Calls Try.prog _ #[.pointer (some ⟨B, 0, none⟩), .slice (some ⟨W2.heap.size, 0, none⟩) 3 3] _ _ from parts_text B runS (by decide) (some ⟨W2.heap.size, 0, none⟩) 3 [1, 3, 99] (by decide) _ (unhide H3).1.text hr3)).mono ?_
    rintro e w9 ⟨v, rfl, hown, hb⟩
    have hown2 : w9.ownsRow (W2.alloc (.cells #[.int .i64 1, .int .i64 3, .int .i64 99] 3)).heap.size 9 1 v ([⟨#[97]⟩, ⟨#[195, 169, 10, 226]⟩, ⟨#[130, 122]⟩, ⟨#[]⟩] : List ByteArray).length (encS [⟨#[97]⟩, ⟨#[195, 169, 10, 226]⟩, ⟨#[130, 122]⟩, ⟨#[]⟩]) := by
      rw [← run_parts]; exact hown
    obtain ⟨a, cap, rfl, hl, _, _⟩ := own_lstS hown2
    have H4 := hide (And.intro ((unhide H3).1.below hb) (And.intro ((unhide H3).2.1.below hb) ((unhide H3).2.2.below hb (unhide H3).2.2.lt)))
    have HL := hide hl
    clear hl hown hown2 hb H3 hr3
    have kn := (unhide H4).2.2.cell 0
    gi_wp2_with fail
    refine ⟨trivial, ?_⟩
    have ha4 := (Below.refl w9.heap.size w9).alloc (Nat.le_refl _) (.cells #[.string ⟨#[97]⟩, .string ⟨#[195, 169, 10, 226]⟩, .string ⟨#[130, 122]⟩, .string ⟨#[]⟩] 9)
    have hl1 : LstS (w9.alloc (.cells #[.string ⟨#[97]⟩, .string ⟨#[195, 169, 10, 226]⟩, .string ⟨#[130, 122]⟩, .string ⟨#[]⟩] 9)) a ([⟨#[97]⟩, ⟨#[195, 169, 10, 226]⟩, ⟨#[130, 122]⟩, ⟨#[]⟩] : List ByteArray) := fun k z hz => by
      obtain ⟨g, hg, hc⟩ := unhide HL k z hz
      exact ⟨g, hg, alloc_cell _ hc⟩
    have hl2 : LstS (w9.alloc (.cells #[.string ⟨#[97]⟩, .string ⟨#[195, 169, 10, 226]⟩, .string ⟨#[130, 122]⟩, .string ⟨#[]⟩] 9)) (some ⟨w9.heap.size, 0, none⟩) ([⟨#[97]⟩, ⟨#[195, 169, 10, 226]⟩, ⟨#[130, 122]⟩, ⟨#[]⟩] : List ByteArray) := fun k z hz => by
      have b := Blk.new w9 #[.string ⟨#[97]⟩, .string ⟨#[195, 169, 10, 226]⟩, .string ⟨#[130, 122]⟩, .string ⟨#[]⟩] 9
      refine ⟨w9.heap.size, rfl, (b.cell k).trans ?_⟩
      have hk : k < 4 := (List.getElem?_eq_some_iff.1 hz).1
      rcases show k = 0 ∨ k = 1 ∨ k = 2 ∨ k = 3 by omega with rfl | rfl | rfl | rfl
      · cases hz; rfl
      · cases hz; rfl
      · cases hz; rfl
      · cases hz; rfl
    have H5 := hide (And.intro ((unhide H4).1.below ha4) ((unhide H4).2.1.below ha4))
    clear H4 HL ha4 kn
    refine (callsIn_wide.2 (show Calls Try.prog _ #[.slice a 4 cap, .slice (some ⟨w9.heap.size, 0, none⟩) 4 4] _ _ from same_lstS a (some ⟨w9.heap.size, 0, none⟩) cap 4 ([⟨#[97]⟩, ⟨#[195, 169, 10, 226]⟩, ⟨#[130, 122]⟩, ⟨#[]⟩] : List ByteArray) (by decide) _ hl1 hl2)).mono ?_
    rintro e w10 ⟨rfl, hb⟩
    have H6 := hide (And.intro ((unhide H5).1.below hb) ((unhide H5).2.below hb))
    clear H5 hb hl1 hl2
    gi_wp2_with fail
    refine ⟨trivial, ?_⟩
    refine (callsIn_wide.2 (string_text B runS _ (unhide H6).1.text)).mono ?_
    rintro e w11 ⟨rfl, rfl⟩
    have hres := (unhide H6).1.has (w.heap.size, #[.bool false], 4) (by simp)
    have k0 := hres.cell 0
    have kf := hres.frozen 0
    have hbt : ((97 :: 195 :: 169 :: 10 :: 226 :: 130 :: 122 :: [] : List UInt8) == [97, 195, 169, 10, 226, 130, 122]) = true := by decide
    have HC := hide (And.intro (hres.set 0 (.bool true)) (And.intro ((unhide H6).1.old.setCell (p := ⟨w.heap.size, 0, none⟩) (Nat.le_refl _) (.bool true)) ((unhide H6).2.others (KeepsOthers.setCell w11 ⟨w.heap.size, 0, none⟩ (.bool true)))))
    clear hres H6
    gi_wp2
    refine leaves_marks _ _ _ (unhide HC).2.2 (unhide HC).1 (unhide HC).2.1 ?_
    intro W' hb' hB'
    have q := hb'.cell 0
    exact ⟨.bool true, by simp [results, Try.f3, go_sem, q], rfl, hB'⟩
  case stop => exact fun D c pre W2 hD hSp h hdef => h.elim
theorem law_snames (w : World) : Calls Try.prog 3 #[] w fun e w' => e = .returned (.bool true) ∧ Below w.heap.size w w' := callsIn_wide.1 (law_snames_in 8 (Nat.le_refl _) w)
end Go.Proofs.Ytnphbjhikapoeaa
