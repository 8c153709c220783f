/- UtfAppend, where bytes and number hold together at most a million values: a number's width, and its bytes behind any others, in new memory each time. -/
import Derived.Test.YtinhmhkdofoneaaBookAB
import Derived.Test.YtinhmhkdofoneaaRoomyB
import Derived.Test.YtinhmhkdofoneaaRefBytes
import Derived.Lib.AppendZeros
import Derived.Laws.IdiomStrings
namespace Go.Proofs.Ytinhmhkdofoneaa
open Go.RowKit Go.Shelf
set_option linter.unusedVariables false

theorem infoBt : (Try.prog.info? 5).map (fun i => (i.zero, i.size, i.bytes)) = some (some (.int .u8 0), 1, 1) := by kernel_rfl
/-- A mark. -/
def mkB (i j : Nat) : Int := ((i : Int) + 1) / (if j % 3 = 0 then 1 else if j % 3 = 1 then 256 else 65536) % 256
set_option maxHeartbeats 2000000 in
theorem bytes_any (i j : Nat) (w : World) (hi : i ≤ 1001) (hj : j ≤ maxLen) : Calls Try.prog 31 #[.int .i64 i, .int .i64 j] w fun e w' => e = .returned (.int .u8 (mkB i j)) ∧ Below w.heap.size w w' := by
  unfold maxLen at hj
  have h1 : (i : Int) ≤ 1001 := by omega
  have h2 : (j : Int) ≤ 9223372036854775807 := by omega
  have hc : j % 3 = 0 ∨ j % 3 = 1 ∨ j % 3 = 2 := by omega
  rcases hc with hc | hc | hc
  · have hm : mkB i j = ((i : Int) + 1) % 256 := by unfold mkB; simp [hc]
    have hr : (j : Int) % 3 = 0 := by omega
    have HM := hide hm
    clear hm hc hj
    go_enter Try.func31, Try.ntmps31
    go_wp2
    go_ret
    exact ⟨by rw [unhide HM]; rfl, Below.refl _ _⟩
  · have hm : mkB i j = ((i : Int) + 1) / 256 := by unfold mkB; simp [hc]; omega
    have hr : (j : Int) % 3 = 1 := by omega
    have HM := hide hm
    clear hm hc hj
    go_enter Try.func31, Try.ntmps31
    go_wp2
    go_ret
    exact ⟨by rw [unhide HM]; rfl, Below.refl _ _⟩
  · have hm : mkB i j = ((i : Int) + 1) / 65536 := by unfold mkB; simp [hc]; omega
    have hr : (j : Int) % 3 = 2 := by omega
    have HM := hide hm
    clear hm hc hj
    go_enter Try.func31, Try.ntmps31
    go_wp2
    go_ret
    exact ⟨by rw [unhide HM]; rfl, Below.refl _ _⟩

theorem own_baseB {W : World} {base base' e size n : Nat} {v : Value} {xs : List Value} (h : W.ownsRow base e size v n xs) (hb : base' ≤ base) : W.ownsRow base' e size v n xs :=
  ⟨h.1, h.2.imp id fun ⟨g, cap, cur, h1, h2, h3⟩ => ⟨g, cap, cur, h1, Nat.le_trans hb h2, h3⟩⟩
theorem own_belowB {W W' : World} {base e size n : Nat} {v : Value} {xs : List Value} (h : W.ownsRow base e size v n xs) (hb : Below W.heap.size W W') : W'.ownsRow base e size v n xs :=
  h.kept (grown_of_below hb) (by cases v.ownBlock <;> simp)

set_option maxRecDepth 100000 in
set_option maxHeartbeats 2000000 in
theorem grow_any (n : Nat) (h0 : 0 < n) (hn : n ≤ 4194304) (w : World) : Calls Try.prog 77 #[.slice none 0 0, .int .i64 n] w fun e w' => ∃ v, e = .returned v ∧ w'.ownsRow w.heap.size 5 1 v 0 [] ∧ Below w.heap.size w w' := by
  obtain ⟨i0, hi, hz0, hz1, hz2⟩ := info_parts infoBt
  have kz := Lib.run_append_nil_zeros (P := Try.prog) w 47 3 47 5 i0 (.int .u8 0) .i64 .i64 Try.underlying47 Try.underlying3 hi hz0 n h0 (by rw [hz1]; omega) (by omega) (by rw [hz2]; omega)
  have hge := grownCap_ge w n 0 5
  have hle := grownCap_le_maxLen w n 0 5 (by unfold maxLen; omega)
  have hcz : ∀ m, (Builtin.zeroCells (Value.int .u8 0).cells m).size = m := fun m => by rw [size_zeroCells]; simp [Value.cells]
  have hsz : (Builtin.zeroCells (Value.int .u8 0).cells n ++ Builtin.zeroCells (Value.int .u8 0).cells (grownCap w n 0 5 - n)).size = grownCap w n 0 5 := by rw [Array.size_append, hcz, hcz]; omega
  generalize Builtin.zeroCells (Value.int .u8 0).cells n ++ Builtin.zeroCells (Value.int .u8 0).cells (grownCap w n 0 5 - n) = cs at *
  generalize grownCap w n 0 5 = cap at *
  have h1 : (0 : Int) < (n : Int) := by omega
  have h2 : (n : Int) ≤ 4194304 := by omega
  have HSZ := hide hsz
  have hcap : (0 : Int) ≤ (cap : Int) := by omega
  have HLE := hide hle
  have HGE := hide hge
  clear hi hz0 hz1 hz2 hcz hsz hle hge
  go_enter Try.func77, Try.ntmps77
  go_wp2_with (at_builtin; refine Lib.wpList_append_run _ rfl _ _ 47 3 rfl (.slice none 0 0) (.int .i64 n) rfl rfl _ _ kz ?_)
  go_ret
  refine ⟨_, rfl, ⟨by simp, .inr ⟨w.heap.size, cap, cs, rfl, Nat.le_refl _, World.alloc_heap_new w.drew _, by omega, unhide HLE, by rw [unhide HSZ]; omega, by simp⟩⟩, ((Below.refl _ _).drew).alloc (Nat.le_refl _) _⟩

/-- Bytes in memory: where they are some. -/
def BtAt (W : World) (g o : Nat) (zs : List Int) : Prop := g < W.heap.size ∧ ∀ j z, zs[j]? = some z → W.cell? ⟨g, o + j, none⟩ = some (.int .u8 z)
theorem BtAt.below {W W' : World} {N g o : Nat} {zs : List Int} (h : BtAt W g o zs) (hb : Below N W W') (hg : g < N) : BtAt W' g o zs := ⟨Nat.lt_of_lt_of_le h.1 (by have := hb.size; omega), fun j z hj => (hb.cell (p := ⟨g, o + j, none⟩) hg).trans (h.2 j z hj)⟩
theorem BtAt.news {W : World} {g o : Nat} {zs : List Int} (h : BtAt W g o zs) : ∀ j u, (encB zs)[j]? = some u → W.cell? ((⟨g, o, none⟩ : Addr).add j) = some u := fun j u hu => by
  rw [add_none']
  simp only [encB, List.getElem?_map, Option.map_eq_some_iff] at hu
  obtain ⟨z, hz, rfl⟩ := hu
  exact h.2 j z hz

set_option maxRecDepth 100000 in
set_option maxHeartbeats 4000000 in
theorem concat_any (G g1 o1 c1 g2 o2 c2 : Nat) (xs ys : List Int) (hx : xs.length ≤ 1048576) (hy0 : 0 < ys.length) (hy : ys.length ≤ 1048576) (w : World) (hG : w.heap[G]? = some (.cells #[.slice (some ⟨g1, o1, none⟩) xs.length c1, .slice (some ⟨g2, o2, none⟩) ys.length c2] 47 (0, 0))) (h1 : BtAt w g1 o1 xs) (h2 : BtAt w g2 o2 ys) :
    Calls Try.prog 60 #[.slice (some ⟨G, 0, none⟩) 2 2] w fun e w' => ∃ v, e = .returned v ∧ w'.ownsRow w.heap.size 5 1 v (xs ++ ys).length (encB (xs ++ ys)) ∧ Below w.heap.size w w' := by
  have hB : Blk w G #[.slice (some ⟨g1, o1, none⟩) xs.length c1, .slice (some ⟨g2, o2, none⟩) ys.length c2] 47 := hG
  obtain ⟨i0, hi, hz0, hz1, hz2⟩ := info_parts infoBt
  have HI := hide (And.intro hi (And.intro hz0 (And.intro hz1 hz2)))
  have d0 := hB.cell 0
  have d1 := hB.cell 1
  have HBk := hide hB
  have H1 := hide h1
  have H2 := hide h2
  have hxi : (xs.length : Int) ≤ 1048576 := by omega
  have hyi : (ys.length : Int) ≤ 1048576 := by omega
  clear hG hB hi hz0 hz1 hz2 h1 h2
  have hgr := grow_any (xs.length + ys.length) (by omega) (by omega)
  rw [show ((xs.length + ys.length : Nat) : Int) = (xs.length : Int) + (ys.length : Int) by omega] at hgr
  have HG := hide hgr
  have hs1 : ¬ (xs.length : Int) < 0 := by omega
  have hs2 : ¬ (xs.length : Int) + (ys.length : Int) < 0 := by omega
  clear hgr
  go_enter Try.func60, Try.ntmps60
  go_wp2_with fail
  refine wp_loop_rounds 3 ?_
  rw [rounds_succ]
  go_wp2_with fail
  rw [rounds_succ]
  go_wp2_with fail
  rw [rounds_succ]
  go_wp2_with fail
  refine (unhide HG _).mono ?_
  rintro e w1 ⟨v, rfl, hown, hb⟩
  have HO := hide hown
  have HB := hide hb
  have hBk := (unhide HBk).below hb (unhide HBk).lt
  clear d0 d1
  have d0 := hBk.cell 0
  have d1 := hBk.cell 1
  have hlt1 := hb.size
  have K1 := (unhide H1).below hb (unhide H1).1
  obtain ⟨v2, w2, hr2, ho2, hg2, _⟩ := run_append_own (P := Try.prog) w1 w.heap.size 47 47 5 i0 (.int .u8 0) 1 1 Try.underlying47 (unhide HI).1 (unhide HI).2.1 (unhide HI).2.2.1 (unhide HI).2.2.2 rfl (by decide) v 0 [] hown ⟨g1, o1, none⟩ xs.length c1 (encB xs) (by simp [encB]) K1.news (fun u hu => by simp only [encB, List.mem_map] at hu; obtain ⟨z, _, rfl⟩ := hu; rfl) (by unfold maxLen; omega) (by omega) hlt1
  rw [List.nil_append, Nat.zero_add] at ho2
  have hb2 : Below w.heap.size w w2 := hb.grown hg2 hlt1 (fun k hk => (hown.lt k hk).1)
  have hBk2 := (unhide HBk).below hb2 (unhide HBk).lt
  have f1 := hBk2.cell 1
  have hlt2 := hb2.size
  have K2 := (unhide H2).below hb2 (unhide H2).1
  obtain ⟨v3, w3, hr3, ho3, hg3, _⟩ := run_append_own (P := Try.prog) w2 w.heap.size 47 47 5 i0 (.int .u8 0) 1 1 Try.underlying47 (unhide HI).1 (unhide HI).2.1 (unhide HI).2.2.1 (unhide HI).2.2.2 rfl (by decide) v2 xs.length (encB xs) ho2 ⟨g2, o2, none⟩ ys.length c2 (encB ys) (by simp [encB]) K2.news (fun u hu => by simp only [encB, List.mem_map] at hu; obtain ⟨z, _, rfl⟩ := hu; rfl) (by unfold maxLen; omega) (by omega) hlt2
  have hb3 : Below w.heap.size w w3 := hb2.grown hg3 hlt2 (fun k hk => (ho2.lt k hk).1)
  have HE : Hid (w3.ownsRow w.heap.size 5 1 v3 (xs ++ ys).length (encB (xs ++ ys))) := hide (by simpa [encB] using ho3)
  have HBE := hide hb3
  have HR2 := hide hr2
  have HR3 := hide hr3
  clear hown hb hBk K1 hr2 ho2 hg2 hb2 hBk2 K2 hr3 ho3 hg3 hb3 hs1 hs2 HG
  go_wp2_with fail
  refine wp_loop_rounds 3 ?_
  rw [rounds_succ]
  go_wp2_with (at_builtin; refine Lib.wpList_append_run _ rfl _ _ 47 47 rfl v (.slice (some ⟨g1, o1, none⟩) xs.length c1) rfl rfl v2 w2 (unhide HR2) ?_)
  rw [rounds_succ]
  go_wp2_with (at_builtin; refine Lib.wpList_append_run _ rfl _ _ 47 47 rfl v2 (.slice (some ⟨g2, o2, none⟩) ys.length c2) rfl rfl v3 w3 (unhide HR3) ?_)
  rw [rounds_succ]
  go_wp2
  go_ret
  exact ⟨_, rfl, unhide HE, unhide HBE⟩

/-- The bytes of a text, as numbers. -/
def bytesI (b : ByteArray) : List Int := b.data.toList.map (fun u => (u.toNat : Int))
theorem bytesI_enc (b : ByteArray) : encB (bytesI b) = byteVals b := by simp [bytesI, encB, byteVals, Function.comp_def]
theorem bytesI_length (b : ByteArray) : (bytesI b).length = b.size := by simp [bytesI]

set_option maxHeartbeats 2000000 in
theorem append_none (r : Int) (hr : widthOf r = 0) (a : Option Addr) (n cap : Nat) (w : World) : Calls Try.prog 25 #[.slice a n cap, .int .i32 r] w fun e w' => e = .returned (.tuple #[.slice none 0 0, .int .i64 12]) ∧ w' = w := by
  have HR := hide hr
  clear hr
  go_enter Try.func25, Try.ntmps25
  go_wp2_with fail
  refine (width_any r _).mono ?_
  rintro e w1 ⟨rfl, rfl⟩
  rw [unhide HR]
  go_wp2
  go_ret2
  exact ⟨rfl, rfl⟩

set_option maxRecDepth 100000 in
set_option maxHeartbeats 4000000 in
theorem append_some (r : Int) (hr : widthOf r ≠ 0) (g o cap : Nat) (xs : List Int) (hx : xs.length ≤ 1048576) (w : World) (h1 : BtAt w g o xs) :
    Calls Try.prog 25 #[.slice (some ⟨g, o, none⟩) xs.length cap, .int .i32 r] w fun e w' => ∃ v, e = .returned (.tuple #[v, .int .i64 0]) ∧ w'.ownsRow w.heap.size 5 1 v (xs ++ bytesI (Utf8.encode r)).length (encB (xs ++ bytesI (Utf8.encode r))) ∧ Below w.heap.size w w' := by
  have hne : (widthOf r == 0) = false := by simpa using hr
  have hsz : 0 < (Utf8.encode r).size ∧ (Utf8.encode r).size ≤ 4 := by
    have h2 := (decode_enc hr).2
    have h3 : 1 ≤ widthOf r ∧ widthOf r ≤ 4 := by
      unfold widthOf at hr ⊢
      repeat' split
      all_goals first | omega | simp_all
    omega
  have kb := run_bytes_of_string (P := Try.prog) w 9 47 5 (Utf8.encode r) Try.underlying9 Try.underlying47 Try.underlying5
  have hrow : ∀ (j : Nat) (z : Int), (bytesI (Utf8.encode r))[j]? = some z → (bytesRow (Utf8.encode r) (grownCap w (Utf8.encode r).size 0 5))[j]? = some (Value.int .u8 z) := by
    intro j z hj
    have hlt := (List.getElem?_eq_some_iff.1 hj).1
    rw [bytesI_length] at hlt
    unfold bytesRow
    rw [Array.getElem?_append_left (by simpa using hlt), Array.getElem?_map]
    simp only [bytesI, List.getElem?_map, Option.map_eq_some_iff] at hj
    obtain ⟨u, hu, rfl⟩ := hj
    simp only [Array.getElem?_toList] at hu
    rw [hu]
    rfl
  have hyl := bytesI_length (Utf8.encode r)
  have HENC : Hid (∃ s, s = Utf8.encode r) := hide ⟨_, rfl⟩
  generalize grownCap w (Utf8.encode r).size 0 5 = cap2 at kb hrow
  generalize bytesRow (Utf8.encode r) cap2 = row at kb hrow
  rw [← hyl] at kb hsz
  generalize bytesI (Utf8.encode r) = ys at *
  obtain ⟨W2, hW2⟩ : ∃ W2, W2 = ((w.alloc (.cells row 5 (row.size, row.size + 1))).alloc (.cells #[.slice (some ⟨g, o, none⟩) xs.length cap, .slice (some ⟨w.heap.size, 0, none⟩) ys.length cap2] 47)).drew := ⟨_, rfl⟩
  have hb2 : Below w.heap.size w W2 := by rw [hW2]; exact (((Below.refl w.heap.size w).alloc (Nat.le_refl _) _).alloc (by simp) _).drew
  have hG : W2.heap[w.heap.size + 1]? = some (.cells #[.slice (some ⟨g, o, none⟩) xs.length cap, .slice (some ⟨w.heap.size, 0, none⟩) ys.length cap2] 47 (0, 0)) := by
    have := World.alloc_heap_new (w.alloc (.cells row 5 (row.size, row.size + 1))) (.cells #[.slice (some ⟨g, o, none⟩) xs.length cap, .slice (some ⟨w.heap.size, 0, none⟩) ys.length cap2] 47)
    rw [World.size_alloc] at this
    rw [hW2]
    exact this
  have hY : BtAt W2 w.heap.size 0 ys := by
    have hh : W2.heap[w.heap.size]? = some (.cells row 5 (row.size, row.size + 1)) := by
      rw [hW2]
      exact (Below.heap_alloc (w.alloc (.cells row 5 (row.size, row.size + 1))) _ _ (by simp)).trans (World.alloc_heap_new w _)
    refine ⟨(Array.getElem?_eq_some_iff.1 hh).1, fun j z hj => ?_⟩
    rw [Nat.zero_add]
    have : W2.cell? ⟨w.heap.size, j, none⟩ = row[j]? := by simp [World.cell?, hh]
    rw [this]
    exact hrow j z hj
  have hX := h1.below hb2 h1.1
  have hsz2 := hb2.size
  have HC := hide (concat_any (w.heap.size + 1) g o cap w.heap.size 0 cap2 xs ys hx hsz.1 (by omega) W2 hG hX hY)
  have HB2 := hide hb2
  rw [hW2] at HC
  clear hrow hyl hG hY hX hsz h1 hsz2
  go_enter Try.func25, Try.ntmps25
  go_wp2_with fail
  refine (width_any r _).mono ?_
  rintro e w1 ⟨rfl, rfl⟩
  go_wp2_with fail
  refine (unhide HC).mono ?_
  rintro e w3 ⟨v, rfl, hown, hb⟩
  have hz : w1.heap.size ≤ W2.heap.size := (unhide HB2).size
  rw [← hW2] at hown hb
  have HE := hide (own_baseB hown hz)
  have HBE := hide ((unhide HB2).trans (hb.mono hz))
  clear hown hb kb hb2 hW2 HC
  go_wp2
  go_ret2
  exact ⟨_, rfl, unhide HE, unhide HBE⟩

/-- Nothing, and a list behind it. -/
theorem append_nil_list (W : World) (a : Option Addr) (cap : Nat) (zs : List Int) (hz : zs.length ≤ 1048576) (hr : RowB W a zs) : ∃ v1 W1, (Builtin.append_ #[47, 47] 47 #[.slice none 0 0, .slice a zs.length cap]).run Try.prog W = .ok v1 W1 ∧ W1.ownsRow W.heap.size 5 1 v1 zs.length (encB zs) ∧ Below W.heap.size W W1 := by
  obtain ⟨i0, hi, hz0, hz1, hz2⟩ := info_parts infoBt
  by_cases h0 : zs.length = 0
  · obtain rfl : zs = [] := List.eq_nil_of_length_eq_zero h0
    refine ⟨.slice none 0 0, W, ?_, World.ownsRow_nil _ _ _ _, Below.refl _ _⟩
    cases a <;> simp [Builtin.append_, run_underlying Try.underlying47, sizeOf, typeInfo, hi, Builtin.lenOf, Builtin.firstCells, loadCells, loadCellsFrom]
  · obtain ⟨g, o, rfl, hg, hc⟩ := hr (by omega)
    have hn : ∀ j u, (encB zs)[j]? = some u → W.cell? ((⟨g, o, none⟩ : Addr).add j) = some u := fun j u hu => by
      rw [add_none']
      simp only [encB, List.getElem?_map, Option.map_eq_some_iff] at hu
      obtain ⟨z, hz', rfl⟩ := hu
      have hlt := (List.getElem?_eq_some_iff.1 hz').1
      rw [hc j hlt]
      simp [List.getD, hz']
    obtain ⟨v2, w2, hr2, ho2, hg2, _⟩ := run_append_own (P := Try.prog) W W.heap.size 47 47 5 i0 (.int .u8 0) 1 1 Try.underlying47 hi hz0 hz1 hz2 rfl (by decide) (.slice none 0 0) 0 [] (World.ownsRow_nil _ _ _ _) ⟨g, o, none⟩ zs.length cap (encB zs) (by simp [encB]) hn (fun u hu => by simp only [encB, List.mem_map] at hu; obtain ⟨z, _, rfl⟩ := hu; rfl) (by unfold maxLen; omega) (by omega) (Nat.le_refl _)
    exact ⟨v2, w2, hr2, by simpa using ho2, (Below.refl _ _).grown hg2 (Nat.le_refl _) (fun k hk => by simp [Value.ownBlock] at hk)⟩
theorem append_own_list (W : World) (lo : Nat) (v : Value) (xs ys : List Int) (hx : xs.length ≤ 1048576) (hy : ys.length ≤ 4) (hv : W.ownsRow lo 5 1 v xs.length (encB xs)) (hlo : lo ≤ W.heap.size) (g c : Nat) (hb : BtAt W g 0 ys) : ∃ v1 W1, (Builtin.append_ #[47, 47] 47 #[v, .slice (some ⟨g, 0, none⟩) ys.length c]).run Try.prog W = .ok v1 W1 ∧ W1.ownsRow lo 5 1 v1 (xs ++ ys).length (encB (xs ++ ys)) ∧ Below lo W W1 := by
  obtain ⟨i0, hi, hz0, hz1, hz2⟩ := info_parts infoBt
  obtain ⟨v2, w2, hr2, ho2, hg2, _⟩ := run_append_own (P := Try.prog) W lo 47 47 5 i0 (.int .u8 0) 1 1 Try.underlying47 hi hz0 hz1 hz2 rfl (by decide) v xs.length (encB xs) hv ⟨g, 0, none⟩ ys.length c (encB ys) (by simp [encB]) hb.news (fun u hu => by simp only [encB, List.mem_map] at hu; obtain ⟨z, _, rfl⟩ := hu; rfl) (by unfold maxLen; omega) (by omega) hlo
  exact ⟨v2, w2, hr2, by simpa [encB] using ho2, (Below.refl _ _).grown hg2 hlo (fun k hk => (hv.lt k hk).1)⟩
/-- An append whose run is known, behind a guard that is met. -/
theorem wpList_append_run_g {P : Program} (w : World) {ops : Array Oper} {rest : List Oper} {o : Oper} {a : Act} {Q : Exit → Act → World → Prop} (hw : Region.wanted o (yielded ops a.tmps) = true) (s x : Operand) (t tn : TypeId)
    (ho : o.op = .call { callee := .builtin .append, args := #[s, x], argTypes := #[t, tn] }) (vs vx : Value) (hs : a.eval s = vs) (hx : a.eval x = vx)
    (v' : Value) (w' : World) (hr : (Builtin.append_ #[t, tn] o.type #[vs, vx]).run P w = .ok v' w') (h : wpList P ops Q rest (a.put o.dst v') w') : wpList P ops Q (o :: rest) a w :=
  wpList_step fun K hK => by rw [if_pos hw]; exact Lib.wp_append_run w s x t tn ho vs vx hs hx v' w' hr (hK _ _ h)

set_option maxRecDepth 100000 in
set_option maxHeartbeats 8000000 in
theorem lappend_in (a : Option Addr) (cap : Nat) (zs : List Int) (hz : zs.length ≤ 1048576) (r : Int) (w : World) (hr : RowB w a zs) :
    Calls Try.prog 5 #[.slice a zs.length cap, .int .i32 r] w fun e w' => e = .returned (.bool true) ∧ Below w.heap.size w w' := by
  have hww : (widthOf r != widthOf r) = false := by simp
  have hzi : (zs.length : Int) ≤ 1048576 := by omega
  have HR := hide hr
  clear hr
  go_enter Try.func5, Try.ntmps5
  go_wp2_with fail
  refine (alive_any _).mono ?_
  rintro e w1 ⟨rfl, hb⟩
  have HB1 := hide hb
  have HR1 := hide ((unhide HR).below hb (Nat.le_refl _))
  clear hb HR
  go_wp2_with fail
  refine (width_any r _).mono ?_
  rintro e w2 ⟨rfl, rfl⟩
  go_wp2_with fail
  refine (refWidth_any r _).mono ?_
  rintro e w4 ⟨rfl, rfl⟩
  go_wp2_with fail
  have hal := (Below.refl w4.heap.size w4).alloc (Nat.le_refl _) (.cells #[.slice none 0 0, .slice none 0 0, .int .i64 0, .bool false] 52)
  refine (roomyB_any a cap zs (by omega) 165 _ ((unhide HR1).below hal (Nat.le_refl _))).mono ?_
  rintro e w5 ⟨rfl, hnum, hb⟩
  rw [World.size_alloc] at hnum hb
  have HN5 := hide hnum
  have HL5 := hide (hal.trans (hb.mono (by omega)))
  have HBK5 : Hid (BookB w5 w4.heap.size w4.heap.size [] (.slice none 0 0) (.slice none 0 0) 0) := hide ⟨⟨(Blk.new w4 _ _).below hb (by omega), SlAt.nil _ _ _, SlAt.nil _ _ _, .inl rfl, Nat.le_refl _⟩, by simp, List.Pairwise.nil⟩
  clear hb hal hnum
  go_wp2
  go_loopw [7] (fun i wr => ∃ (k : Nat) (its : List ItB) (lv wv : Value) (h : Int), i = .int .i64 k ∧ k ≤ 2 ∧ its.length ≤ k ∧ Hid (BookB wr w4.heap.size w4.heap.size its lv wv h) ∧ Hid (NumsB wr (w4.heap.size + 1) (roomy zs 165)) ∧ Hid (Below w4.heap.size w4 wr)) (fun i _ => 2 - (intOf i).toNat)
  case atStart => exact ⟨0, [], _, _, _, rfl, by omega, by simp, HBK5, HN5, HL5⟩
  case round =>
    obtain ⟨k, its, lv, wv, h, rfl, hk, hil, HBK, HN, HL⟩ := hrel
    have hlo : w4.heap.size < wr.heap.size := (unhide HBK).bk.blk.lt
    have HRR := hide ((unhide HR1).below (unhide HL) (Nat.le_refl _))
    by_cases hk2 : k < 2
    · have hk3 : (k : Int) < 2 := by omega
      by_cases hw0 : widthOf r = 0
      · have hwe : (widthOf r == 0) = true := by rw [hw0]; rfl
        have HA := hide (append_none r hw0)
        clear hw0
        go_wp2_with fail
        refine (unhide HA _ _ _ _).mono ?_
        rintro e w6 ⟨rfl, rfl⟩
        go_wp2_with fail
        refine (refWidth_any r _).mono ?_
        rintro e w7 ⟨rfl, rfl⟩
        go_wp2_with fail
        refine (keep_anyB _ w4.heap.size w4.heap.size its lv wv h (.slice none 0 0) [] (fun it hi => by cases it.v.ownBlock <;> simp [Value.ownBlock]) (World.ownsRow_nil _ _ _ _) (by simp) (by simp [maxLen]) (unhide HBK) (by omega) (by omega)).mono ?_
        rintro e w9 ⟨⟨rr, rfl⟩, ⟨t, lv', wv', h', htn, _, htl, hbk⟩, hkk⟩
        have HBK9 := hide hbk
        have HN9 : Hid (NumsB w9 (w4.heap.size + 1) (roomy zs 165)) := hide (hkk.1 _ _ _ (unhide HN) (by decide) (by omega))
        have HL9 := hide ((unhide HL).trans hkk.2)
        clear hbk hkk
        go_wp2
        go_roundw
        case rel => exact ⟨k + 1, t, lv', wv', h', by go_num, by omega, by omega, HBK9, HN9, HL9⟩
        case measure => simp [intOf]; omega
      · have hwe : (widthOf r == 0) = false := by simpa using hw0
        have hbt : BtAt wr (w4.heap.size + 1) 0 zs := ⟨Blk.lt (unhide HN), fun j z hj => by
          have hlt := (List.getElem?_eq_some_iff.1 hj).1
          rw [Nat.zero_add, Blk.cell (unhide HN) j]
          rw [List.getElem?_toArray, List.getElem?_map, roomy, List.getElem?_append_left hlt, hj]
          rfl⟩
        have HA := hide (append_some r hw0 (w4.heap.size + 1) 0 (zs.length + 80) zs hz wr hbt)
        have HRB := hide (fun W => refBytes_any r hw0 W)
        have hsz : (Utf8.encode r).size ≤ 4 := by
          have h2 := (decode_enc hw0).2
          have h3 : widthOf r ≤ 4 := by
            unfold widthOf
            repeat' split
            all_goals omega
          omega
        have hyl := bytesI_length (Utf8.encode r)
        have HYE := hide (bytesI_enc (Utf8.encode r))
        generalize bytesI (Utf8.encode r) = ys at *
        rw [← hyl] at HRB hsz
        generalize byteVals (Utf8.encode r) = bv at *
        clear hw0 hbt hyl
        go_wp2_with fail
        refine (unhide HA).mono ?_
        rintro e w6 ⟨v, rfl, hown, hb⟩
        have HO6 := hide hown
        have HDIS : Hid (∀ it ∈ its, it.v.ownBlock = none ∨ it.v.ownBlock ≠ v.ownBlock) := hide (fun it hi => by
          cases hv : it.v.ownBlock with
          | none => exact .inl rfl
          | some y =>
            refine .inr fun e => ?_
            have q1 := (((unhide HBK).own it hi).1.lt y hv).2
            have q2 := (hown.lt y e.symm).1
            omega)
        have HBK6 := hide ((unhide HBK).below (by omega) hb)
        have HN6 := hide (Blk.below (unhide HN) hb (Blk.lt (unhide HN)))
        have HL6 := hide ((unhide HL).trans (hb.mono (by omega)))
        have HR6 := hide ((unhide HRR).below hb (Nat.le_refl _))
        have hz6 : wr.heap.size ≤ w6.heap.size := hb.size
        clear hown hb
        go_wp2_with fail
        refine (refWidth_any r _).mono ?_
        rintro e w7 ⟨rfl, rfl⟩
        obtain ⟨v1, w8, hr8, ho8, hb8⟩ := append_nil_list w7 a cap zs hz (unhide HR6)
        have HR8 := hide hr8
        have hz8 := hb8.size
        obtain ⟨v2, w9, hr9, ho9, hb9⟩ := append_own_list (w8.alloc (.cells bv.toArray 5)) w7.heap.size v1 zs ys hz hsz (ho8.alloc _) (by simp; omega) w8.heap.size ys.length ⟨by simp, fun j z hj => by
          rw [Nat.zero_add, (Blk.new w8 bv.toArray 5).cell j]
          rw [← unhide HYE]
          simp [encB, hj]⟩
        have HR9 := hide hr9
        have HO9 := hide ho9
        have hb79 : Below w7.heap.size w7 w9 := (hb8.alloc hz8 (.cells bv.toArray 5)).trans hb9
        have HO69 := hide (own_baseB (own_belowB (unhide HO6) hb79) (show w4.heap.size ≤ wr.heap.size by omega))
        have HBK9 := hide ((unhide HBK6).below (by omega) hb79)
        have HN9 := hide (Blk.below (unhide HN6) hb79 (Blk.lt (unhide HN6)))
        have HL9 := hide ((unhide HL6).trans (hb79.mono (by omega)))
        have hz9 := hb79.size
        clear hr8 ho8 hb8 hr9 ho9 hb9 hb79 HR6 HO6 HBK6 HN6 HL6
        go_wp2_with (at_builtin; refine wpList_append_run_g _ (by rfl) _ _ 47 47 rfl (.slice none 0 0) (.slice a zs.length cap) rfl rfl v1 w8 (unhide HR8) ?_)
        refine (unhide HRB _).mono ?_
        rintro e w10 ⟨rfl, rfl⟩
        go_wp2_with (at_builtin; refine wpList_append_run_g _ (by rfl) _ _ 47 47 rfl v1 (.slice (some ⟨w8.heap.size, 0, none⟩) ys.length ys.length) rfl rfl v2 w9 (unhide HR9) ?_)
        refine (same_ownB w4.heap.size _ _ (zs ++ ys) _ (unhide HO69) (own_baseB (unhide HO9) (by omega))).mono ?_
        rintro e w11 ⟨rfl, hb⟩
        have HO11 := hide (own_belowB (unhide HO69) hb)
        have HBK11 := hide ((unhide HBK9).below (by omega) hb)
        have HN11 := hide (Blk.below (unhide HN9) hb (Blk.lt (unhide HN9)))
        have HL11 := hide ((unhide HL9).trans (hb.mono (by omega)))
        have hz11 : w9.heap.size ≤ w11.heap.size := hb.size
        have hzl : (zs ++ ys).length ≤ 1048580 := by rw [List.length_append]; omega
        have HZL := hide hzl
        clear hb hzl
        go_wp2_with fail
        refine (keep_anyB w11 w4.heap.size w4.heap.size its lv wv h _ (zs ++ ys) (unhide HDIS) (unhide HO11) (by have := unhide HZL; omega) (by have := unhide HZL; unfold maxLen; omega) (unhide HBK11) (by omega) (by omega)).mono ?_
        rintro e w12 ⟨⟨rr, rfl⟩, ⟨t, lv', wv', h', htn, _, htl, hbk⟩, hkk⟩
        have HBK12 := hide hbk
        have HN12 : Hid (NumsB w12 (w4.heap.size + 1) (roomy zs 165)) := hide (hkk.1 _ _ _ (unhide HN11) (by decide) (by omega))
        have HL12 := hide ((unhide HL11).trans hkk.2)
        clear hbk hkk
        go_wp2
        go_roundw
        case rel => exact ⟨k + 1, t, lv', wv', h', by go_num, by omega, by omega, HBK12, HN12, HL12⟩
        case measure => simp [intOf]; omega
    · have hk3 : ¬ (k : Int) < 2 := by omega
      go_wp2_with fail
      refine (intactB_any (w4.heap.size + 1) a cap zs (by omega) 165 _ (unhide HN) (unhide HRR)).mono ?_
      rintro e w6 ⟨rfl, hb⟩
      have HBK6 := hide ((unhide HBK).below (by omega) hb)
      have HL6 := hide ((unhide HL).trans (hb.mono (by omega)))
      have hz6 : wr.heap.size ≤ w6.heap.size := hb.size
      clear hb
      go_wp2_with fail
      refine (apart_anyB mkB (fun i j w hi hj => bytes_any i j w hi hj) w6 w4.heap.size w4.heap.size its lv wv h (unhide HBK6) (by omega) (by omega)).mono ?_
      rintro e w7 ⟨rfl, hb⟩
      have HL7 := hide ((unhide HL6).trans hb)
      clear hb
      go_wp2
      go_ret
      exact ⟨rfl, (unhide HB1).trans ((unhide HL7).mono (unhide HB1).size)⟩

theorem lappend_any (a : Option Addr) (len cap : Nat) (z : List Int) (r : Int) (hw : (Lit.int .i32 r).wf = true) (w : World) (hr : ArgRow .u8 w a len cap z) (hl : z.length ≤ 1048576) :
    Calls Try.prog 5 #[.slice a len cap, .int .i32 r] w fun e w' => e = .returned (.bool true) ∧ Below w.heap.size w w' := by
  have hrow := hr.rowB
  obtain ⟨h1, h2, _⟩ := hr
  have hlen : (z.take len).length = len := by rw [List.length_take]; omega
  have := lappend_in a cap (z.take len) (by omega) r w hrow
  rw [hlen] at this
  exact this
end Go.Proofs.Ytinhmhkdofoneaa
