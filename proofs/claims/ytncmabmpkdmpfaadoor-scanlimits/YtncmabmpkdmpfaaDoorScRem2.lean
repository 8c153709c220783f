/- remark, its walk. -/
import Derived.Test.YtncmabmpkdmpfaaDoorScRem
import Derived.Test.YtncmabmpkdmpfaaDoorBds
import Derived.Lib.QuietBelow
import Derived.BigQuiet
namespace Go.Proofs.YtncmabmpkdmpfaaDoor
open Go.RowKit Go.Shelf
set_option linter.unusedVariables false
set_option maxRecDepth 100000 in
set_option maxHeartbeats 4000000 in
theorem remark_any (t : ByteArray) (ht : t.size < 4294967281) (m : Int) (w : World) (hm : w.cell? ⟨0, 0, none⟩ = some (.int .i64 m)) : Calls Tryd.prog 70 #[.string t] w fun e w' => e = .returned (tupB (remV t)) ∧ Below w.heap.size w w' := by
  obtain ⟨l, hl⟩ : ∃ l, l = t.extract 0 (nlAt t) := ⟨_, rfl⟩
  have hls : l.size ≤ t.size := by rw [hl, ByteArray.size_extract]; omega
  have hlm : l.size ≤ maxLen := by unfold maxLen; omega
  have hrv : remV t = match badOf l with | none => (l.size, true) | some x => (x + begLen (l.extract x l.size), false) := by subst hl; unfold remV; cases badOf (t.extract 0 (nlAt t)) <;> rfl
  have hcn := cut_nl t
  rw [← hl] at hcn
  have HRV := hide hrv
  have HCN := hide hcn
  have HLM := hide hlm
  have hll : (l.size : Int) ≤ 4294967281 := by omega
  clear hl hrv hcn hlm
  go_enter Tryd.func70, Tryd.ntmps70
  go_wp2_with fail
  refine (cut_sh t ⟨#[10]⟩ m _ ht hm).mono ?_
  rintro e w1 ⟨rfl, nq, rfl⟩
  have hb0 : Below w.heap.size w (w.drewN nq) := ⟨rfl, rfl, rfl, Nat.le_refl _, fun _ _ => rfl⟩
  rw [show (⟨(Lib.cut t.data.toList (ByteArray.mk #[10]).data.toList).1.toArray⟩ : ByteArray) = l from unhide HCN]
  generalize (⟨(Lib.cut t.data.toList (ByteArray.mk #[10]).data.toList).2.1.toArray⟩ : ByteArray) = c1
  generalize (Lib.cut t.data.toList (ByteArray.mk #[10]).data.toList).2.2 = c2
  have HB0 := hide hb0
  clear hb0
  generalize w.drewN nq = w1 at *
  go_wp2_with fail
  refine (valid_any l (unhide HLM) _).mono ?_
  rintro e w2 ⟨rfl, hb⟩
  have HB1 := hide ((unhide HB0).trans (hb.mono (unhide HB0).size))
  clear hb HB0
  cases hbd : badOf l with
  | none =>
    rw [validV_none hbd]
    have hrv := unhide HRV
    rw [hbd] at hrv
    have HR := hide hrv
    have HB2 := hide ((unhide HB1).alloc (unhide HB1).size (.cells #[.int .i64 0, .int .i64 0] 122))
    clear hrv HRV HB1
    go_wp2_with fail
    go_ret2
    exact ⟨by rw [unhide HR]; rfl, unhide HB2⟩
  | some x =>
    obtain ⟨y, hy⟩ := validV_some hbd
    rw [hy]
    have hrv := unhide HRV
    rw [hbd] at hrv
    have HR := hide hrv
    have hxs : x < l.size := (startsFrom_ge l l.size 0 x (List.mem_of_find?_eq_some hbd)).2
    have hx1 : (x : Int) ≤ (l.size : Int) := by omega
    have hx3 : (x : Int) ≤ 4294967281 := by omega
    have hx2 : ((x : Nat) : Int).toNat = x := by omega
    have hq := (unhide HB1).alloc (unhide HB1).size (.cells #[.int .i64 x, .int .i64 y] 122)
    have hblk := Blk.new w2 #[.int .i64 x, .int .i64 y] 122
    have HB2 := hide hq
    have HBLK := hide hblk
    have hbl : begLen (l.extract x l.size) ≤ (l.extract x l.size).size := (scanTo_le _ (Nat.zero_le _)).2
    have hbz : (l.extract x l.size).size = l.size - x := by rw [ByteArray.size_extract]; omega
    have hbz2 : (begLen (l.extract x l.size) : Int) ≤ 4294967281 := by omega
    have hbz3 : (l.extract x l.size).size ≤ 4611686018427387904 := by omega
    clear hrv HRV HB1 hy hbd hq hblk hbz hbl
    go_wp2_with fail
    generalize w2.alloc (.cells #[.int .i64 x, .int .i64 y] 122) = w3 at *
    have k0 := cell_regrown (show w3.cell? ⟨w2.heap.size, 0, none⟩ = some (.int .i64 (x : Int)) from (unhide HBLK).cell 0)
    refine wp_region_quiet_below (by kernel_rfl) (by kernel_rfl) ?_
    repeat (quiet_step (exact Calls.regrown_of (begun_text (l.extract x l.size) hbz3 _)))
    refine wpQuiet_nil ?_
    intro _ hw'
    obtain ⟨⟨dq, osq⟩, hw''⟩ := hw'
    subst hw''
    have HB3 := hide ((unhide HB2).trans ((below_regrown w3 dq osq).mono (unhide HB2).size))
    go_wp2_with fail
    go_ret2
    exact ⟨by rw [unhide HR]; exact tupB_mk (by rw [wrap_i64 (by omega) (by omega)]; omega), unhide HB3⟩
end Go.Proofs.YtncmabmpkdmpfaaDoor
