/- The book's Stays at lists of spans: each list is as it was. -/
import Derived.Test.YthbaheneikifiaaBookKP
namespace Go.Proofs.Ythbaheneikifiaa
open Go.RowKit Go.Shelf
set_option linter.unusedVariables false

set_option maxRecDepth 100000 in
set_option maxHeartbeats 4000000 in
theorem stays_anyP (W : World) (B lo : Nat) (t : List ItP) (lv wv : Value) (h : Int) (b : BookP W B lo t lv wv h) (hlo : lo ≤ W.heap.size) (hl : t.length ≤ 1001) :
    Calls Try.prog 89 #[.pointer (some ⟨B, 0, none⟩)] W fun e W' => e = .returned (.bool true) ∧ BookP W' B lo t lv wv h ∧ KeepsP B lo W W' := by
  have hlv : ∃ al cl, lv = .slice al t.length cl := by
    rcases b.bk.ls with ⟨rfl, h0⟩ | ⟨g, o, cap, cur, rfl, _⟩
    · exact ⟨none, 0, by rw [List.map_eq_nil_iff] at h0; rw [h0]; rfl⟩
    · exact ⟨_, cap, by rw [List.length_map]⟩
  obtain ⟨al, cl, rfl⟩ := hlv
  have HB := hide b
  clear b
  go_enter Try.func89, Try.ntmps89
  go_wp2
  go_loopw [3] (fun i wr => ∃ k : Nat, i = .int .i64 k ∧ k ≤ t.length ∧ Hid (BookP wr B lo t (.slice al t.length cl) wv h) ∧ Hid (KeepsP B lo W wr)) (fun i _ => t.length - (intOf i).toNat)
  case atStart => exact ⟨0, rfl, by omega, HB, hide (KeepsP.refl B lo W)⟩
  case round =>
    obtain ⟨k, rfl, hk, HBK, HKK⟩ := hrel
    have c0 := (unhide HBK).bk.blk.cell 0
    have c1 := (unhide HBK).bk.blk.cell 1
    have c3 := (unhide HBK).bk.blk.cell 3
    have f3 := (unhide HBK).bk.blk.frozen 3
    by_cases hkn : k < t.length
    · have hk1 : (k : Int) < (t.length : Int) := by omega
      have hk2 : ((k : Nat) : Int).toNat = k := by omega
      obtain ⟨it, hit⟩ : ∃ it, t[k]? = some it := ⟨_, List.getElem?_eq_getElem hkn⟩
      have hok := (unhide HBK).own it (List.mem_of_getElem? hit)
      obtain ⟨v, c, ws⟩ := it
      obtain ⟨av, cv, hv, _⟩ := own_lstP hok.1
      obtain ⟨ac, cc, hc, _⟩ := own_lstP hok.2
      simp only at hv hc
      subst hv
      subst hc
      obtain ⟨gl, ol, cl', e1, hl1, hl2, hlc⟩ := (unhide HBK).bk.ls.form (by rw [List.length_map]; omega)
      obtain ⟨gw, ow, cw, rfl, hw1, hw2, hwc⟩ := (unhide HBK).bk.ws.form (by rw [List.length_map]; omega)
      rw [List.length_map] at e1
      cases e1
      simp only [List.length_map] at HBK hl1 hw1 c1
      have l0 : wr.cell? ⟨gl, ol + k, none⟩ = some (.slice av ws.length cv) := hlc k _ (by simp [hit])
      have w0 : wr.cell? ⟨gw, ow + k, none⟩ = some (.slice ac ws.length cc) := hwc k _ (by simp [hit])
      have HV := hide hok.1
      have HC := hide hok.2
      have HIT := hide hit
      have hlor : lo ≤ wr.heap.size := by have := (unhide HKK).2.size; omega
      clear hok hlc hwc hit
      go_wp2
      go_region_held3 (fun w' => w'.cell? ⟨B, 0, none⟩ = some (.slice (some ⟨gl, ol, none⟩) t.length cl) ∧ w'.cell? ⟨B, 1, none⟩ = some (.slice (some ⟨gw, ow, none⟩) t.length cw) ∧ w'.cell? ⟨B, 3, none⟩ = some (.bool false) ∧ w'.cell? ⟨gl, ol + k, none⟩ = some (.slice av ws.length cv) ∧ w'.cell? ⟨gw, ow + k, none⟩ = some (.slice ac ws.length cc)) (first | exact ⟨k0, k1, s1, k3, k4⟩ | exact ⟨(unhide GB).1.blk.cell 0, (unhide GB).1.blk.cell 1, (unhide GB).1.blk.cell 3, (unhide GB).1.ls.at k (u := .slice av ws.length cv) (by simp [unhide HIT]), (unhide GB).1.ws.at k (u := .slice ac ws.length cc) (by simp [unhide HIT])⟩ | go_keep)
        ((go_at_call 25; refine (same_ownP lo _ _ ws _ ?_ ?_).mono ?_; (exact unhide HV); (exact unhide HC); rintro e w' ⟨rfl, hb⟩; obtain ⟨k0, k1, s1, s2, k3, k4⟩ := keep_cellsP (unhide HBK).bk hb l0 w0; have GB := hide (keep_goodP (unhide HBK).bk hlor hb)))
      have HN := hide (show BookP (w'.setCell ⟨B, 3, none⟩ (.bool false)) B lo t (.slice (some ⟨gl, ol, none⟩) t.length cl) (.slice (some ⟨gw, ow, none⟩) t.length cw) h from ⟨(unhide GB).1, fun it hi => ((unhide HBK).own it hi).kept (unhide GB).2 (unhide HBK).bk.blk, (unhide HBK).dis⟩)
      have HNK := hide ((unhide HKK).trans (unhide GB).2)
      clear GB k0 k1 s1 s2 k3 k4 hb l0 w0 c0 c1 c3 f3
      go_wp2
      go_roundw
      case rel => exact ⟨k + 1, by go_num, by omega, by rw [List.length_map]; exact HN, HNK⟩
      case measure => simp [intOf]; omega
    · have hk1 : ¬ (k : Int) < (t.length : Int) := by omega
      go_wp2
      go_ret
      exact ⟨rfl, unhide HBK, unhide HKK⟩
end Go.Proofs.Ythbaheneikifiaa
