/- The marks' variables, out of the row's first world. -/
import Derived.Test.YtjgfmobmilgapaaGreatDoorRmC
import Derived.Test.YtjgfmobmilgapaaGreatDoorM20
import Derived.Test.YtjgfmobmilgapaaGreatDoorM31
namespace Go.Proofs.YtjgfmobmilgapaaGreatDoor
open Go.ChangeShapes Go.WideShapes Go.ChangeAt Go.RowKit Go.Lib
set_option linter.unusedVariables false
theorem str_nil {s : ByteArray} (h : s.data.toList = []) : s = ⟨#[]⟩ := by
  obtain ⟨d⟩ := s
  have : d = #[] := Array.toList_eq_nil_iff.1 h
  rw [this]
theorem gRoomSpan : Tryz.prog.globalNamed "guise/guisekeep6.roomSpan" = some 0 := by kernel_rfl
theorem tRoomSpan : (Tryz.prog.globals[0]?).map (·.type) = some 68 := by kernel_rfl
theorem roomSpan_of {W : World} (h : VarReads Tryz.prog W "guise/guisekeep6.roomSpan" Rows.laid_guise_guisekeep6_roomSpan) : W.cell? ⟨0, 0, none⟩ = some (.int .i32 (-77)) ∧ W.cell? ⟨0, 1, none⟩ = some (.int .i32 0) := by
  obtain ⟨g1, t1, cs1, f1, p1, hg1, ht1, hv1, hd1⟩ := h
  obtain rfl := Option.some.inj (gRoomSpan.symm.trans hg1)
  obtain rfl := Option.some.inj (tRoomSpan.symm.trans ht1)
  obtain ⟨v0, v1, y0, y1, k, hcs, hx, t0, t1⟩ := trod2 Tryz.underlying68 (by kernel_rfl) rfl rfl (by kernel_rfl) (by kernel_rfl) hd1
  obtain ⟨z0, e0, rfl, _⟩ := DataW.trod_int Tryz.underlying21 t0
  injection e0 with e0
  obtain ⟨z1, e1, rfl, _⟩ := DataW.trod_int Tryz.underlying21 t1
  injection e1 with e1
  unfold Rows.laid_guise_guisekeep6_roomSpan at hx
  simp at hx
  obtain ⟨h0, h1⟩ := hx
  have hc : ∀ j, W.cell? ⟨0, j, none⟩ = cs1.toList[j]? := fun j => by rw [World.var?_cell hg1 hv1 j, Array.getElem?_toList]
  exact ⟨by rw [hc, hcs, e0, ← h0]; rfl, by rw [hc, hcs, e1, ← h1]; rfl⟩
theorem gRoomMark : Tryz.prog.globalNamed "guise/guisekeep6.roomMark" = some 1 := by kernel_rfl
theorem tRoomMark : (Tryz.prog.globals[1]?).map (·.type) = some 71 := by kernel_rfl
theorem roomMark_of {W : World} (h : VarReads Tryz.prog W "guise/guisekeep6.roomMark" Rows.laid_guise_guisekeep6_roomMark) : W.cell? ⟨1, 0, none⟩ = some (.int .i32 0) ∧ W.cell? ⟨1, 1, none⟩ = some (.int .i64 (-77)) := by
  obtain ⟨g1, t1, cs1, f1, p1, hg1, ht1, hv1, hd1⟩ := h
  obtain rfl := Option.some.inj (gRoomMark.symm.trans hg1)
  obtain rfl := Option.some.inj (tRoomMark.symm.trans ht1)
  obtain ⟨v0, v1, y0, y1, k, hcs, hx, t0, t1⟩ := trod2 Tryz.underlying71 (by kernel_rfl) rfl rfl (by kernel_rfl) (by kernel_rfl) hd1
  obtain ⟨z0, e0, rfl, _⟩ := DataW.trod_int Tryz.underlying21 t0
  injection e0 with e0
  obtain ⟨z1, e1, rfl, _⟩ := DataW.trod_int Tryz.underlying3 t1
  injection e1 with e1
  unfold Rows.laid_guise_guisekeep6_roomMark at hx
  simp at hx
  obtain ⟨h0, h1⟩ := hx
  have hc : ∀ j, W.cell? ⟨1, j, none⟩ = cs1.toList[j]? := fun j => by rw [World.var?_cell hg1 hv1 j, Array.getElem?_toList]
  exact ⟨by rw [hc, hcs, e0, ← h0]; rfl, by rw [hc, hcs, e1, ← h1]; rfl⟩
theorem gRoomPair : Tryz.prog.globalNamed "guise/guisekeep6.roomPair" = some 2 := by kernel_rfl
theorem tRoomPair : (Tryz.prog.globals[2]?).map (·.type) = some 74 := by kernel_rfl
theorem roomPair_of {W : World} (h : VarReads Tryz.prog W "guise/guisekeep6.roomPair" Rows.laid_guise_guisekeep6_roomPair) : W.cell? ⟨2, 0, none⟩ = some (.int .i32 (-77)) ∧ W.cell? ⟨2, 1, none⟩ = some (.int .i32 0) ∧ W.cell? ⟨2, 2, none⟩ = some (.int .i32 0) := by
  obtain ⟨g1, t1, cs1, f1, p1, hg1, ht1, hv1, hd1⟩ := h
  obtain rfl := Option.some.inj (gRoomPair.symm.trans hg1)
  obtain rfl := Option.some.inj (tRoomPair.symm.trans ht1)
  obtain ⟨v0, v1, v2, y0, y1, y2, k, hcs, hx, t0, t1, t2⟩ := trod3 Tryz.underlying74 (by kernel_rfl) rfl rfl rfl (by kernel_rfl) (by kernel_rfl) (by kernel_rfl) hd1
  obtain ⟨z0, e0, rfl, _⟩ := DataW.trod_int Tryz.underlying21 t0
  injection e0 with e0
  obtain ⟨z1, e1, rfl, _⟩ := DataW.trod_int Tryz.underlying21 t1
  injection e1 with e1
  obtain ⟨z2, e2, rfl, _⟩ := DataW.trod_int Tryz.underlying21 t2
  injection e2 with e2
  unfold Rows.laid_guise_guisekeep6_roomPair at hx
  simp at hx
  obtain ⟨h0, h1, h2⟩ := hx
  have hc : ∀ j, W.cell? ⟨2, j, none⟩ = cs1.toList[j]? := fun j => by rw [World.var?_cell hg1 hv1 j, Array.getElem?_toList]
  exact ⟨by rw [hc, hcs, e0, ← h0]; rfl, by rw [hc, hcs, e1, ← h1]; rfl, by rw [hc, hcs, e2, ← h2]; rfl⟩
theorem gRoomMap : Tryz.prog.globalNamed "guise/guisekeep6.roomMap" = some 3 := by kernel_rfl
theorem tRoomMap : (Tryz.prog.globals[3]?).map (·.type) = some 77 := by kernel_rfl
theorem roomMap_of {W : World} (h : VarReads Tryz.prog W "guise/guisekeep6.roomMap" Rows.laid_guise_guisekeep6_roomMap) : W.cell? ⟨3, 0, none⟩ = some (.int .i32 (-77)) ∧ W.cell? ⟨3, 1, none⟩ = some (.string ⟨#[]⟩) := by
  obtain ⟨g1, t1, cs1, f1, p1, hg1, ht1, hv1, hd1⟩ := h
  obtain rfl := Option.some.inj (gRoomMap.symm.trans hg1)
  obtain rfl := Option.some.inj (tRoomMap.symm.trans ht1)
  obtain ⟨v0, v1, y0, y1, k, hcs, hx, t0, t1⟩ := trod2 Tryz.underlying77 (by kernel_rfl) rfl rfl (by kernel_rfl) (by kernel_rfl) hd1
  obtain ⟨z0, e0, rfl, _⟩ := DataW.trod_int Tryz.underlying21 t0
  injection e0 with e0
  obtain ⟨z1, e1, rfl, _⟩ := DataW.trod_string Tryz.underlying9 t1
  injection e1 with e1
  unfold Rows.laid_guise_guisekeep6_roomMap at hx
  simp at hx
  obtain ⟨h0, h1⟩ := hx
  have hc : ∀ j, W.cell? ⟨3, j, none⟩ = cs1.toList[j]? := fun j => by rw [World.var?_cell hg1 hv1 j, Array.getElem?_toList]
  exact ⟨by rw [hc, hcs, e0, ← h0]; rfl, by rw [hc, hcs, e1, str_nil (s := z1) (by first | exact h1 | exact h1.symm | simpa using h1)]; rfl⟩
theorem envR_of {laid pl : List (String × DataW Unit)} {W : World} (h : laidMetH Tryz.prog laid W)
    (e1 : (laid.filter fun x => x.2.handleName?.isSome) = [("errors.errorType", Rows.laid_errors_errorType)])
    (e2 : (laid.filter fun x => x.2.handleName?.isNone) = pl)
    (m1 : ("guise/guisekeep6.roomSpan", Rows.laid_guise_guisekeep6_roomSpan) ∈ pl) (m2 : ("guise/guisekeep6.roomMark", Rows.laid_guise_guisekeep6_roomMark) ∈ pl)
    (m3 : ("guise/guisekeep6.roomPair", Rows.laid_guise_guisekeep6_roomPair) ∈ pl) (m4 : ("guise/guisekeep6.roomMap", Rows.laid_guise_guisekeep6_roomMap) ∈ pl) {m : Int} (hE : EnvK m W) : EnvR W := by
  unfold laidMetH at h
  rw [e1, e2] at h
  obtain ⟨hp, _⟩ := h
  obtain ⟨a0, a1⟩ := roomSpan_of (laidMet.reads hp m1)
  obtain ⟨b0, b1⟩ := roomMark_of (laidMet.reads hp m2)
  obtain ⟨c0, c1, c2⟩ := roomPair_of (laidMet.reads hp m3)
  obtain ⟨d0, d1⟩ := roomMap_of (laidMet.reads hp m4)
  exact ⟨a0, a1, b0, b1, c0, c1, c2, d0, d1, by have := hE.p.big; omega⟩
end Go.Proofs.YtjgfmobmilgapaaGreatDoor
