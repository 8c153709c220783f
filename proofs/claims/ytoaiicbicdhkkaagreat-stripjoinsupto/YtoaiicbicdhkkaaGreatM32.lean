/- Texts of this claim, one behind the other. -/
import Derived.Test.YtoaiicbicdhkkaaGreatM31
/- strip.First, zgf for every Book and every text that is not too great. -/
namespace Go.Proofs.YtoaiicbicdhkkaaGreat
open Go.RowKit Go.Shelf Go.Maps
attribute [local go_sem] Oper.semAt_some
set_option linter.unusedVariables false
attribute [local go_sem] Oper.semAt_some
set_option linter.unusedVariables false
attribute [local go_sem] Oper.semAt_some
set_option linter.unusedVariables false
end Go.Proofs.YtoaiicbicdhkkaaGreat
namespace Go.Proofs.YtoaiicbicdhkkaaGreat
open Go.RowKit Go.Shelf Go.Maps
set_option linter.unusedVariables false
theorem run_k1:zd2 HT ⟨#[97,226,128,141,98,255]⟩=⟨#[97,98,239,191,189]⟩:=by decide +kernel
theorem run_k2:(zav ⟨#[226,128,141,97,226,128,141]⟩).length - (zbi HT ⟨#[226,128,141,97,226,128,141]⟩).length=2:=by decide +kernel
theorem known11 (w:World):Calls Tryz.prog 11 #[] w fun e w' =>e=.returned (.bool true)∧Below w.heap.size w w':=by
 go_enter Tryz.func11,Tryz.ntmps11
 go_wp2_with fail
 refine (zhF w).mono ?_
 rintro e w1 ⟨v,rfl,hv,hb1⟩
 have HB1:=kz hb1
 have HC:=kz (zfH v w1 hv)
 clear hv hb1
 go_wp2_with fail
 refine (oz HC).mono ?_
 rintro e w2 ⟨B,rfl,hO,_,hbk,hb2⟩
 have HB2:=kz ((oz HB1).trans (hb2.mono (oz HB1).size))
 have H1:=zeI HT hO ⟨#[97,226,128,141,98,255]⟩ (by decide) B w2 hbk
 rw [run_k1] at H1
 have HH1:=kz H1
 have H2:=kz (fun w3 (h:Below w2.heap.size w2 w3) =>zjZ HT hO ⟨#[226,128,141,97,226,128,141]⟩ (by decide) B w3 (hbk.below h))
 rw [run_k2] at H2
 clear hb2 hbk H1
 go_wp2_with fail
 refine (oz HH1).mono ?_
 rintro e w3 ⟨rfl,hb3⟩
 have HH2:=kz (oz H2 w3 hb3)
 have HB3:=kz ((oz HB2).trans (hb3.mono (oz HB2).size))
 clear hb3 H2
 go_wp2_with fail
 refine (oz HH2).mono ?_
 rintro e w4 ⟨rfl,hb4⟩
 have HB4:=kz ((oz HB3).trans (hb4.mono (oz HB3).size))
 clear hb4
 go_wp2
 go_ret
 exact ⟨rfl,oz HB4⟩
end Go.Proofs.YtoaiicbicdhkkaaGreat
