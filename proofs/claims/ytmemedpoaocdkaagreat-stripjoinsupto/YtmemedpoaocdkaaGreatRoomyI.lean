/- Same, Roomy and Intact of the books of memory, at lists of numbers (int). -/
import Derived.Test.YtmemedpoaocdkaaGreatM31
import Derived.Laws.CopyOwn
import Derived.Laws.MakeOwn
import Derived.Laws.OwnMore
namespace Go.Proofs.YtmemedpoaocdkaaGreat
open Go.RowKit Go.Shelf
set_option linter.unusedVariables false

/-- A list of numbers as it lies in a world: where it is not empty. -/
def zrR (W:World) (a:Option Addr) (zs:List Int):Prop:=0 < zs.length→∃ g o,a=some ⟨g,o,none⟩∧g < W.heap.size∧∀ j,j < zs.length→W.cell? ⟨g,o+j,none⟩=some (.int .i64 (zs.getD j 0))
set_option maxRecDepth 100000 in
set_option maxHeartbeats 2000000 in
theorem zg8 (a b:Option Addr) (ca cb:Nat) (zs:List Int) (hz:zs.length≤9223372036854775807) (w:World) (ha:zrR w a zs) (hb:zrR w b zs) :
  Calls Tryz.prog 30 #[.slice a zs.length ca,.slice b zs.length cb] w fun e w' =>e=.returned (.bool true)∧Below w.heap.size w w':=by
 have HA:=kz ha
 have HB:=kz hb
 clear ha hb
 have hne:(((zs.length:Nat):Int) != ((zs.length:Nat):Int))=false:=by simp
 go_enter Tryz.func30,Tryz.ntmps30
 go_wp2
 go_loopw [5] (fun i wr => ∃ k:Nat,k≤zs.length∧i=.int .i64 k∧∃ q,wr=w.drewN q) (fun i _ =>zs.length - (intOf i).toNat)
 case atStart =>exact ⟨0,by omega,rfl,0,rfl⟩
 case round =>
  obtain ⟨k,hk,rfl,q,rfl⟩:=hrel
  by_cases hkn:k < zs.length
  ·obtain ⟨g,o,rfl,_,hc⟩:=oz HA (by omega)
   obtain ⟨h,p,rfl,_,hd⟩:=oz HB (by omega)
   have c0:=hc k hkn
   have c1:=hd k hkn
   have hk1:(k:Int) < (zs.length:Int):=by omega
   have hk2:((k:Nat):Int).toNat=k:=by omega
   generalize zs.getD k 0=z at c0 c1
   have hzz:(z != z)=false:=by simp
   clear hc hd
   go_wp2
   go_quiet (fail)
   go_wp2
   go_roundw
   case rel =>exact ⟨k+1,by omega,by go_num,_,rfl⟩
   case measure =>simp [intOf];omega
  ·have hk1:¬ (k:Int) < (zs.length:Int):=by omega
   go_wp2
   go_ret
   exact ⟨rfl,zaH (Below.refl _ _) _⟩

theorem zqP:(Tryz.prog.info? 3).map (fun i =>(i.zero,i.size,i.bytes))=some (some (.int .i64 0),1,8):=by kernel_rfl
end Go.Proofs.YtmemedpoaocdkaaGreat
