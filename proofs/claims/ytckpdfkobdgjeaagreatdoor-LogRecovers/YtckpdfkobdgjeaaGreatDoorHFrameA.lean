/- Acts that came in as arguments: what a reading of them says of memory, and of their size; what the listed variable holds; a world for the witness. -/
import Derived.MakeChecks
import Derived.LaidLaws
import Derived.LaidMore
import Derived.Deep.DeepHandedRow
import Derived.Deep.DeepWitnessRowRef
import Derived.Test.YtckpdfkobdgjeaaGreatDoorHAll22
import Derived.Test.YtckpdfkobdgjeaaGreatDoorHAll3
import Derived.Test.YtckpdfkobdgjeaaGreatDoorHAll30
import Derived.Test.YtckpdfkobdgjeaaGreatDoorTie
import Derived.Test.YtckpdfkobdgjeaaGreatDoorCards
namespace Go.Proofs.YtckpdfkobdgjeaaGreatDoor
open Go.ChangeShapes Go.WideShapes Go.ChangeAt Go.RowKit
theorem FF:Tryz.prog.globalNamed "acreage/log.errNone" = some 0:=by kernel_rfl
theorem K6:(Tryz.prog.globals[0]?).map (·.type)=some 165:=by kernel_rfl
theorem L7 {a:World} (h:laidMetH Tryz.prog [("acreage/log.errNone",Rows.laid_acreage_log_errNone)] a):∃ v,Zx a v:=by
 rw [MakeChecks.laidMetH_plain _ _ _ (by kernel_rfl)] at h;obtain ⟨m,⟨k,o,i,j,l,n,b,f,g,e,_,_⟩,_,_⟩:=h;obtain rfl:=Option.some.inj (FF.symm.trans b);obtain rfl:=Option.some.inj (K6.symm.trans f);obtain ⟨_,c,v,d,_,_⟩:=iface_of_trod Tryz.underlying165 e;have:=World.var?_cell b g 0;rw [Array.eq_one_of_toList d] at this;exact ⟨.iface c v,by simpa using this,c,v,rfl⟩
theorem Ns (a:Os) (args:Array Value):laidMet Tryz.prog [("acreage/log.errNone",Rows.laid_acreage_log_errNone)] ((World.doorLaid Tryz.prog 400 a).forCall (fun _ _=>0) ⟨#[],args,[]⟩).memory :=
 laidMet_of_run' 8 (by kernel_rfl) (by kernel_rfl)
end Go.Proofs.YtckpdfkobdgjeaaGreatDoor
