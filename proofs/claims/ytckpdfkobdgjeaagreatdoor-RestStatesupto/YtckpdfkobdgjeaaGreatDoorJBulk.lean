/- What the second form's bound gives of a slice that came in: its length. -/
import Derived.Test.YtckpdfkobdgjeaaGreatDoorJAll1
import Derived.JoinedCond
namespace Go.Proofs.YtckpdfkobdgjeaaGreatDoor
open Go.ChangeShapes Go.WideShapes Go.ChangeAt Go.RowKit
set_option linter.unusedSectionVars false
variable [Inhabited Mk]
theorem Io {a:Type} (d:DataW a):1<=Rows.uptoBulk d:=by
 cases d with
 | lit l=>cases l <;> simp [Rows.uptoBulk]
 | nil=>simp [Rows.uptoBulk]
 | ptr d=>simp [Rows.uptoBulk]
 | slice elems spare=>simp [Rows.uptoBulk]
 | agg parts=>simp [Rows.uptoBulk]
 | iface t d=>simp [Rows.uptoBulk]
 | map entries=>simp [Rows.uptoBulk]
 | held h=>simp [Rows.uptoBulk]
theorem Im {a:Type} (l:List (DataW a)):l.length<=Rows.uptoBulkAll l:=by
 induction l with
 | nil=>simp [Rows.uptoBulkAll]
 | cons x r ih=>have:=Io x;simp only [Rows.uptoBulkAll,List.length_cons];omega
theorem S4 {c:Type} {enc:TypeId×Value->c} {j:World} {k:Nat} {v:Nat->Bool} {r:Bool} {t e:TypeId} {a:Option Addr} {i l:Nat} {d:DataW c} {p:List MemPlace}
 (u:Tryz.prog.underlying t=some (.slice e)) (h:DataW.Trod enc Tryz.prog j k v r t (.slice a i l) d p):i<=Rows.uptoBulk d:=by
 obtain ⟨y,s⟩:=h;rcases DataW.trod_slice u s with ⟨b,g⟩ | ⟨w,z,x,f,rest,n,_,b,g,_,_,_,q,_⟩
 ·simp [Value.cells] at b;omega
 ·simp [Value.cells] at b;obtain ⟨_,rfl,_⟩:=b;have m:d=.slice (f.map (·.1)) (rest.map (·.1)):=congrArg Prod.fst g;have o:=Im (f.map (·.1));rw [List.length_map,q] at o;rw [m];simp only [Rows.uptoBulk];omega
theorem Eh {a:Type} {l:List (DataW a)} (b:Rows.uptoSmall a l=true):Rows.uptoBulkAll l<=1048576:=of_decide_eq_true b
end Go.Proofs.YtckpdfkobdgjeaaGreatDoor
