/- Several texts in one: RefD, RefE, LogR, LogW, Bulk. -/
import Derived.JoinedCond
import Derived.Deep.RegionLaw
import Derived.BigRegion
import Derived.Test.YtckpdfkobdgjeaaGreatDoorHAll22
import Derived.Test.YtckpdfkobdgjeaaGreatDoorHSame
import Derived.Test.YtckpdfkobdgjeaaGreatDoorHAll28
import Derived.Test.YtckpdfkobdgjeaaGreatDoorHAll1
namespace Go.Proofs.YtckpdfkobdgjeaaGreatDoor
set_option maxRecDepth 100000
set_option maxHeartbeats 8000000
open Go.RowKit
open Go.ChangeShapes Go.WideShapes Go.ChangeAt Go.RowKit
theorem ZW (w:World) (c n:Int) (m:Option Addr) (r p:Nat) (l:QL) (ba:Option Addr) (bn bc:Nat) (b:BL) (h:zY w m r p l ba bn bc b) (s v:Int) (o:Option Addr) (d q:Nat) (k:QL) (g:Option Addr) (a i:Nat) (f:BL) (j:zY w o d q k g a i f) (z:c=s) (hn:n=v) (u:zi l=zi k) (t:zg b=zg f) :
 zC 18 #[.agg (zS c n m r p ba bn bc),.agg (zS s v o d q g a i)] w fun e w'=>e=.returned (.bool true)/\Below w.heap.size w w':=by
 subst z;subst hn;have x:d=r:=by
  have:=congrArg List.length u;rw [yv,yv,<-h.1.len,<-j.1.len] at this;exact this.symm
 have y:a=bn:=by
  have:=congrArg List.length t;rw [zF,zF,<-h.2.len,<-j.2.len] at this;exact this.symm
 subst x;subst y;exact Sh w c n m d p l ba a bc b h o q k g i f j u t
theorem FQ {x:Ac} (h:Sc x=0):x.cs.length<=48:=by
 unfold Sc at h
 split at h
 ·omega
 split at h
 ·omega
 omega
theorem Io {a:Type} (d:DataW a):1<=Rows.uptoBulk d:=by
 cases d with
 | lit l=>cases l <;> simp [Rows.uptoBulk]
 | nil=>simp [Rows.uptoBulk]
 | ptr d=>simp [Rows.uptoBulk]
 | slice elems spare=>simp [Rows.uptoBulk]
 | agg parts=>simp [Rows.uptoBulk]
 | iface t d=>simp [Rows.uptoBulk]
 | map entries=>simp [Rows.uptoBulk]
 | held h=>simp [Rows.uptoBulk]
theorem Im {a:Type} (l:List (DataW a)):l.length<=Rows.uptoBulkAll l:=by
 induction l with
 | nil=>simp [Rows.uptoBulkAll]
 | cons x r ih=>have:=Io x;simp only [Rows.uptoBulkAll,List.length_cons];omega
theorem S4 {c:Type} {enc:TypeId×Value->c} {i:World} {j:Nat} {s:Nat->Bool} {o:Bool} {t e:TypeId} {a:Option Addr} {len cap:Nat} {d:DataW c} {p:List MemPlace}
 (r:Tryz.prog.underlying t=some (.slice e)) (h:DataW.Trod enc Tryz.prog i j s o t (.slice a len cap) d p):len<=Rows.uptoBulk d:=by
 obtain ⟨w,q⟩:=h;rcases DataW.trod_slice r q with ⟨b,g⟩ | ⟨u,x,v,f,rest,n,_,b,g,_,_,_,m,_⟩
 ·simp [Value.cells] at b;omega
 ·simp [Value.cells] at b;obtain ⟨_,rfl,_⟩:=b;have k:d=.slice (f.map (·.1)) (rest.map (·.1)):=congrArg Prod.fst g;have l:=Im (f.map (·.1));rw [List.length_map,m] at l;rw [k];simp only [Rows.uptoBulk];omega
end Go.Proofs.YtckpdfkobdgjeaaGreatDoor
