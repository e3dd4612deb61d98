/- Acts that came in as arguments: what a reading of them says of memory, and of their size; what the listed variable holds; a world for the witness. -/
import Derived.Test.YtckpdfkobdgjeaaGreatDoorHX
import Derived.MakeChecks
import Derived.LaidLaws
import Derived.LaidMore
import Derived.Deep.DeepHandedRow
import Derived.Deep.DeepWitnessRowRef
import Derived.Test.YtckpdfkobdgjeaaGreatDoorHAll22
import Derived.Test.YtckpdfkobdgjeaaGreatDoorHAll3
import Derived.Test.YtckpdfkobdgjeaaGreatDoorHAll30
import Derived.Test.YtckpdfkobdgjeaaGreatDoorTie
import Derived.Test.YtckpdfkobdgjeaaGreatDoorCards
namespace Go.Proofs.YtckpdfkobdgjeaaGreatDoor
open Go.ChangeShapes Go.WideShapes Go.ChangeAt Go.RowKit
theorem JH {P:Program} {o:Type} {enc:TypeId×Value->o} {w:World} {a:Nat} {g:Nat->Bool} {f:Bool} {t:TypeId} {b c d e:Field} {p:Nat} {cs:List Value} {x:DataW o×List MemPlace} (s:P.underlying t=some (.struct #[b,c,d,e])) (h:DataW.trod enc P w a g f p t cs=some x) :
 ∃ (j k l m:DataW o×List MemPlace) (n:Nat),x.1=.agg [j.1,k.1,l.1,m.1]/\cs.length=P.cellsOf t/\DataW.trod enc P w a g f n b.type ((cs.drop b.offset).take (P.cellsOf b.type))=some j /\
  DataW.trod enc P w a g f n c.type ((cs.drop c.offset).take (P.cellsOf c.type))=some k/\DataW.trod enc P w a g f n d.type ((cs.drop d.offset).take (P.cellsOf d.type))=some l /\
  DataW.trod enc P w a g f n e.type ((cs.drop e.offset).take (P.cellsOf e.type))=some m:=by
 obtain ⟨u,n,_,rfl,q,r,i⟩:=DataW.trod_struct s h
 match u,r with
 | [j,k,l,m],_=>exact ⟨j,k,l,m,n,rfl,q,by simpa using i 0 b rfl,by simpa using i 1 c rfl,by simpa using i 2 d rfl,by simpa using i 3 e rfl⟩
theorem JI {P:Program} {c:Type} {enc:TypeId×Value->c} {w:World} {i:Nat} {k:Nat->Bool} {j:Bool} {t:TypeId} {l m o p a:Field} {q:Nat} {cs:List Value} {x:DataW c×List MemPlace} (u:P.underlying t=some (.struct #[l,m,o,p,a])) (h:DataW.trod enc P w i k j q t cs=some x) :
 ∃ (d e f g b:DataW c×List MemPlace) (n:Nat),x.1=.agg [d.1,e.1,f.1,g.1,b.1]/\DataW.trod enc P w i k j n a.type ((cs.drop a.offset).take (P.cellsOf a.type))=some b:=by
 obtain ⟨v,n,_,rfl,y,s,r⟩:=DataW.trod_struct u h
 match v,s with
 | [d,e,f,g,b],_=>exact ⟨d,e,f,g,b,n,rfl,by simpa using r 4 a rfl⟩
theorem TP {l:List Value} (h:l.length=8):∃ a b c d e f g i,l=[a,b,c,d,e,f,g,i]:=by
 match l,h with
 | [a,b,c,d,e,f,g,i],_=>exact ⟨a,b,c,d,e,f,g,i,rfl⟩
theorem NV {b:Type} {enc:TypeId×Value->b} {c:World} {h:Nat} {o:Nat->Bool} {l:Bool} {i:Nat} {cs:List Value} {x:DataW b×List MemPlace}
 (e:DataW.trod enc Tryz.prog c h o l i 24 cs=some x):∃ r:Rq,cs=[zI r.queue,zI r.fr,zI r.un,zI r.kind,.slice r.pa r.pn r.pc]/\zH c r/\r.pn<=Rows.uptoBulk x.1:=by
 obtain ⟨r,f,j⟩:=GB e;refine ⟨r,f,j,?_⟩;obtain ⟨s,t,u,v,g,n,m,a⟩:=JI Tryz.underlying24 e;have k:Tryz.prog.cellsOf 22=1:=by kernel_rfl
 rw [f] at a;simp only [k,List.drop_succ_cons,List.drop_zero,List.take_succ_cons,List.take_zero] at a;have q:=S4 (d:=g.1) (p:=g.2) Tryz.underlying22 ⟨n,by simpa [Value.cells] using a⟩;rw [m];simp only [Rows.uptoBulk,Rows.uptoBulkAll];omega
theorem Hx {c:Type} {enc:TypeId×Value->c} {e:World} {t:Nat} {O:Nat->Bool} {F:Bool} {B:Nat} {cs:List Value} {x:DataW c×List MemPlace}
 (G:DataW.trod enc Tryz.prog e t O F B 27 cs=some x):∃ r:Ac,cs=xW r/\wl e r/\r.rq.pn<=Rows.uptoBulk x.1/\r.cn<=Rows.uptoBulk x.1:=by
 obtain ⟨aa,ab,ad,o,n,l,H,i,j,k,b⟩:=JH Tryz.underlying27 G;have E:Tryz.prog.cellsOf 27=8:=by kernel_rfl
 obtain ⟨R,S,U,V,W,X,Y,Z,rfl⟩:=TP (H.trans E);have c3:Tryz.prog.cellsOf 3=1:=by kernel_rfl
 have A:Tryz.prog.cellsOf 24=5:=by kernel_rfl
 have v:Tryz.prog.cellsOf 25=1:=by kernel_rfl
 simp only [c3,A,v,List.drop_zero,List.drop_succ_cons,List.take_succ_cons,List.take_zero] at i j k b;obtain ⟨q,f,_,_⟩:=DataW.trod_int Tryz.underlying3 i;obtain ⟨s,g,_,_⟩:=DataW.trod_int Tryz.underlying3 j;obtain ⟨r,h,D,Q⟩:=NV k;obtain ⟨u,y,z,w,a,C⟩:=VS b;have m:=b;rw [a] at m;have P:=S4 (d:=o.1) (p:=o.2) Tryz.underlying25 ⟨n,by simpa [Value.cells] using m⟩;simp at f g a h;obtain ⟨I,J,L,M,N⟩:=h;subst f g a I J L M N;refine ⟨⟨q,s,r,u,y,z,w⟩,rfl,⟨D,C⟩,?_,?_⟩
 ·rw [l];simp only [Rows.uptoBulk,Rows.uptoBulkAll];omega
 ·rw [l];simp only [Rows.uptoBulk,Rows.uptoBulkAll];omega
theorem FF:Tryz.prog.globalNamed "acreage/log.errNone" = some 0:=by kernel_rfl
theorem K6:(Tryz.prog.globals[0]?).map (·.type)=some 165:=by kernel_rfl
theorem L7 {a:World} (h:laidMetH Tryz.prog [("acreage/log.errNone",Rows.laid_acreage_log_errNone)] a):∃ v,Zx a v:=by
 rw [MakeChecks.laidMetH_plain _ _ _ (by kernel_rfl)] at h;obtain ⟨m,⟨k,o,i,j,l,n,b,f,g,e,_,_⟩,_,_⟩:=h;obtain rfl:=Option.some.inj (FF.symm.trans b);obtain rfl:=Option.some.inj (K6.symm.trans f);obtain ⟨_,c,v,d,_,_⟩:=iface_of_trod Tryz.underlying165 e;have:=World.var?_cell b g 0;rw [Array.eq_one_of_toList d] at this;exact ⟨.iface c v,by simpa using this,c,v,rfl⟩
theorem Ns (a:Os) (args:Array Value):laidMet Tryz.prog [("acreage/log.errNone",Rows.laid_acreage_log_errNone)] ((World.doorLaid Tryz.prog 400 a).forCall (fun _ _=>0) ⟨#[],args,[]⟩).memory :=
 laidMet_of_run' 8 (by kernel_rfl) (by kernel_rfl)
end Go.Proofs.YtckpdfkobdgjeaaGreatDoor
