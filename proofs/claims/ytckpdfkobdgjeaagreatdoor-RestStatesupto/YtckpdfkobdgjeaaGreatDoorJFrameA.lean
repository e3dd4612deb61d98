/- Acts that came in as arguments: what a reading of them says of memory, and of their size; what the listed variable holds; a world for the witness. -/
import Derived.Test.YtckpdfkobdgjeaaGreatDoorJAll20
import Derived.Test.YtckpdfkobdgjeaaGreatDoorJAll3
import Derived.Test.YtckpdfkobdgjeaaGreatDoorJBulk
import Derived.Test.YtckpdfkobdgjeaaGreatDoorTie
import Derived.Test.YtckpdfkobdgjeaaGreatDoorCards
import Derived.MakeChecks
import Derived.LaidLaws
import Derived.LaidMore
import Derived.Deep.DeepHandedRow
import Derived.Deep.DeepWitnessRowRef
namespace Go.Proofs.YtckpdfkobdgjeaaGreatDoor
set_option maxRecDepth 100000
open Go.ChangeShapes Go.WideShapes Go.ChangeAt Go.RowKit
set_option linter.unusedSectionVars false
variable [Inhabited Mk]
theorem JH {P:Program} {o:Type} {enc:TypeId×Value->o} {w:World} {a:Nat} {g:Nat->Bool} {f:Bool} {t:TypeId} {b c d e:Field} {p:Nat} {cs:List Value} {x:DataW o×List MemPlace} (s:P.underlying t=some (.struct #[b,c,d,e])) (h:DataW.trod enc P w a g f p t cs=some x) :
 ∃ (j k l m:DataW o×List MemPlace) (n:Nat),x.1=.agg [j.1,k.1,l.1,m.1]/\cs.length=P.cellsOf t/\DataW.trod enc P w a g f n b.type ((cs.drop b.offset).take (P.cellsOf b.type))=some j /\
  DataW.trod enc P w a g f n c.type ((cs.drop c.offset).take (P.cellsOf c.type))=some k/\DataW.trod enc P w a g f n d.type ((cs.drop d.offset).take (P.cellsOf d.type))=some l /\
  DataW.trod enc P w a g f n e.type ((cs.drop e.offset).take (P.cellsOf e.type))=some m:=by
 obtain ⟨u,n,_,rfl,q,r,i⟩:=DataW.trod_struct s h
 match u,r with
 | [j,k,l,m],_=>exact ⟨j,k,l,m,n,rfl,q,by simpa using i 0 b rfl,by simpa using i 1 c rfl,by simpa using i 2 d rfl,by simpa using i 3 e rfl⟩
theorem JI {P:Program} {c:Type} {enc:TypeId×Value->c} {w:World} {i:Nat} {k:Nat->Bool} {j:Bool} {t:TypeId} {l m o p a:Field} {q:Nat} {cs:List Value} {x:DataW c×List MemPlace} (u:P.underlying t=some (.struct #[l,m,o,p,a])) (h:DataW.trod enc P w i k j q t cs=some x) :
 ∃ (d e f g b:DataW c×List MemPlace) (n:Nat),x.1=.agg [d.1,e.1,f.1,g.1,b.1]/\DataW.trod enc P w i k j n a.type ((cs.drop a.offset).take (P.cellsOf a.type))=some b:=by
 obtain ⟨v,n,_,rfl,y,s,r⟩:=DataW.trod_struct u h
 match v,s with
 | [d,e,f,g,b],_=>exact ⟨d,e,f,g,b,n,rfl,by simpa using r 4 a rfl⟩
theorem TP {l:List Value} (h:l.length=8):∃ a b c d e f g i,l=[a,b,c,d,e,f,g,i]:=by
 match l,h with
 | [a,b,c,d,e,f,g,i],_=>exact ⟨a,b,c,d,e,f,g,i,rfl⟩
theorem NV {c:Type} {enc:TypeId×Value->c} {a:World} {h:Nat} {s:Nat->Bool} {o:Bool} {i:Nat} {cs:List Value} {x:DataW c×List MemPlace}
 (e:DataW.trod enc Tryz.prog a h s o i 24 cs=some x) (j:a.heap.size<=(default:Mk).k):∃ r:Rq,cs=[zI r.queue,zI r.fr,zI r.un,zI r.kind,.slice r.pa r.pn r.pc]/\zH a r/\r.pn<=Rows.uptoBulk x.1:=by
 obtain ⟨r,f,l⟩:=GB e j;refine ⟨r,f,l,?_⟩;obtain ⟨u,v,w,y,g,n,q,b⟩:=JI Tryz.underlying24 e;have m:Tryz.prog.cellsOf 22=1:=by kernel_rfl
 rw [f] at b;simp only [m,List.drop_succ_cons,List.drop_zero,List.take_succ_cons,List.take_zero] at b;have t:=S4 (d:=g.1) (p:=g.2) Tryz.underlying22 ⟨n,by simpa [Value.cells] using b⟩;rw [q];simp only [Rows.uptoBulk,Rows.uptoBulkAll];omega
theorem Hx {e:Type} {enc:TypeId×Value->e} {a:World} {v:Nat} {Q:Nat->Bool} {H:Bool} {D:Nat} {cs:List Value} {x:DataW e×List MemPlace}
 (I:DataW.trod enc Tryz.prog a v Q H D 27 cs=some x) (m:a.heap.size<=(default:Mk).k):∃ r:Ac,cs=xW r/\wl a r/\r.rq.pn<=Rows.uptoBulk x.1/\r.cn<=Rows.uptoBulk x.1:=by
 obtain ⟨ad,ae,af,s,n,o,J,i,j,l,c⟩:=JH Tryz.underlying27 I;have G:Tryz.prog.cellsOf 27=8:=by kernel_rfl
 obtain ⟨U,V,W,X,Y,Z,aa,ab,rfl⟩:=TP (J.trans G);have c3:Tryz.prog.cellsOf 3=1:=by kernel_rfl
 have C:Tryz.prog.cellsOf 24=5:=by kernel_rfl
 have y:Tryz.prog.cellsOf 25=1:=by kernel_rfl
 simp only [c3,C,y,List.drop_zero,List.drop_succ_cons,List.take_succ_cons,List.take_zero] at i j l c;obtain ⟨t,f,_,_⟩:=DataW.trod_int Tryz.underlying3 i;obtain ⟨u,g,_,_⟩:=DataW.trod_int Tryz.underlying3 j;obtain ⟨r,h,F,S⟩:=NV l m;obtain ⟨w,A,B,z,b,E⟩:=VS c m;have q:=c;rw [b] at q;have R:=S4 (d:=s.1) (p:=s.2) Tryz.underlying25 ⟨n,by simpa [Value.cells] using q⟩;simp at f g b h;obtain ⟨L,M,N,O,P⟩:=h;subst f g b L M N O P;refine ⟨⟨t,u,r,w,A,B,z⟩,rfl,⟨F,E⟩,?_,?_⟩
 ·rw [o];simp only [Rows.uptoBulk,Rows.uptoBulkAll];omega
 ·rw [o];simp only [Rows.uptoBulk,Rows.uptoBulkAll];omega
theorem EB {b:Type} {enc:TypeId×Value->b} {a:World} {e:Nat} {s:Nat->Bool} {l:Bool} {c:Nat} {v:Value} {d:DataW b} {p:List MemPlace}
 (q:Value.okWide Tryz.prog a .any c 27 v) (h:DataW.Trod enc Tryz.prog a e s l 27 v d p) (i:a.heap.size<=(default:Mk).k) :
 ∃ r:Ac,v=.agg #[zI r.kind,zI r.n,zI r.rq.queue,zI r.rq.fr,zI r.rq.un,zI r.rq.kind,.slice r.rq.pa r.rq.pn r.rq.pc,.slice r.ca r.cn r.cc]/\wl a r/\r.rq.pn<=Rows.uptoBulk d/\r.cn<=Rows.uptoBulk d:=by
 obtain ⟨cs,rfl,u⟩:=okWide_struct Tryz.underlying27 q;obtain ⟨t,m⟩:=h;obtain ⟨r,o,j,f,g⟩:=Hx m i;refine ⟨r,?_,j,f,g⟩;have:cs.toList=xW r:=by simpa [Value.cells] using o
 rw [<-Array.toList_inj.1 (this.trans rfl:cs.toList=#[Value.int .i64 r.kind,zI r.n,zI r.rq.queue,zI r.rq.fr,zI r.rq.un,zI r.rq.kind,.slice r.rq.pa r.rq.pn r.rq.pc,.slice r.ca r.cn r.cc].toList)]
theorem FF:Tryz.prog.globalNamed "acreage/log.errNone" = some 0:=by kernel_rfl
theorem K6:(Tryz.prog.globals[0]?).map (·.type)=some 165:=by kernel_rfl
theorem L7 {a:World} (h:laidMetH Tryz.prog [("acreage/log.errNone",Rows.laid_acreage_log_errNone)] a):∃ v,Zx a v:=by
 rw [MakeChecks.laidMetH_plain _ _ _ (by kernel_rfl)] at h;obtain ⟨l,⟨j,n,g,i,k,m,b,e,f,d,_,_⟩,_,_⟩:=h;obtain rfl:=Option.some.inj (FF.symm.trans b);obtain rfl:=Option.some.inj (K6.symm.trans e);obtain ⟨_,u,v,c,_,_⟩:=iface_of_trod Tryz.underlying165 d;have:=World.var?_cell b f 0;rw [Array.eq_one_of_toList c] at this;exact ⟨.iface u v,by simpa using this,u,v,rfl⟩
theorem Ns (a:Os) (args:Array Value):laidMet Tryz.prog [("acreage/log.errNone",Rows.laid_acreage_log_errNone)] ((World.doorLaid Tryz.prog 400 a).forCall (fun _ _=>0) ⟨#[],args,[]⟩).memory :=
 laidMet_of_run' 8 (by kernel_rfl) (by kernel_rfl)
end Go.Proofs.YtckpdfkobdgjeaaGreatDoor
