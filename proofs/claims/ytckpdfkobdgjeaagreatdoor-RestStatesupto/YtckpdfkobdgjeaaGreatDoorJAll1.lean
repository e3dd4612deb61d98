/- Several texts in one: Frame, FrameQ, FrameR, FrameB, BkA, FreshA. -/
import Derived.Test.YtckpdfkobdgjeaaGreatDoorJRunsAll
import Derived.Test.YtckpdfkobdgjeaaGreatDoorRows
import Derived.ProofKit
import Derived.OpenShut
import Derived.ShutString
import Derived.ChangeOld
import Derived.Below
import Derived.Deep.SlicePairs
import Derived.Test.YtckpdfkobdgjeaaGreatDoorJTreeAll
import Derived.Deep.Slices
import Derived.Deep.Strs
import Derived.Test.YtckpdfkobdgjeaaGreatDoorJReqAll
import Derived.Test.YtckpdfkobdgjeaaGreatDoorJLoadAll
import Derived.Test.YtckpdfkobdgjeaaGreatDoorJAll0
import Derived.Lib.SliceRun
namespace Go.Proofs.YtckpdfkobdgjeaaGreatDoor
set_option maxRecDepth 100000
set_option maxHeartbeats 1000000
open Go.ChangeShapes Go.WideShapes Go.ChangeAt Go.RowKit
open Go.RowKit
set_option linter.unusedSectionVars false
variable [Inhabited Mk]
theorem own:ownKnob Tryz.prog.godebug=none:=by kernel_rfl
theorem PY:laidOutB Tryz.prog=true:=by kernel_rfl
theorem XP (b a j:Nat):((zA b a):Addr).add j=(zA b (a+j)):=by unfold Addr.add;split <;> simp_all
theorem Pq (a b:Nat->Value) (n i:Nat) (h:i<n):zp ((List.range n).map fun i=>(intOf (a i),intOf (b i))) i=intOf (a i)/\rN ((List.range n).map fun i=>(intOf (a i),intOf (b i))) i=intOf (b i):=by
 simp [zp,rN,List.getD,h]
theorem Ju {r:Type} {enc:TypeId×Value->r} {d:World} {A:Nat} {N:Nat->Bool} {D:Bool} {B:Nat} {cs:List Value} {a:Option Addr} {c u:Nat} {x:DataW r×List MemPlace}
 (v:cs=[.slice a c u]) (E:DataW.trod enc Tryz.prog d A N D B 25 cs=some x) (C:d.heap.size<=(default:Mk).k):∃ l,RunsIn d a c u l:=by
 rcases Go.Deep.open_slice_pairs Tryz.underlying25 Tryz.underlying55 (by kernel_rfl) rfl rfl (by kernel_rfl) (by kernel_rfl) E with ⟨h,_⟩ | ⟨z,Y,W,m,n,s,t,R,S,U,V,h,_,G,w,H,_,g⟩
 ·rw [v] at h;simp at h;obtain ⟨rfl,rfl,rfl⟩:=h;exact ⟨[],rfl,Nat.le_refl _,by simp,by simp,fun h=>by simp at h,fun h=>by simp at h⟩
 ·rw [v] at h;simp at h;obtain ⟨rfl,rfl,rfl⟩:=h;have X:c<=m:=by rw [H];split <;> omega
  simp only [maxLen] at w;refine ⟨(List.range c).map fun i=>(intOf (s i),intOf (t i)),by simp,G,by omega,w,fun I=>?_,fun I b y e=>by cases e;have:=xq (g 0 (by omega)).1;rw [XP] at this;exact Or.inl (Nat.lt_of_lt_of_le this C)⟩;obtain ⟨b,y,O⟩:=z;have J:O=none:=by
   have:=World.cell?_spot (g 0 (by omega)).1;simpa [Addr.add] using this
  subst J;refine ⟨b,y,rfl,fun i F=>?_⟩;obtain ⟨f,c1,P,Q⟩:=g i (by omega);obtain ⟨p,j,_,_⟩:=DataW.trod_int Tryz.underlying3 P;obtain ⟨q,o,_,_⟩:=DataW.trod_int Tryz.underlying3 Q;simp at j o;obtain ⟨L,M⟩:=Pq s t c i F;rw [L,M,j,o];rw [j] at f;rw [o] at c1;rw [XP] at f c1;exact ⟨f,c1⟩
theorem VS {e:Type} {enc:TypeId×Value->e} {d:World} {g:Nat} {p:Nat->Bool} {m:Bool} {i:Nat} {cs:List Value} {x:DataW e×List MemPlace}
 (f:DataW.trod enc Tryz.prog d g p m i 25 cs=some x) (j:d.heap.size<=(default:Mk).k):∃ a c b l,cs=[.slice a c b]/\RunsIn d a c b l:=by
 have o:∃ a c b,cs=[.slice a c b]:=by
  rcases Go.Deep.open_slice Tryz.underlying25 f with ⟨h,_⟩ | ⟨a,c,b,_,_,_,_,h,_⟩
  ·exact ⟨none,0,0,h⟩
  exact ⟨some a,c,b,h⟩
 obtain ⟨a,c,b,h⟩:=o;obtain ⟨l,n⟩:=Ju h f j;exact ⟨a,c,b,l,h,n⟩
theorem T9 {l:List Value} (h:l.length=3):∃ a b c,l=[a,b,c]:=by
 match l,h with
 | [a,b,c],_=>exact ⟨a,b,c,rfl⟩
def FU (W:World) (b off i:Nat) (q:Qu):Prop :=
 (W.cell? (zA b (off+i*3))=some (.string q.name)/\W.cell? (zA b (off+i*3+1))=some (zI q.parent)/\W.cell? (zA b (off+i*3+2))=some (.slice q.ca q.cn q.cc))/\RunsIn W q.ca q.cn q.cc q.runs/\q.name.size<=9223372036854775807
theorem RW (f:Nat->Qu) (n i:Nat) (h:i<n):qu ((List.range n).map f) i=f i:=by simp [qu,List.getD,h]
theorem L1 {w:Type} {enc:TypeId×Value->w} {j:World} {Q:Nat} {al:Nat->Bool} {af:Bool} {Z:Nat} {cs:List Value} {a:Option Addr} {d z:Nat} {x:DataW w×List MemPlace}
 (F:cs=[.slice a d z]) (ag:DataW.trod enc Tryz.prog j Q al af Z 37 cs=some x) (E:j.heap.size<=(default:Mk).k):∃ l,QsIn j a d z l:=by
 have au:Inhabited Qu:=⟨⟨ByteArray.empty,0,none,0,0,[]⟩⟩;rcases Go.Deep.open_slice Tryz.underlying37 ag with ⟨h,_⟩ | ⟨y,aw,ar,m,n,D,ap,h,_,G,v,ah,_,t⟩
 ·rw [F] at h;simp at h;obtain ⟨rfl,rfl,rfl⟩:=h;exact ⟨[],rfl,Nat.le_refl _,by simp,fun h=>by simp at h,fun i c=>by omega,fun i c=>by omega,fun h=>by simp at h⟩
 ·rw [F] at h;simp at h;obtain ⟨rfl,rfl,rfl⟩:=h;have av:d<=m:=by rw [ah];split <;> omega
  simp only [maxLen] at v;have ae:Tryz.prog.cellsOf 66=3:=by kernel_rfl
  rw [ae] at t;by_cases ai:0<d
  ·have L:y.spot=none:=by
    obtain ⟨X,r,_⟩:=t 0 (by omega);obtain ⟨_,u,g⟩:=World.cells?_some r;have aa:=g 0 (by omega);obtain ⟨am,an,ao,rfl⟩:=T9 u;have:=World.cell?_spot aa;simpa [Addr.add] using this
   obtain ⟨b,M,ay⟩:=y;simp only at L;subst L;have Y:∀ i,i<d->∃ q:Qu,FU j b M i q:=by
    intro i c;obtain ⟨X,r,ab⟩:=t i (by omega);obtain ⟨_,u,g⟩:=World.cells?_some r;obtain ⟨az,aA,aB,k,_,_,N,O,P⟩:=Go.Deep.trod_struct3 Tryz.underlying66 ab;obtain ⟨am,an,ao,rfl⟩:=T9 u;have S:Tryz.prog.cellsOf 9=1:=(by kernel_rfl);have c3:Tryz.prog.cellsOf 3=1:=(by kernel_rfl);have R:Tryz.prog.cellsOf 25=1:=(by kernel_rfl);simp only [S,c3,R,List.drop_zero,List.drop_succ_cons,List.take_succ_cons,List.take_zero] at N O P;obtain ⟨s,J,_,aj⟩:=DataW.trod_string Tryz.underlying9 N;obtain ⟨p,H,_,_⟩:=DataW.trod_int Tryz.underlying3 O;obtain ⟨U,W,V,ak,I,ad⟩:=VS P E;simp at J H I;subst J H I;have A:=g 0 (by omega);have B:=g 1 (by omega);have C:=g 2 (by omega);rw [XP,XP] at A B C;exact ⟨⟨s,p,U,W,V,ak⟩,⟨by simpa using A,by simpa using B,by simpa using C⟩,ad,aj⟩
   obtain ⟨f,o⟩:=Go.Deep.choose_lt Y;refine ⟨(List.range d).map f,by simp,G,v,fun _=>⟨b,M,rfl,fun i c=>?_⟩,fun i c=>?_,fun i c=>?_,fun _ aq ax e=>by cases e;exact Or.inl (Nat.lt_of_lt_of_le (xq (o 0 ai).1.1) E)⟩
   ·rw [RW f d i c];exact (o i c).1
   ·rw [RW f d i c];exact (o i c).2.1
   ·rw [RW f d i c];exact (o i c).2.2
  obtain rfl:d=0:=by omega
  exact ⟨[],rfl,G,v,fun h=>by simp at h,fun i c=>by omega,fun i c=>by omega,fun h=>by simp at h⟩
theorem Er {r:Type} {enc:TypeId×Value->r} {d:World} {A:Nat} {N:Nat->Bool} {D:Bool} {B:Nat} {cs:List Value} {a:Option Addr} {c u:Nat} {x:DataW r×List MemPlace}
 (v:cs=[.slice a c u]) (E:DataW.trod enc Tryz.prog d A N D B 58 cs=some x) (C:d.heap.size<=(default:Mk).k):∃ l,RunsIn d a c u l:=by
 rcases Go.Deep.open_slice_pairs Tryz.underlying58 Tryz.underlying62 (by kernel_rfl) rfl rfl (by kernel_rfl) (by kernel_rfl) E with ⟨h,_⟩ | ⟨z,Y,W,m,n,s,t,R,S,U,V,h,_,G,w,H,_,g⟩
 ·rw [v] at h;simp at h;obtain ⟨rfl,rfl,rfl⟩:=h;exact ⟨[],rfl,Nat.le_refl _,by simp,by simp,fun h=>by simp at h,fun h=>by simp at h⟩
 ·rw [v] at h;simp at h;obtain ⟨rfl,rfl,rfl⟩:=h;have X:c<=m:=by rw [H];split <;> omega
  simp only [maxLen] at w;refine ⟨(List.range c).map fun i=>(intOf (s i),intOf (t i)),by simp,G,by omega,w,fun I=>?_,fun I b y e=>by cases e;have:=xq (g 0 (by omega)).1;rw [XP] at this;exact Or.inl (Nat.lt_of_lt_of_le this C)⟩;obtain ⟨b,y,O⟩:=z;have J:O=none:=by
   have:=World.cell?_spot (g 0 (by omega)).1;simpa [Addr.add] using this
  subst J;refine ⟨b,y,rfl,fun i F=>?_⟩;obtain ⟨f,c1,P,Q⟩:=g i (by omega);obtain ⟨p,j,_,_⟩:=DataW.trod_int Tryz.underlying3 P;obtain ⟨q,o,_,_⟩:=DataW.trod_int Tryz.underlying3 Q;simp at j o;obtain ⟨L,M⟩:=Pq s t c i F;rw [L,M,j,o];rw [j] at f;rw [o] at c1;rw [XP] at f c1;exact ⟨f,c1⟩
theorem Ef {e:Type} {enc:TypeId×Value->e} {d:World} {g:Nat} {p:Nat->Bool} {m:Bool} {i:Nat} {cs:List Value} {x:DataW e×List MemPlace}
 (f:DataW.trod enc Tryz.prog d g p m i 58 cs=some x) (j:d.heap.size<=(default:Mk).k):∃ a c b l,cs=[.slice a c b]/\RunsIn d a c b l:=by
 have o:∃ a c b,cs=[.slice a c b]:=by
  rcases Go.Deep.open_slice Tryz.underlying58 f with ⟨h,_⟩ | ⟨a,c,b,_,_,_,_,h,_⟩
  ·exact ⟨none,0,0,h⟩
  exact ⟨some a,c,b,h⟩
 obtain ⟨a,c,b,h⟩:=o;obtain ⟨l,n⟩:=Er h f j;exact ⟨a,c,b,l,h,n⟩
theorem NM {r:Type} {enc:TypeId×Value->r} {d:World} {A:Nat} {N:Nat->Bool} {D:Bool} {B:Nat} {cs:List Value} {a:Option Addr} {c u:Nat} {x:DataW r×List MemPlace}
 (v:cs=[.slice a c u]) (E:DataW.trod enc Tryz.prog d A N D B 22 cs=some x) (C:d.heap.size<=(default:Mk).k):∃ l,RunsIn d a c u l:=by
 rcases Go.Deep.open_slice_pairs Tryz.underlying22 Tryz.underlying64 (by kernel_rfl) rfl rfl (by kernel_rfl) (by kernel_rfl) E with ⟨h,_⟩ | ⟨z,Y,W,m,n,s,t,R,S,U,V,h,_,G,w,H,_,g⟩
 ·rw [v] at h;simp at h;obtain ⟨rfl,rfl,rfl⟩:=h;exact ⟨[],rfl,Nat.le_refl _,by simp,by simp,fun h=>by simp at h,fun h=>by simp at h⟩
 ·rw [v] at h;simp at h;obtain ⟨rfl,rfl,rfl⟩:=h;have X:c<=m:=by rw [H];split <;> omega
  simp only [maxLen] at w;refine ⟨(List.range c).map fun i=>(intOf (s i),intOf (t i)),by simp,G,by omega,w,fun I=>?_,fun I b y e=>by cases e;have:=xq (g 0 (by omega)).1;rw [XP] at this;exact Or.inl (Nat.lt_of_lt_of_le this C)⟩;obtain ⟨b,y,O⟩:=z;have J:O=none:=by
   have:=World.cell?_spot (g 0 (by omega)).1;simpa [Addr.add] using this
  subst J;refine ⟨b,y,rfl,fun i F=>?_⟩;obtain ⟨f,c1,P,Q⟩:=g i (by omega);obtain ⟨p,j,_,_⟩:=DataW.trod_int Tryz.underlying3 P;obtain ⟨q,o,_,_⟩:=DataW.trod_int Tryz.underlying3 Q;simp at j o;obtain ⟨L,M⟩:=Pq s t c i F;rw [L,M,j,o];rw [j] at f;rw [o] at c1;rw [XP] at f c1;exact ⟨f,c1⟩
theorem Sl {e:Type} {enc:TypeId×Value->e} {d:World} {g:Nat} {p:Nat->Bool} {m:Bool} {i:Nat} {cs:List Value} {x:DataW e×List MemPlace}
 (f:DataW.trod enc Tryz.prog d g p m i 22 cs=some x) (j:d.heap.size<=(default:Mk).k):∃ a c b l,cs=[.slice a c b]/\RunsIn d a c b l:=by
 have o:∃ a c b,cs=[.slice a c b]:=by
  rcases Go.Deep.open_slice Tryz.underlying22 f with ⟨h,_⟩ | ⟨a,c,b,_,_,_,_,h,_⟩
  ·exact ⟨none,0,0,h⟩
  exact ⟨some a,c,b,h⟩
 obtain ⟨a,c,b,h⟩:=o;obtain ⟨l,n⟩:=NM h f j;exact ⟨a,c,b,l,h,n⟩
theorem Ot {P:Program} {q:Type} {enc:TypeId×Value->q} {w:World} {a:Nat} {c:Nat->Bool} {b:Bool} {t:TypeId} {d e f g i:Field} {r:Nat} {cs:List Value} {x:DataW q×List MemPlace} (v:P.underlying t=some (.struct #[d,e,f,g,i])) (h:DataW.trod enc P w a c b r t cs=some x) :
 ∃ k l m o p n,cs.length=P.cellsOf t/\DataW.trod enc P w a c b n d.type ((cs.drop d.offset).take (P.cellsOf d.type))=some k /\
  DataW.trod enc P w a c b n e.type ((cs.drop e.offset).take (P.cellsOf e.type))=some l/\DataW.trod enc P w a c b n f.type ((cs.drop f.offset).take (P.cellsOf f.type))=some m /\
  DataW.trod enc P w a c b n g.type ((cs.drop g.offset).take (P.cellsOf g.type))=some o/\DataW.trod enc P w a c b n i.type ((cs.drop i.offset).take (P.cellsOf i.type))=some p:=by
 obtain ⟨y,n,_,rfl,s,u,j⟩:=DataW.trod_struct v h
 match y,u with
 | [k,l,m,o,p],_=>exact ⟨k,l,m,o,p,n,s,by simpa using j 0 d rfl,by simpa using j 1 e rfl,by simpa using j 2 f rfl,by simpa using j 3 g rfl,by simpa using j 4 i rfl⟩
theorem MY {l:List Value} (h:l.length=5):∃ a b c d e,l=[a,b,c,d,e]:=by
 match l,h with
 | [a,b,c,d,e],_=>exact ⟨a,b,c,d,e,rfl⟩
theorem GB {b:Type} {enc:TypeId×Value->b} {a:World} {t:Nat} {H:Nat->Bool} {A:Bool} {v:Nat} {cs:List Value} {x:DataW b×List MemPlace}
 (B:DataW.trod enc Tryz.prog a t H A v 24 cs=some x) (w:a.heap.size<=(default:Mk).k):∃ r:Rq,cs=[zI r.queue,zI r.fr,zI r.un,zI r.kind,.slice r.pa r.pn r.pc]/\zH a r:=by
 obtain ⟨O,P,Q,R,S,n,C,h,i,j,l,m⟩:=Ot Tryz.underlying24 B;have z:Tryz.prog.cellsOf 24=5:=by kernel_rfl
 obtain ⟨I,J,L,M,N,rfl⟩:=MY (C.trans z);have c3:Tryz.prog.cellsOf 3=1:=by kernel_rfl
 have u:Tryz.prog.cellsOf 22=1:=by kernel_rfl
 simp only [c3,u,List.drop_zero,List.drop_succ_cons,List.take_succ_cons,List.take_zero] at h i j l m;obtain ⟨o,c,_,_⟩:=DataW.trod_int Tryz.underlying3 h;obtain ⟨p,d,_,_⟩:=DataW.trod_int Tryz.underlying3 i;obtain ⟨q,e,_,_⟩:=DataW.trod_int Tryz.underlying3 j;obtain ⟨s,f,_,_⟩:=DataW.trod_int Tryz.underlying3 l;obtain ⟨D,G,E,F,g,y⟩:=Sl m w;simp at c d e f g;subst c d e f g;exact ⟨⟨o,p,q,s,D,G,E,F⟩,rfl,y⟩
theorem Ea {l:List Value} (h:l.length=7):∃ a b c d e f g,l=[a,b,c,d,e,f,g]:=by
 match l,h with
 | [a,b,c,d,e,f,g],_=>exact ⟨a,b,c,d,e,f,g,rfl⟩
def EG (W:World) (b off i:Nat) (x:Bk):Prop :=
 (W.cell? (zA b (off+i*7))=some (zI x.id)/\W.cell? (zA b (off+i*7+1))=some (zI x.rq.queue)/\W.cell? (zA b (off+i*7+2))=some (zI x.rq.fr)/\W.cell? (zA b (off+i*7+3))=some (zI x.rq.un)/\W.cell? (zA b (off+i*7+4))=some (zI x.rq.kind)/\W.cell? (zA b (off+i*7+5))=some (.slice x.rq.pa x.rq.pn x.rq.pc)/\W.cell? (zA b (off+i*7+6))=some (.slice x.ba x.bn x.bc))/\zH W x.rq/\RunsIn W x.ba x.bn x.bc x.bs
theorem Eg (f:Nat->Bk) (n i:Nat) (h:i<n):bk ((List.range n).map f) i=f i:=by simp [bk,List.getD,h]
theorem Ew {y:Type} {enc:TypeId×Value->y} {j:World} {V:Nat} {ap:Nat->Bool} {ak:Bool} {ae:Nat} {cs:List Value} {a:Option Addr} {d A:Nat} {x:DataW y×List MemPlace}
 (L:cs=[.slice a d A]) (al:DataW.trod enc Tryz.prog j V ap ak ae 38 cs=some x) (t:j.heap.size<=(default:Mk).k):∃ l,BksIn j a d A l:=by
 have aC:Inhabited Bk:=⟨⟨0,⟨0,0,0,0,none,0,0,[]⟩,none,0,0,[]⟩⟩;rcases Go.Deep.open_slice Tryz.underlying38 al with ⟨h,_⟩ | ⟨z,aE,aB,m,n,D,az,h,_,M,w,am,_,u⟩
 ·rw [L] at h;simp at h;obtain ⟨rfl,rfl,rfl⟩:=h;exact ⟨[],rfl,Nat.le_refl _,by simp,fun h=>by simp at h,fun i c=>by omega,fun i c=>by omega,fun h=>by simp at h⟩
 ·rw [L] at h;simp at h;obtain ⟨rfl,rfl,rfl⟩:=h;have aD:d<=m:=by rw [am];split <;> omega
  simp only [maxLen] at w;have aj:Tryz.prog.cellsOf 60=7:=by kernel_rfl
  rw [aj] at u;by_cases an:0<d
  ·have P:z.spot=none:=by
    obtain ⟨ab,s,_⟩:=u 0 (by omega);obtain ⟨_,v,g⟩:=World.cells?_some s;have af:=g 0 (by omega);obtain ⟨aq,ar,au,av,aw,ax,ay,rfl⟩:=Ea v;have:=World.cell?_spot af;simpa [Addr.add] using this
   obtain ⟨b,Q,aG⟩:=z;simp only at P;subst P;have ad:∀ i,i<d->∃ q:Bk,EG j b Q i q:=by
    intro i c;obtain ⟨ab,s,ag⟩:=u i (by omega);obtain ⟨_,v,g⟩:=World.cells?_some s;obtain ⟨aH,aI,aJ,k,_,_,R,S,U⟩:=Go.Deep.trod_struct3 Tryz.underlying60 ag;obtain ⟨aq,ar,au,av,aw,ax,ay,rfl⟩:=Ea v;have c3:Tryz.prog.cellsOf 3=1:=(by kernel_rfl);have W:Tryz.prog.cellsOf 24=5:=(by kernel_rfl);have X:Tryz.prog.cellsOf 58=1:=(by kernel_rfl);simp only [c3,W,X,List.drop_zero,List.drop_succ_cons,List.take_succ_cons,List.take_zero] at R S U;obtain ⟨p,N,_,_⟩:=DataW.trod_int Tryz.underlying3 R;obtain ⟨r,O,ai⟩:=GB S t;obtain ⟨Y,aa,Z,ao,J,ah⟩:=Ef U t;simp at N O J;obtain ⟨rfl,rfl,rfl,rfl,rfl⟩:=O;subst N J;have B:=g 0 (by omega);have C:=g 1 (by omega);have E:=g 2 (by omega);have F:=g 3 (by omega);have G:=g 4 (by omega);have H:=g 5 (by omega);have I:=g 6 (by omega);rw [XP,XP] at B C E F G H I;exact ⟨⟨p,r,Y,aa,Z,ao⟩,⟨by simpa using B,by simpa using C,by simpa using E,by simpa using F,by simpa using G,by simpa using H,by simpa using I⟩,ai,ah⟩
   obtain ⟨f,o⟩:=Go.Deep.choose_lt ad;refine ⟨(List.range d).map f,by simp,M,w,fun _=>⟨b,Q,rfl,fun i c=>?_⟩,fun i c=>?_,fun i c=>?_,fun _ aA aF e=>by cases e;exact Or.inl (Nat.lt_of_lt_of_le (xq (o 0 an).1.1) t)⟩
   ·rw [Eg f d i c];exact (o i c).1
   ·rw [Eg f d i c];exact (o i c).2.1
   ·rw [Eg f d i c];exact (o i c).2.2
  obtain rfl:d=0:=by omega
  exact ⟨[],rfl,M,w,fun h=>by simp at h,fun i c=>by omega,fun i c=>by omega,fun h=>by simp at h⟩
theorem BksIn.take {w:World} {a:Option Addr} {n d:Nat} {b:BL} (h:BksIn w a n d b) {k:Nat} (o:k<=n):BksIn w a k d (b.take k):=by
 have p:=h.len;have q:=h.le;have e:∀ i,i<k->bk (b.take k) i=bk b i:=fun i c=>by
  unfold bk;simp only [List.getD,List.getElem?_take];rw [if_pos c]
 refine ⟨by simp;omega,by omega,h.capb,fun m=>?_,fun i c=>by rw [e i c];exact h.rqs i (by omega),fun i c=>by rw [e i c];exact h.bites i (by omega),fun m=>h.thaw (by omega)⟩;obtain ⟨f,g,j,l⟩:=h.cells (by omega);exact ⟨f,g,j,fun i c=>by rw [e i c];exact l i (by omega)⟩
theorem BksIn.drop {w:World} {c a n d:Nat} {b:BL} (h:BksIn w (zO c a) n d b) {k:Nat} (q:k<=n):BksIn w (zO c (a+k*7)) (n-k) (d-k) (b.drop k):=by
 have r:=h.len;have s:=h.le;have e:∀ i,bk (b.drop k) i=bk b (k+i):=fun i=>by
  unfold bk;simp only [List.getD,List.getElem?_drop]
 refine ⟨by simp;omega,by omega,by have:=h.capb;omega,fun l=>?_,fun i f=>by rw [e i];exact h.rqs _ (by omega),fun i f=>by rw [e i];exact h.bites _ (by omega),fun l m t e=>by cases e;exact h.thaw (by omega) _ _ rfl⟩;obtain ⟨o,p,g,j⟩:=h.cells (by omega);cases g
 refine ⟨c,a+k*7,rfl,fun i f=>?_⟩;rw [e i];have:=j (k+i) (by omega);rw [show a+(k+i)*7=a+k*7+i*7 from by omega] at this;exact this
def zx (x:Bk):List Value:=[zI x.id,zI x.rq.queue,zI x.rq.fr,zI x.rq.un,zI x.rq.kind,.slice x.rq.pa x.rq.pn x.rq.pc,.slice x.ba x.bn x.bc]
def ze:BL->List Value
 | []=>[]
 | x::l=>zx x++ze l
theorem zE:∀ l:BL,(ze l).length=l.length*7
 | []=>rfl
 | x::l=>by simp only [ze,List.length_append,zE l,List.length_cons,zx];simp;omega
theorem xw:∀ a b:BL,ze (a++b)=ze a++ze b
 | [],b=>rfl
 | x::a,b=>by rw [List.cons_append,ze,xw a b,ze,List.append_assoc]
theorem y7:∀ (l:BL),∀ u∈ze l,u.oneCell'=true
 | [],u,h=>by simp [ze] at h
 | x::l,u,h=>by
  rcases List.mem_append.1 h with h | h
  ·simp only [zx,List.mem_cons,List.not_mem_nil,or_false] at h;rcases h with rfl | rfl | rfl | rfl | rfl | rfl | rfl <;> rfl
  exact y7 l u h
theorem Za:∀ (l:BL) (i k:Nat),i<l.length->k<7->(ze l)[i*7+k]?=(zx (bk l i))[k]?
 | [],i,k,h,_=>by simp at h
 | x::l,0,k,_,hk=>by
  rw [ze,List.getElem?_append_left (by simp [zx];omega),Nat.zero_mul,Nat.zero_add];rfl
 | x::l,i+1,k,h,hk=>by
  have:=Za l i k (by simpa using h) hk;rw [ze,List.getElem?_append_right (by simp [zx];omega),show (i+1)*7+k-(zx x).length=i*7+k from by simp [zx];omega,this];rfl
theorem BksIn.list {w:World} {c d n k:Nat} {l:BL} (h:BksIn w (zO c d) n k l):∀ j u,(ze l)[j]?=some u->w.cell? (zA c (d+j))=some u:=by
 intro j u a;have v:j<l.length*7:=by
  have:=(List.getElem?_eq_some_iff.1 a).1;rwa [zE] at this
 have r:j / 7<l.length:=by omega
 have b:j % 7<7:=by omega
 have hn:=h.len;obtain ⟨t,x,e,q⟩:=h.cells (by omega);injection e with e;injection e with o p;subst o;subst p;obtain ⟨g,c1,c2,c3,c4,c5,i⟩:=q (j / 7) (by omega);have f:j=j / 7*7+j % 7:=by omega
 rw [f,Za l _ _ r b] at a;rw [f];obtain ⟨m,s⟩:=qA (j % 7);rw [s] at a b ⊢;rw [<-Nat.add_assoc]
 match m,b with
 | 0,_=>simp [zx] at a;rw [<-a];exact g
 | 1,_=>simp [zx] at a;rw [<-a];exact c1
 | 2,_=>simp [zx] at a;rw [<-a];exact c2
 | 3,_=>simp [zx] at a;rw [<-a];exact c3
 | 4,_=>simp [zx] at a;rw [<-a];exact c4
 | 5,_=>simp [zx] at a;rw [<-a];exact c5
 | 6,_=>simp [zx] at a;rw [<-a];exact i
 | m+7,b=>omega
theorem zT {w w':World} {B t s n:Nat} {v:Value} {a:List Value} (h:w.ownsRow B t s v n a) (e:Below w.heap.size w w'):w'.ownsRow B t s v n a:=by
 refine ⟨h.1,?_⟩;rcases h.2 with hn | ⟨g,b,c,rfl,d,hg,rest⟩
 ·exact .inl hn
 refine .inr ⟨g,b,c,rfl,d,?_,rest⟩;rw [e.block g (Array.getElem?_eq_some_iff.1 hg).1];exact hg
theorem Gw {w:World} {B:Nat} {v:Value} {l:BL} (h:w.ownsRow B 60 7 v l.length (ze l)) (t:∀ x∈l,zH w x.rq) (p:∀ x∈l,RunsIn w x.ba x.bn x.bc x.bs) :
 ∃ a f,v=.slice a l.length f/\BksIn w a l.length f l/\∀ b d,a=zO b d->B<=b/\d=0:=by
 rcases h.2 with ⟨rfl,hn⟩ | ⟨g,f,m,rfl,A,hg,r,s,C,y⟩
 ·refine ⟨none,0,by rw [hn],⟨rfl,by omega,by omega,fun n=>by omega,fun i c=>by omega,fun i c=>by omega,fun n=>by omega⟩,fun b d e=>by cases e⟩
 ·refine ⟨zO g 0,f,rfl,⟨rfl,r,by simpa [maxLen] using s,fun n=>⟨g,0,rfl,fun i c=>?_⟩,fun i c=>t _ (yx c),fun i c=>p _ (yx c),fun _ b d e=>by cases e;exact Or.inr ⟨m,_,hg⟩⟩,fun b d e=>by
   injection e with e;injection e with z o;exact ⟨by omega,o.symm⟩⟩
  have key:∀ k u,k<7->(zx (bk l i))[k]?=some u->w.cell? (zA g (0+i*7+k))=some u:=by
   intro k u q j;rw [<-Za l i k c q,<-y,List.getElem?_take] at j;rw [Nat.zero_add]
   split at j
   ·rw [cell_of_row w g (i*7+k) m _ (0,0) hg];simpa using j
   cases j
  exact ⟨key 0 _ (by omega) rfl,key 1 _ (by omega) rfl,key 2 _ (by omega) rfl,key 3 _ (by omega) rfl,key 4 _ (by omega) rfl,key 5 _ (by omega) rfl,key 6 _ (by omega) rfl⟩
theorem Z5:(Tryz.prog.info? 60).map (fun i=>(i.zero,i.size,i.bytes))=some (some (.agg #[zI 0,zI 0,zI 0,zI 0,zI 0,zN,zN]),7,88):=by kernel_rfl
theorem Ze {P:Program} {o:Oper} {a:Operand->Value} {w w':World} {b:Value} (s x:Operand) (t:TypeId) (c:o.op=.call { callee:=.builtin .append,args:=#[s,x],argTypes:=#[t,t] }) (v y:Value) (e:a s=v) (f:a x=y)
 (d:(Builtin.append_ #[t,t] o.type #[v,y]).run P w=.ok b w'):(execOp a o).run P w=.ok (.value b) w':=by
 unfold execOp;simp only [c,resolve,invoke,builtin,Sem.run_bind,Sem.run_pure,Result.andThen_ok,List.map_toArray,List.map_cons,List.map_nil,e,f,d]
theorem YE:∀ (l:zd),∀ u∈cellsOf l,u.oneCell'=true
 | [],u,h=>by simp [cellsOf] at h
 | r::l,u,h=>by
  simp only [cellsOf,List.mem_cons] at h;rcases h with rfl | rfl | h
  ·rfl
  ·rfl
  exact YE l u h
theorem RunsIn.list {w:World} {d:Addr} {n g:Nat} {l:zd} (h:RunsIn w (some d) n g l):∀ j u,(cellsOf l)[j]?=some u->w.cell? (d.add j)=some u:=by
 intro j u a;have k:j<l.length*2:=by
  have:=(List.getElem?_eq_some_iff.1 a).1;rwa [xL] at this
 have hn:=h.len;obtain ⟨b,m,e,i⟩:=h.cells (by omega);injection e with e;subst e;obtain ⟨f,c1⟩:=i (j / 2) (by omega);rw [Addr.add_lit];have c:j % 2=0\/j % 2=1:=by omega
 rcases c with c | c
 ·have e:j=j / 2*2:=by omega
  rw [e,xr l _ (by omega)] at a;rw [e,<-a];exact f
 have e:j=j / 2*2+1:=by omega
 rw [e,xJ l _ (by omega)] at a;rw [e,<-a];exact c1
theorem Yq {w:World} {B t:Nat} {v:Value} {l:zd} (h:w.ownsRow B t 2 v l.length (cellsOf l)) (y:l.length<=1000):∃ a d,v=.slice a l.length d/\RunsIn w a l.length d l/\∀ b c,a=zO b c->B<=b/\c=0:=by
 rcases h.2 with ⟨rfl,hn⟩ | ⟨g,d,j,rfl,x,hg,p,q,z,r⟩
 ·refine ⟨none,0,by rw [hn],⟨rfl,by omega,by omega,by omega,fun n=>by omega,fun n=>by omega⟩,fun b c e=>by cases e⟩
 refine ⟨zO g 0,d,rfl,⟨rfl,p,by omega,by simpa [maxLen] using q,fun n=>⟨g,0,rfl,fun i m=>?_⟩,fun _ b c e=>by cases e;exact Or.inr ⟨j,_,hg⟩⟩,fun b c e=>by
  injection e with e;injection e with s o;exact ⟨by omega,o.symm⟩⟩
 have key:∀ k u,(cellsOf l)[k]?=some u->w.cell? (zA g k)=some u:=by
  intro k u f;rw [<-r,List.getElem?_take] at f
  split at f
  ·rw [cell_of_row w g k j _ (0,0) hg];simpa using f
  cases f
 exact ⟨by rw [Nat.zero_add];exact key _ _ (xr l i m),by rw [Nat.zero_add];exact key _ _ (xJ l i m)⟩
theorem Qk (w:World) (a:Option Addr) (n c:Nat) (b:List Value) (B:b.length=n*2) (hn:n<=1000) (m:∀ d,a=some d->∀ j u,b[j]?=some u->w.cell? (d.add j)=some u) (v:∀ u∈b,u.oneCell'=true) (l:a=none->n=0) :
 zC 94 #[.slice a n c] w fun e w'=>∃ f,e=.returned f/\w'.ownsRow w.heap.size 55 2 f n b/\Below w.heap.size w w':=by
 have E:∀ (w:World) (a:Option Addr) (n c h g:Nat),(binOp .eql 25 (.slice a n c) (.slice none h g)).run Tryz.prog w=.ok (.bool a.isNone) w:=fun w a n c h g=>Lib.run_eql_slice_nil w _ _ a n c h g Tryz.underlying25;obtain ⟨D,y,e⟩:=Option.map_eq_some_iff.1 (show (Tryz.prog.info? 55).map (fun i=>(i.zero,i.size,i.bytes))=some (some (.agg #[zI 0,zI 0]),2,16) from by kernel_rfl);simp only [Prod.mk.injEq] at e;obtain ⟨r,s,t⟩:=e;cases a with
 | none =>
  obtain rfl:=l rfl;have p:b=[]:=List.length_eq_zero_iff.1 (by omega);subst p;go_enter Tryz.func94,Tryz.ntmps94;go_wp2;go_ret;exact ⟨_,rfl,World.ownsRow_nil _ _ _ _,Below.refl _ _⟩
 | some d =>
  have q:=zh (m d rfl);clear m l;go_enter Tryz.func94,Tryz.ntmps94;go_wp2_with (at_builtin;refine wpList_append_own _ rfl _ _ 25 rfl w.heap.size 55 D _ 2 16 Tryz.underlying25 y r s t (by rfl) (by omega) _ _ _ rfl (World.ownsRow_made w #[] 0 (Nat.le_refl _) (Nat.zero_le _) (by simp)) d n c b rfl ?qc1 ?qc2 ?qc3 ?qc4 ?qc5 ?qc6 ?_)
  case qc1=>exact B
  case qc2 =>
   intro j u z;exact cell_later (zr _ _) (q.o j u z)
  case qc3=>exact v
  case qc4=>simp only [maxLen];omega
  case qc5=>omega
  case qc6=>simp
  intro f F C x p;go_wp2;go_ret;refine ⟨f,rfl,by simpa using C,?_⟩;exact ((Below.refl _ w).alloc (Nat.le_refl _) _).grown x (by simp) (by intro k A;simp [Value.ownBlock] at A;omega)
theorem Qi (w:World) (a:Option Addr) (n g:Nat) (l:zd) (h:RunsIn w a n g l) (hn:n<=1000) :
 zC 94 #[.slice a n g] w fun e w'=>∃ c d,e=.returned (.slice c n d)/\RunsIn w' c n d l/\Below w.heap.size w w'/\∀ b f,c=zO b f->w.heap.size<=b:=by
 refine (Qk w a n g (cellsOf l) (by rw [xL,h.len]) hn ?_ (YE l) ?_).mono ?_
 ·rintro q rfl j u p;exact h.list j u p
 ·rintro rfl;by_cases e:0<n
  ·obtain ⟨b,f,e,_⟩:=h.cells e;cases e
  omega
 ·rintro e w' ⟨r,rfl,m,o⟩;obtain ⟨c,d,rfl,i,k⟩:=Yq (l:=l) (h.len ▸ m) (by have:=h.len;omega);exact ⟨c,d,by rw [h.len],by rw [h.len];exact i,o,fun b f e=>(k b f e).1⟩
theorem Se (w:World) (a:Option Addr) (n c:Nat) (b:List Value) (B:b.length=n*2) (hn:n<=1000) (m:∀ d,a=some d->∀ j u,b[j]?=some u->w.cell? (d.add j)=some u) (v:∀ u∈b,u.oneCell'=true) (l:a=none->n=0) :
 zC 142 #[.slice a n c] w fun e w'=>∃ f,e=.returned f/\w'.ownsRow w.heap.size 64 2 f n b/\Below w.heap.size w w':=by
 have E:∀ (w:World) (a:Option Addr) (n c h g:Nat),(binOp .eql 22 (.slice a n c) (.slice none h g)).run Tryz.prog w=.ok (.bool a.isNone) w:=fun w a n c h g=>Lib.run_eql_slice_nil w _ _ a n c h g Tryz.underlying22;obtain ⟨D,y,e⟩:=Option.map_eq_some_iff.1 (show (Tryz.prog.info? 64).map (fun i=>(i.zero,i.size,i.bytes))=some (some (.agg #[zI 0,zI 0]),2,16) from by kernel_rfl);simp only [Prod.mk.injEq] at e;obtain ⟨r,s,t⟩:=e;cases a with
 | none =>
  obtain rfl:=l rfl;have p:b=[]:=List.length_eq_zero_iff.1 (by omega);subst p;go_enter Tryz.func142,Tryz.ntmps142;go_wp2;go_ret;exact ⟨_,rfl,World.ownsRow_nil _ _ _ _,Below.refl _ _⟩
 | some d =>
  have q:=zh (m d rfl);clear m l;go_enter Tryz.func142,Tryz.ntmps142;go_wp2_with (at_builtin;refine wpList_append_own _ rfl _ _ 22 rfl w.heap.size 64 D _ 2 16 Tryz.underlying22 y r s t (by rfl) (by omega) _ _ _ rfl (World.ownsRow_made w #[] 0 (Nat.le_refl _) (Nat.zero_le _) (by simp)) d n c b rfl ?qc1 ?qc2 ?qc3 ?qc4 ?qc5 ?qc6 ?_)
  case qc1=>exact B
  case qc2 =>
   intro j u z;exact cell_later (zr _ _) (q.o j u z)
  case qc3=>exact v
  case qc4=>simp only [maxLen];omega
  case qc5=>omega
  case qc6=>simp
  intro f F C x p;go_wp2;go_ret;refine ⟨f,rfl,by simpa using C,?_⟩;exact ((Below.refl _ w).alloc (Nat.le_refl _) _).grown x (by simp) (by intro k A;simp [Value.ownBlock] at A;omega)
theorem Sd (w:World) (a:Option Addr) (n g:Nat) (l:zd) (h:RunsIn w a n g l) (hn:n<=1000) :
 zC 142 #[.slice a n g] w fun e w'=>∃ c d,e=.returned (.slice c n d)/\RunsIn w' c n d l/\Below w.heap.size w w'/\∀ b f,c=zO b f->w.heap.size<=b:=by
 refine (Se w a n g (cellsOf l) (by rw [xL,h.len]) hn ?_ (YE l) ?_).mono ?_
 ·rintro q rfl j u p;exact h.list j u p
 ·rintro rfl;by_cases e:0<n
  ·obtain ⟨b,f,e,_⟩:=h.cells e;cases e
  omega
 ·rintro e w' ⟨r,rfl,m,o⟩;obtain ⟨c,d,rfl,i,k⟩:=Yq (l:=l) (h.len ▸ m) (by have:=h.len;omega);exact ⟨c,d,by rw [h.len],by rw [h.len];exact i,o,fun b f e=>(k b f e).1⟩
theorem Sx (w:World) (a:Option Addr) (n c:Nat) (b:List Value) (B:b.length=n*2) (hn:n<=1000) (m:∀ d,a=some d->∀ j u,b[j]?=some u->w.cell? (d.add j)=some u) (v:∀ u∈b,u.oneCell'=true) (l:a=none->n=0) :
 zC 141 #[.slice a n c] w fun e w'=>∃ f,e=.returned f/\w'.ownsRow w.heap.size 62 2 f n b/\Below w.heap.size w w':=by
 have E:∀ (w:World) (a:Option Addr) (n c h g:Nat),(binOp .eql 58 (.slice a n c) (.slice none h g)).run Tryz.prog w=.ok (.bool a.isNone) w:=fun w a n c h g=>Lib.run_eql_slice_nil w _ _ a n c h g Tryz.underlying58;obtain ⟨D,y,e⟩:=Option.map_eq_some_iff.1 (show (Tryz.prog.info? 62).map (fun i=>(i.zero,i.size,i.bytes))=some (some (.agg #[zI 0,zI 0]),2,16) from by kernel_rfl);simp only [Prod.mk.injEq] at e;obtain ⟨r,s,t⟩:=e;cases a with
 | none =>
  obtain rfl:=l rfl;have p:b=[]:=List.length_eq_zero_iff.1 (by omega);subst p;go_enter Tryz.func141,Tryz.ntmps141;go_wp2;go_ret;exact ⟨_,rfl,World.ownsRow_nil _ _ _ _,Below.refl _ _⟩
 | some d =>
  have q:=zh (m d rfl);clear m l;go_enter Tryz.func141,Tryz.ntmps141;go_wp2_with (at_builtin;refine wpList_append_own _ rfl _ _ 58 rfl w.heap.size 62 D _ 2 16 Tryz.underlying58 y r s t (by rfl) (by omega) _ _ _ rfl (World.ownsRow_made w #[] 0 (Nat.le_refl _) (Nat.zero_le _) (by simp)) d n c b rfl ?qc1 ?qc2 ?qc3 ?qc4 ?qc5 ?qc6 ?_)
  case qc1=>exact B
  case qc2 =>
   intro j u z;exact cell_later (zr _ _) (q.o j u z)
  case qc3=>exact v
  case qc4=>simp only [maxLen];omega
  case qc5=>omega
  case qc6=>simp
  intro f F C x p;go_wp2;go_ret;refine ⟨f,rfl,by simpa using C,?_⟩;exact ((Below.refl _ w).alloc (Nat.le_refl _) _).grown x (by simp) (by intro k A;simp [Value.ownBlock] at A;omega)
theorem Sw (w:World) (a:Option Addr) (n g:Nat) (l:zd) (h:RunsIn w a n g l) (hn:n<=1000) :
 zC 141 #[.slice a n g] w fun e w'=>∃ c d,e=.returned (.slice c n d)/\RunsIn w' c n d l/\Below w.heap.size w w'/\∀ b f,c=zO b f->w.heap.size<=b:=by
 refine (Sx w a n g (cellsOf l) (by rw [xL,h.len]) hn ?_ (YE l) ?_).mono ?_
 ·rintro q rfl j u p;exact h.list j u p
 ·rintro rfl;by_cases e:0<n
  ·obtain ⟨b,f,e,_⟩:=h.cells e;cases e
  omega
 ·rintro e w' ⟨r,rfl,m,o⟩;obtain ⟨c,d,rfl,i,k⟩:=Yq (l:=l) (h.len ▸ m) (by have:=h.len;omega);exact ⟨c,d,by rw [h.len],by rw [h.len];exact i,o,fun b f e=>(k b f e).1⟩
def wH (q:Qu):List Value:=[.string q.name,zI q.parent,.slice q.ca q.cn q.cc]
def yE:QL->List Value
 | []=>[]
 | x::l=>wH x++yE l
theorem Xp:∀ l:QL,(yE l).length=l.length*3
 | []=>rfl
 | x::l=>by simp only [yE,List.length_append,Xp l,List.length_cons,wH];simp;omega
theorem Vf:∀ (l:QL),∀ u∈yE l,u.oneCell'=true
 | [],u,h=>by simp [yE] at h
 | x::l,u,h=>by
  rcases List.mem_append.1 h with h | h
  ·simp only [wH,List.mem_cons,List.not_mem_nil,or_false] at h;rcases h with rfl | rfl | rfl <;> rfl
  exact Vf l u h
theorem Ys:∀ (l:QL) (i k:Nat),i<l.length->k<3->(yE l)[i*3+k]?=(wH (qu l i))[k]?
 | [],i,k,h,_=>by simp at h
 | x::l,0,k,_,hk=>by
  rw [yE,List.getElem?_append_left (by simp [wH];omega),Nat.zero_mul,Nat.zero_add];rfl
 | x::l,i+1,k,h,hk=>by
  have:=Ys l i k (by simpa using h) hk;rw [yE,List.getElem?_append_right (by simp [wH];omega),show (i+1)*3+k-(wH x).length=i*3+k from by simp [wH];omega,this];rfl
theorem QsIn.list {w:World} {c:Addr} {n g:Nat} {l:QL} (h:QsIn w (some c) n g l):∀ j u,(yE l)[j]?=some u->w.cell? (c.add j)=some u:=by
 intro j u a;have q:j<l.length*3:=by
  have:=(List.getElem?_eq_some_iff.1 a).1;rwa [Xp] at this
 have k:j / 3<l.length:=by omega
 have b:j % 3<3:=by omega
 have hn:=h.len;obtain ⟨p,r,e,i⟩:=h.cells (by omega);injection e with e;subst e;obtain ⟨f,c1,c2⟩:=i (j / 3) (by omega);have d:j=j / 3*3+j % 3:=by omega
 rw [d,Ys l _ _ k b] at a;rw [Addr.add_lit,d];obtain ⟨m,o⟩:=qA (j % 3);rw [o] at a b ⊢;rw [<-Nat.add_assoc]
 match m,b with
 | 0,_=>simp [wH] at a;rw [<-a];exact f
 | 1,_=>simp [wH] at a;rw [<-a];exact c1
 | 2,_=>simp [wH] at a;rw [<-a];exact c2
 | m+3,b=>omega
theorem Fr {w:World} {B:Nat} {v:Value} {l:QL} (h:w.ownsRow B 66 3 v l.length (yE l)) (p:∀ i,i<l.length->RunsIn w (qu l i).ca (qu l i).cn (qu l i).cc (qu l i).runs) (t:∀ i,i<l.length->(qu l i).name.size<=9223372036854775807) :
 ∃ a d,v=.slice a l.length d/\QsIn w a l.length d l/\∀ b c,a=zO b c->B<=b/\c=0:=by
 rcases h.2 with ⟨rfl,hn⟩ | ⟨g,d,m,rfl,z,hg,r,s,A,x⟩
 ·refine ⟨none,0,by rw [hn],⟨rfl,by omega,by omega,fun n=>by omega,fun i j=>by omega,fun i j=>by omega,fun n=>by omega⟩,fun b c e=>by cases e⟩
 ·refine ⟨zO g 0,d,rfl,⟨rfl,r,by simpa [maxLen] using s,fun n=>⟨g,0,rfl,fun i j=>?_⟩,p,t,fun _ b c e=>by cases e;exact Or.inr ⟨m,_,hg⟩⟩,fun b c e=>by
   injection e with e;injection e with y o;exact ⟨by omega,o.symm⟩⟩
  have key:∀ k u,k<3->(wH (qu l i))[k]?=some u->w.cell? (zA g (0+i*3+k))=some u:=by
   intro k u q f;rw [<-Ys l i k j q,<-x,List.getElem?_take] at f;rw [Nat.zero_add]
   split at f
   ·rw [cell_of_row w g (i*3+k) m _ (0,0) hg];simpa using f
   cases f
  exact ⟨key 0 _ (by omega) rfl,key 1 _ (by omega) rfl,key 2 _ (by omega) rfl⟩
theorem OE (w:World) (a:Option Addr) (n c:Nat) (b:List Value) (B:b.length=n*3) (hn:n<=1000) (m:∀ d,a=some d->∀ j u,b[j]?=some u->w.cell? (d.add j)=some u) (v:∀ u∈b,u.oneCell'=true) (l:a=none->n=0) :
 zC 127 #[.slice a n c] w fun e w'=>∃ f,e=.returned f/\w'.ownsRow w.heap.size 66 3 f n b/\Below w.heap.size w w':=by
 have E:∀ (w:World) (a:Option Addr) (n c h g:Nat),(binOp .eql 37 (.slice a n c) (.slice none h g)).run Tryz.prog w=.ok (.bool a.isNone) w:=fun w a n c h g=>Lib.run_eql_slice_nil w _ _ a n c h g Tryz.underlying37;obtain ⟨D,y,e⟩:=Option.map_eq_some_iff.1 (show (Tryz.prog.info? 66).map (fun i=>(i.zero,i.size,i.bytes))=some (some (.agg #[.string ⟨#[]⟩,zI 0,zN]),3,48) from by kernel_rfl);simp only [Prod.mk.injEq] at e;obtain ⟨r,s,t⟩:=e;cases a with
 | none =>
  obtain rfl:=l rfl;have p:b=[]:=List.length_eq_zero_iff.1 (by omega);subst p;go_enter Tryz.func127,Tryz.ntmps127;go_wp2;go_ret;exact ⟨_,rfl,World.ownsRow_nil _ _ _ _,Below.refl _ _⟩
 | some d =>
  have q:=zh (m d rfl);clear m l;go_enter Tryz.func127,Tryz.ntmps127;go_wp2_with (at_builtin;refine wpList_append_own _ rfl _ _ 37 rfl w.heap.size 66 D _ 3 48 Tryz.underlying37 y r s t (by rfl) (by omega) _ _ _ rfl (World.ownsRow_made w #[] 0 (Nat.le_refl _) (Nat.zero_le _) (by simp)) d n c b rfl ?qc1 ?qc2 ?qc3 ?qc4 ?qc5 ?qc6 ?_)
  case qc1=>exact B
  case qc2 =>
   intro j u z;exact cell_later (zr _ _) (q.o j u z)
  case qc3=>exact v
  case qc4=>simp only [maxLen];omega
  case qc5=>omega
  case qc6=>simp
  intro f F C x p;go_wp2;go_ret;refine ⟨f,rfl,by simpa using C,?_⟩;exact ((Below.refl _ w).alloc (Nat.le_refl _) _).grown x (by simp) (by intro k A;simp [Value.ownBlock] at A;omega)
theorem PE (w:World) (a:Option Addr) (n c:Nat) (b:List Value) (B:b.length=n*7) (hn:n<=1000) (m:∀ d,a=some d->∀ j u,b[j]?=some u->w.cell? (d.add j)=some u) (v:∀ u∈b,u.oneCell'=true) (l:a=none->n=0) :
 zC 140 #[.slice a n c] w fun e w'=>∃ f,e=.returned f/\w'.ownsRow w.heap.size 60 7 f n b/\Below w.heap.size w w':=by
 have E:∀ (w:World) (a:Option Addr) (n c h g:Nat),(binOp .eql 38 (.slice a n c) (.slice none h g)).run Tryz.prog w=.ok (.bool a.isNone) w:=fun w a n c h g=>Lib.run_eql_slice_nil w _ _ a n c h g Tryz.underlying38;obtain ⟨D,y,e⟩:=Option.map_eq_some_iff.1 (show (Tryz.prog.info? 60).map (fun i=>(i.zero,i.size,i.bytes))=some (some (.agg #[zI 0,zI 0,zI 0,zI 0,zI 0,zN,zN]),7,88) from by kernel_rfl);simp only [Prod.mk.injEq] at e;obtain ⟨r,s,t⟩:=e;cases a with
 | none =>
  obtain rfl:=l rfl;have p:b=[]:=List.length_eq_zero_iff.1 (by omega);subst p;go_enter Tryz.func140,Tryz.ntmps140;go_wp2;go_ret;exact ⟨_,rfl,World.ownsRow_nil _ _ _ _,Below.refl _ _⟩
 | some d =>
  have q:=zh (m d rfl);clear m l;go_enter Tryz.func140,Tryz.ntmps140;go_wp2_with (at_builtin;refine wpList_append_own _ rfl _ _ 38 rfl w.heap.size 60 D _ 7 88 Tryz.underlying38 y r s t (by rfl) (by omega) _ _ _ rfl (World.ownsRow_made w #[] 0 (Nat.le_refl _) (Nat.zero_le _) (by simp)) d n c b rfl ?qc1 ?qc2 ?qc3 ?qc4 ?qc5 ?qc6 ?_)
  case qc1=>exact B
  case qc2 =>
   intro j u z;exact cell_later (zr _ _) (q.o j u z)
  case qc3=>exact v
  case qc4=>simp only [maxLen];omega
  case qc5=>omega
  case qc6=>simp
  intro f F C x p;go_wp2;go_ret;refine ⟨f,rfl,by simpa using C,?_⟩;exact ((Below.refl _ w).alloc (Nat.le_refl _) _).grown x (by simp) (by intro k A;simp [Value.ownBlock] at A;omega)
end Go.Proofs.YtckpdfkobdgjeaaGreatDoor
