/- Several texts in one: BookC, BookD. -/
import Derived.Test.YtckpdfkobdgjeaaGreatDoorJAll4
namespace Go.Proofs.YtckpdfkobdgjeaaGreatDoor
set_option maxRecDepth 100000
set_option maxHeartbeats 4000000
open Go.RowKit
set_option linter.unusedSectionVars false
variable [Inhabited Mk]
def Zp (c n:Int) (l:QL) (b:BL) (r:Rq):Int:=if wW c n l b r=0 then (if 12<=b.length\/1048576<=n then 2 else if (yU l b r).2=true then 0 else 8) else wW c n l b r
theorem L5 {c n:Int} {l:QL} {b:BL} {r:Rq} (h:wW c n l b r=0):zU c n l b=0/\yI l r=0/\c<=r.fr:=by
 unfold wW at h
 split at h
 ·rename_i h1
  split at h
  ·rename_i h2
   split at h
   ·cases h
   exact ⟨h1,h2,by omega⟩
  contradiction
 contradiction
theorem Ha {c n:Int} {l:QL} {b:BL} {r:Rq} (h:Zp c n l b r=0):wW c n l b r=0/\b.length<12/\n<1048576/\(yU l b r).2=true:=by
 unfold Zp at h
 split at h
 ·rename_i h1
  split at h
  ·cases h
  split at h
  ·rename_i h2 h3;exact ⟨h1,by omega,by omega,h3⟩
  cases h
 contradiction
theorem YL (w:World) (a b c d:Value) (r:Rq) {e:World} (m:e=((w.alloc (.cells #[a,b,c,d] 40)).alloc (.cells #[zI r.queue,zI r.fr,zI r.un,zI r.kind,.slice r.pa r.pn r.pc] 24)).alloc (.cells zZ 40)):zj e w.heap.size a b c d/\Ww e (w.heap.size+1) r/\zj e (w.heap.size+2) (zI 0) (zI 0) zN zN/\Below w.heap.size w e/\e.heap.size=w.heap.size+3:=by
 subst m;obtain ⟨h,i,j,k⟩:=Tu w a b c d r rfl;obtain ⟨f,l⟩:=qB ((w.alloc (.cells #[a,b,c,d] 40)).alloc (.cells (zR r) 24));rw [<-l] at h i j k ⊢;have g:zL f (f.alloc (.cells zZ 40)):=zr _ _;refine ⟨h.later g,i.later g,?_,za j g,by simp;omega⟩;have:=zj.new f (zI 0) (zI 0) zN zN;rw [k] at this;exact this
theorem PQ (w:World) (c n:Int) (m:Option Addr) (s q:Nat) (l:QL) (d:Option Addr) (g f:Nat) (b:BL) (h:zY w m s q l d g f b) (r:Rq) (I:zH w r) (A:wW c n l b r≠0) :
 zC 52 #[.agg (zS c n m s q d g f),.agg #[zI r.queue,zI r.fr,zI r.un,zI r.kind,.slice r.pa r.pn r.pc]] w fun e w'=>e=.returned (.tuple #[.agg zZ,zI 0,zI (wW c n l b r)])/\Below w.heap.size w w':=by
 obtain ⟨S,H⟩:=qA (w.heap.size);obtain ⟨z,B⟩:=qB (((w.alloc (.cells (zS c n m s q d g f) 40)).alloc (.cells (zR r) 24)).alloc (.cells zZ 40));obtain ⟨t,u,F,j,D⟩:=YL w _ _ _ _ r B;rw [H] at t u F D;have y:=Yz z c n m s q l d g f b (h.later j) r (zH.later I j);have aa:=zh t;have ab:=zh u;have P:=zh F;have J:=zh j;have O:=zh B;have N:=zh H;have Z:=zh D;obtain ⟨Q,c1,c2,c3⟩:=t.cells;obtain ⟨R,U,V,W,X⟩:=u.cells;clear B t u F j h I D;obtain ⟨a,G⟩:=qA (wW c n l b r);rw [G] at y A ⊢;have ad:(a != 0)=true:=by simp [A]
 have M:=zh y;clear y G A;go_enter Tryz.func52,Tryz.ntmps52;go_wp2_with fail
 rw [<-O.o];refine M.o.mono ?_;rintro e E ⟨rfl,C⟩;have x:=zh (P.o.later C);have L:=zh (za J.o C);clear C Q c1 c2 c3 R U V W X;obtain ⟨ae,af,ag,ah⟩:=x.o.cells;have ai:∀ k,E.frozen? (zA (S+2) k)=false:=fun k=>frozen_of_row E (S+2) k _ _ x.o;go_wp2_with fail
 have Y:=zk E (S+2) 40 _ _ _ _ (zI 0) (zI 0) zN zN x.o;have i:w.heap.size<=S+2:=by have:=N.o;omega
 refine bodyPost_ret (v:=.tuple #[.agg zZ,zI 0,zI a]) (zq Tryz.results52 _ _ (S+2) 40 zZ (0,0) _ rfl Y.1 Tryz.underlying40 rfl (by kernel_rfl)) rfl ⟨rfl,?_⟩;exact ((((L.o.setCell (p:=(zA (S+2) 0)) i _).setCell (p:=(zA (S+2) 1)) i _).setCell (p:=(zA (S+2) 2)) i _).setCell (p:=(zA (S+2) 3)) i _)
theorem OU (w:World) (c n:Int) (q:Option Addr) (t s:Nat) (l:QL) (g:Option Addr) (d i:Nat) (b:BL) (h:zY w q t s l g d i b) (r:Rq) (M:zH w r) (I:wW c n l b r=0) (L:12<=d\/1048576<=n) :
 zC 52 #[.agg (zS c n q t s g d i),.agg #[zI r.queue,zI r.fr,zI r.un,zI r.kind,.slice r.pa r.pn r.pc]] w fun e w'=>e=.returned (.tuple #[.agg zZ,zI 0,zI 2])/\Below w.heap.size w w':=by
 obtain ⟨S,J⟩:=qA (w.heap.size);obtain ⟨A,B⟩:=qB (((w.alloc (.cells (zS c n q t s g d i) 40)).alloc (.cells (zR r) 24)).alloc (.cells zZ 40));obtain ⟨x,y,E,m,D⟩:=YL w _ _ _ _ r B;rw [J] at x y E D;have z:=Yz A c n q t s l g d i b (h.later m) r (zH.later M m);have U:=zh x;have ad:=zh y;have V:=zh E;have N:=zh m;have Q:=zh B;have G:=zh J;have ab:=zh D;obtain ⟨H,c1,c2,c3⟩:=x.cells;obtain ⟨W,X,Y,Z,aa⟩:=y.cells;clear B x y E m h M D;rw [I] at z;have O:=zh z;have P:=zh L;clear z I L;go_enter Tryz.func52,Tryz.ntmps52;go_wp2_with fail
 rw [<-Q.o];refine O.o.mono ?_;rintro e u ⟨rfl,j⟩;have f:=zh (V.o.later j);have F:=zh (za N.o j);have R:=zh (U.o.later j);clear j H c1 c2 c3 W X Y Z aa;obtain ⟨H,c1,c2,c3⟩:=R.o.cells;obtain ⟨af,ag,ah,ai⟩:=f.o.cells;have aj:∀ k,u.frozen? (zA (S+2) k)=false:=fun k=>frozen_of_row u (S+2) k _ _ f.o;by_cases ae:(12:Int)<=d
 ·go_wp2_with fail
  have C:=zk u (S+2) 40 _ _ _ _ (zI 0) (zI 0) zN zN f.o;have a:w.heap.size<=S+2:=by have:=G.o;omega
  refine bodyPost_ret (v:=.tuple #[.agg zZ,zI 0,zI 2]) (zq Tryz.results52 _ _ (S+2) 40 zZ (0,0) _ rfl C.1 Tryz.underlying40 rfl (by kernel_rfl)) rfl ⟨rfl,?_⟩;exact ((((F.o.setCell (p:=(zA (S+2) 0)) a _).setCell (p:=(zA (S+2) 1)) a _).setCell (p:=(zA (S+2) 2)) a _).setCell (p:=(zA (S+2) 3)) a _)
 ·have hn:1048576<=n:=by rcases P.o with h | h <;> omega
  go_wp2_with fail
  have C:=zk u (S+2) 40 _ _ _ _ (zI 0) (zI 0) zN zN f.o;have a:w.heap.size<=S+2:=by have:=G.o;omega
  refine bodyPost_ret (v:=.tuple #[.agg zZ,zI 0,zI 2]) (zq Tryz.results52 _ _ (S+2) 40 zZ (0,0) _ rfl C.1 Tryz.underlying40 rfl (by kernel_rfl)) rfl ⟨rfl,?_⟩;exact ((((F.o.setCell (p:=(zA (S+2) 0)) a _).setCell (p:=(zA (S+2) 1)) a _).setCell (p:=(zA (S+2) 2)) a _).setCell (p:=(zA (S+2) 3)) a _)
theorem OT (w:World) (c n:Int) (i:Option Addr) (m j:Nat) (l:QL) (f:Option Addr) (d g:Nat) (b:BL) (h:zY w i m j l f d g b) (r:Rq) (J:zH w r) (R:wW c n l b r=0) (aq:(d:Int)<12) (hn:n<1048576) (I:(yU l b r).2=false) :
 zC 52 #[.agg (zS c n i m j f d g),.agg #[zI r.queue,zI r.fr,zI r.un,zI r.kind,.slice r.pa r.pn r.pc]] w fun e w'=>e=.returned (.tuple #[.agg zZ,zI 0,zI 8])/\Below w.heap.size w w':=by
 obtain ⟨S,U⟩:=qA (w.heap.size);obtain ⟨A,H⟩:=qB (((w.alloc (.cells (zS c n i m j f d g) 40)).alloc (.cells (zR r) 24)).alloc (.cells zZ 40));obtain ⟨t,u,N,s,L⟩:=YL w _ _ _ _ r H;rw [U] at t u N L;have z:=Yz A c n i m j l f d g b (h.later s) r (zH.later J s);have ag:=zh t;have ah:=zh u;have ai:=zh N;have W:=zh s;have ab:=zh H;have aa:=zh U;have ao:=zh L;obtain ⟨B,c1,c2,c3⟩:=t.cells;obtain ⟨C,D,E,F,G⟩:=u.cells;have P:=zh fun X (V:zL w X)=>XN X c n i m j l f d g b (h.later V) r (zH.later J V);clear H t u N s h J L;rw [R] at z;have Z:=zh z;obtain ⟨x,Q⟩:=qA (yU l b r);rw [Q] at P I;obtain ⟨am,an⟩:=x;simp only at I;subst I;clear z R Q;go_enter Tryz.func52,Tryz.ntmps52;go_wp2_with fail
 rw [<-ab.o];refine Z.o.mono ?_;rintro e al ⟨rfl,a⟩;have O:=zh (za W.o a);have ad:=zh (ag.o.later a);have ae:=zh (ah.o.later a);have af:=zh (ai.o.later a);clear a B c1 c2 c3 C D E F G;obtain ⟨B,c1,c2,c3⟩:=ad.o.cells;obtain ⟨C,D,E,F,G⟩:=ae.o.cells;go_wp2_with fail
 refine (P.o al O.o).mono ?_;rintro e M ⟨ap,au,ar,rfl,aj,a⟩;have y:=zh (af.o.later a);have Y:=zh (za O.o a);clear a aj B c1 c2 c3 C D E F G;obtain ⟨av,aw,ax,ay⟩:=y.o.cells;have az:∀ k,M.frozen? (zA (S+2) k)=false:=fun k=>frozen_of_row M (S+2) k _ _ y.o;go_wp2_with fail
 have ak:=zk M (S+2) 40 _ _ _ _ (zI 0) (zI 0) zN zN y.o;have q:w.heap.size<=S+2:=by have:=aa.o;omega
 refine bodyPost_ret (v:=.tuple #[.agg zZ,zI 0,zI 8]) (zq Tryz.results52 _ _ (S+2) 40 zZ (0,0) _ rfl ak.1 Tryz.underlying40 rfl (by kernel_rfl)) rfl ⟨rfl,?_⟩;exact ((((Y.o.setCell (p:=(zA (S+2) 0)) q _).setCell (p:=(zA (S+2) 1)) q _).setCell (p:=(zA (S+2) 2)) q _).setCell (p:=(zA (S+2) 3)) q _)
theorem OwnQs.blocks2 {w w':World} {B:Nat} {v:Value} {l:QL} (h:OwnQs w B v l) (d:∀ g,v.ownBlock=some g->w'.heap[g]?=w.heap[g]?) (e:∀ i,i<l.length->0<(qu l i).cn->∀ g k,(qu l i).ca=zO g k->w'.heap[g]?=w.heap[g]?):OwnQs w' B v l:=by
 refine ⟨⟨h.row.1,?_⟩,fun i a=>(h.caps i a).of_away (e i a),h.far,h.names⟩;rcases h.row.2 with j | ⟨g,b,c,rfl,f,hg,rest⟩
 ·exact .inl j
 exact .inr ⟨g,b,c,rfl,f,(d g rfl).trans hg,rest⟩
theorem V7 {l:QL} {r:Rq} (h:yI l r=0):r.ps.length<=3:=by
 unfold yI at h
 split at h
 ·by_cases k:1<=r.kind/\r.kind<=4
  ·by_cases p:(1:Int)<=r.ps.length/\(r.ps.length:Int)<=3
   ·omega
   rw [MK k p] at h;cases h
  rw [ML k] at h;cases h
 contradiction
theorem XT {w:World} {o:Option Addr} {e p:Nat} {l:QL} {f:Option Addr} {d g:Nat} {b:BL} (h:zY w o e p l f d g b) (a:Clean l b):Modest e l d b:=by
 obtain ⟨m,q,n⟩:=S5 h.1 a.tree;have r:=h.2.len;have s:=a.few;refine ⟨m,by omega,fun i c=>by have:=n i c;omega,by omega,fun i c=>?_,fun i c=>?_⟩
 ·have j:=RunsIn.len (h.2.rqs i c);have k:(bk b i).rq.ps.length<=3:=by
   have:=a.each i (by omega);unfold ZZ at this
   split at this
   ·rename_i h4;exact V7 h4
   contradiction
  omega
 have j:=(h.2.bites i c).len;have k:=Ym (y8 a.tree (a.each i (by omega))).1;omega
theorem ym {w:World} {B:Nat} {a:Option Addr} {m k:Nat} {b:BL} (h:OwnBks w B (.slice a m k) b):BksIn w a m k b:=by
 obtain ⟨d,f,e,c,_⟩:=h.bks;simp only [Value.slice.injEq] at e;obtain ⟨rfl,rfl,rfl⟩:=e;exact c
theorem y6 {w:World} {B:Nat} {a:Option Addr} {m k:Nat} {l:QL} (h:OwnQs w B (.slice a m k) l):QsIn w a m k l:=by
 obtain ⟨c,d,e,b,_⟩:=h.qs;simp only [Value.slice.injEq] at e;obtain ⟨rfl,rfl,rfl⟩:=e;exact b
structure NewSt (B:Nat) (ta:Option Addr) (tn:Nat) (l:QL) (ba:Option Addr) (bn:Nat) (b:BL):Prop where
 qs:0<tn->∀ g off,ta=zO g off->B<=g
 caps:∀ i,i<tn->0<(qu l i).cn->∀ g off,(qu l i).ca=zO g off->B<=g
 bks:0<bn->∀ g off,ba=zO g off->B<=g
 ps:∀ i,i<bn->0<(bk b i).rq.pn->∀ g off,(bk b i).rq.pa=zO g off->B<=g
 bs:∀ i,i<bn->0<(bk b i).bn->∀ g off,(bk b i).ba=zO g off->B<=g
theorem NewSt.mono {B f:Nat} {m:Option Addr} {n:Nat} {l:QL} {j:Option Addr} {k:Nat} {b:BL} (h:NewSt B m n l j k b) (d:f<=B):NewSt f m n l j k b :=
 ⟨fun a g o e=>Nat.le_trans d (h.qs a g o e),fun i a c g o e=>Nat.le_trans d (h.caps i a c g o e),fun a g o e=>Nat.le_trans d (h.bks a g o e),fun i a c g o e=>Nat.le_trans d (h.ps i a c g o e),fun i a c g o e=>Nat.le_trans d (h.bs i a c g o e)⟩
def G3 (w w':World) (e:Ending) (c n:Int) (tn bn:Nat) (l:QL) (bx:BL):Prop:=∃ g k1 l' g9 k9 b9,e=.returned (.tuple #[.agg (zS c (n+1) (zO g 0) tn k1 (zO g9 0) (bn+1) k9),zI n,zI 0])/\zY w' (zO g 0) tn k1 l' (zO g9 0) (bn+1) k9 b9/\zi l'=zi l/\zg b9=zg bx/\Below w.heap.size w w'/\NewSt w.heap.size (zO g 0) tn l' (zO g9 0) (bn+1) b9
theorem Mw (w:World) (c n:Int) (ap:Option Addr) (I aq:Nat) (l:QL) (ak:Option Addr) (t al:Nat) (b:BL) (h:zY w ap I aq l ak t al b) (r:Rq) (ae:zH w r) (bM:Zp c n l b r=0) :
 zC 52 #[.agg (zS c n ap I aq ak t al),.agg #[zI r.queue,zI r.fr,zI r.un,zI r.kind,.slice r.pa r.pn r.pc]] w fun e w'=>G3 w w' e c n I t l (b++[⟨n,r,none,0,0,(yU l b r).1⟩]):=by
 obtain ⟨S,bP⟩:=qA (w.heap.size);obtain ⟨a3,ba⟩:=qB (((w.alloc (.cells (zS c n ap I aq ak t al) 40)).alloc (.cells (zR r) 24)).alloc (.cells zZ 40));obtain ⟨aT,aU,bh,H,aK⟩:=YL w _ _ _ _ r ba;rw [bP] at aT aU bh aK;have a2:=Yz a3 c n ap I aq l ak t al b (h.later H) r (zH.later ae H);have cM:=zh aT;have cO:=zh aU;have cP:=zh bh;have ce:=zh H;have cz:=zh ba;have aN:=zh bP;have cx:=zh aK;obtain ⟨av,c1,c2,c3⟩:=aT.cells;obtain ⟨aw,ax,ay,az,aA⟩:=aU.cells;obtain ⟨a6,cU,hn,D⟩:=Ha bM;obtain ⟨b3,aj,c4⟩:=L5 a6;have a8:=yZ b3;have b1:=XT h a8.clean;have b4:r.pn<=1000:=by have:=RunsIn.len ae;have:=V7 aj;omega
 have c0:=h.2.len;have dg:(t:Int)<12:=by omega
 have cZ:t<=12:=by omega
 have dl:0<=n:=a8.n0;have bz:=zh fun X (aB:zL w X)=>XN X c n ap I aq l ak t al b (h.later aB) r (zH.later ae aB);have cJ:=zh fun X (aB:zL w X)=>Vw X c n ap I aq l ak t al b (h.later aB) b1;have cK:=zh fun X (aB:zL w X)=>TA X r (zH.later ae aB) b4;clear ba aT aU bh H h ae aK a8 b1 b4 c0 b3 aj c4 cU;rw [a6] at a2;have co:=zh a2;obtain ⟨aW,a5⟩:=qA (yU l b r);rw [a5] at bz D;rw [a5];obtain ⟨bs,c8⟩:=aW;simp only at D;subst D;clear a2 bM a6 a5;go_enter Tryz.func52,Tryz.ntmps52;go_wp2_with fail
 rw [<-cz.o];refine co.o.mono ?_;rintro e aS ⟨rfl,a⟩;have bn:=zh (za ce.o a);have bu:=zh (cM.o.later a);have bv:=zh (cO.o.later a);have cC:=zh (cP.o.later a);have bq:Zh (S+3<=aS.heap.size):=by have:=a.size;have:=cx.o;show S+3<=aS.heap.size;omega
 clear a av c1 c2 c3 aw ax ay az aA;obtain ⟨av,c1,c2,c3⟩:=bu.o.cells;obtain ⟨aw,ax,ay,az,aA⟩:=bv.o.cells;go_wp2_with fail
 refine (bz.o aS bn.o).mono ?_;rintro e bg ⟨W,aa,af,rfl,bO,a⟩;have bo:=zh (za bn.o a);have a1:=zh (bu.o.later a);have cE:=zh (bv.o.later a);have cF:=zh (cC.o.later a);have aZ:=zh bO;have cp:Zh (aS.heap.size<=bg.heap.size):=zh a.size;clear a bO av c1 c2 c3 aw ax ay az aA;obtain ⟨av,c1,c2,c3⟩:=a1.o.cells;go_wp2_with fail
 refine (cJ.o bg bo.o).mono ?_;rintro e aE ⟨g,V,aR,Y,Z,ag,rfl,ad,bZ,bS,bU,aP,a⟩;obtain ⟨G,aG⟩:=qB (aE.alloc (.cells (zS c n (some ⟨g,0,none⟩) I V Y t Z) 40));have an:zL aE G:=by rw [aG];exact zr _ _
 have be:G.heap.size=aE.heap.size+1:=by rw [aG];simp
 have aQ:zj G aE.heap.size (zI c) (zI n) (.slice (zO g 0) I V) (.slice Y t Z):=by rw [aG];exact zj.new aE _ _ _ _
 obtain ⟨M,ar⟩:=qA (bg.heap.size);obtain ⟨B,bL⟩:=qA (aE.heap.size);obtain ⟨L,bN⟩:=qA (S+3);have a7:M<=B:=by have:=a.size;omega
 rw [ar] at ad;rw [bL] at aQ be;have cY:L<=M:=by have:=bq.o;have:=cp.o;omega
 have bR:M<=G.heap.size:=by omega
 have cr:=zh a7;have aX:=zh bN;have cv:=zh (show B<G.heap.size by omega);have cs:=zh (ad.bks.later an);have ct:=zh (ad.qs.later an);have bm:=zh ad.apart;have cg:=zh bS;have cq:=zh bZ;have ch:=zh bU;have cf:=zh aP;have aI:∀ x,(Value.slice Y t Z).ownBlock=some x->M<=x/\x<B:=fun x e=>by have:=ad.bks.row.lt x e;omega
 have db:=zh aI;have br:Zh (∀ i,i<aR.length->0<(qu aR i).cn->∀ x j,(qu aR i).ca=zO x j->M<=x/\x<B):=zh fun i O D x j e=>by have s:=ad.newC i O D x j e;have F:=(ad.qs.caps i O).lt D e;omega
 have aY:Zh (M<=g/\g<B):=zh (by have:=ad.qs.row.lt g rfl;omega);have cm:Zh (∀ i,i<ag.length->(0<(bk ag i).rq.pn->∀ g j,(bk ag i).rq.pa=zO g j->L<=g/\g≠B)/\(0<(bk ag i).bn->∀ g j,(bk ag i).ba=zO g j->L<=g/\g≠B)):=zh fun i O=>⟨fun D g j e=>by have s:=ad.newP i O D g j e;have F:=RunsIn.lt (ad.bks.rqs i O) D e;omega,fun D g j e=>by have s:=ad.newB i O D g j e;have F:=(ad.bks.bites i O).lt D e;omega⟩;have cl:Zh (∀ g,(Value.slice Y t Z).ownBlock=some g->g≠B/\g<G.heap.size):=zh fun g e=>by have:=aI g e;omega
 have cy:Zh (0<aa->∀ b j,W=zO b j->(L<=b/\b≠B)/\b<G.heap.size/\(Value.slice Y t Z).ownBlock≠some b):=zh fun D b j e=>by
  have s:=aZ.o.2 b j e;have F:=aZ.o.1.lt D e;have N:=bq.o;refine ⟨by omega,by omega,fun aF=>?_⟩;have:=aI b aF;omega
 have cj:=zh ((aZ.o.1.later a).later an);have cD:Zh (zj G B (zI c) (zI n) (.slice (zO g 0) I V) (.slice Y t Z)/\some B≠(Value.slice Y t Z).ownBlock):=zh ⟨aQ,fun e=>by have:=aI B e.symm;omega⟩;have ci:Zh (M<=B/\B<G.heap.size):=zh ⟨a7,by omega⟩;have bp:=zh (za (za bo.o a) an);have bx:=zh ((a1.o.later a).later an);have cG:=zh ((cE.o.later a).later an);have cH:=zh ((cF.o.later a).later an);have bj:=zh aQ.cells.2.2.2;have bl:=zh bx.o.cells.2.1;obtain ⟨aw,ax,ay,az,aA⟩:=cG.o.cells;have bB:=zh aw;have bC:=zh ax;have bD:=zh ay;have bE:=zh az;have bF:=zh aA;have bA:=zh fun w' (a:zL G w')=>cK.o w' (za bp.o a);have cA:=zh aG;have cu:=zh be;have da:=zh ar;have c9:=zh bL;clear a an be aQ ad bZ bS bU aP aI aG aw ax ay az aA ar a7 bN av c1 c2 c3;obtain ⟨av,c1,c2,c3⟩:=a1.o.cells;go_wp2_with fail
 rw [<-cA.o];go_cut [48] (fun _ P=>∃ cL,cL=P/\∃ f q z E,Made2 P G L M B Y t Z ag ⟨n,⟨r.queue,r.fr,r.un,r.kind,f,r.pn,q,r.ps⟩,W,aa,af,bs⟩ z E c n (.slice (zO g 0) I V)/\Below M G P)
 case first =>
  refine Zl ((Tryz.f52.body.bind fun c=>yi c 10).getD #[]) (by kernel_rfl) [zl (.pointer (zO B 3)),zl (.slice Y t Z),zl (.pointer (zO S 1)),zl (zI n),zl (.agg (zR r)),⟨fun v U=>∃ f q,v=.agg #[zI r.queue,zI r.fr,zI r.un,zI r.kind,.slice f r.pn q]/\RunsIn U f r.pn q r.ps/\(∀ b j,f=zO b j->G.heap.size<=b),fun _ _ _ ⟨f,q,s,F,N⟩ a=>⟨f,q,s,F.later a,N⟩⟩,zl (.slice W aa af),⟨fun v U=>∃ f q,v=.agg #[zI n,zI r.queue,zI r.fr,zI r.un,zI r.kind,.slice f r.pn q,.slice W aa af]/\RunsIn U f r.pn q r.ps/\(∀ b j,f=zO b j->G.heap.size<=b),fun _ _ _ ⟨f,q,s,F,N⟩ a=>⟨f,q,s,F.later a,N⟩⟩,⟨fun v U=>∃ f q am,v=.slice (zO am 0) 1 1/\U.heap[am]?=some (.cells #[zI n,zI r.queue,zI r.fr,zI r.un,zI r.kind,.slice f r.pn q,.slice W aa af] 60 (0,0))/\G.heap.size<=am/\RunsIn U f r.pn q r.ps/\(∀ b j,f=zO b j->G.heap.size<=b),fun _ _ _ ⟨f,q,am,s,F,N,aO,cW⟩ a=>⟨f,q,am,s,(a.block _ (Array.getElem?_eq_some_iff.1 F).1).trans F,N,aO.later a,cW⟩⟩,⟨fun u U=>∃ f q z E,u=.slice (zO z 0) (t+1) E/\Made U G L M B Y t Z ag ⟨n,⟨r.queue,r.fr,r.un,r.kind,f,r.pn,q,r.ps⟩,W,aa,af,bs⟩ z E/\(∀ b j,f=zO b j->G.heap.size<=b),fun _ _ _ ⟨f,q,z,E,s,F,N⟩ a=>⟨f,q,z,E,s,F.later a,N⟩⟩,zl (.pointer (zO B 3)),⟨fun u U=>u=undef/\∃ f q z E,Made2 U G L M B Y t Z ag ⟨n,⟨r.queue,r.fr,r.un,r.kind,f,r.pn,q,r.ps⟩,W,aa,af,bs⟩ z E c n (.slice (zO g 0) I V)/\(∀ b j,f=zO b j->G.heap.size<=b),fun _ _ _ ⟨e,f,q,z,E,F,N⟩ a=>⟨e,f,q,z,E,F.later a,N⟩⟩] [] [(9,[5,7,8]),(11,[5,7,8,9])] M (bR) (by kernel_rfl) (by kernel_rfl) (by kernel_rfl) (by kernel_rfl) ?hg ?hstep ?hfin
  case hg =>
   intro g hg v w h;cases hg
  case hstep =>
   refine zc.cons 1 rfl ?_ ?_
   ·intro T w' C H A y;show zu Tryz.prog _ _ _ _;have a:=C (by kernel_rfl);have Q:T.getD 10 undef=.pointer (zO B 0):=A 10;exact zs (by go_simp) rfl
   refine zc.cons 2 rfl ?_ ?_
   ·intro T w' C H A y;show zu Tryz.prog _ _ _ _;have a:=C (by kernel_rfl);have Q:T.getD 39 undef=_:=y 0 39;have bG:=cell_later a bj.o;exact zs (by go_simp) rfl
   refine zc.cons 3 rfl ?_ ?_
   ·intro T w' C H A y;show zu Tryz.prog _ _ _ _;have a:=C (by kernel_rfl);have Q:T.getD 2 undef=.pointer (zO S 0):=A 2;exact zs (by go_simp) rfl
   refine zc.cons 4 rfl ?_ ?_
   ·intro T w' C H A y;show zu Tryz.prog _ _ _ _;have a:=C (by kernel_rfl);have Q:T.getD 41 undef=_:=y 2 41;have bG:=cell_later a bl.o;exact zs (by go_simp) rfl
   refine zc.cons 5 rfl ?_ ?_
   ·intro T w' C H A y;show zu Tryz.prog _ _ _ _;have a:=C (by kernel_rfl);have Q:T.getD 3 undef=.pointer (zO (S+1) 0):=A 3;have du:=cell_later a bB.o;have dv:=cell_later a bC.o;have dw:=cell_later a bD.o;have dx:=cell_later a bE.o;have dy:=cell_later a bF.o;exact zs (by go_simp) rfl
   refine zc.cons 6 rfl ?_ ?_
   ·intro T w' C H A y;show zu Tryz.prog _ _ _ _;have a:=C (by kernel_rfl);have Q:T.getD 43 undef=_:=y 4 43;refine Or.inr ⟨89,#[.agg (zR r)],by go_simp,?_⟩;refine (bA.o w' a).mono ?_;rintro e cc ⟨f,q,rfl,ae,aP,ai⟩;exact ⟨_,rfl,⟨f,q,rfl,ae,fun b j e=>by have:=ai b j e;have:=a.size;omega⟩,aP⟩
   refine zc.cons 7 rfl ?_ ?_
   ·intro T w' C H A y;show zu Tryz.prog _ _ _ _;have a:=C (by kernel_rfl);have Q:T.getD 8 undef=.slice W aa af:=A 8;exact zs (by go_simp) rfl
   refine zc.cons 8 rfl ?_ ?_
   ·intro T w' C H A y;show zu Tryz.prog _ _ _ _;have a:=C (by kernel_rfl);have Q:T.getD 42 undef=_:=y 3 42;obtain ⟨f,q,s,ae,ai⟩:=y 5 44;have F:T.getD 45 undef=_:=y 6 45;have df:T[42]?.getD undef=zI n:=(by rw [<-Q];simp);have cV:T[44]?.getD undef=.agg #[zI r.queue,zI r.fr,zI r.un,zI r.kind,.slice f r.pn q]:=(by rw [<-s];simp);have dh:T[45]?.getD undef=.slice W aa af:=(by rw [<-F];simp);exact Or.inl ⟨.agg #[zI n,zI r.queue,zI r.fr,zI r.un,zI r.kind,.slice f r.pn q,.slice W aa af],w',by go_simp,⟨f,q,rfl,ae,ai⟩,Below.refl _ _⟩
   refine zc.cons 9 rfl ?_ ?_
   ·intro T w' C H A y;show zu Tryz.prog _ _ _ _;have a:=C (by kernel_rfl);obtain ⟨f,q,s,ae,ai⟩:=y 7 46;have cV:T[46]?.getD undef=.agg #[zI n,zI r.queue,zI r.fr,zI r.un,zI r.kind,.slice f r.pn q,.slice W aa af]:=(by rw [<-s];simp);exact Or.inl ⟨.slice (zO w'.heap.size 0) 1 1,w'.alloc (.cells #[zI n,zI r.queue,zI r.fr,zI r.un,zI r.kind,.slice f r.pn q,.slice W aa af] 60),by go_simp,⟨f,q,w'.heap.size,rfl,heap_alloc_new w' _,a.size,ae.later (zr _ _),ai⟩,zr _ _⟩
   refine zc.cons 10 rfl ?_ ?_
   ·intro T w' C H A y;show Xd Tryz.prog _ _ _ _ _ _ _ _ _;have a:=C (by kernel_rfl);have Q:T.getD 40 undef=_:=y 1 40;obtain ⟨f,q,am,s,c5,dk,ae,ai⟩:=y 8 47;obtain ⟨z,E,cc,c6,ar,bb⟩:=Gn w' G L M B Y t Z ag ⟨n,⟨r.queue,r.fr,r.un,r.kind,f,r.pn,q,r.ps⟩,W,aa,af,bs⟩ am 23 cs.o a c5 cg.o cZ bR cv.o ae cm.o cY (fun _ b j e=>ai b j e) cl.o cy.o (cj.o.later a);refine ⟨.slice (zO z 0) (t+1) E,cc,Or.inl (Ze (.tmp 40) (.tmp 47) 38 rfl (.slice Y t Z) (.slice (zO am 0) 1 1) Q s c6),(fun h=>by cases h),⟨f,q,z,E,rfl,ar,ai⟩,bb,?_⟩;intro i s F N u J
    match i with
    | 0=>exact J
    | 1=>exact J
    | 2=>exact J
    | 3=>exact J
    | 4=>exact J
    | 5=>exact absurd F (by decide)
    | 6=>exact J
    | 7=>exact absurd F (by decide)
    | 8=>exact absurd F (by decide)
    | 9=>exact absurd rfl s
    | 10=>exact J
    | 11=>exact absurd (N.symm.trans (by kernel_rfl:_=true)) (by decide)
    | n+12=>exact J
   refine zc.cons 11 rfl ?_ ?_
   ·intro T w' C H A y;show zu Tryz.prog _ _ _ _;have Q:T.getD 10 undef=.pointer (zO B 0):=A 10;exact zs (by go_simp) rfl
   refine zc.cons 12 rfl ?_ ?_
   ·intro T w' C H A y;show Xd Tryz.prog _ _ _ _ _ _ _ _ _;obtain ⟨f,q,z,E,Q,ar,ai⟩:=y 9 48;have s:T.getD 49 undef=_:=y 10 49;obtain ⟨ah,di,dj,bb⟩:=ar.store H cD.o ci.o;refine ⟨undef,w'.setCell (zA B 3) (.slice (zO z 0) (t+1) E),Or.inr ⟨by go_simp,rfl⟩,fun _=>rfl,⟨rfl,f,q,z,E,ah,ai⟩,bb,?_⟩;intro i s F N u J
    match i with
    | 0=>exact J
    | 1=>exact J
    | 2=>exact J
    | 3=>exact J
    | 4=>exact J
    | 5=>exact absurd F (by decide)
    | 6=>exact J
    | 7=>exact absurd F (by decide)
    | 8=>exact absurd F (by decide)
    | 9=>exact absurd F (by decide)
    | 10=>exact J
    | 11=>exact absurd rfl s
    | n+12=>exact J
   exact trivial
  case hfin =>
   intro T w' a aJ A y hn;obtain ⟨_,f,q,z,E,ah,_⟩:=hn 11 (by kernel_rfl) (by kernel_rfl) (by kernel_rfl);rw [yb (tt 39 [false,false,false,false,false,false,false,false,false,false,false] 7) (by kernel_rfl) aJ @A];obtain ⟨us,aD⟩:∃ us:Nat->Value,(fun d=>T.getD d undef)=us:=⟨_,rfl⟩;rw [aD];apply_assumption;simp only [xj,tt,List.replicate,List.cons_append,List.nil_append];go_meet;exact ⟨w',rfl,f,q,z,E,ah,a⟩
 case rest =>
  obtain ⟨P,rfl,f,q,z,E,ah,bc⟩:=hcut;have bd:∀ k,k<M->P.heap[k]?=G.heap[k]?:=fun k au=>bc.block k au;have bQ:S+3<=M:=by have:=aX.o;omega
  have aV:zj P S (zI c) (zI n) (.slice ap I aq) (.slice ak t al):=(bd S (by omega)).trans bx.o;have bi:zj P (S+2) (zI 0) (zI 0) zN zN:=(bd (S+2) (by omega)).trans cH.o;obtain ⟨R,ao⟩:=qB (P.setCell ⟨B,1,none⟩ (zI (n+1)));have cX:=cr.o;have b9:zj R S (zI c) (zI n) (.slice ap I aq) (.slice ak t al):=by rw [ao];exact (heap_setCell_other P (zA B 1) S _ (by simp only;omega)).trans aV
  have cb:zj R (S+2) (zI 0) (zI 0) zN zN:=by rw [ao];exact (heap_setCell_other P (zA B 1) (S+2) _ (by simp only;omega)).trans bi
  have aL:zj R B (zI c) (zI (n+1)) (.slice (zO g 0) I V) (.slice (zO z 0) (t+1) E):=by
   rw [ao];unfold zj;rw [heap_setCell_same P B 1 _ _ _ ah.box];rfl
  have b7:R.heap.size=P.heap.size:=by rw [ao];simp [World.setCell]
  have b6:G.heap.size<=P.heap.size:=ah.size;have a9:S+2<=R.heap.size:=by omega
  have bV:zL w R:=by rw [ao];exact (bp.o.trans (bc.mono (by have:=aN.o;omega))).setCell (p:=(zA B 1)) (by have:=aN.o;simp only;omega) _
  have b8:∀ k,k≠B->R.heap[k]?=P.heap[k]?:=fun k au=>by rw [ao];exact heap_setCell_other P (zA B 1) k _ au
  have bw:=zh b8;have ck:=zh bV;have bt:=zh b7;have cw:=zh b6;have ab:=zh ah;have cI:=zh cb;have cd:=zh b9.cells.2.1;have cQ:=zh aL.cells.1;have cR:=zh aL.cells.2.1;have cS:=zh aL.cells.2.2.1;have cT:=zh aL.cells.2.2.2;have cB:=zh ao;have a0:=zh bQ;have de:=aV.cells.2.1;obtain ⟨dp,dq,dr,ds⟩:=ah.box.cells;have dt:∀ k,P.frozen? (zA B k)=false:=fun k=>frozen_of_row P B k _ _ ah.box;clear bd bQ aV bi ao cX b9 cb aL b7 b6 bV b8 ah bc bB bC bD bE bF bj bl bA;go_wp2_with fail
  rw [<-cB.o];refine Zl ((Tryz.f52.body.bind fun c=>yi c 12).getD #[]) (by kernel_rfl) [zl (.agg (zS c (n+1) (zO g 0) I V (zO z 0) (t+1) E)),zl (.pointer (zO S 1)),zl (zI n),⟨fun u U=>u=undef/\zj U (S+2) (zI c) (zI (n+1)) (.slice (zO g 0) I V) (.slice (zO z 0) (t+1) E)/\(∀ k,k≠S+2->k<R.heap.size->U.heap[k]?=R.heap[k]?)/\R.heap.size<=U.heap.size/\Below (S+2) R U,fun _ U dc ⟨e,s,F,N,aO⟩ a=>⟨e,s.later a,fun k au aH=>(a.block k (by omega)).trans (F k au aH),Nat.le_trans N a.size,aO.trans (a.mono (Nat.le_trans a9 N))⟩⟩,zl (zI n),zl (zI 0)] [] [(3,[])] (S+2) (a9) (by kernel_rfl) (by kernel_rfl) (by kernel_rfl) (by kernel_rfl) ?hg ?hstep ?hfin
  case hg =>
   intro g hg v w h;cases hg
  case hstep =>
   refine zc.cons 1 rfl ?_ ?_
   ·intro T w' C H A y;show zu Tryz.prog _ _ _ _;have a:=C (by kernel_rfl);have Q:T.getD 10 undef=.pointer (zO B 0):=A 10;have dE:=cell_later a cQ.o;have aV:=cell_later a cR.o;have dF:=cell_later a cS.o;have bi:=cell_later a cT.o;exact zs (by go_simp) rfl
   refine zc.cons 2 rfl ?_ ?_
   ·intro T w' C H A y;show zu Tryz.prog _ _ _ _;have Q:T.getD 2 undef=.pointer (zO S 0):=A 2;exact zs (by go_simp) rfl
   refine zc.cons 3 rfl ?_ ?_
   ·intro T w' C H A y;show zu Tryz.prog _ _ _ _;have Q:T.getD 55 undef=_:=y 1 55;have bG:=(World.cell?_of_block (w:=R) (H.block S (by omega))).trans cd.o;exact zs (by go_simp) rfl
   refine zc.cons 4 rfl ?_ ?_
   ·intro T w' C H A y;show Xd Tryz.prog _ _ _ _ _ _ _ _ _;have a:=C (by kernel_rfl);have aO:T.getD 4 undef=.pointer (zO (S+2) 0):=A 4;have Q:T.getD 54 undef=_:=y 0 54;have bf:zj w' (S+2) (zI 0) (zI 0) zN zN:=cI.o.later a;obtain ⟨dz,dA,dB,dC⟩:=bf.cells;have dD:∀ m,w'.frozen? (zA (S+2) m)=false:=fun m=>frozen_of_row w' (S+2) m _ _ bf;have b5:=zk w' (S+2) 40 _ _ _ _ (zI c) (zI (n+1)) (.slice (zO g 0) I V) (.slice (zO z 0) (t+1) E) bf;have aC:Below (S+2) R ((((w'.setCell (zA (S+2) 0) (zI c)).setCell (zA (S+2) 1) (zI (n+1))).setCell (zA (S+2) 2) (.slice (zO g 0) I V)).setCell (zA (S+2) 3) (.slice (zO z 0) (t+1) E)):=((((a.mono a9).setCell (p:=(zA (S+2) 0)) (by simp only;omega) _).setCell (p:=(zA (S+2) 1)) (by simp only;omega) _).setCell (p:=(zA (S+2) 2)) (by simp only;omega) _).setCell (p:=(zA (S+2) 3)) (by simp only;omega) _;refine ⟨undef,((((w'.setCell (zA (S+2) 0) (zI c)).setCell (zA (S+2) 1) (zI (n+1))).setCell (zA (S+2) 2) (.slice (zO g 0) I V)).setCell (zA (S+2) 3) (.slice (zO z 0) (t+1) E)),Or.inr ⟨by go_simp,rfl⟩,fun _=>rfl,⟨rfl,b5.1,fun k au aH=>?_,aC.size,aC⟩,aC,?_⟩
    ·rw [b5.2 k au];exact a.block k aH
    intro i s F N u J
    match i with
    | 0=>exact J
    | 1=>exact J
    | 2=>exact J
    | 3=>exact absurd rfl s
    | 4=>exact absurd (N.symm.trans (by kernel_rfl:_=true)) (by decide)
    | 5=>exact absurd (N.symm.trans (by kernel_rfl:_=true)) (by decide)
    | n+6=>exact J
   refine zc.cons 5 rfl ?_ ?_
   ·intro T w' C H A y;show zu Tryz.prog _ _ _ _;have Q:T.getD 56 undef=_:=y 2 56;exact zs (by go_simp) rfl
   refine zc.cons 6 rfl ?_ ?_
   ·intro T w' C H A y;show zu Tryz.prog _ _ _ _;exact zs (by go_simp) rfl
   exact trivial
  case hfin =>
   intro T w' a aJ A y b2;obtain ⟨_,bW,bT,aK,aC⟩:=b2 3 (by kernel_rfl) (by kernel_rfl) (by kernel_rfl);have bH:T.getD 5 undef=zI n:=y 4 5;have bI:T.getD 6 undef=zI 0:=y 5 6;rw [yb [true,true,true,true,true,false,false,true,true,true,true,true,true,true,true,true,true,true,true,true,true,true,true,true,true,true,true,true,true,true,true,true,true,true,true,true,true,true,true,true,true,true,true,true,true,true,true,true,true,true,true,true,true,true,false,false,false] (by kernel_rfl) aJ @A];obtain ⟨us,aD⟩:∃ us:Nat->Value,(fun d=>T.getD d undef)=us:=⟨_,rfl⟩;rw [aD];have bJ:us 5=zI n:=(by rw [<-aD];exact bH);have bK:us 6=zI 0:=(by rw [<-aD];exact bI);simp only [xj,bJ,bK];have aM:=zh (show zj w' (S+2) (zI c) (zI (n+1)) (.slice (zO g 0) I V) (.slice (zO z 0) (t+1) E)/\(∀ k,k≠S+2->k<R.heap.size->w'.heap[k]?=R.heap[k]?)/\zL w w' from ⟨bW,bT,ck.o.trans (by rw [aN.o];exact aC.mono (by omega))⟩);clear a aJ A y b2 bW bT aK aC bH bI bJ bK aD;go_wp2_with fail
   refine bodyPost_ret (v:=.tuple #[.agg (zS c (n+1) (zO g 0) I V (zO z 0) (t+1) E),zI n,zI 0]) (zq Tryz.results52 _ _ (S+2) 40 (zS c (n+1) (zO g 0) I V (zO z 0) (t+1) E) (0,0) _ rfl aM.o.1 Tryz.underlying40 rfl (by kernel_rfl)) rfl ⟨g,V,aR,z,E,ag++[⟨n,⟨r.queue,r.fr,r.un,r.kind,f,r.pn,q,r.ps⟩,W,aa,af,bs⟩],rfl,⟨?_,?_⟩,ch.o,?_,aM.o.2.2,?_⟩
   ·have c7:=bt.o;have dm:=cw.o;have N:=cu.o;have b0:=a0.o;have aj:∀ k,M<=k->k<B->some k≠(Value.slice Y t Z).ownBlock->w'.heap[k]?=G.heap[k]?:=fun k bX aH bY=>by
     rw [aM.o.2.1 k (by omega) (by omega),bw.o k (by omega)];exact ab.o.blk k (by omega) (by omega) bY
    refine y6 (ct.o.blocks2 (fun x e=>?_) (fun i O D x j e=>?_))
    ·have e:g=x:=(by simpa [Value.ownBlock] using e);subst e;exact aj g aY.o.1 aY.o.2 (fun aF=>(bm.o g aF.symm).1 rfl)
    have s:=br.o i O D x j e;exact aj x s.1 s.2 (fun aF=>(bm.o x aF.symm).2 i O D x j e rfl)
   ·have c7:=bt.o;have b0:=a0.o;have A:=aX.o;have aj:∀ k,k≠B->L<=k->k<P.heap.size->w'.heap[k]?=P.heap[k]?:=fun k bX aH bY=>by
     rw [aM.o.2.1 k (by omega) (by omega),bw.o k bX]
    refine ym (ab.o.own.blocks (fun x e=>?_) (fun i O D x j e=>?_) (fun i O D x j e=>?_))
    ·have s:=ab.o.own.row.lt x e;have e:z=x:=(by simpa [Value.ownBlock] using e);subst e;exact aj z ab.o.ne (by omega) s.2
    ·have s:=ab.o.offP i O D x j e;exact aj x s.2 s.1 (RunsIn.lt (ab.o.own.rqs i O) D e)
    have s:=ab.o.offB i O D x j e;exact aj x s.2 s.1 ((ab.o.own.bites i O).lt D e)
   ·have:=cf.o;unfold zg at this ⊢;rw [List.map_append,List.map_append,this];rfl
   have b0:=a0.o;have A:=aX.o;have aJ:=aN.o;refine ⟨fun _ x j e=>?_,fun i O D x j e=>?_,fun _ x j e=>?_,fun i O D x j e=>?_,fun i O D x j e=>?_⟩
   ·have s:=aY.o.1;have a4:g=x:=(by injection e with e;injection e with a4);omega
   ·have s:=(br.o i (by have:=cq.o;omega) D x j e).1;omega
   ·have s:=ab.o.low;have a4:z=x:=(by injection e with e;injection e with a4);omega
   ·have s:=(ab.o.offP i (by have:=ab.o.len;simp;omega) D x j e).1;omega
   have s:=(ab.o.offB i (by have:=ab.o.len;simp;omega) D x j e).1;omega
end Go.Proofs.YtckpdfkobdgjeaaGreatDoor
