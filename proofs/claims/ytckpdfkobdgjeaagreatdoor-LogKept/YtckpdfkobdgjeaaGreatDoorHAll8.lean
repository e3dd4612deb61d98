/- Several texts in one: BookD, DelA. -/
import Derived.Deep.RegionLaw
import Derived.Lib.SliceRun
import Derived.Test.YtckpdfkobdgjeaaGreatDoorHAll7
namespace Go.Proofs.YtckpdfkobdgjeaaGreatDoor
set_option maxRecDepth 1000000
set_option maxHeartbeats 4000000
open Go.RowKit
theorem OwnQs.blocks2 {w w':World} {B:Nat} {v:Value} {l:QL} (h:OwnQs w B v l) (c:∀ g,v.ownBlock=some g->w'.heap[g]?=w.heap[g]?) (d:∀ i,i<l.length->0<(qu l i).cn->∀ g j,(qu l i).ca=zO g j->w'.heap[g]?=w.heap[g]?):OwnQs w' B v l:=by
 refine ⟨⟨h.row.1,?_⟩,fun i a=>(h.caps i a).of_away (d i a),h.far,h.names⟩;rcases h.row.2 with f | ⟨g,cap,b,rfl,e,hg,rest⟩
 ·exact .inl f
 exact .inr ⟨g,cap,b,rfl,e,(c g rfl).trans hg,rest⟩
theorem V7 {l:QL} {r:Rq} (h:yI l r=0):r.ps.length<=3:=by
 unfold yI at h
 split at h
 ·by_cases k:1<=r.kind/\r.kind<=4
  ·by_cases p:(1:Int)<=r.ps.length/\(r.ps.length:Int)<=3
   ·omega
   rw [MK k p] at h;cases h
  rw [ML k] at h;cases h
 contradiction
theorem XT {w:World} {k:Option Addr} {d m:Nat} {l:QL} {ba:Option Addr} {bn bc:Nat} {b:BL} (h:zY w k d m l ba bn bc b) (a:Clean l b):Modest d l bn b:=by
 obtain ⟨g,n,j⟩:=S5 h.1 a.tree;have o:=h.2.len;have p:=a.few;refine ⟨g,by omega,fun i c=>by have:=j i c;omega,by omega,fun i c=>?_,fun i c=>?_⟩
 ·have e:=RunsIn.len (h.2.rqs i c);have f:(bk b i).rq.ps.length<=3:=by
   have:=a.each i (by omega);unfold ZZ at this
   split at this
   ·rename_i h4;exact V7 h4
   contradiction
  omega
 have e:=(h.2.bites i c).len;have f:=Ym (y8 a.tree (a.each i (by omega))).1;omega
theorem ym {w:World} {B:Nat} {a:Option Addr} {m k:Nat} {b:BL} (h:OwnBks w B (.slice a m k) b):BksIn w a m k b:=by
 obtain ⟨d,k',e,c,_⟩:=h.bks;simp only [Value.slice.injEq] at e;obtain ⟨rfl,rfl,rfl⟩:=e;exact c
theorem y6 {w:World} {B:Nat} {a:Option Addr} {m k:Nat} {l:QL} (h:OwnQs w B (.slice a m k) l):QsIn w a m k l:=by
 obtain ⟨c,k',e,b,_⟩:=h.qs;simp only [Value.slice.injEq] at e;obtain ⟨rfl,rfl,rfl⟩:=e;exact b
structure NewSt (B:Nat) (ta:Option Addr) (tn:Nat) (l:QL) (ba:Option Addr) (bn:Nat) (b:BL):Prop where
 qs:0<tn->∀ g off,ta=zO g off->B<=g
 caps:∀ i,i<tn->0<(qu l i).cn->∀ g off,(qu l i).ca=zO g off->B<=g
 bks:0<bn->∀ g off,ba=zO g off->B<=g
 ps:∀ i,i<bn->0<(bk b i).rq.pn->∀ g off,(bk b i).rq.pa=zO g off->B<=g
 bs:∀ i,i<bn->0<(bk b i).bn->∀ g off,(bk b i).ba=zO g off->B<=g
theorem NewSt.mono {B f:Nat} {j:Option Addr} {k:Nat} {l:QL} {ba:Option Addr} {bn:Nat} {b:BL} (h:NewSt B j k l ba bn b) (d:f<=B):NewSt f j k l ba bn b :=
 ⟨fun a g o e=>Nat.le_trans d (h.qs a g o e),fun i a c g o e=>Nat.le_trans d (h.caps i a c g o e),fun a g o e=>Nat.le_trans d (h.bks a g o e),fun i a c g o e=>Nat.le_trans d (h.ps i a c g o e),fun i a c g o e=>Nat.le_trans d (h.bs i a c g o e)⟩
def G3 (w w':World) (e:Ending) (c n:Int) (tn bn:Nat) (l:QL) (bx:BL):Prop:=∃ g k1 l' g9 k9 b9,e=.returned (.tuple #[.agg (zS c (n+1) (zO g 0) tn k1 (zO g9 0) (bn+1) k9),zI n,zI 0])/\zY w' (zO g 0) tn k1 l' (zO g9 0) (bn+1) k9 b9/\zi l'=zi l/\zg b9=zg bx/\Below w.heap.size w w'/\NewSt w.heap.size (zO g 0) tn l' (zO g9 0) (bn+1) b9
theorem Mw (w:World) (c n:Int) (al:Option Addr) (G am:Nat) (l:QL) (ba:Option Addr) (bn bc:Nat) (b:BL) (h:zY w al G am l ba bn bc b) (r:Rq) (ab:zH w r) (bM:Zp c n l b r=0) :
 zC 52 #[.agg (zS c n al G am ba bn bc),.agg #[zI r.queue,zI r.fr,zI r.un,zI r.kind,.slice r.pa r.pn r.pc]] w fun e w'=>G3 w w' e c n G bn l (b++[⟨n,r,none,0,0,(yU l b r).1⟩]):=by
 obtain ⟨S,bP⟩:=qA (w.heap.size);obtain ⟨a0,a7⟩:=qB (((w.alloc (.cells (zS c n al G am ba bn bc) 40)).alloc (.cells (zR r) 24)).alloc (.cells zZ 40));obtain ⟨aQ,aR,bg,F,aH⟩:=YL w _ _ _ _ r a7;rw [bP] at aQ aR bg aH;have aZ:=Yz a0 c n al G am l ba bn bc b (h.later F) r (zH.later ab F);have cM:=zh aQ;have cO:=zh aR;have cP:=zh bg;have ce:=zh F;have cz:=zh a7;have aK:=zh bP;have cx:=zh aH;obtain ⟨aq,c1,c2,c3⟩:=aQ.cells;obtain ⟨ar,au,av,aw,ax⟩:=aR.cells;obtain ⟨a3,cU,hn,A⟩:=Ha bM;obtain ⟨b3,ah,c4⟩:=L5 a3;have a5:=yZ b3;have b1:=XT h a5.clean;have b4:r.pn<=1000:=by have:=RunsIn.len ab;have:=V7 ah;omega
 have c0:=h.2.len;have dg:(bn:Int)<12:=by omega
 have cZ:bn<=12:=by omega
 have dl:0<=n:=a5.n0;have bz:=zh fun X (ay:zL w X)=>XN X c n al G am l ba bn bc b (h.later ay) r (zH.later ab ay);have cJ:=zh fun X (ay:zL w X)=>Vw X c n al G am l ba bn bc b (h.later ay) b1;have cK:=zh fun X (ay:zL w X)=>TA X r (zH.later ab ay) b4;clear a7 aQ aR bg F h ab aH a5 b1 b4 c0 b3 ah c4 cU;rw [a3] at aZ;have co:=zh aZ;obtain ⟨aT,a2⟩:=qA (yU l b r);rw [a2] at bz A;rw [a2];obtain ⟨bs,c8⟩:=aT;simp only at A;subst A;clear aZ bM a3 a2;go_enter Tryz.func52,Tryz.ntmps52;go_wp2_with fail
 rw [<-cz.o];refine co.o.mono ?_;rintro e aP ⟨rfl,a⟩;have bm:=zh (za ce.o a);have bu:=zh (cM.o.later a);have bv:=zh (cO.o.later a);have cC:=zh (cP.o.later a);have bq:Zh (S+3<=aP.heap.size):=by have:=a.size;have:=cx.o;show S+3<=aP.heap.size;omega
 clear a aq c1 c2 c3 ar au av aw ax;obtain ⟨aq,c1,c2,c3⟩:=bu.o.cells;obtain ⟨ar,au,av,aw,ax⟩:=bv.o.cells;go_wp2_with fail
 refine (bz.o aP bm.o).mono ?_;rintro e bf ⟨U,Y,ad,rfl,bO,a⟩;have bo:=zh (za bm.o a);have aY:=zh (bu.o.later a);have cE:=zh (bv.o.later a);have cF:=zh (cC.o.later a);have aW:=zh bO;have cp:Zh (aP.heap.size<=bf.heap.size):=zh a.size;clear a bO aq c1 c2 c3 ar au av aw ax;obtain ⟨aq,c1,c2,c3⟩:=aY.o.cells;go_wp2_with fail
 refine (cJ.o bf bo.o).mono ?_;rintro e aB ⟨g,R,aO,V,W,ae,rfl,aa,bZ,bS,bU,aM,a⟩;obtain ⟨E,aD⟩:=qB (aB.alloc (.cells (zS c n (some ⟨g,0,none⟩) G R V bn W) 40));have aj:zL aB E:=by rw [aD];exact zr _ _
 have bd:E.heap.size=aB.heap.size+1:=by rw [aD];simp
 have aN:zj E aB.heap.size (zI c) (zI n) (.slice (zO g 0) G R) (.slice V bn W):=by rw [aD];exact zj.new aB _ _ _ _
 obtain ⟨M,ao⟩:=qA (bf.heap.size);obtain ⟨B,bL⟩:=qA (aB.heap.size);obtain ⟨L,bN⟩:=qA (S+3);have a4:M<=B:=by have:=a.size;omega
 rw [ao] at aa;rw [bL] at aN bd;have cY:L<=M:=by have:=bq.o;have:=cp.o;omega
 have bR:M<=E.heap.size:=by omega
 have cr:=zh a4;have aU:=zh bN;have cv:=zh (show B<E.heap.size by omega);have cs:=zh (aa.bks.later aj);have ct:=zh (aa.qs.later aj);have bl:=zh aa.apart;have cg:=zh bS;have cq:=zh bZ;have ch:=zh bU;have cf:=zh aM;have aF:∀ t,(Value.slice V bn W).ownBlock=some t->M<=t/\t<B:=fun t e=>by have:=aa.bks.row.lt t e;omega
 have db:=zh aF;have br:Zh (∀ i,i<aO.length->0<(qu aO i).cn->∀ t j,(qu aO i).ca=zO t j->M<=t/\t<B):=zh fun i J A t j e=>by have s:=aa.newC i J A t j e;have D:=(aa.qs.caps i J).lt A e;omega
 have aV:Zh (M<=g/\g<B):=zh (by have:=aa.qs.row.lt g rfl;omega);have cm:Zh (∀ i,i<ae.length->(0<(bk ae i).rq.pn->∀ g j,(bk ae i).rq.pa=zO g j->L<=g/\g≠B)/\(0<(bk ae i).bn->∀ g j,(bk ae i).ba=zO g j->L<=g/\g≠B)):=zh fun i J=>⟨fun A g j e=>by have s:=aa.newP i J A g j e;have D:=RunsIn.lt (aa.bks.rqs i J) A e;omega,fun A g j e=>by have s:=aa.newB i J A g j e;have D:=(aa.bks.bites i J).lt A e;omega⟩;have cl:Zh (∀ g,(Value.slice V bn W).ownBlock=some g->g≠B/\g<E.heap.size):=zh fun g e=>by have:=aF g e;omega
 have cy:Zh (0<Y->∀ b j,U=zO b j->(L<=b/\b≠B)/\b<E.heap.size/\(Value.slice V bn W).ownBlock≠some b):=zh fun A b j e=>by
  have s:=aW.o.2 b j e;have D:=aW.o.1.lt A e;have I:=bq.o;refine ⟨by omega,by omega,fun aC=>?_⟩;have:=aF b aC;omega
 have cj:=zh ((aW.o.1.later a).later aj);have cD:Zh (zj E B (zI c) (zI n) (.slice (zO g 0) G R) (.slice V bn W)/\some B≠(Value.slice V bn W).ownBlock):=zh ⟨aN,fun e=>by have:=aF B e.symm;omega⟩;have ci:Zh (M<=B/\B<E.heap.size):=zh ⟨a4,by omega⟩;have bp:=zh (za (za bo.o a) aj);have bx:=zh ((aY.o.later a).later aj);have cG:=zh ((cE.o.later a).later aj);have cH:=zh ((cF.o.later a).later aj);have bi:=zh aN.cells.2.2.2;have bj:=zh bx.o.cells.2.1;obtain ⟨ar,au,av,aw,ax⟩:=cG.o.cells;have bB:=zh ar;have bC:=zh au;have bD:=zh av;have bE:=zh aw;have bF:=zh ax;have bA:=zh fun w' (a:zL E w')=>cK.o w' (za bp.o a);have cA:=zh aD;have cu:=zh bd;have da:=zh ao;have c9:=zh bL;clear a aj bd aN aa bZ bS bU aM aF aD ar au av aw ax ao a4 bN aq c1 c2 c3;obtain ⟨aq,c1,c2,c3⟩:=aY.o.cells;go_wp2_with fail
 rw [<-cA.o];go_cut [48] (fun _ N=>∃ cL,cL=N/\∃ f q x C,Made2 N E L M B V bn W ae ⟨n,⟨r.queue,r.fr,r.un,r.kind,f,r.pn,q,r.ps⟩,U,Y,ad,bs⟩ x C c n (.slice (zO g 0) G R)/\Below M E N)
 case first =>
  refine Zl ((Tryz.f52.body.bind fun c=>yi c 10).getD #[]) (by kernel_rfl) [zl (.pointer (zO B 3)),zl (.slice V bn W),zl (.pointer (zO S 1)),zl (zI n),zl (.agg (zR r)),⟨fun v Q=>∃ f q,v=.agg #[zI r.queue,zI r.fr,zI r.un,zI r.kind,.slice f r.pn q]/\RunsIn Q f r.pn q r.ps/\(∀ b j,f=zO b j->E.heap.size<=b),fun _ _ _ ⟨f,q,s,D,I⟩ a=>⟨f,q,s,D.later a,I⟩⟩,zl (.slice U Y ad),⟨fun v Q=>∃ f q,v=.agg #[zI n,zI r.queue,zI r.fr,zI r.un,zI r.kind,.slice f r.pn q,.slice U Y ad]/\RunsIn Q f r.pn q r.ps/\(∀ b j,f=zO b j->E.heap.size<=b),fun _ _ _ ⟨f,q,s,D,I⟩ a=>⟨f,q,s,D.later a,I⟩⟩,⟨fun v Q=>∃ f q ai,v=.slice (zO ai 0) 1 1/\Q.heap[ai]?=some (.cells #[zI n,zI r.queue,zI r.fr,zI r.un,zI r.kind,.slice f r.pn q,.slice U Y ad] 60 (0,0))/\E.heap.size<=ai/\RunsIn Q f r.pn q r.ps/\(∀ b j,f=zO b j->E.heap.size<=b),fun _ _ _ ⟨f,q,ai,s,D,I,aL,cW⟩ a=>⟨f,q,ai,s,(a.block _ (Array.getElem?_eq_some_iff.1 D).1).trans D,I,aL.later a,cW⟩⟩,⟨fun an Q=>∃ f q x C,an=.slice (zO x 0) (bn+1) C/\Made Q E L M B V bn W ae ⟨n,⟨r.queue,r.fr,r.un,r.kind,f,r.pn,q,r.ps⟩,U,Y,ad,bs⟩ x C/\(∀ b j,f=zO b j->E.heap.size<=b),fun _ _ _ ⟨f,q,x,C,s,D,I⟩ a=>⟨f,q,x,C,s,D.later a,I⟩⟩,zl (.pointer (zO B 3)),⟨fun an Q=>an=undef/\∃ f q x C,Made2 Q E L M B V bn W ae ⟨n,⟨r.queue,r.fr,r.un,r.kind,f,r.pn,q,r.ps⟩,U,Y,ad,bs⟩ x C c n (.slice (zO g 0) G R)/\(∀ b j,f=zO b j->E.heap.size<=b),fun _ _ _ ⟨e,f,q,x,C,D,I⟩ a=>⟨e,f,q,x,C,D.later a,I⟩⟩] [] [(9,[5,7,8]),(11,[5,7,8,9])] M (bR) (by kernel_rfl) (by kernel_rfl) (by kernel_rfl) (by kernel_rfl) ?hg ?hstep ?hfin
  case hg =>
   intro g hg v w h;cases hg
  case hstep =>
   refine zc.cons 1 rfl ?_ ?_
   ·intro T w' z F y u;show zu Tryz.prog _ _ _ _;have a:=z (by kernel_rfl);have O:T.getD 10 undef=.pointer (zO B 0):=y 10;exact zs (by go_simp) rfl
   refine zc.cons 2 rfl ?_ ?_
   ·intro T w' z F y u;show zu Tryz.prog _ _ _ _;have a:=z (by kernel_rfl);have O:T.getD 39 undef=_:=u 0 39;have bG:=cell_later a bi.o;exact zs (by go_simp) rfl
   refine zc.cons 3 rfl ?_ ?_
   ·intro T w' z F y u;show zu Tryz.prog _ _ _ _;have a:=z (by kernel_rfl);have O:T.getD 2 undef=.pointer (zO S 0):=y 2;exact zs (by go_simp) rfl
   refine zc.cons 4 rfl ?_ ?_
   ·intro T w' z F y u;show zu Tryz.prog _ _ _ _;have a:=z (by kernel_rfl);have O:T.getD 41 undef=_:=u 2 41;have bG:=cell_later a bj.o;exact zs (by go_simp) rfl
   refine zc.cons 5 rfl ?_ ?_
   ·intro T w' z F y u;show zu Tryz.prog _ _ _ _;have a:=z (by kernel_rfl);have O:T.getD 3 undef=.pointer (zO (S+1) 0):=y 3;have du:=cell_later a bB.o;have dv:=cell_later a bC.o;have dw:=cell_later a bD.o;have dx:=cell_later a bE.o;have dy:=cell_later a bF.o;exact zs (by go_simp) rfl
   refine zc.cons 6 rfl ?_ ?_
   ·intro T w' z F y u;show zu Tryz.prog _ _ _ _;have a:=z (by kernel_rfl);have O:T.getD 43 undef=_:=u 4 43;refine Or.inr ⟨89,#[.agg (zR r)],by go_simp,?_⟩;refine (bA.o w' a).mono ?_;rintro e cc ⟨f,q,rfl,ab,aM,ag⟩;exact ⟨_,rfl,⟨f,q,rfl,ab,fun b j e=>by have:=ag b j e;have:=a.size;omega⟩,aM⟩
   refine zc.cons 7 rfl ?_ ?_
   ·intro T w' z F y u;show zu Tryz.prog _ _ _ _;have a:=z (by kernel_rfl);have O:T.getD 8 undef=.slice U Y ad:=y 8;exact zs (by go_simp) rfl
   refine zc.cons 8 rfl ?_ ?_
   ·intro T w' z F y u;show zu Tryz.prog _ _ _ _;have a:=z (by kernel_rfl);have O:T.getD 42 undef=_:=u 3 42;obtain ⟨f,q,s,ab,ag⟩:=u 5 44;have D:T.getD 45 undef=_:=u 6 45;have df:T[42]?.getD undef=zI n:=(by rw [<-O];simp);have cV:T[44]?.getD undef=.agg #[zI r.queue,zI r.fr,zI r.un,zI r.kind,.slice f r.pn q]:=(by rw [<-s];simp);have dh:T[45]?.getD undef=.slice U Y ad:=(by rw [<-D];simp);exact Or.inl ⟨.agg #[zI n,zI r.queue,zI r.fr,zI r.un,zI r.kind,.slice f r.pn q,.slice U Y ad],w',by go_simp,⟨f,q,rfl,ab,ag⟩,Below.refl _ _⟩
   refine zc.cons 9 rfl ?_ ?_
   ·intro T w' z F y u;show zu Tryz.prog _ _ _ _;have a:=z (by kernel_rfl);obtain ⟨f,q,s,ab,ag⟩:=u 7 46;have cV:T[46]?.getD undef=.agg #[zI n,zI r.queue,zI r.fr,zI r.un,zI r.kind,.slice f r.pn q,.slice U Y ad]:=(by rw [<-s];simp);exact Or.inl ⟨.slice (zO w'.heap.size 0) 1 1,w'.alloc (.cells #[zI n,zI r.queue,zI r.fr,zI r.un,zI r.kind,.slice f r.pn q,.slice U Y ad] 60),by go_simp,⟨f,q,w'.heap.size,rfl,heap_alloc_new w' _,a.size,ab.later (zr _ _),ag⟩,zr _ _⟩
   refine zc.cons 10 rfl ?_ ?_
   ·intro T w' z F y u;show Xd Tryz.prog _ _ _ _ _ _ _ _ _;have a:=z (by kernel_rfl);have O:T.getD 40 undef=_:=u 1 40;obtain ⟨f,q,ai,s,c5,dk,ab,ag⟩:=u 8 47;obtain ⟨x,C,cc,c6,ao,a8⟩:=Gn w' E L M B V bn W ae ⟨n,⟨r.queue,r.fr,r.un,r.kind,f,r.pn,q,r.ps⟩,U,Y,ad,bs⟩ ai 23 cs.o a c5 cg.o cZ bR cv.o ab cm.o cY (fun _ b j e=>ag b j e) cl.o cy.o (cj.o.later a);refine ⟨.slice (zO x 0) (bn+1) C,cc,Or.inl (Ze (.tmp 40) (.tmp 47) 38 rfl (.slice V bn W) (.slice (zO ai 0) 1 1) O s c6),(fun h=>by cases h),⟨f,q,x,C,rfl,ao,ag⟩,a8,?_⟩;intro i s D I an H
    match i with
    | 0=>exact H
    | 1=>exact H
    | 2=>exact H
    | 3=>exact H
    | 4=>exact H
    | 5=>exact absurd D (by decide)
    | 6=>exact H
    | 7=>exact absurd D (by decide)
    | 8=>exact absurd D (by decide)
    | 9=>exact absurd rfl s
    | 10=>exact H
    | 11=>exact absurd (I.symm.trans (by kernel_rfl:_=true)) (by decide)
    | n+12=>exact H
   refine zc.cons 11 rfl ?_ ?_
   ·intro T w' z F y u;show zu Tryz.prog _ _ _ _;have O:T.getD 10 undef=.pointer (zO B 0):=y 10;exact zs (by go_simp) rfl
   refine zc.cons 12 rfl ?_ ?_
   ·intro T w' z F y u;show Xd Tryz.prog _ _ _ _ _ _ _ _ _;obtain ⟨f,q,x,C,O,ao,ag⟩:=u 9 48;have s:T.getD 49 undef=_:=u 10 49;obtain ⟨af,di,dj,a8⟩:=ao.store F cD.o ci.o;refine ⟨undef,w'.setCell (zA B 3) (.slice (zO x 0) (bn+1) C),Or.inr ⟨by go_simp,rfl⟩,fun _=>rfl,⟨rfl,f,q,x,C,af,ag⟩,a8,?_⟩;intro i s D I an H
    match i with
    | 0=>exact H
    | 1=>exact H
    | 2=>exact H
    | 3=>exact H
    | 4=>exact H
    | 5=>exact absurd D (by decide)
    | 6=>exact H
    | 7=>exact absurd D (by decide)
    | 8=>exact absurd D (by decide)
    | 9=>exact absurd D (by decide)
    | 10=>exact H
    | 11=>exact absurd rfl s
    | n+12=>exact H
   exact trivial
  case hfin =>
   intro T w' a aG y u hn;obtain ⟨_,f,q,x,C,af,_⟩:=hn 11 (by kernel_rfl) (by kernel_rfl) (by kernel_rfl);rw [yb (tt 39 [false,false,false,false,false,false,false,false,false,false,false] 7) (by kernel_rfl) aG @y];obtain ⟨us,aA⟩:∃ us:Nat->Value,(fun d=>T.getD d undef)=us:=⟨_,rfl⟩;rw [aA];apply_assumption;simp only [xj,tt,List.replicate,List.cons_append,List.nil_append];go_meet;exact ⟨w',rfl,f,q,x,C,af,a⟩
 case rest =>
  obtain ⟨N,rfl,f,q,x,C,af,a9⟩:=hcut;have bb:∀ k,k<M->N.heap[k]?=E.heap[k]?:=fun k ap=>a9.block k ap;have bQ:S+3<=M:=by have:=aU.o;omega
  have aS:zj N S (zI c) (zI n) (.slice al G am) (.slice ba bn bc):=(bb S (by omega)).trans bx.o;have bh:zj N (S+2) (zI 0) (zI 0) zN zN:=(bb (S+2) (by omega)).trans cH.o;obtain ⟨P,ak⟩:=qB (N.setCell ⟨B,1,none⟩ (zI (n+1)));have cX:=cr.o;have b9:zj P S (zI c) (zI n) (.slice al G am) (.slice ba bn bc):=by rw [ak];exact (heap_setCell_other N (zA B 1) S _ (by simp only;omega)).trans aS
  have cb:zj P (S+2) (zI 0) (zI 0) zN zN:=by rw [ak];exact (heap_setCell_other N (zA B 1) (S+2) _ (by simp only;omega)).trans bh
  have aI:zj P B (zI c) (zI (n+1)) (.slice (zO g 0) G R) (.slice (zO x 0) (bn+1) C):=by
   rw [ak];unfold zj;rw [heap_setCell_same N B 1 _ _ _ af.box];rfl
  have b7:P.heap.size=N.heap.size:=by rw [ak];simp [World.setCell]
  have b6:E.heap.size<=N.heap.size:=af.size;have a6:S+2<=P.heap.size:=by omega
  have bV:zL w P:=by rw [ak];exact (bp.o.trans (a9.mono (by have:=aK.o;omega))).setCell (p:=(zA B 1)) (by have:=aK.o;simp only;omega) _
  have b8:∀ k,k≠B->P.heap[k]?=N.heap[k]?:=fun k ap=>by rw [ak];exact heap_setCell_other N (zA B 1) k _ ap
  have bw:=zh b8;have ck:=zh bV;have bt:=zh b7;have cw:=zh b6;have Z:=zh af;have cI:=zh cb;have cd:=zh b9.cells.2.1;have cQ:=zh aI.cells.1;have cR:=zh aI.cells.2.1;have cS:=zh aI.cells.2.2.1;have cT:=zh aI.cells.2.2.2;have cB:=zh ak;have aX:=zh bQ;have de:=aS.cells.2.1;obtain ⟨dp,dq,dr,ds⟩:=af.box.cells;have dt:∀ k,N.frozen? (zA B k)=false:=fun k=>frozen_of_row N B k _ _ af.box;clear bb bQ aS bh ak cX b9 cb aI b7 b6 bV b8 af a9 bB bC bD bE bF bi bj bA;go_wp2_with fail
  rw [<-cB.o];refine Zl ((Tryz.f52.body.bind fun c=>yi c 12).getD #[]) (by kernel_rfl) [zl (.agg (zS c (n+1) (zO g 0) G R (zO x 0) (bn+1) C)),zl (.pointer (zO S 1)),zl (zI n),⟨fun an Q=>an=undef/\zj Q (S+2) (zI c) (zI (n+1)) (.slice (zO g 0) G R) (.slice (zO x 0) (bn+1) C)/\(∀ k,k≠S+2->k<P.heap.size->Q.heap[k]?=P.heap[k]?)/\P.heap.size<=Q.heap.size/\Below (S+2) P Q,fun _ Q dc ⟨e,s,D,I,aL⟩ a=>⟨e,s.later a,fun k ap aE=>(a.block k (by omega)).trans (D k ap aE),Nat.le_trans I a.size,aL.trans (a.mono (Nat.le_trans a6 I))⟩⟩,zl (zI n),zl (zI 0)] [] [(3,[])] (S+2) (a6) (by kernel_rfl) (by kernel_rfl) (by kernel_rfl) (by kernel_rfl) ?hg ?hstep ?hfin
  case hg =>
   intro g hg v w h;cases hg
  case hstep =>
   refine zc.cons 1 rfl ?_ ?_
   ·intro T w' z F y u;show zu Tryz.prog _ _ _ _;have a:=z (by kernel_rfl);have O:T.getD 10 undef=.pointer (zO B 0):=y 10;have dE:=cell_later a cQ.o;have aS:=cell_later a cR.o;have dF:=cell_later a cS.o;have bh:=cell_later a cT.o;exact zs (by go_simp) rfl
   refine zc.cons 2 rfl ?_ ?_
   ·intro T w' z F y u;show zu Tryz.prog _ _ _ _;have O:T.getD 2 undef=.pointer (zO S 0):=y 2;exact zs (by go_simp) rfl
   refine zc.cons 3 rfl ?_ ?_
   ·intro T w' z F y u;show zu Tryz.prog _ _ _ _;have O:T.getD 55 undef=_:=u 1 55;have bG:=(World.cell?_of_block (w:=P) (F.block S (by omega))).trans cd.o;exact zs (by go_simp) rfl
   refine zc.cons 4 rfl ?_ ?_
   ·intro T w' z F y u;show Xd Tryz.prog _ _ _ _ _ _ _ _ _;have a:=z (by kernel_rfl);have aL:T.getD 4 undef=.pointer (zO (S+2) 0):=y 4;have O:T.getD 54 undef=_:=u 0 54;have be:zj w' (S+2) (zI 0) (zI 0) zN zN:=cI.o.later a;obtain ⟨dz,dA,dB,dC⟩:=be.cells;have dD:∀ m,w'.frozen? (zA (S+2) m)=false:=fun m=>frozen_of_row w' (S+2) m _ _ be;have b5:=zk w' (S+2) 40 _ _ _ _ (zI c) (zI (n+1)) (.slice (zO g 0) G R) (.slice (zO x 0) (bn+1) C) be;have az:Below (S+2) P ((((w'.setCell (zA (S+2) 0) (zI c)).setCell (zA (S+2) 1) (zI (n+1))).setCell (zA (S+2) 2) (.slice (zO g 0) G R)).setCell (zA (S+2) 3) (.slice (zO x 0) (bn+1) C)):=((((a.mono a6).setCell (p:=(zA (S+2) 0)) (by simp only;omega) _).setCell (p:=(zA (S+2) 1)) (by simp only;omega) _).setCell (p:=(zA (S+2) 2)) (by simp only;omega) _).setCell (p:=(zA (S+2) 3)) (by simp only;omega) _;refine ⟨undef,((((w'.setCell (zA (S+2) 0) (zI c)).setCell (zA (S+2) 1) (zI (n+1))).setCell (zA (S+2) 2) (.slice (zO g 0) G R)).setCell (zA (S+2) 3) (.slice (zO x 0) (bn+1) C)),Or.inr ⟨by go_simp,rfl⟩,fun _=>rfl,⟨rfl,b5.1,fun k ap aE=>?_,az.size,az⟩,az,?_⟩
    ·rw [b5.2 k ap];exact a.block k aE
    intro i s D I an H
    match i with
    | 0=>exact H
    | 1=>exact H
    | 2=>exact H
    | 3=>exact absurd rfl s
    | 4=>exact absurd (I.symm.trans (by kernel_rfl:_=true)) (by decide)
    | 5=>exact absurd (I.symm.trans (by kernel_rfl:_=true)) (by decide)
    | n+6=>exact H
   refine zc.cons 5 rfl ?_ ?_
   ·intro T w' z F y u;show zu Tryz.prog _ _ _ _;have O:T.getD 56 undef=_:=u 2 56;exact zs (by go_simp) rfl
   refine zc.cons 6 rfl ?_ ?_
   ·intro T w' z F y u;show zu Tryz.prog _ _ _ _;exact zs (by go_simp) rfl
   exact trivial
  case hfin =>
   intro T w' a aG y u b2;obtain ⟨_,bW,bT,aH,az⟩:=b2 3 (by kernel_rfl) (by kernel_rfl) (by kernel_rfl);have bH:T.getD 5 undef=zI n:=u 4 5;have bI:T.getD 6 undef=zI 0:=u 5 6;rw [yb [true,true,true,true,true,false,false,true,true,true,true,true,true,true,true,true,true,true,true,true,true,true,true,true,true,true,true,true,true,true,true,true,true,true,true,true,true,true,true,true,true,true,true,true,true,true,true,true,true,true,true,true,true,true,false,false,false] (by kernel_rfl) aG @y];obtain ⟨us,aA⟩:∃ us:Nat->Value,(fun d=>T.getD d undef)=us:=⟨_,rfl⟩;rw [aA];have bJ:us 5=zI n:=(by rw [<-aA];exact bH);have bK:us 6=zI 0:=(by rw [<-aA];exact bI);simp only [xj,bJ,bK];have aJ:=zh (show zj w' (S+2) (zI c) (zI (n+1)) (.slice (zO g 0) G R) (.slice (zO x 0) (bn+1) C)/\(∀ k,k≠S+2->k<P.heap.size->w'.heap[k]?=P.heap[k]?)/\zL w w' from ⟨bW,bT,ck.o.trans (by rw [aK.o];exact az.mono (by omega))⟩);clear a aG y u b2 bW bT aH az bH bI bJ bK aA;go_wp2_with fail
   refine bodyPost_ret (v:=.tuple #[.agg (zS c (n+1) (zO g 0) G R (zO x 0) (bn+1) C),zI n,zI 0]) (zq Tryz.results52 _ _ (S+2) 40 (zS c (n+1) (zO g 0) G R (zO x 0) (bn+1) C) (0,0) _ rfl aJ.o.1 Tryz.underlying40 rfl (by kernel_rfl)) rfl ⟨g,R,aO,x,C,ae++[⟨n,⟨r.queue,r.fr,r.un,r.kind,f,r.pn,q,r.ps⟩,U,Y,ad,bs⟩],rfl,⟨?_,?_⟩,ch.o,?_,aJ.o.2.2,?_⟩
   ·have c7:=bt.o;have dm:=cw.o;have I:=cu.o;have b0:=aX.o;have ah:∀ k,M<=k->k<B->some k≠(Value.slice V bn W).ownBlock->w'.heap[k]?=E.heap[k]?:=fun k bX aE bY=>by
     rw [aJ.o.2.1 k (by omega) (by omega),bw.o k (by omega)];exact Z.o.blk k (by omega) (by omega) bY
    refine y6 (ct.o.blocks2 (fun t e=>?_) (fun i J A t j e=>?_))
    ·have e:g=t:=(by simpa [Value.ownBlock] using e);subst e;exact ah g aV.o.1 aV.o.2 (fun aC=>(bl.o g aC.symm).1 rfl)
    have s:=br.o i J A t j e;exact ah t s.1 s.2 (fun aC=>(bl.o t aC.symm).2 i J A t j e rfl)
   ·have c7:=bt.o;have b0:=aX.o;have y:=aU.o;have ah:∀ k,k≠B->L<=k->k<N.heap.size->w'.heap[k]?=N.heap[k]?:=fun k bX aE bY=>by
     rw [aJ.o.2.1 k (by omega) (by omega),bw.o k bX]
    refine ym (Z.o.own.blocks (fun t e=>?_) (fun i J A t j e=>?_) (fun i J A t j e=>?_))
    ·have s:=Z.o.own.row.lt t e;have e:x=t:=(by simpa [Value.ownBlock] using e);subst e;exact ah x Z.o.ne (by omega) s.2
    ·have s:=Z.o.offP i J A t j e;exact ah t s.2 s.1 (RunsIn.lt (Z.o.own.rqs i J) A e)
    have s:=Z.o.offB i J A t j e;exact ah t s.2 s.1 ((Z.o.own.bites i J).lt A e)
   ·have:=cf.o;unfold zg at this ⊢;rw [List.map_append,List.map_append,this];rfl
   have b0:=aX.o;have y:=aU.o;have aG:=aK.o;refine ⟨fun _ t j e=>?_,fun i J A t j e=>?_,fun _ t j e=>?_,fun i J A t j e=>?_,fun i J A t j e=>?_⟩
   ·have s:=aV.o.1;have a1:g=t:=(by injection e with e;injection e with a1);omega
   ·have s:=(br.o i (by have:=cq.o;omega) A t j e).1;omega
   ·have s:=Z.o.low;have a1:x=t:=(by injection e with e;injection e with a1);omega
   ·have s:=(Z.o.offP i (by have:=Z.o.len;simp;omega) A t j e).1;omega
   have s:=(Z.o.offB i (by have:=Z.o.len;simp;omega) A t j e).1;omega
def Vt:Value:=.agg #[zI 0,zI 0,zI 0,zI 0,zI 0,zN,zN]
theorem Xb (n:Nat):(Builtin.zeroCells Vt.cells n).toList.length=n*7:=by
 rw [Array.length_toList,size_zeroCells];rfl
theorem JN (n:Nat):∀ v∈(Builtin.zeroCells Vt.cells n).toList,v.oneCell'=true:=by
 intro v b;simp only [Builtin.zeroCells,Array.toList_map,List.mem_map] at b;obtain ⟨i,_,rfl⟩:=b;have c:Vt.cells.size=7:=rfl;rw [c];have a:i % 7<7:=Nat.mod_lt _ (by omega);generalize i % 7=j at a
 match j,a with
 | 0,_=>rfl
 | 1,_=>rfl
 | 2,_=>rfl
 | 3,_=>rfl
 | 4,_=>rfl
 | 5,_=>rfl
 | 6,_=>rfl
theorem Wt (w:World) (g o:Nat) (a:Array Value) (t:TypeId) (vs:List Value) (hg:w.heap[g]?=some (.cells a t (0,0))) (f:o+vs.length<=a.size) (d:∀ v∈vs,v.oneCell'=true) :
 w.setCells g o vs=w.setRow g (a.toList.take o++vs++a.toList.drop (o+vs.length)).toArray:=by
 have c:=run_storeCells_at Tryz.prog g o t vs 0 a w hg (by omega) d;have b:=run_storeCells_cells (P:=Tryz.prog) g o vs 0 w (fun j e=>by
  rw [cell_of_row w g _ _ _ _ hg,Array.getElem?_eq_getElem (by omega)];rfl) (fun j e=>frozen_of_row w g _ _ _ hg) d
 simp only [Nat.add_zero] at c b;rw [c] at b;injection b with _ b;exact b.symm
theorem TO (w:World) (g o n c:Nat) (d:TypeId) (a:Array Value) (hg:w.heap[g]?=some (.cells a 60 (0,0))) (hn:0<n) (e:o+n*7<=a.size) :
 (Builtin.clear_ #[38] d #[.slice (zO g o) n c]).run Tryz.prog w=.ok (.tuple #[]) (w.setRow g (a.toList.take o++(Builtin.zeroCells Vt.cells n).toList++a.toList.drop (o+n*7)).toArray):=by
 have b:=run_storeCells_at Tryz.prog g o 60 (Builtin.zeroCells Vt.cells n).toList 0 a w hg (by rw [Xb];omega) (JN n);simp only [Nat.add_zero,Xb] at b;obtain ⟨m,rfl⟩:∃ m,n=m+1:=⟨n-1,by omega⟩;simp only [Builtin.clear_];simp [run_underlying Tryz.underlying38];unfold Vt at b;rw [b];simp [Result.andThen,Vt]
theorem YW (b:BL) (i:Nat) (c:i<=b.length):(ze b).take (i*7)=ze (b.take i):=by
 have e:ze b=ze (b.take i)++ze (b.drop i):=by rw [<-xw,List.take_append_drop]
 have a:(ze (b.take i)).length=i*7:=by rw [zE];simp;omega
 rw [e,<-a,List.take_left]
theorem YV (b:BL) (i:Nat) (c:i<=b.length):(ze b).drop (i*7)=ze (b.drop i):=by
 have e:ze b=ze (b.take i)++ze (b.drop i):=by rw [<-xw,List.take_append_drop]
 have a:(ze (b.take i)).length=i*7:=by rw [zE];simp;omega
 rw [e,<-a,List.drop_left]
theorem Vj (w:World) (g:Nat) (cs:Array Value):(w.setRow g cs).heap.size=w.heap.size:=by simp [World.setRow]
theorem Below.setRow {B:Nat} {a w:World} (h:Below B a w) {g:Nat} (hg:B<=g) (cs:Array Value):Below B a (w.setRow g cs) :=
 h.trans ⟨rfl,rfl,rfl,by rw [Vj];exact Nat.le_refl _,fun k b=>setRow_other w g k cs (by omega)⟩
theorem Mh (w:World) (g bn k:Nat) (l:Array Value) (b:BL) (i j:Nat) (ag:i<j) (ah:j<=bn) (R:bn=b.length) (aj:bn<=k) (_hm:k<=9223372036854775807) (hg:w.heap[g]?=some (.cells l 60 (0,0))) (U:l.size=k*7) (C:l.toList.take (bn*7)=ze b) :
 zC 91 #[.slice (zO g 0) bn k,zI i,zI j] w fun e w'=>e=.returned (.slice (zO g 0) (bn-(j-i)) k)/\(∃ n,w'.heap[g]?=some (.cells n 60 (0,0))/\n.size=k*7/\n.toList.take ((bn-(j-i))*7)=ze (b.take i++b.drop j))/\(∀ x,x≠g->w'.heap[x]?=w.heap[x]?)/\w'.heap.size=w.heap.size/\∀ B,B<=g->Below B w w':=by
 obtain ⟨Z,V,e⟩:=Option.map_eq_some_iff.1 Z5;simp only [Prod.mk.injEq] at e;obtain ⟨_,Y,_⟩:=e;obtain ⟨c,r⟩:=qB (ze (b.drop j));have q:c.length=(bn-j)*7:=by rw [r,zE];simp;omega
 have I:(l.toList.take (bn*7)).drop (j*7)=c:=by rw [C,r,YV b j (by omega)]
 have J:∀ (t:Nat) f,c[t]?=some f->l[j*7+t]?=some f:=fun t f m=>by
  rw [<-I,List.getElem?_drop,List.getElem?_take] at m
  split at m
  ·rw [<-Array.getElem?_toList];exact m
  cases m
 obtain ⟨s,ad,W⟩:∃ s:Addr,(if k=j then some (⟨g,0,none⟩:Addr) else some ⟨g,j*7,none⟩)=some s/\Zh (∀ t f,c[t]?=some f->w.drew.cell? (s.add t)=some f):=by
  by_cases h:k=j
  ·refine ⟨(zA g 0),by simp [h],fun t f m=>?_⟩;have O:c.length=0:=(by rw [q];omega);rw [List.length_eq_zero_iff.1 O] at m;simp at m
  refine ⟨(zA g (j*7)),by simp [h],fun t f m=>?_⟩;rw [Addr.add_lit];show w.cell? _=_;rw [cell_of_row w g _ _ _ _ hg];exact J t f m
 have aa:Zh (c.length=(bn-j)*7):=q;have M:Zh (∀ f∈c,f.oneCell'=true):=by rw [r];exact y7 _
 have ab:Zh (∀ t,t<c.length->(w.drew.cell? (zA g (0+i*7+t))).isSome=true/\w.drew.frozen? (zA g (0+i*7+t))=false):=by
  intro t X;rw [q] at X;refine ⟨?_,frozen_of_row w.drew g _ _ _ hg⟩;show (w.cell? _).isSome=true;rw [cell_of_row w g _ _ _ _ hg,Array.getElem?_eq_getElem (by omega)];rfl
 obtain ⟨d,z⟩:=qB (w.drew.setCells g (0+i*7) c);obtain ⟨c1,u⟩:=qB ((l.toList.take (i*7)++c++l.toList.drop (i*7+c.length)).toArray);have p:d=w.drew.setRow g c1:=by
  rw [z,u,Nat.zero_add];exact Wt w.drew g (i*7) l 60 c hg (by omega) M.o
 have S:c1.size=k*7:=by rw [u];simp;omega
 have F:c1.toList.take ((i+(bn-j))*7)=ze (b.take i++b.drop j):=by
  have P:l.toList.take (i*7)=ze (b.take i):=by rw [<-YW b i (by omega),<-C,List.take_take];congr 1;omega
  have y:(ze (b.take i)++c).length=(i+(bn-j))*7:=by rw [List.length_append,q,zE];simp;omega
  rw [u,P,<-y];show ((ze (b.take i)++c)++_).take _=_;rw [List.take_left,r,xw]
 have A:d.heap[g]?=some (.cells c1 60 (0,0)):=by rw [p];exact setRow_heap w.drew g l _ _ _ hg
 obtain ⟨c2,v⟩:=qB ((c1.toList.take ((i+(bn-j))*7)++(Builtin.zeroCells Vt.cells (bn-(i+(bn-j)))).toList++c1.toList.drop ((i+(bn-j))*7+(bn-(i+(bn-j)))*7)).toArray);have ae:∀ D,(Builtin.clear_ #[38] D #[.slice (zO g ((i+(bn-j))*7)) (bn-(i+(bn-j))) (k-(i+(bn-j)))]).run Tryz.prog d=.ok (.tuple #[]) (d.setRow g c2):=fun D=>by
  rw [v];exact TO d g _ _ _ D c1 A (by omega) (by omega)
 have G:c2.size=k*7:=by
  have:=Xb (bn-(i+(bn-j)));rw [Array.length_toList] at this;rw [v];simp [this];omega
 have H:c2.toList.take ((bn-(j-i))*7)=ze (b.take i++b.drop j):=by
  have y:(c1.toList.take ((i+(bn-j))*7)).length=(i+(bn-j))*7:=by rw [List.length_take,Array.length_toList];omega
  rw [show bn-(j-i)=i+(bn-j) from by omega,v];show ((c1.toList.take _++_)++_).take _=_;rw [List.append_assoc,List.take_left' y,F]
 have N:=zh (show (∃ n,(d.setRow g c2).heap[g]?=some (.cells n 60 (0,0))/\n.size=k*7/\n.toList.take ((bn-(j-i))*7)=ze (b.take i++b.drop j))/\(∀ x,x≠g->(d.setRow g c2).heap[x]?=w.heap[x]?)/\(d.setRow g c2).heap.size=w.heap.size/\∀ B,B<=g->Below B w (d.setRow g c2) from by
  refine ⟨⟨c2,setRow_heap d g c1 _ _ _ A,G,H⟩,fun x L=>?_,?_,fun B E=>?_⟩
  ·rw [setRow_other _ _ _ _ L,p,setRow_other _ _ _ _ L];rfl
  ·rw [Vj,p,Vj];rfl
  rw [p];exact Below.setRow (a:=w) (w:=w.drew.setRow g c1) (Below.setRow (a:=w) (w:=w.drew) ⟨rfl,rfl,rfl,Nat.le_refl _,fun _ _=>rfl⟩ E _) E _)
 have Q:Zh (d=w.drew.setCells g (0+i*7) c):=z;have af:i<=k:=by omega
 have ai:j<=k:=by omega
 have ak:¬i=j:=by omega
 clear z p A hg J I r q U C R u S F v G H;go_enter Tryz.func91,Tryz.ntmps91;go_wp2_with fail
 go_region_law (refine step_append_room rfl (.tmp 22) (.tmp 25) 38 rfl 60 Z 7 Tryz.underlying38 V Y g 0 i k (by simp [Act.eval,Act.put]) s (bn-j) (k-j) c (by simp [Act.eval,Act.put]) aa.o W.o M.o (by omega) ab.o ?_;rw [<-Q.o])
 go_wp2;go_ret;exact ⟨by rw [show bn-(j-i)=i+(bn-j) by omega];rfl,N.o⟩
end Go.Proofs.YtckpdfkobdgjeaaGreatDoor
