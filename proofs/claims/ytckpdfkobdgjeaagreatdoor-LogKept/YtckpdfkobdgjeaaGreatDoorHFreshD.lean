/- Contract of fresh.State: the same state, in memory of the call's own. -/
import Derived.Test.YtckpdfkobdgjeaaGreatDoorHAll2
namespace Go.Proofs.YtckpdfkobdgjeaaGreatDoor
set_option maxRecDepth 100000
set_option maxHeartbeats 4000000
open Go.RowKit
theorem OwnQs.blocks {w w':World} {B:Nat} {v:Value} {l:QL} (h:OwnQs w B v l) (hn:∀ i,i<l.length->0<(qu l i).cn->∀ b c,(qu l i).ca=zO b c->B<=b) (f:∀ k,B<=k->k<w.heap.size->w'.heap[k]?=w.heap[k]?):OwnQs w' B v l:=by
 refine ⟨?_,fun i a=>(h.caps i a).of_away fun j b c e=>f b (hn i a j b c e) ((h.caps i a).lt j e),h.far,h.names⟩;refine ⟨h.row.1,?_⟩;rcases h.row.2 with n | ⟨g,cap,m,rfl,d,hg,rest⟩
 ·exact .inl n
 exact .inr ⟨g,cap,m,rfl,d,(f g d (Array.getElem?_eq_some_iff.1 hg).1).trans hg,rest⟩
theorem OwnQs.base {w:World} {B a:Nat} {v:Value} {l:QL} (h:OwnQs w B v l) (e:a<=B):OwnQs w a v l:=by
 refine ⟨⟨h.row.1,?_⟩,h.caps,h.far,h.names⟩;rcases h.row.2 with c | ⟨g,cap,b,rfl,d,rest⟩
 ·exact .inl c
 exact .inr ⟨g,cap,b,rfl,by omega,rest⟩
theorem OwnBks.base {w:World} {B a:Nat} {v:Value} {b:BL} (h:OwnBks w B v b) (f:a<=B):OwnBks w a v b:=by
 refine ⟨⟨h.row.1,?_⟩,h.rqs,h.bites,h.farP,h.farB⟩;rcases h.row.2 with d | ⟨g,cap,c,rfl,e,rest⟩
 ·exact .inl d
 exact .inr ⟨g,cap,c,rfl,by omega,rest⟩
structure OwnSt (w:World) (B:Nat) (tv:Value) (l:QL) (bv:Value) (b:BL):Prop where
 qs:OwnQs w B tv l
 bks:OwnBks w B bv b
 apart:∀ gb,bv.ownBlock=some gb->tv.ownBlock≠some gb/\∀ i,i<l.length->0<(qu l i).cn->∀ g off,(qu l i).ca=zO g off->g≠gb
 newC:∀ i,i<l.length->0<(qu l i).cn->∀ g off,(qu l i).ca=zO g off->B<=g
 newP:∀ i,i<b.length->0<(bk b i).rq.pn->∀ g off,(bk b i).rq.pa=zO g off->B<=g
 newB:∀ i,i<b.length->0<(bk b i).bn->∀ g off,(bk b i).ba=zO g off->B<=g
theorem zk (w:World) (e:Nat) (t:TypeId) (m n o p a b c d:Value) (h:w.heap[e]?=some (.cells #[m,n,o,p] t (0,0))) :
 ((((w.setCell (zA e 0) a).setCell (zA e 1) b).setCell (zA e 2) c).setCell (zA e 3) d).heap[e]?=some (.cells #[a,b,c,d] t (0,0)) /\
 ∀ k,k≠e->((((w.setCell (zA e 0) a).setCell (zA e 1) b).setCell (zA e 2) c).setCell (zA e 3) d).heap[k]?=w.heap[k]?:=by
 have g:=heap_setCell_same w e 0 _ t a h;have i:=heap_setCell_same _ e 1 _ t b g;have j:=heap_setCell_same _ e 2 _ t c i;have l:=heap_setCell_same _ e 3 _ t d j;refine ⟨l,fun k f=>?_⟩;rw [heap_setCell_other _ (zA e 3) k _ f,heap_setCell_other _ (zA e 2) k _ f,heap_setCell_other _ (zA e 1) k _ f,heap_setCell_other _ (zA e 0) k _ f]
theorem OwnBks.blocks {w w':World} {B:Nat} {v:Value} {b:BL} (h:OwnBks w B v b) (e:∀ g,v.ownBlock=some g->w'.heap[g]?=w.heap[g]?) (f:∀ i,i<b.length->0<(bk b i).rq.pn->∀ g c,(bk b i).rq.pa=zO g c->w'.heap[g]?=w.heap[g]?) (j:∀ i,i<b.length->0<(bk b i).bn->∀ g c,(bk b i).ba=zO g c->w'.heap[g]?=w.heap[g]?):OwnBks w' B v b:=by
 refine ⟨⟨h.row.1,?_⟩,fun i a=>RunsIn.of_away (h.rqs i a) (f i a),fun i a=>(h.bites i a).of_away (j i a),h.farP,h.farB⟩;rcases h.row.2 with l | ⟨g,cap,d,rfl,k,hg,rest⟩
 ·exact .inl l
 exact .inr ⟨g,cap,d,rfl,k,(e g rfl).trans hg,rest⟩
structure Modest (tn:Nat) (l:QL) (bn:Nat) (b:BL):Prop where
 t0:0<tn
 t1:tn<=1000
 caps:∀ i,i<tn->(qu l i).cn<=1000
 b1:bn<=1000
 ps:∀ i,i<bn->(bk b i).rq.pn<=1000
 bs:∀ i,i<bn->(bk b i).bn<=1000
theorem Vw (w:World) (c n:Int) (ak:Option Addr) (x al:Nat) (l:QL) (ba:Option Addr) (bn bc:Nat) (b:BL) (h:zY w ak x al l ba bn bc b) (aV:Modest x l bn b) :
 zC 88 #[.agg (zS c n ak x al ba bn bc)] w fun e w'=>∃ g M U A u B,e=.returned (.agg (zS c n (zO g 0) x M A bn u))/\OwnSt w' w.heap.size (.slice (zO g 0) x M) U (.slice A bn u) B/\x=U.length/\bn=B.length/\zi U=zi l/\zg B=zg b/\Below w.heap.size w w':=by
 obtain ⟨S,a2⟩:=qA (w.heap.size);obtain ⟨ai,aD⟩:=qB ((w.alloc (.cells (zS c n ak x al ba bn bc) 40)).alloc (.cells zZ 40));have bv:zL w ai:=by rw [aD];exact (zr _ _).alloc (by simp) _
 have bB:ai.heap[S]?=some (.cells (zS c n ak x al ba bn bc) 40 (0,0)):=by rw [aD,<-a2];exact (Below.heap_alloc _ _ _ (by simp)).trans (heap_alloc_new w _)
 have cy:ai.heap[S+1]?=some (.cells zZ 40 (0,0)):=by
  have:=heap_alloc_new (w.alloc (.cells (zS c n ak x al ba bn bc) 40)) (.cells zZ 40);rw [World.size_alloc,a2] at this;rw [aD];exact this
 have cA:ai.heap.size=S+2:=by rw [aD,<-a2];simp
 have b5:=SO ai ak x al l (h.1.later bv) aV.t0 aV.t1 aV.caps;have cV:=zh b5;have c7:=zh aD;have cJ:=zh bv;have cT:=zh bB;have c4:=zh cy;have am:=zh cA;have dL:=zh a2;have ad:=zh h.2;have bj:=zh aV;have c2:ai.cell? (zA S 2)=some (.slice ak x al):=by rw [cell_of_row ai S 2 _ _ _ bB];rfl
 clear b5 aD bv bB cy cA h aV;go_enter Tryz.func88,Tryz.ntmps88;go_wp2_with fail
 rw [<-c7.o];refine cV.o.mono ?_;rintro e H ⟨g,M,U,rfl,af,aT,aS,m,cu,aH⟩;have ar:H.heap[S]?=some (.cells (zS c n ak x al ba bn bc) 40 (0,0)):=by rw [m.block S (by have:=am.o;omega)];exact cT.o
 have cb:H.heap[S+1]?=some (.cells zZ 40 (0,0)):=by rw [m.block (S+1) (by have:=am.o;omega)];exact c4.o
 have dk:H.cell? (zA S 0)=some (zI c):=by rw [cell_of_row H S 0 _ _ _ ar];rfl
 have dl:H.cell? (zA S 1)=some (zI n):=by rw [cell_of_row H S 1 _ _ _ ar];rfl
 have dm:H.cell? (zA S 2)=some (.slice ak x al):=by rw [cell_of_row H S 2 _ _ _ ar];rfl
 have dp:H.cell? (zA S 3)=some (.slice ba bn bc):=by rw [cell_of_row H S 3 _ _ _ ar];rfl
 have df:∀ k,H.frozen? (zA S k)=false:=fun k=>frozen_of_row H S k _ _ ar;obtain ⟨L,aw⟩:=qB (H.setCell ⟨S,2,none⟩ (.slice (some ⟨g,0,none⟩) x M));have cB:L.heap.size=H.heap.size:=by rw [aw];simp [World.setCell]
 have bx:zL w L:=by rw [aw];exact (za cJ.o m).setCell (p:=(zA S 2)) (by simp only;omega) _
 have cc:L.heap[S]?=some (.cells (zS c n (zO g 0) x M ba bn bc) 40 (0,0)):=by rw [aw,heap_setCell_same H S 2 _ 40 _ ar];rfl
 have cd:L.heap[S+1]?=some (.cells zZ 40 (0,0)):=by rw [aw,heap_setCell_other H (zA S 2) (S+1) _ (by simp)];exact cb
 have dV:S+2<=g/\g<H.heap.size:=by
  have s:=af.row.lt g rfl;have:=am.o;omega
 have cj:OwnQs L (S+2) (.slice (zO g 0) x M) U:=by
  have s:=af;rw [am.o] at s;refine s.blocks (fun i aF z b f e=>by have:=aH i (by omega) z b f e;have:=am.o;omega) fun k a7 ag=>?_;rw [aw];exact heap_setCell_other H (zA S 2) k _ (by simp only;omega)
 have b6:=PE L ba bn bc (ze b) (by rw [zE,ad.o.len]) bj.o.b1 (fun aY e j dD bI=>by
  subst e;by_cases z:0<bn
  ·obtain ⟨dh,di,E,_⟩:=ad.o.cells z;injection E with E;subst E;rw [Addr.add_lit];exact (ad.o.later bx).list j dD bI
  ·have:=ad.o.len;have dr:b=[]:=List.length_eq_zero_iff.1 (by omega);rw [dr] at bI;simp [ze] at bI) (y7 b) (fun e=>by
  subst e;by_cases z:0<bn
  ·obtain ⟨dh,di,E,_⟩:=ad.o.cells z;cases E
  omega)
 have cW:=zh b6;have bl:=zh cj;have bV:=zh bx;have db:=zh cc;have dc:=zh cd;have bh:=zh aT;have cO:=zh aS;have bW:=zh aH;have c8:=zh aw;have ae:=zh cB;have R:Zh (S+2<=H.heap.size):=by have:=m.size;have:=am.o;show S+2<=H.heap.size;omega
 clear b6 af aT aS m aH aw cj bx cc cd ar cb c2 cB;go_wp2_with fail
 rw [<-c8.o];refine cW.o.mono ?_;rintro e J ⟨dE,rfl,bt,aa⟩;obtain ⟨A,u,a,rfl,cs,a4,dZ,d0,a9⟩:∃ A u a,dE=.slice A bn u/\(A=none\/A=some ⟨a,0,none⟩)/\(0<bn->A=some ⟨a,0,none⟩)/\bn<=u/\u<=9223372036854775807/\(∀ b f,A=some ⟨b,f,none⟩->L.heap.size<=b/\b<J.heap.size/\b=a):=by
  rcases bt.2 with ⟨rfl,bq⟩ | ⟨a,cap,aZ,rfl,aO,hg,cu,dv,_,_⟩
  ·exact ⟨none,0,0,by rw [bq],Or.inl rfl,fun z=>by omega,by omega,by omega,fun b f e=>by cases e⟩
  refine ⟨zO a 0,cap,a,rfl,Or.inr rfl,fun _=>rfl,cu,by simpa [maxLen] using dv,fun b f e=>?_⟩;injection e with e;injection e with aC E;have:=(Array.getElem?_eq_some_iff.1 hg).1;exact ⟨by omega,by omega,aC.symm⟩
 have au:J.heap[S]?=some (.cells (zS c n (zO g 0) x M ba bn bc) 40 (0,0)):=by rw [aa.block S (by have:=ae.o;have:=R.o;omega)];exact db.o
 have ce:J.heap[S+1]?=some (.cells zZ 40 (0,0)):=by rw [aa.block (S+1) (by have:=ae.o;have:=R.o;omega)];exact dc.o
 have dN:J.cell? (zA S 0)=some (zI c):=by rw [cell_of_row J S 0 _ _ _ au];rfl
 have dO:J.cell? (zA S 1)=some (zI n):=by rw [cell_of_row J S 1 _ _ _ au];rfl
 have dP:J.cell? (zA S 2)=some (.slice (zO g 0) x M):=by rw [cell_of_row J S 2 _ _ _ au];rfl
 have dQ:J.cell? (zA S 3)=some (.slice ba bn bc):=by rw [cell_of_row J S 3 _ _ _ au];rfl
 have dR:∀ k,J.frozen? (zA S k)=false:=fun k=>frozen_of_row J S k _ _ au;obtain ⟨P,an⟩:=qB (J.setCell ⟨S,3,none⟩ (.slice A bn u));have b8:P.heap[S]?=some (.cells (zS c n (zO g 0) x M A bn u) 40 (0,0)):=by rw [an,heap_setCell_same J S 3 _ 40 _ au];rfl
 have b9:P.heap[S+1]?=some (.cells zZ 40 (0,0)):=by rw [an,heap_setCell_other J (zA S 3) (S+1) _ (by simp)];exact ce
 have dy:P.heap.size=J.heap.size:=by rw [an];simp [World.setCell]
 have aR:zL w P:=by rw [an];exact (za bV.o aa).setCell (p:=(zA S 3)) (by simp only;omega) _
 have ci:OwnQs P (S+2) (.slice (zO g 0) x M) U:=by
  refine bl.o.blocks (fun i aF z b f e=>by have:=bW.o i (by have:=bh.o;omega) z b f e;have:=am.o;omega) fun k a7 ag=>?_;rw [an,heap_setCell_other J (zA S 3) k _ (by simp only;omega)];exact aa.block k ag
 have cg:OwnBks P L.heap.size (.slice A bn u) b:=by
  have aG:=ad.o.len;have cx:J.ownsRow L.heap.size 60 7 (.slice A bn u) b.length (ze b):=by rw [<-aG];exact bt
  have bE:∀ k,k<S->P.heap[k]?=w.heap[k]?:=fun k ab=>aR.block k (by omega);refine ⟨?_,fun i aF=>RunsIn.later (ad.o.rqs i (by omega)) aR,fun i aF=>(ad.o.bites i (by omega)).later aR,fun i aF z G f e E=>?_,fun i aF z G f e E=>?_⟩
  ·refine ⟨cx.1,?_⟩;rcases cx.2 with bK | ⟨G,cap,aZ,aC,aO,bC,rest⟩
   ·exact .inl bK
   refine .inr ⟨G,cap,aZ,aC,aO,?_,rest⟩;rw [an,heap_setCell_other J (zA S 3) G _ (by have:=ae.o;have:=R.o;simp only;omega)];exact bC
  ·have s:=RunsIn.lt (ad.o.rqs i (by omega)) z e;cases A with
   | none=>cases E
   | some aY =>
    obtain ⟨b1,bL,be⟩:=aY;simp only [Value.ownBlock,Option.some.injEq] at E;subst E;have bG:be=none:=by
     have:=a4 (by omega);injection this with this;injection this
    subst bG;have:=a9 b1 bL rfl;have:=ae.o;have:=R.o;omega
  have s:=(ad.o.bites i (by omega)).lt z e;cases A with
  | none=>cases E
  | some aY =>
   obtain ⟨b1,bL,be⟩:=aY;simp only [Value.ownBlock,Option.some.injEq] at E;subst E;have bG:be=none:=by
    have:=a4 (by omega);injection this with this;injection this
   subst bG;have:=a9 b1 bL rfl;have:=ae.o;have:=R.o;omega
 have b2:=zh b8;have c6:=zh b9;have aL:=zh ci;have cL:=zh cg;have cS:=zh aR;have da:=zh an;have aI:=zh a4;have aq:=zh a9;have cU:=zh cs;have az:Zh (H.heap.size<=P.heap.size):=by have:=aa.size;have:=ae.o;show H.heap.size<=P.heap.size;omega
 have cX:Zh (∀ b f,A=zO b f->b<P.heap.size):=fun b f e=>by have:=(aq.o b f e).2.1;omega
 clear bt aa a4 a9 cs au ce b8 b9 dy aR ci cg an dk dl dm dp df;go_wp2_with fail
 rw [<-da.o];go_loopw [3,4,16] (fun _ _ bM wr=>∃ (i:Nat) (B:BL),bM=zI i/\i<=bn/\bn=B.length/\zg B=zg b/\OwnBks wr L.heap.size (.slice A bn u) B/\(∀ j,i<=j->j<bn->bk B j=bk b j)/\(∀ j,j<i->(∀ g f,(bk B j).rq.pa=zO g f->S+2<=g)/\∀ g f,(bk B j).ba=zO g f->S+2<=g)/\(∀ k,k<P.heap.size->k≠a\/bn=0->wr.heap[k]?=P.heap[k]?)/\P.heap.size<=wr.heap.size/\zL w wr) (fun _ _ bM _=>bn-(intOf bM).toNat)
 case atStart=>exact ⟨0,b,rfl,by omega,ad.o.len,rfl,cL.o,fun _ _ _=>rfl,fun j O=>by omega,fun _ _ _=>rfl,Nat.le_refl _,cS.o⟩
 case round =>
  obtain ⟨i,B,rfl,aF,aT,aS,ch,bE,cv,cq,d6,co⟩:=hrel;have ap:=zh aT;have bT:=zh aS;have aX:=zh ch;have bZ:=zh bE;have aK:=zh cv;have aJ:=zh cq;have bg:=zh co;clear aT aS ch bE cv cq co;by_cases bD:i<bn
  ·have d3:(i:Int)<bn:=(by omega);have aU:i<B.length:=(by have:=ap.o;omega);obtain rfl:=aI.o (by omega);have aQ:=bZ.o i (Nat.le_refl _) bD;have Y:=aX.o.row;rw [<-ap.o] at Y;have Q:∀ k,k<7->wr.cell? (zA a (i*7+k))=(zx (bk b i))[k]?:=fun k ab=>by rw [Y.cellAt (i*7+k) (by omega),Za B i k aU ab,aQ]
   obtain ⟨X,bu⟩:=qA (bk b i);rw [bu] at Q aQ;have b4:=zh bu;have ei:wr.cell? (zA a (i*7))=some (zI X.id):=Q 0 (by omega);have dG:wr.cell? (zA a (i*7+1))=some (zI X.rq.queue):=Q 1 (by omega);have dH:wr.cell? (zA a (i*7+2))=some (zI X.rq.fr):=Q 2 (by omega);have dI:wr.cell? (zA a (i*7+3))=some (zI X.rq.un):=Q 3 (by omega);have dJ:wr.cell? (zA a (i*7+4))=some (zI X.rq.kind):=Q 4 (by omega);have dK:wr.cell? (zA a (i*7+5))=some (.slice X.rq.pa X.rq.pn X.rq.pc):=Q 5 (by omega);have cF:wr.cell? (zA a (i*7+6))=some (.slice X.ba X.bn X.bc):=Q 6 (by omega);have dW:=(aq.o a 0 rfl);have dX:=cX.o a 0 rfl;have cl:S≠a:=(by have:=ae.o;have:=R.o;omega);have aj:wr.heap[S]?=some (.cells (zS c n (zO g 0) x M (zO a 0) bn u) 40 (0,0)):=(by rw [aJ.o S (by have:=az.o;have:=R.o;omega) (Or.inl cl)];exact b2.o);obtain ⟨t,aP⟩:=qB (wr.alloc (.cells (zB X) 60));obtain ⟨I,ck⟩:=qA (wr.heap.size);have aa:zL wr t:=(by rw [aP];exact zr _ _);have ax:t.heap[I]?=some (.cells (zB X) 60 (0,0)):=(by rw [aP,<-ck];exact heap_alloc_new wr _);have bH:t.heap.size=I+1:=(by rw [aP,<-ck];simp);have bf:=zh (show t.cell? (zA S 3)=some (.slice (zO a 0) bn u) from cell_later aa (by rw [cell_of_row wr S 3 _ _ _ aj];rfl));have bN:=zh (show t.cell? (zA I 1)=some (zI X.rq.queue) from by rw [cell_of_row t I 1 _ _ _ ax];rfl);have bO:=zh (show t.cell? (zA I 2)=some (zI X.rq.fr) from by rw [cell_of_row t I 2 _ _ _ ax];rfl);have bP:=zh (show t.cell? (zA I 3)=some (zI X.rq.un) from by rw [cell_of_row t I 3 _ _ _ ax];rfl);have bQ:=zh (show t.cell? (zA I 4)=some (zI X.rq.kind) from by rw [cell_of_row t I 4 _ _ _ ax];rfl);have bR:=zh (show t.cell? (zA I 5)=some (.slice X.rq.pa X.rq.pn X.rq.pc) from by rw [cell_of_row t I 5 _ _ _ ax];rfl);have bX:=zh (aX.o.later aa);have cK:=zh (za bg.o aa);have b7:=zh fun w' (m:zL t w')=>TA w' X.rq (by
    have s:=bX.o.rqs i aU;rw [aQ] at s;exact zH.later s m) (by rw [<-b4.o];exact bj.o.ps i bD)
   have dt:a<t.heap.size:=(by omega);have aE:w.heap.size<=a:=(by have:=ae.o;have:=R.o;omega);have bo:=zh aQ;have c1:=zh ax;have c9:=zh aP;have bm:=zh bH;have dM:=zh aj;have cQ:=zh aa;clear Y Q bu aQ ax aP bH aa aj;go_wp2_with fail
   rw [<-c9.o];go_cut [28] (fun _ V=>∃ dg,dg=V/\∃ D F,OwnBks V L.heap.size (.slice (zO a 0) bn u) (B.set i ⟨X.id,⟨X.rq.queue,X.rq.fr,X.rq.un,X.rq.kind,D,X.rq.pn,F,X.rq.ps⟩,X.ba,X.bn,X.bc,X.bs⟩)/\(∀ b f,D=zO b f->t.heap.size<=b)/\(∀ k,k≠a->k<t.heap.size->V.heap[k]?=t.heap[k]?)/\t.heap.size<=V.heap.size/\zL w V)
   case first =>
    refine wN ((Tryz.f88.body.bind fun c=>yi c 6).getD #[]) (by kernel_rfl) [zl (.pointer (zO S 3)),zl (.slice (zO a 0) bn u),zl (zI i),zl (.pointer (zO I 1)),zl (.agg (zR X.rq)),⟨fun v bp=>∃ D F,v=.agg #[zI X.rq.queue,zI X.rq.fr,zI X.rq.un,zI X.rq.kind,.slice D X.rq.pn F]/\RunsIn bp D X.rq.pn F X.rq.ps/\∀ b f,D=zO b f->t.heap.size<=b,fun _ _ _ ⟨D,F,s,aN,br⟩ m=>⟨D,F,s,aN.later m,br⟩⟩,zl (.pointer (zO a (i*7))),zl (.pointer (zO a (i*7+1))),zl undef] 8 (by kernel_rfl) (by kernel_rfl) (by kernel_rfl) ?hstep
    case hstep =>
     refine zc.cons 1 rfl ?_ ?_
     ·intro T w' m C y r;rw [if_neg (by decide)];have N:T.getD 1 undef=.pointer (zO S 0):=y 1;exact zs (by go_simp) rfl
     refine zc.cons 2 rfl ?_ ?_
     ·intro T w' m C y r;rw [if_neg (by decide)];have N:T.getD 21 undef=_:=r 0 21;have dj:=cell_later m bf.o;exact zs (by go_simp) rfl
     refine zc.cons 3 rfl ?_ ?_
     ·intro T w' m C y r;rw [if_neg (by decide)];have N:T.getD 3 undef=zI i:=y 3;exact zs (by go_simp) rfl
     refine zc.cons 4 rfl ?_ ?_
     ·intro T w' m C y r;rw [if_neg (by decide)];have N:T.getD 4 undef=.pointer (zO I 0):=y 4;exact zs (by go_simp) rfl
     refine zc.cons 5 rfl ?_ ?_
     ·intro T w' m C y r;rw [if_neg (by decide)];have N:T.getD 24 undef=_:=r 3 24;have dA:=cell_later m bN.o;have dB:=cell_later m bO.o;have dC:=cell_later m bP.o;have ee:=cell_later m bQ.o;have ef:=cell_later m bR.o;exact zs (by go_simp) rfl
     refine zc.cons 6 rfl ?_ ?_
     ·intro T w' m C y r;rw [if_neg (by decide)];have N:T.getD 25 undef=_:=r 4 25;refine Or.inr ⟨89,#[.agg (zR X.rq)],by go_simp,?_⟩;refine (b7.o w' m).mono ?_;rintro e dF ⟨D,F,rfl,ao,bA,ah⟩;exact ⟨_,rfl,⟨D,F,rfl,ao,fun b f e=>by have:=ah b f e;have:=m.size;omega⟩,bA⟩
     refine zc.cons 7 rfl ?_ ?_
     ·intro T w' m C y r;rw [if_neg (by decide)];have N:T.getD 22 undef=_:=r 1 22;have s:T.getD 23 undef=_:=r 2 23;exact zs (by go_simp) rfl
     refine zc.cons 8 rfl ?_ ?_
     ·intro T w' m C y r;rw [if_neg (by decide)];have N:T.getD 27 undef=_:=r 6 27;exact zs (by go_simp) rfl
     refine zc.cons 9 rfl ?_ ?_
     ·intro T w' m C y r;rw [if_pos rfl]
      replace C:=C.resolve_right (fun h=>h rfl)
      have s:T.getD 28 undef=_:=r 7 28;obtain ⟨D,F,N,ao,ah⟩:=r 5 26;have af:=(bX.o.later m);have aG:=ap.o;have Y:=af.row;rw [<-aG] at Y;have Q:∀ k,k<7->w'.cell? (zA a (i*7+k))=(zx X)[k]?:=fun k ab=>by rw [Y.cellAt (i*7+k) (by omega),Za B i k (by omega) ab,bo.o]
      have dG:w'.cell? (zA a (i*7+1))=some (zI X.rq.queue):=Q 1 (by omega);have dH:w'.cell? (zA a (i*7+1+1))=some (zI X.rq.fr):=Q 2 (by omega);have dI:w'.cell? (zA a (i*7+1+2))=some (zI X.rq.un):=Q 3 (by omega);have dJ:w'.cell? (zA a (i*7+1+3))=some (zI X.rq.kind):=Q 4 (by omega);have dK:w'.cell? (zA a (i*7+1+4))=some (.slice X.rq.pa X.rq.pn X.rq.pc):=Q 5 (by omega);have cG:∀ k,w'.frozen? (zA a k)=false:=fun k=>Y.frozenAt k;have ay:=af.storeReq ap.o (j:=i) (by omega) (q:=X.rq.queue) (fr:=X.rq.fr) (un:=X.rq.un) (kd:=X.rq.kind) ao (fun _ b f e=>by have:=ah b f e;have:=dt;omega);rw [bo.o] at ay;have ay:OwnBks (((((w'.setCell (zA a (i*7+1)) (zI X.rq.queue)).setCell (zA a (i*7+1+1)) (zI X.rq.fr)).setCell (zA a (i*7+1+2)) (zI X.rq.un)).setCell (zA a (i*7+1+3)) (zI X.rq.kind)).setCell (zA a (i*7+1+4)) (.slice D X.rq.pn F)) L.heap.size (.slice (zO a 0) bn u) (B.set i ⟨X.id,⟨X.rq.queue,X.rq.fr,X.rq.un,X.rq.kind,D,X.rq.pn,F,X.rq.ps⟩,X.ba,X.bn,X.bc,X.bs⟩):=ay;clear Q Y af;have bb:∀ k,k≠a->k<t.heap.size->(((((w'.setCell (zA a (i*7+1)) (zI X.rq.queue)).setCell (zA a (i*7+1+1)) (zI X.rq.fr)).setCell (zA a (i*7+1+2)) (zI X.rq.un)).setCell (zA a (i*7+1+3)) (zI X.rq.kind)).setCell (zA a (i*7+1+4)) (.slice D X.rq.pn F)).heap[k]?=t.heap[k]?:=fun k ab ag=>by
       rw [heap_setCell_other _ (zA a (i*7+1+4)) k _ ab,heap_setCell_other _ (zA a (i*7+1+3)) k _ ab,heap_setCell_other _ (zA a (i*7+1+2)) k _ ab,heap_setCell_other _ (zA a (i*7+1+1)) k _ ab,heap_setCell_other _ (zA a (i*7+1)) k _ ab];exact m.block k ag
      have a5:zL w (((((w'.setCell (zA a (i*7+1)) (zI X.rq.queue)).setCell (zA a (i*7+1+1)) (zI X.rq.fr)).setCell (zA a (i*7+1+2)) (zI X.rq.un)).setCell (zA a (i*7+1+3)) (zI X.rq.kind)).setCell (zA a (i*7+1+4)) (.slice D X.rq.pn F)):=(((((za cK.o m).setCell (p:=(zA a (i*7+1))) aE _).setCell (p:=(zA a (i*7+1+1))) aE _).setCell (p:=(zA a (i*7+1+2))) aE _).setCell (p:=(zA a (i*7+1+3))) aE _).setCell (p:=(zA a (i*7+1+4))) aE _;refine ⟨(((((w'.setCell (zA a (i*7+1)) (zI X.rq.queue)).setCell (zA a (i*7+1+1)) (zI X.rq.fr)).setCell (zA a (i*7+1+2)) (zI X.rq.un)).setCell (zA a (i*7+1+3)) (zI X.rq.kind)).setCell (zA a (i*7+1+4)) (.slice D X.rq.pn F)),by go_simp,?_⟩;show _;rw [yb (tt 21 [false,false,false,false,false,false,false,false] 10) (by kernel_rfl) C @y];obtain ⟨us,aW⟩:∃ us:Nat->Value,(fun d=>T.getD d undef)=us:=⟨_,rfl⟩;rw [aW];clear aW y C r;apply_assumption;simp only [xj,tt,List.replicate,List.cons_append,List.nil_append];go_meet;refine ⟨_,rfl,D,F,ay,ah,bb,?_,a5⟩;have:=m.size;simp only [World.setCell,Array.size_modify];omega
     exact trivial
   obtain ⟨V,rfl,D,F,a1,cw,a6,cC,cp⟩:=hcut;have bw:(B.set i ⟨X.id,⟨X.rq.queue,X.rq.fr,X.rq.un,X.rq.kind,D,X.rq.pn,F,X.rq.ps⟩,X.ba,X.bn,X.bc,X.bs⟩).length=B.length:=List.length_set;have a3:bk (B.set i ⟨X.id,⟨X.rq.queue,X.rq.fr,X.rq.un,X.rq.kind,D,X.rq.pn,F,X.rq.ps⟩,X.ba,X.bn,X.bc,X.bs⟩) i=⟨X.id,⟨X.rq.queue,X.rq.fr,X.rq.un,X.rq.kind,D,X.rq.pn,F,X.rq.ps⟩,X.ba,X.bn,X.bc,X.bs⟩:=(by rw [YQ _ aU,if_pos rfl]);have bF:∀ j,j≠i->bk (B.set i ⟨X.id,⟨X.rq.queue,X.rq.fr,X.rq.un,X.rq.kind,D,X.rq.pn,F,X.rq.ps⟩,X.ba,X.bn,X.bc,X.bs⟩) j=bk B j:=fun j O=>by rw [YQ _ aU,if_neg O]
   have bz:zg (B.set i ⟨X.id,⟨X.rq.queue,X.rq.fr,X.rq.un,X.rq.kind,D,X.rq.pn,F,X.rq.ps⟩,X.ba,X.bn,X.bc,X.bs⟩)=zg b:=(by rw [QR aU (by rw [bo.o];rfl)];exact bT.o);obtain ⟨aB,cm⟩:=qA (B.set i ⟨X.id,⟨X.rq.queue,X.rq.fr,X.rq.un,X.rq.kind,D,X.rq.pn,F,X.rq.ps⟩,X.ba,X.bn,X.bc,X.bs⟩);rw [cm] at a1 bw a3 bF bz;have du:a<V.heap.size:=(by omega);have a8:i<aB.length:=(by omega);have cH:=zh (show V.cell? (zA S 3)=some (.slice (zO a 0) bn u) from (World.cell?_of_block (w:=t) (a6 S cl (by have:=bm.o;have:=az.o;have:=R.o;omega))).trans bf.o);have cI:=zh (show V.cell? (zA I 6)=some (.slice X.ba X.bn X.bc) from (World.cell?_of_block (w:=t) (a6 I (by omega) (by have:=bm.o;omega))).trans (by rw [cell_of_row t I 6 _ _ _ c1.o];rfl));have de:=zh fun w' (m:zL V w')=>Sw w' X.ba X.bn X.bc X.bs (by
    have s:=a1.bites i a8;rw [a3] at s;exact s.later m) (by rw [<-b4.o];exact bj.o.bs i bD)
   have c0:=zh a1;have bi:Zh (bn=aB.length):=(by show bn=aB.length;rw [bw];exact ap.o);have b3:=zh a3;have b0:=zh bF;have cP:=zh bz;have cM:=zh cp;have cR:=zh a6;have cY:=zh cw;have c5:=zh cC;clear a1 cw a6 cC cp bw a3 bF bz cm bf bN bO bP bQ bR b7;go_wp2_with fail
   refine wN ((Tryz.f88.body.bind fun c=>yi c 7).getD #[]) (by kernel_rfl) [zl (.pointer (zO S 3)),zl (.slice (zO a 0) bn u),zl (zI i),zl (.pointer (zO I 6)),zl (.slice X.ba X.bn X.bc),⟨fun v bp=>∃ W Z,v=.slice W X.bn Z/\RunsIn bp W X.bn Z X.bs/\∀ b f,W=zO b f->V.heap.size<=b,fun _ _ _ ⟨W,Z,s,aN,br⟩ m=>⟨W,Z,s,aN.later m,br⟩⟩,zl (.pointer (zO a (i*7))),zl (.pointer (zO a (i*7+6))),zl undef] 8 (by kernel_rfl) (by kernel_rfl) (by kernel_rfl) ?hstep
   case hstep =>
    refine zc.cons 1 rfl ?_ ?_
    ·intro T w' m C y r;rw [if_neg (by decide)];have N:T.getD 1 undef=.pointer (zO S 0):=y 1;exact zs (by go_simp) rfl
    refine zc.cons 2 rfl ?_ ?_
    ·intro T w' m C y r;rw [if_neg (by decide)];have N:T.getD 29 undef=_:=r 0 29;have dj:=cell_later m cH.o;exact zs (by go_simp) rfl
    refine zc.cons 3 rfl ?_ ?_
    ·intro T w' m C y r;rw [if_neg (by decide)];have N:T.getD 3 undef=zI i:=y 3;exact zs (by go_simp) rfl
    refine zc.cons 4 rfl ?_ ?_
    ·intro T w' m C y r;rw [if_neg (by decide)];have N:T.getD 4 undef=.pointer (zO I 0):=y 4;exact zs (by go_simp) rfl
    refine zc.cons 5 rfl ?_ ?_
    ·intro T w' m C y r;rw [if_neg (by decide)];have N:T.getD 32 undef=_:=r 3 32;have eg:=cell_later m cI.o;exact zs (by go_simp) rfl
    refine zc.cons 6 rfl ?_ ?_
    ·intro T w' m C y r;rw [if_neg (by decide)];have N:T.getD 33 undef=_:=r 4 33;refine Or.inr ⟨141,#[.slice X.ba X.bn X.bc],by go_simp,?_⟩;refine (de.o w' m).mono ?_;rintro e dF ⟨W,Z,rfl,ao,bA,ah⟩;exact ⟨_,rfl,⟨W,Z,rfl,ao,fun b f e=>by have:=ah b f e;have:=m.size;omega⟩,bA⟩
    refine zc.cons 7 rfl ?_ ?_
    ·intro T w' m C y r;rw [if_neg (by decide)];have N:T.getD 30 undef=_:=r 1 30;have s:T.getD 31 undef=_:=r 2 31;exact zs (by go_simp) rfl
    refine zc.cons 8 rfl ?_ ?_
    ·intro T w' m C y r;rw [if_neg (by decide)];have N:T.getD 35 undef=_:=r 6 35;exact zs (by go_simp) rfl
    refine zc.cons 9 rfl ?_ ?_
    ·intro T w' m C y r;rw [if_pos rfl]
     replace C:=C.resolve_right (fun h=>h rfl)
     have s:T.getD 36 undef=_:=r 7 36;obtain ⟨W,Z,N,ao,ah⟩:=r 5 34;have af:=(c0.o.later m);have aG:=bi.o;have Y:=af.row;rw [<-aG] at Y;have cF:w'.cell? (zA a (i*7+6))=some (.slice X.ba X.bn X.bc):=(by rw [Y.cellAt (i*7+6) (by omega),Za aB i 6 (by omega) (by omega),b3.o];rfl);have cG:∀ k,w'.frozen? (zA a k)=false:=fun k=>Y.frozenAt k;have ay:=af.storeBites bi.o (j:=i) (by omega) ao (fun _ b f e=>by have:=ah b f e;have:=du;omega);have bb:∀ k,k≠a->k<V.heap.size->(w'.setCell (zA a (i*7+6)) (.slice W X.bn Z)).heap[k]?=V.heap[k]?:=fun k ab ag=>by
      rw [heap_setCell_other _ (zA a (i*7+6)) k _ ab];exact m.block k ag
     have a5:zL w (w'.setCell (zA a (i*7+6)) (.slice W X.bn Z)):=(za cM.o m).setCell (p:=(zA a (i*7+6))) aE _;clear Y af;refine ⟨w'.setCell (zA a (i*7+6)) (.slice W X.bn Z),by go_simp,?_⟩;show _;rw [yb (tt 29 [false,false,false,false,false,false,false,false] 2) (by kernel_rfl) C @y];obtain ⟨us,aW⟩:∃ us:Nat->Value,(fun d=>T.getD d undef)=us:=⟨_,rfl⟩;rw [aW];clear aW y C r;simp only [xj,tt,List.replicate,List.cons_append,List.nil_append];have bY:=zh ay;have cZ:=zh ah;have bU:=zh bb;have bS:=zh a5;have dz:V.heap.size<=(w'.setCell (zA a (i*7+6)) (.slice W X.bn Z)).heap.size:=(by have:=m.size;simp only [World.setCell,Array.size_modify];omega);obtain ⟨cE,cD⟩:=qA (w'.setCell ⟨a,i*7+6,none⟩ (.slice W X.bn Z));rw [cD] at bY bU bS dz ⊢;clear ay ah bb a5 cD cF cG ao m N s aG;go_wp2;go_roundw
     case rel =>
      first | refine ⟨_,_,_,_,_,_,_,_,_,_,_,_,_,_,_,_,_,_,_,_,_,_,_,_,?_,rfl⟩ | skip
      have cf:=b3.o;have d5:=c5.o;have bH:=bm.o;have d4:=bg.o.size;have d1:=az.o;have d2:=R.o;refine ⟨i+1,_,by go_num,by omega,by rw [List.length_set];exact bi.o,?_,bY.o,fun j s aN=>?_,fun j O=>?_,fun k a7 ag=>?_,by omega,bS.o⟩
      ·rw [QR a8 (by rw [cf];rfl)];exact cP.o
      ·rw [YQ _ a8,if_neg (by omega),b0.o j (by omega)];exact bZ.o j (by omega) aN
      ·rw [YQ _ a8]
       split
       ·refine ⟨fun g f e=>?_,fun g f e=>?_⟩
        ·rw [cf] at e;have:=cY.o g f e;omega
        have:=cZ.o g f e;omega
       rw [b0.o j (by omega)];exact aK.o j (by omega)
      have ct:k≠a:=ag.resolve_right (by omega);rw [bU.o k ct (by omega),cR.o k ct (by omega),cQ.o.block k (by omega)];exact aJ.o k a7 ag
     case measure=>simp [intOf];omega
    exact trivial
  obtain rfl:i=bn:=by omega
  have aj:wr.heap[S]?=some (.cells (zS c n (zO g 0) x M A i u) 40 (0,0)):=by
   rw [aJ.o S (by have:=az.o;have:=R.o;omega) (by
    by_cases e:i=0
    ·exact Or.inr e
    have s:=aq.o a 0 (aI.o (by omega));have:=ae.o;have:=R.o
    left
    omega)]
   exact b2.o
  have av:wr.heap[S+1]?=some (.cells zZ 40 (0,0)):=by
   rw [aJ.o (S+1) (by have:=az.o;have:=R.o;omega) (by
    by_cases e:i=0
    ·exact Or.inr e
    have s:=aq.o a 0 (aI.o (by omega));have:=ae.o;have:=R.o
    left
    omega)]
   exact c6.o
  have ea:wr.cell? (zA S 0)=some (zI c):=by rw [cell_of_row wr S 0 _ _ _ aj];rfl
  have be:wr.cell? (zA S 1)=some (zI n):=by rw [cell_of_row wr S 1 _ _ _ aj];rfl
  have eb:wr.cell? (zA S 2)=some (.slice (zO g 0) x M):=by rw [cell_of_row wr S 2 _ _ _ aj];rfl
  have ec:wr.cell? (zA S 3)=some (.slice A i u):=by rw [cell_of_row wr S 3 _ _ _ aj];rfl
  have ed:wr.cell? (zA (S+1) 0)=some (zI 0):=by rw [cell_of_row wr (S+1) 0 _ _ _ av];rfl
  have dA:wr.cell? (zA (S+1) 1)=some (zI 0):=by rw [cell_of_row wr (S+1) 1 _ _ _ av];rfl
  have dB:wr.cell? (zA (S+1) 2)=some zN:=by rw [cell_of_row wr (S+1) 2 _ _ _ av];rfl
  have dC:wr.cell? (zA (S+1) 3)=some zN:=by rw [cell_of_row wr (S+1) 3 _ _ _ av];rfl
  have eh:∀ k,wr.frozen? (zA (S+1) k)=false:=fun k=>frozen_of_row wr (S+1) k _ _ av;have c3:=zh av;clear aj av;go_wp2_with fail
  have bd:=zk wr (S+1) 40 _ _ _ _ (zI c) (zI n) (.slice (zO g 0) x M) (.slice A i u) c3.o;have a0:w.heap.size<=S+1:=by omega
  refine bodyPost_ret (v:=.agg (zS c n (zO g 0) x M A i u)) (results_cell_row Tryz.results88 _ _ (S+1) 40 (zS c n (zO g 0) x M A i u) (0,0) _ rfl bd.1 Tryz.underlying40 rfl (by kernel_rfl)) rfl ⟨g,M,U,A,u,B,rfl,?_,bh.o,ap.o,cO.o,bT.o,?_⟩
  ·have d7:=ae.o;have d9:=R.o;have d8:=az.o;have dS:∀ aM,(Value.slice A i u).ownBlock=some aM->aM=a/\L.heap.size<=a/\0<i\/i=0:=fun aM e=>by
    by_cases bq:i=0
    ·exact Or.inr bq
    have s:=aI.o (by omega);rw [s] at e;simp only [Value.ownBlock,Option.some.injEq] at e;exact Or.inl ⟨e.symm,(aq.o a 0 s).1,by omega⟩
   obtain ⟨aA,dq⟩:=qB (((((wr.setCell ⟨S+1,0,none⟩ (zI c)).setCell ⟨S+1,1,none⟩ (zI n)).setCell ⟨S+1,2,none⟩ (.slice (some ⟨g,0,none⟩) x M)).setCell ⟨S+1,3,none⟩ (.slice A i u)));rw [<-dq] at bd ⊢;have dU:=bh.o;have dT:=ap.o;have aH:∀ j,j<U.length->0<(qu U j).cn->∀ b f,(qu U j).ca=zO b f->S+2<=b:=fun j O z b f e=>by have:=bW.o j (by omega) z b f e;have:=am.o;omega
   have dx:=bl.o.row.lt g rfl;have cr:∀ j,j<U.length->0<(qu U j).cn->∀ b f,(qu U j).ca=zO b f->b<L.heap.size:=fun j O z b f e=>(bl.o.caps j O).lt z e;have cz:∀ k,S+2<=k->k<L.heap.size->aA.heap[k]?=P.heap[k]?:=fun k a7 ag=>by
    rw [bd.2 k (by omega),aJ.o k (by omega) (by
     by_cases e:i=0
     ·exact Or.inr e
     have s:=aq.o a 0 (aI.o (by omega))
     left
     omega)]
   have dw:OwnQs aA (S+2) (.slice (zO g 0) x M) U:=by
    refine ⟨⟨aL.o.row.1,?_⟩,fun j O=>(aL.o.caps j O).of_away fun z b f e=>cz b (aH j O z b f e) (cr j O z b f e),aL.o.far,aL.o.names⟩;rcases aL.o.row.2 with ⟨bK,_⟩ | ⟨G,cap,aZ,aC,aO,bC,rest⟩
    ·cases bK
    have E:=aC;injection E with E;injection E with E;injection E with E;subst E;exact .inr ⟨g,cap,aZ,aC,aO,(cz g aO dx.2).trans bC,rest⟩
   have bJ:∀ k,k≠S+1->aA.heap[k]?=wr.heap[k]?:=bd.2;have ds:OwnBks aA L.heap.size (.slice A i u) B:=by
    refine aX.o.blocks (fun G e=>bJ G ?_) (fun j O z G f e=>bJ G ?_) (fun j O z G f e=>bJ G ?_)
    ·have:=aX.o.row.lt G e;omega
    ·have:=(aK.o j (by omega)).1 G f e;omega
    have:=(aK.o j (by omega)).2 G f e;omega
   refine ⟨dw.base (by omega),ds.base (by have:=bV.o.size;omega),fun aM e=>?_,fun j O z G f e=>?_,fun j O z G f e=>?_,fun j O z G f e=>?_⟩
   ·have dY:aM=a/\L.heap.size<=a:=by
     rcases cU.o with s | s
     ·rw [s] at e;cases e
     ·rw [s] at e;simp only [Value.ownBlock,Option.some.injEq] at e;exact ⟨e.symm,(aq.o a 0 s).1⟩
    refine ⟨xc.2 (by omega),fun j O z G f E=>?_⟩;have:=cr j O z G f E;omega
   ·have:=aH j O z G f e;omega
   ·have:=(aK.o j (by omega)).1 G f e;omega
   have:=(aK.o j (by omega)).2 G f e;omega
  exact ((((bg.o.setCell (p:=(zA (S+1) 0)) a0 _).setCell (p:=(zA (S+1) 1)) a0 _).setCell (p:=(zA (S+1) 2)) a0 _).setCell (p:=(zA (S+1) 3)) a0 _)
end Go.Proofs.YtckpdfkobdgjeaaGreatDoor
