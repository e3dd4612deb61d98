/- Contract of fresh.State: the same state, in memory of the call's own. -/
import Derived.Test.YtckpdfkobdgjeaaGreatDoorJAll2
namespace Go.Proofs.YtckpdfkobdgjeaaGreatDoor
set_option maxRecDepth 100000
set_option maxHeartbeats 4000000
open Go.RowKit
set_option linter.unusedSectionVars false
variable [Inhabited Mk]
theorem OwnQs.blocks {w w':World} {B:Nat} {v:Value} {l:QL} (h:OwnQs w B v l) (hn:∀ i,i<l.length->0<(qu l i).cn->∀ b c,(qu l i).ca=zO b c->B<=b) (f:∀ k,B<=k->k<w.heap.size->w'.heap[k]?=w.heap[k]?):OwnQs w' B v l:=by
 refine ⟨?_,fun i a=>(h.caps i a).of_away fun j b c e=>f b (hn i a j b c e) ((h.caps i a).lt j e),h.far,h.names⟩;refine ⟨h.row.1,?_⟩;rcases h.row.2 with o | ⟨g,m,n,rfl,d,hg,rest⟩
 ·exact .inl o
 exact .inr ⟨g,m,n,rfl,d,(f g d (Array.getElem?_eq_some_iff.1 hg).1).trans hg,rest⟩
theorem OwnQs.base {w:World} {B a:Nat} {v:Value} {l:QL} (h:OwnQs w B v l) (f:a<=B):OwnQs w a v l:=by
 refine ⟨⟨h.row.1,?_⟩,h.caps,h.far,h.names⟩;rcases h.row.2 with d | ⟨g,b,c,rfl,e,rest⟩
 ·exact .inl d
 exact .inr ⟨g,b,c,rfl,by omega,rest⟩
theorem OwnBks.base {w:World} {B a:Nat} {v:Value} {b:BL} (h:OwnBks w B v b) (i:a<=B):OwnBks w a v b:=by
 refine ⟨⟨h.row.1,?_⟩,h.rqs,h.bites,h.farP,h.farB⟩;rcases h.row.2 with e | ⟨g,c,d,rfl,f,rest⟩
 ·exact .inl e
 exact .inr ⟨g,c,d,rfl,by omega,rest⟩
structure OwnSt (w:World) (B:Nat) (tv:Value) (l:QL) (bv:Value) (b:BL):Prop where
 qs:OwnQs w B tv l
 bks:OwnBks w B bv b
 apart:∀ gb,bv.ownBlock=some gb->tv.ownBlock≠some gb/\∀ i,i<l.length->0<(qu l i).cn->∀ g off,(qu l i).ca=zO g off->g≠gb
 newC:∀ i,i<l.length->0<(qu l i).cn->∀ g off,(qu l i).ca=zO g off->B<=g
 newP:∀ i,i<b.length->0<(bk b i).rq.pn->∀ g off,(bk b i).rq.pa=zO g off->B<=g
 newB:∀ i,i<b.length->0<(bk b i).bn->∀ g off,(bk b i).ba=zO g off->B<=g
theorem zk (w:World) (e:Nat) (t:TypeId) (m n o p a b c d:Value) (h:w.heap[e]?=some (.cells #[m,n,o,p] t (0,0))) :
 ((((w.setCell (zA e 0) a).setCell (zA e 1) b).setCell (zA e 2) c).setCell (zA e 3) d).heap[e]?=some (.cells #[a,b,c,d] t (0,0)) /\
 ∀ k,k≠e->((((w.setCell (zA e 0) a).setCell (zA e 1) b).setCell (zA e 2) c).setCell (zA e 3) d).heap[k]?=w.heap[k]?:=by
 have g:=heap_setCell_same w e 0 _ t a h;have i:=heap_setCell_same _ e 1 _ t b g;have j:=heap_setCell_same _ e 2 _ t c i;have l:=heap_setCell_same _ e 3 _ t d j;refine ⟨l,fun k f=>?_⟩;rw [heap_setCell_other _ (zA e 3) k _ f,heap_setCell_other _ (zA e 2) k _ f,heap_setCell_other _ (zA e 1) k _ f,heap_setCell_other _ (zA e 0) k _ f]
theorem OwnBks.blocks {w w':World} {B:Nat} {v:Value} {b:BL} (h:OwnBks w B v b) (f:∀ g,v.ownBlock=some g->w'.heap[g]?=w.heap[g]?) (j:∀ i,i<b.length->0<(bk b i).rq.pn->∀ g c,(bk b i).rq.pa=zO g c->w'.heap[g]?=w.heap[g]?) (k:∀ i,i<b.length->0<(bk b i).bn->∀ g c,(bk b i).ba=zO g c->w'.heap[g]?=w.heap[g]?):OwnBks w' B v b:=by
 refine ⟨⟨h.row.1,?_⟩,fun i a=>RunsIn.of_away (h.rqs i a) (j i a),fun i a=>(h.bites i a).of_away (k i a),h.farP,h.farB⟩;rcases h.row.2 with m | ⟨g,d,e,rfl,l,hg,rest⟩
 ·exact .inl m
 exact .inr ⟨g,d,e,rfl,l,(f g rfl).trans hg,rest⟩
structure Modest (tn:Nat) (l:QL) (bn:Nat) (b:BL):Prop where
 t0:0<tn
 t1:tn<=1000
 caps:∀ i,i<tn->(qu l i).cn<=1000
 b1:bn<=1000
 ps:∀ i,i<bn->(bk b i).rq.pn<=1000
 bs:∀ i,i<bn->(bk b i).bn<=1000
theorem Vw (w:World) (c n:Int) (ao:Option Addr) (z ap:Nat) (l:QL) (ah:Option Addr) (r ai:Nat) (b:BL) (h:zY w ao z ap l ah r ai b) (a0:Modest z l r b) :
 zC 88 #[.agg (zS c n ao z ap ah r ai)] w fun e w'=>∃ g O W C y D,e=.returned (.agg (zS c n (zO g 0) z O C r y))/\OwnSt w' w.heap.size (.slice (zO g 0) z O) W (.slice C r y) D/\z=W.length/\r=D.length/\zi W=zi l/\zg D=zg b/\Below w.heap.size w w':=by
 obtain ⟨S,a7⟩:=qA (w.heap.size);obtain ⟨am,aH⟩:=qB ((w.alloc (.cells (zS c n ao z ap ah r ai) 40)).alloc (.cells zZ 40));have bx:zL w am:=by rw [aH];exact (zr _ _).alloc (by simp) _
 have bD:am.heap[S]?=some (.cells (zS c n ao z ap ah r ai) 40 (0,0)):=by rw [aH,<-a7];exact (Below.heap_alloc _ _ _ (by simp)).trans (heap_alloc_new w _)
 have cA:am.heap[S+1]?=some (.cells zZ 40 (0,0)):=by
  have:=heap_alloc_new (w.alloc (.cells (zS c n ao z ap ah r ai) 40)) (.cells zZ 40);rw [World.size_alloc,a7] at this;rw [aH];exact this
 have cC:am.heap.size=S+2:=by rw [aH,<-a7];simp
 have b7:=SO am ao z ap l (h.1.later bx) a0.t0 a0.t1 a0.caps;have cX:=zh b7;have c9:=zh aH;have cL:=zh bx;have cV:=zh bD;have c6:=zh cA;have aq:=zh cC;have dM:=zh a7;have af:=zh h.2;have bn:=zh a0;have c2:am.cell? (zA S 2)=some (.slice ao z ap):=by rw [cell_of_row am S 2 _ _ _ bD];rfl
 clear b7 aH bx bD cA cC h a0;go_enter Tryz.func88,Tryz.ntmps88;go_wp2_with fail
 rw [<-c9.o];refine cX.o.mono ?_;rintro e J ⟨g,O,W,rfl,aj,aY,aX,m,cw,aL⟩;have ax:J.heap[S]?=some (.cells (zS c n ao z ap ah r ai) 40 (0,0)):=by rw [m.block S (by have:=aq.o;omega)];exact cV.o
 have cd:J.heap[S+1]?=some (.cells zZ 40 (0,0)):=by rw [m.block (S+1) (by have:=aq.o;omega)];exact c6.o
 have dm:J.cell? (zA S 0)=some (zI c):=by rw [cell_of_row J S 0 _ _ _ ax];rfl
 have dp:J.cell? (zA S 1)=some (zI n):=by rw [cell_of_row J S 1 _ _ _ ax];rfl
 have dq:J.cell? (zA S 2)=some (.slice ao z ap):=by rw [cell_of_row J S 2 _ _ _ ax];rfl
 have dr:J.cell? (zA S 3)=some (.slice ah r ai):=by rw [cell_of_row J S 3 _ _ _ ax];rfl
 have df:∀ k,J.frozen? (zA S k)=false:=fun k=>frozen_of_row J S k _ _ ax;obtain ⟨N,aA⟩:=qB (J.setCell ⟨S,2,none⟩ (.slice (some ⟨g,0,none⟩) z O));have cD:N.heap.size=J.heap.size:=by rw [aA];simp [World.setCell]
 have bA:zL w N:=by rw [aA];exact (za cL.o m).setCell (p:=(zA S 2)) (by simp only;omega) _
 have ce:N.heap[S]?=some (.cells (zS c n (zO g 0) z O ah r ai) 40 (0,0)):=by rw [aA,heap_setCell_same J S 2 _ 40 _ ax];rfl
 have cf:N.heap[S+1]?=some (.cells zZ 40 (0,0)):=by rw [aA,heap_setCell_other J (zA S 2) (S+1) _ (by simp)];exact cd
 have dW:S+2<=g/\g<J.heap.size:=by
  have t:=aj.row.lt g rfl;have:=aq.o;omega
 have cl:OwnQs N (S+2) (.slice (zO g 0) z O) W:=by
  have t:=aj;rw [aq.o] at t;refine t.blocks (fun i aJ B b f e=>by have:=aL i (by omega) B b f e;have:=aq.o;omega) fun k bc ak=>?_;rw [aA];exact heap_setCell_other J (zA S 2) k _ (by simp only;omega)
 have b8:=PE N ah r ai (ze b) (by rw [zE,af.o.len]) bn.o.b1 (fun a3 e j u bK=>by
  subst e;by_cases B:0<r
  ·obtain ⟨dj,dk,G,_⟩:=af.o.cells B;injection G with G;subst G;rw [Addr.add_lit];exact (af.o.later bA).list j u bK
  ·have:=af.o.len;have dt:b=[]:=List.length_eq_zero_iff.1 (by omega);rw [dt] at bK;simp [ze] at bK) (y7 b) (fun e=>by
  subst e;by_cases B:0<r
  ·obtain ⟨dj,dk,G,_⟩:=af.o.cells B;cases G
  omega)
 have cY:=zh b8;have bo:=zh cl;have bX:=zh bA;have de:=zh ce;have dg:=zh cf;have bl:=zh aY;have cQ:=zh aX;have bY:=zh aL;have da:=zh aA;have ag:=zh cD;have V:Zh (S+2<=J.heap.size):=by have:=m.size;have:=aq.o;show S+2<=J.heap.size;omega
 clear b8 aj aY aX m aL aA cl bA ce cf ax cd c2 cD;go_wp2_with fail
 rw [<-da.o];refine cY.o.mono ?_;rintro e M ⟨dF,rfl,bv,ad⟩;obtain ⟨C,y,a,rfl,cu,a9,d0,d1,be⟩:∃ C y a,dF=.slice C r y/\(C=none\/C=some ⟨a,0,none⟩)/\(0<r->C=some ⟨a,0,none⟩)/\r<=y/\y<=9223372036854775807/\(∀ b f,C=some ⟨b,f,none⟩->N.heap.size<=b/\b<M.heap.size/\b=a):=by
  rcases bv.2 with ⟨rfl,bt⟩ | ⟨a,aQ,a4,rfl,aT,hg,cw,dx,_,_⟩
  ·exact ⟨none,0,0,by rw [bt],Or.inl rfl,fun B=>by omega,by omega,by omega,fun b f e=>by cases e⟩
  refine ⟨zO a 0,aQ,a,rfl,Or.inr rfl,fun _=>rfl,cw,by simpa [maxLen] using dx,fun b f e=>?_⟩;injection e with e;injection e with aG G;have:=(Array.getElem?_eq_some_iff.1 hg).1;exact ⟨by omega,by omega,aG.symm⟩
 have ay:M.heap[S]?=some (.cells (zS c n (zO g 0) z O ah r ai) 40 (0,0)):=by rw [ad.block S (by have:=ag.o;have:=V.o;omega)];exact de.o
 have cg:M.heap[S+1]?=some (.cells zZ 40 (0,0)):=by rw [ad.block (S+1) (by have:=ag.o;have:=V.o;omega)];exact dg.o
 have dO:M.cell? (zA S 0)=some (zI c):=by rw [cell_of_row M S 0 _ _ _ ay];rfl
 have dP:M.cell? (zA S 1)=some (zI n):=by rw [cell_of_row M S 1 _ _ _ ay];rfl
 have dQ:M.cell? (zA S 2)=some (.slice (zO g 0) z O):=by rw [cell_of_row M S 2 _ _ _ ay];rfl
 have dR:M.cell? (zA S 3)=some (.slice ah r ai):=by rw [cell_of_row M S 3 _ _ _ ay];rfl
 have dS:∀ k,M.frozen? (zA S k)=false:=fun k=>frozen_of_row M S k _ _ ay;obtain ⟨R,ar⟩:=qB (M.setCell ⟨S,3,none⟩ (.slice C r y));have cb:R.heap[S]?=some (.cells (zS c n (zO g 0) z O C r y) 40 (0,0)):=by rw [ar,heap_setCell_same M S 3 _ 40 _ ay];rfl
 have cc:R.heap[S+1]?=some (.cells zZ 40 (0,0)):=by rw [ar,heap_setCell_other M (zA S 3) (S+1) _ (by simp)];exact cg
 have dA:R.heap.size=M.heap.size:=by rw [ar];simp [World.setCell]
 have aW:zL w R:=by rw [ar];exact (za bX.o ad).setCell (p:=(zA S 3)) (by simp only;omega) _
 have ck:OwnQs R (S+2) (.slice (zO g 0) z O) W:=by
  refine bo.o.blocks (fun i aJ B b f e=>by have:=bY.o i (by have:=bl.o;omega) B b f e;have:=aq.o;omega) fun k bc ak=>?_;rw [ar,heap_setCell_other M (zA S 3) k _ (by simp only;omega)];exact ad.block k ak
 have ci:OwnBks R N.heap.size (.slice C r y) b:=by
  have aK:=af.o.len;have cz:M.ownsRow N.heap.size 60 7 (.slice C r y) b.length (ze b):=by rw [<-aK];exact bv
  have bG:∀ k,k<S->R.heap[k]?=w.heap[k]?:=fun k ae=>aW.block k (by omega);refine ⟨?_,fun i aJ=>RunsIn.later (af.o.rqs i (by omega)) aW,fun i aJ=>(af.o.bites i (by omega)).later aW,fun i aJ B I f e G=>?_,fun i aJ B I f e G=>?_⟩
  ·refine ⟨cz.1,?_⟩;rcases cz.2 with bM | ⟨I,aQ,a4,aG,aT,bE,rest⟩
   ·exact .inl bM
   refine .inr ⟨I,aQ,a4,aG,aT,?_,rest⟩;rw [ar,heap_setCell_other M (zA S 3) I _ (by have:=ag.o;have:=V.o;simp only;omega)];exact bE
  ·have t:=RunsIn.lt (af.o.rqs i (by omega)) B e;cases C with
   | none=>cases G
   | some a3 =>
    obtain ⟨b1,bN,bh⟩:=a3;simp only [Value.ownBlock,Option.some.injEq] at G;subst G;have bI:bh=none:=by
     have:=a9 (by omega);injection this with this;injection this
    subst bI;have:=be b1 bN rfl;have:=ag.o;have:=V.o;omega
  have t:=(af.o.bites i (by omega)).lt B e;cases C with
  | none=>cases G
  | some a3 =>
   obtain ⟨b1,bN,bh⟩:=a3;simp only [Value.ownBlock,Option.some.injEq] at G;subst G;have bI:bh=none:=by
    have:=a9 (by omega);injection this with this;injection this
   subst bI;have:=be b1 bN rfl;have:=ag.o;have:=V.o;omega
 have b4:=zh cb;have c8:=zh cc;have aP:=zh ck;have cO:=zh ci;have cU:=zh aW;have dc:=zh ar;have aM:=zh a9;have aw:=zh be;have cW:=zh cu;have aD:Zh (J.heap.size<=R.heap.size):=by have:=ad.size;have:=ag.o;show J.heap.size<=R.heap.size;omega
 have cZ:Zh (∀ b f,C=zO b f->b<R.heap.size):=fun b f e=>by have:=(aw.o b f e).2.1;omega
 clear bv ad a9 be cu ay cg cb cc dA aW ck ci ar dm dp dq dr df;go_wp2_with fail
 rw [<-dc.o];go_loopw [3,4,16] (fun _ _ bO wr=>∃ (i:Nat) (D:BL),bO=zI i/\i<=r/\r=D.length/\zg D=zg b/\OwnBks wr N.heap.size (.slice C r y) D/\(∀ j,i<=j->j<r->bk D j=bk b j)/\(∀ j,j<i->(∀ g f,(bk D j).rq.pa=zO g f->S+2<=g)/\∀ g f,(bk D j).ba=zO g f->S+2<=g)/\(∀ k,k<R.heap.size->k≠a\/r=0->wr.heap[k]?=R.heap[k]?)/\R.heap.size<=wr.heap.size/\zL w wr) (fun _ _ bO _=>r-(intOf bO).toNat)
 case atStart=>exact ⟨0,b,rfl,by omega,af.o.len,rfl,cO.o,fun _ _ _=>rfl,fun j Q=>by omega,fun _ _ _=>rfl,Nat.le_refl _,cU.o⟩
 case round =>
  obtain ⟨i,D,rfl,aJ,aY,aX,cj,bG,cx,cs,d7,cq⟩:=hrel;have av:=zh aY;have bV:=zh aX;have a2:=zh cj;have b2:=zh bG;have aO:=zh cx;have aN:=zh cs;have bj:=zh cq;clear aY aX cj bG cx cs cq;by_cases bF:i<r
  ·have d4:(i:Int)<r:=(by omega);have aZ:i<D.length:=(by have:=av.o;omega);obtain rfl:=aM.o (by omega);have aV:=b2.o i (Nat.le_refl _) bF;have aa:=a2.o.row;rw [<-av.o] at aa;have U:∀ k,k<7->wr.cell? (zA a (i*7+k))=(zx (bk b i))[k]?:=fun k ae=>by rw [aa.cellAt (i*7+k) (by omega),Za D i k aZ ae,aV]
   obtain ⟨X,bw⟩:=qA (bk b i);rw [bw] at U aV;have b6:=zh bw;have ej:wr.cell? (zA a (i*7))=some (zI X.id):=U 0 (by omega);have dH:wr.cell? (zA a (i*7+1))=some (zI X.rq.queue):=U 1 (by omega);have dI:wr.cell? (zA a (i*7+2))=some (zI X.rq.fr):=U 2 (by omega);have dJ:wr.cell? (zA a (i*7+3))=some (zI X.rq.un):=U 3 (by omega);have dK:wr.cell? (zA a (i*7+4))=some (zI X.rq.kind):=U 4 (by omega);have dL:wr.cell? (zA a (i*7+5))=some (.slice X.rq.pa X.rq.pn X.rq.pc):=U 5 (by omega);have cH:wr.cell? (zA a (i*7+6))=some (.slice X.ba X.bn X.bc):=U 6 (by omega);have dX:=(aw.o a 0 rfl);have dY:=cZ.o a 0 rfl;have co:S≠a:=(by have:=ag.o;have:=V.o;omega);have an:wr.heap[S]?=some (.cells (zS c n (zO g 0) z O (zO a 0) r y) 40 (0,0)):=(by rw [aN.o S (by have:=aD.o;have:=V.o;omega) (Or.inl co)];exact b4.o);obtain ⟨x,aU⟩:=qB (wr.alloc (.cells (zB X) 60));obtain ⟨L,cm⟩:=qA (wr.heap.size);have ad:zL wr x:=(by rw [aU];exact zr _ _);have aB:x.heap[L]?=some (.cells (zB X) 60 (0,0)):=(by rw [aU,<-cm];exact heap_alloc_new wr _);have bJ:x.heap.size=L+1:=(by rw [aU,<-cm];simp);have bi:=zh (show x.cell? (zA S 3)=some (.slice (zO a 0) r y) from cell_later ad (by rw [cell_of_row wr S 3 _ _ _ an];rfl));have bP:=zh (show x.cell? (zA L 1)=some (zI X.rq.queue) from by rw [cell_of_row x L 1 _ _ _ aB];rfl);have bQ:=zh (show x.cell? (zA L 2)=some (zI X.rq.fr) from by rw [cell_of_row x L 2 _ _ _ aB];rfl);have bR:=zh (show x.cell? (zA L 3)=some (zI X.rq.un) from by rw [cell_of_row x L 3 _ _ _ aB];rfl);have bS:=zh (show x.cell? (zA L 4)=some (zI X.rq.kind) from by rw [cell_of_row x L 4 _ _ _ aB];rfl);have bT:=zh (show x.cell? (zA L 5)=some (.slice X.rq.pa X.rq.pn X.rq.pc) from by rw [cell_of_row x L 5 _ _ _ aB];rfl);have bZ:=zh (a2.o.later ad);have cM:=zh (za bj.o ad);have b9:=zh fun w' (m:zL x w')=>TA w' X.rq (by
    have t:=bZ.o.rqs i aZ;rw [aV] at t;exact zH.later t m) (by rw [<-b6.o];exact bn.o.ps i bF)
   have dv:a<x.heap.size:=(by omega);have aI:w.heap.size<=a:=(by have:=ag.o;have:=V.o;omega);have bq:=zh aV;have c4:=zh aB;have db:=zh aU;have bp:=zh bJ;have dN:=zh an;have cS:=zh ad;clear aa U bw aV aB aU bJ ad an;go_wp2_with fail
   rw [<-db.o];go_cut [28] (fun _ Y=>∃ di,di=Y/\∃ F H,OwnBks Y N.heap.size (.slice (zO a 0) r y) (D.set i ⟨X.id,⟨X.rq.queue,X.rq.fr,X.rq.un,X.rq.kind,F,X.rq.pn,H,X.rq.ps⟩,X.ba,X.bn,X.bc,X.bs⟩)/\(∀ b f,F=zO b f->x.heap.size<=b)/\(∀ k,k≠a->k<x.heap.size->Y.heap[k]?=x.heap[k]?)/\x.heap.size<=Y.heap.size/\zL w Y)
   case first =>
    refine wN ((Tryz.f88.body.bind fun c=>yi c 6).getD #[]) (by kernel_rfl) [zl (.pointer (zO S 3)),zl (.slice (zO a 0) r y),zl (zI i),zl (.pointer (zO L 1)),zl (.agg (zR X.rq)),⟨fun v br=>∃ F H,v=.agg #[zI X.rq.queue,zI X.rq.fr,zI X.rq.un,zI X.rq.kind,.slice F X.rq.pn H]/\RunsIn br F X.rq.pn H X.rq.ps/\∀ b f,F=zO b f->x.heap.size<=b,fun _ _ _ ⟨F,H,t,aS,bu⟩ m=>⟨F,H,t,aS.later m,bu⟩⟩,zl (.pointer (zO a (i*7))),zl (.pointer (zO a (i*7+1))),zl undef] 8 (by kernel_rfl) (by kernel_rfl) (by kernel_rfl) ?hstep
    case hstep =>
     refine zc.cons 1 rfl ?_ ?_
     ·intro T w' m E A s;rw [if_neg (by decide)];have P:T.getD 1 undef=.pointer (zO S 0):=A 1;exact zs (by go_simp) rfl
     refine zc.cons 2 rfl ?_ ?_
     ·intro T w' m E A s;rw [if_neg (by decide)];have P:T.getD 21 undef=_:=s 0 21;have dl:=cell_later m bi.o;exact zs (by go_simp) rfl
     refine zc.cons 3 rfl ?_ ?_
     ·intro T w' m E A s;rw [if_neg (by decide)];have P:T.getD 3 undef=zI i:=A 3;exact zs (by go_simp) rfl
     refine zc.cons 4 rfl ?_ ?_
     ·intro T w' m E A s;rw [if_neg (by decide)];have P:T.getD 4 undef=.pointer (zO L 0):=A 4;exact zs (by go_simp) rfl
     refine zc.cons 5 rfl ?_ ?_
     ·intro T w' m E A s;rw [if_neg (by decide)];have P:T.getD 24 undef=_:=s 3 24;have dC:=cell_later m bP.o;have dD:=cell_later m bQ.o;have dE:=cell_later m bR.o;have ef:=cell_later m bS.o;have eg:=cell_later m bT.o;exact zs (by go_simp) rfl
     refine zc.cons 6 rfl ?_ ?_
     ·intro T w' m E A s;rw [if_neg (by decide)];have P:T.getD 25 undef=_:=s 4 25;refine Or.inr ⟨89,#[.agg (zR X.rq)],by go_simp,?_⟩;refine (b9.o w' m).mono ?_;rintro e dG ⟨F,H,rfl,au,bC,al⟩;exact ⟨_,rfl,⟨F,H,rfl,au,fun b f e=>by have:=al b f e;have:=m.size;omega⟩,bC⟩
     refine zc.cons 7 rfl ?_ ?_
     ·intro T w' m E A s;rw [if_neg (by decide)];have P:T.getD 22 undef=_:=s 1 22;have t:T.getD 23 undef=_:=s 2 23;exact zs (by go_simp) rfl
     refine zc.cons 8 rfl ?_ ?_
     ·intro T w' m E A s;rw [if_neg (by decide)];have P:T.getD 27 undef=_:=s 6 27;exact zs (by go_simp) rfl
     refine zc.cons 9 rfl ?_ ?_
     ·intro T w' m E A s;rw [if_pos rfl]
      replace E:=E.resolve_right (fun h=>h rfl)
      have t:T.getD 28 undef=_:=s 7 28;obtain ⟨F,H,P,au,al⟩:=s 5 26;have aj:=(bZ.o.later m);have aK:=av.o;have aa:=aj.row;rw [<-aK] at aa;have U:∀ k,k<7->w'.cell? (zA a (i*7+k))=(zx X)[k]?:=fun k ae=>by rw [aa.cellAt (i*7+k) (by omega),Za D i k (by omega) ae,bq.o]
      have dH:w'.cell? (zA a (i*7+1))=some (zI X.rq.queue):=U 1 (by omega);have dI:w'.cell? (zA a (i*7+1+1))=some (zI X.rq.fr):=U 2 (by omega);have dJ:w'.cell? (zA a (i*7+1+2))=some (zI X.rq.un):=U 3 (by omega);have dK:w'.cell? (zA a (i*7+1+3))=some (zI X.rq.kind):=U 4 (by omega);have dL:w'.cell? (zA a (i*7+1+4))=some (.slice X.rq.pa X.rq.pn X.rq.pc):=U 5 (by omega);have cI:∀ k,w'.frozen? (zA a k)=false:=fun k=>aa.frozenAt k;have aC:=aj.storeReq av.o (j:=i) (by omega) (q:=X.rq.queue) (fr:=X.rq.fr) (un:=X.rq.un) (kd:=X.rq.kind) au (fun _ b f e=>by have:=al b f e;have:=dv;omega);rw [bq.o] at aC;have aC:OwnBks (((((w'.setCell (zA a (i*7+1)) (zI X.rq.queue)).setCell (zA a (i*7+1+1)) (zI X.rq.fr)).setCell (zA a (i*7+1+2)) (zI X.rq.un)).setCell (zA a (i*7+1+3)) (zI X.rq.kind)).setCell (zA a (i*7+1+4)) (.slice F X.rq.pn H)) N.heap.size (.slice (zO a 0) r y) (D.set i ⟨X.id,⟨X.rq.queue,X.rq.fr,X.rq.un,X.rq.kind,F,X.rq.pn,H,X.rq.ps⟩,X.ba,X.bn,X.bc,X.bs⟩):=aC;clear U aa aj;have bf:∀ k,k≠a->k<x.heap.size->(((((w'.setCell (zA a (i*7+1)) (zI X.rq.queue)).setCell (zA a (i*7+1+1)) (zI X.rq.fr)).setCell (zA a (i*7+1+2)) (zI X.rq.un)).setCell (zA a (i*7+1+3)) (zI X.rq.kind)).setCell (zA a (i*7+1+4)) (.slice F X.rq.pn H)).heap[k]?=x.heap[k]?:=fun k ae ak=>by
       rw [heap_setCell_other _ (zA a (i*7+1+4)) k _ ae,heap_setCell_other _ (zA a (i*7+1+3)) k _ ae,heap_setCell_other _ (zA a (i*7+1+2)) k _ ae,heap_setCell_other _ (zA a (i*7+1+1)) k _ ae,heap_setCell_other _ (zA a (i*7+1)) k _ ae];exact m.block k ak
      have ba:zL w (((((w'.setCell (zA a (i*7+1)) (zI X.rq.queue)).setCell (zA a (i*7+1+1)) (zI X.rq.fr)).setCell (zA a (i*7+1+2)) (zI X.rq.un)).setCell (zA a (i*7+1+3)) (zI X.rq.kind)).setCell (zA a (i*7+1+4)) (.slice F X.rq.pn H)):=(((((za cM.o m).setCell (p:=(zA a (i*7+1))) aI _).setCell (p:=(zA a (i*7+1+1))) aI _).setCell (p:=(zA a (i*7+1+2))) aI _).setCell (p:=(zA a (i*7+1+3))) aI _).setCell (p:=(zA a (i*7+1+4))) aI _;refine ⟨(((((w'.setCell (zA a (i*7+1)) (zI X.rq.queue)).setCell (zA a (i*7+1+1)) (zI X.rq.fr)).setCell (zA a (i*7+1+2)) (zI X.rq.un)).setCell (zA a (i*7+1+3)) (zI X.rq.kind)).setCell (zA a (i*7+1+4)) (.slice F X.rq.pn H)),by go_simp,?_⟩;show _;rw [yb (tt 21 [false,false,false,false,false,false,false,false] 10) (by kernel_rfl) E @A];obtain ⟨us,a1⟩:∃ us:Nat->Value,(fun d=>T.getD d undef)=us:=⟨_,rfl⟩;rw [a1];clear a1 A E s;apply_assumption;simp only [xj,tt,List.replicate,List.cons_append,List.nil_append];go_meet;refine ⟨_,rfl,F,H,aC,al,bf,?_,ba⟩;have:=m.size;simp only [World.setCell,Array.size_modify];omega
     exact trivial
   obtain ⟨Y,rfl,F,H,a6,cy,bb,cE,cr⟩:=hcut;have bz:(D.set i ⟨X.id,⟨X.rq.queue,X.rq.fr,X.rq.un,X.rq.kind,F,X.rq.pn,H,X.rq.ps⟩,X.ba,X.bn,X.bc,X.bs⟩).length=D.length:=List.length_set;have a8:bk (D.set i ⟨X.id,⟨X.rq.queue,X.rq.fr,X.rq.un,X.rq.kind,F,X.rq.pn,H,X.rq.ps⟩,X.ba,X.bn,X.bc,X.bs⟩) i=⟨X.id,⟨X.rq.queue,X.rq.fr,X.rq.un,X.rq.kind,F,X.rq.pn,H,X.rq.ps⟩,X.ba,X.bn,X.bc,X.bs⟩:=(by rw [YQ _ aZ,if_pos rfl]);have bH:∀ j,j≠i->bk (D.set i ⟨X.id,⟨X.rq.queue,X.rq.fr,X.rq.un,X.rq.kind,F,X.rq.pn,H,X.rq.ps⟩,X.ba,X.bn,X.bc,X.bs⟩) j=bk D j:=fun j Q=>by rw [YQ _ aZ,if_neg Q]
   have bB:zg (D.set i ⟨X.id,⟨X.rq.queue,X.rq.fr,X.rq.un,X.rq.kind,F,X.rq.pn,H,X.rq.ps⟩,X.ba,X.bn,X.bc,X.bs⟩)=zg b:=(by rw [QR aZ (by rw [bq.o];rfl)];exact bV.o);obtain ⟨aF,cp⟩:=qA (D.set i ⟨X.id,⟨X.rq.queue,X.rq.fr,X.rq.un,X.rq.kind,F,X.rq.pn,H,X.rq.ps⟩,X.ba,X.bn,X.bc,X.bs⟩);rw [cp] at a6 bz a8 bH bB;have dw:a<Y.heap.size:=(by omega);have bd:i<aF.length:=(by omega);have cJ:=zh (show Y.cell? (zA S 3)=some (.slice (zO a 0) r y) from (World.cell?_of_block (w:=x) (bb S co (by have:=bp.o;have:=aD.o;have:=V.o;omega))).trans bi.o);have cK:=zh (show Y.cell? (zA L 6)=some (.slice X.ba X.bn X.bc) from (World.cell?_of_block (w:=x) (bb L (by omega) (by have:=bp.o;omega))).trans (by rw [cell_of_row x L 6 _ _ _ c4.o];rfl));have dh:=zh fun w' (m:zL Y w')=>Sw w' X.ba X.bn X.bc X.bs (by
    have t:=a6.bites i bd;rw [a8] at t;exact t.later m) (by rw [<-b6.o];exact bn.o.bs i bF)
   have c3:=zh a6;have bm:Zh (r=aF.length):=(by show r=aF.length;rw [bz];exact av.o);have b5:=zh a8;have b3:=zh bH;have cR:=zh bB;have cP:=zh cr;have cT:=zh bb;have c0:=zh cy;have c7:=zh cE;clear a6 cy bb cE cr bz a8 bH bB cp bi bP bQ bR bS bT b9;go_wp2_with fail
   refine wN ((Tryz.f88.body.bind fun c=>yi c 7).getD #[]) (by kernel_rfl) [zl (.pointer (zO S 3)),zl (.slice (zO a 0) r y),zl (zI i),zl (.pointer (zO L 6)),zl (.slice X.ba X.bn X.bc),⟨fun v br=>∃ Z ab,v=.slice Z X.bn ab/\RunsIn br Z X.bn ab X.bs/\∀ b f,Z=zO b f->Y.heap.size<=b,fun _ _ _ ⟨Z,ab,t,aS,bu⟩ m=>⟨Z,ab,t,aS.later m,bu⟩⟩,zl (.pointer (zO a (i*7))),zl (.pointer (zO a (i*7+6))),zl undef] 8 (by kernel_rfl) (by kernel_rfl) (by kernel_rfl) ?hstep
   case hstep =>
    refine zc.cons 1 rfl ?_ ?_
    ·intro T w' m E A s;rw [if_neg (by decide)];have P:T.getD 1 undef=.pointer (zO S 0):=A 1;exact zs (by go_simp) rfl
    refine zc.cons 2 rfl ?_ ?_
    ·intro T w' m E A s;rw [if_neg (by decide)];have P:T.getD 29 undef=_:=s 0 29;have dl:=cell_later m cJ.o;exact zs (by go_simp) rfl
    refine zc.cons 3 rfl ?_ ?_
    ·intro T w' m E A s;rw [if_neg (by decide)];have P:T.getD 3 undef=zI i:=A 3;exact zs (by go_simp) rfl
    refine zc.cons 4 rfl ?_ ?_
    ·intro T w' m E A s;rw [if_neg (by decide)];have P:T.getD 4 undef=.pointer (zO L 0):=A 4;exact zs (by go_simp) rfl
    refine zc.cons 5 rfl ?_ ?_
    ·intro T w' m E A s;rw [if_neg (by decide)];have P:T.getD 32 undef=_:=s 3 32;have eh:=cell_later m cK.o;exact zs (by go_simp) rfl
    refine zc.cons 6 rfl ?_ ?_
    ·intro T w' m E A s;rw [if_neg (by decide)];have P:T.getD 33 undef=_:=s 4 33;refine Or.inr ⟨141,#[.slice X.ba X.bn X.bc],by go_simp,?_⟩;refine (dh.o w' m).mono ?_;rintro e dG ⟨Z,ab,rfl,au,bC,al⟩;exact ⟨_,rfl,⟨Z,ab,rfl,au,fun b f e=>by have:=al b f e;have:=m.size;omega⟩,bC⟩
    refine zc.cons 7 rfl ?_ ?_
    ·intro T w' m E A s;rw [if_neg (by decide)];have P:T.getD 30 undef=_:=s 1 30;have t:T.getD 31 undef=_:=s 2 31;exact zs (by go_simp) rfl
    refine zc.cons 8 rfl ?_ ?_
    ·intro T w' m E A s;rw [if_neg (by decide)];have P:T.getD 35 undef=_:=s 6 35;exact zs (by go_simp) rfl
    refine zc.cons 9 rfl ?_ ?_
    ·intro T w' m E A s;rw [if_pos rfl]
     replace E:=E.resolve_right (fun h=>h rfl)
     have t:T.getD 36 undef=_:=s 7 36;obtain ⟨Z,ab,P,au,al⟩:=s 5 34;have aj:=(c3.o.later m);have aK:=bm.o;have aa:=aj.row;rw [<-aK] at aa;have cH:w'.cell? (zA a (i*7+6))=some (.slice X.ba X.bn X.bc):=(by rw [aa.cellAt (i*7+6) (by omega),Za aF i 6 (by omega) (by omega),b5.o];rfl);have cI:∀ k,w'.frozen? (zA a k)=false:=fun k=>aa.frozenAt k;have aC:=aj.storeBites bm.o (j:=i) (by omega) au (fun _ b f e=>by have:=al b f e;have:=dw;omega);have bf:∀ k,k≠a->k<Y.heap.size->(w'.setCell (zA a (i*7+6)) (.slice Z X.bn ab)).heap[k]?=Y.heap[k]?:=fun k ae ak=>by
      rw [heap_setCell_other _ (zA a (i*7+6)) k _ ae];exact m.block k ak
     have ba:zL w (w'.setCell (zA a (i*7+6)) (.slice Z X.bn ab)):=(za cP.o m).setCell (p:=(zA a (i*7+6))) aI _;clear aa aj;refine ⟨w'.setCell (zA a (i*7+6)) (.slice Z X.bn ab),by go_simp,?_⟩;show _;rw [yb (tt 29 [false,false,false,false,false,false,false,false] 2) (by kernel_rfl) E @A];obtain ⟨us,a1⟩:∃ us:Nat->Value,(fun d=>T.getD d undef)=us:=⟨_,rfl⟩;rw [a1];clear a1 A E s;simp only [xj,tt,List.replicate,List.cons_append,List.nil_append];have b0:=zh aC;have c1:=zh al;have bW:=zh bf;have bU:=zh ba;have dB:Y.heap.size<=(w'.setCell (zA a (i*7+6)) (.slice Z X.bn ab)).heap.size:=(by have:=m.size;simp only [World.setCell,Array.size_modify];omega);obtain ⟨cG,cF⟩:=qA (w'.setCell ⟨a,i*7+6,none⟩ (.slice Z X.bn ab));rw [cF] at b0 bW bU dB ⊢;clear aC al bf ba cF cH cI au m P t aK;go_wp2;go_roundw
     case rel =>
      first | refine ⟨_,_,_,_,_,_,_,_,_,_,_,_,_,_,_,_,_,_,_,_,_,_,_,_,?_,rfl⟩ | skip
      have ch:=b5.o;have d6:=c7.o;have bJ:=bp.o;have d5:=bj.o.size;have d2:=aD.o;have d3:=V.o;refine ⟨i+1,_,by go_num,by omega,by rw [List.length_set];exact bm.o,?_,b0.o,fun j t aS=>?_,fun j Q=>?_,fun k bc ak=>?_,by omega,bU.o⟩
      ·rw [QR bd (by rw [ch];rfl)];exact cR.o
      ·rw [YQ _ bd,if_neg (by omega),b3.o j (by omega)];exact b2.o j (by omega) aS
      ·rw [YQ _ bd]
       split
       ·refine ⟨fun g f e=>?_,fun g f e=>?_⟩
        ·rw [ch] at e;have:=c0.o g f e;omega
        have:=c1.o g f e;omega
       rw [b3.o j (by omega)];exact aO.o j (by omega)
      have cv:k≠a:=ak.resolve_right (by omega);rw [bW.o k cv (by omega),cT.o k cv (by omega),cS.o.block k (by omega)];exact aN.o k bc ak
     case measure=>simp [intOf];omega
    exact trivial
  obtain rfl:i=r:=by omega
  have an:wr.heap[S]?=some (.cells (zS c n (zO g 0) z O C i y) 40 (0,0)):=by
   rw [aN.o S (by have:=aD.o;have:=V.o;omega) (by
    by_cases e:i=0
    ·exact Or.inr e
    have t:=aw.o a 0 (aM.o (by omega));have:=ag.o;have:=V.o
    left
    omega)]
   exact b4.o
  have az:wr.heap[S+1]?=some (.cells zZ 40 (0,0)):=by
   rw [aN.o (S+1) (by have:=aD.o;have:=V.o;omega) (by
    by_cases e:i=0
    ·exact Or.inr e
    have t:=aw.o a 0 (aM.o (by omega));have:=ag.o;have:=V.o
    left
    omega)]
   exact c8.o
  have eb:wr.cell? (zA S 0)=some (zI c):=by rw [cell_of_row wr S 0 _ _ _ an];rfl
  have bh:wr.cell? (zA S 1)=some (zI n):=by rw [cell_of_row wr S 1 _ _ _ an];rfl
  have ec:wr.cell? (zA S 2)=some (.slice (zO g 0) z O):=by rw [cell_of_row wr S 2 _ _ _ an];rfl
  have ed:wr.cell? (zA S 3)=some (.slice C i y):=by rw [cell_of_row wr S 3 _ _ _ an];rfl
  have ee:wr.cell? (zA (S+1) 0)=some (zI 0):=by rw [cell_of_row wr (S+1) 0 _ _ _ az];rfl
  have dC:wr.cell? (zA (S+1) 1)=some (zI 0):=by rw [cell_of_row wr (S+1) 1 _ _ _ az];rfl
  have dD:wr.cell? (zA (S+1) 2)=some zN:=by rw [cell_of_row wr (S+1) 2 _ _ _ az];rfl
  have dE:wr.cell? (zA (S+1) 3)=some zN:=by rw [cell_of_row wr (S+1) 3 _ _ _ az];rfl
  have ei:∀ k,wr.frozen? (zA (S+1) k)=false:=fun k=>frozen_of_row wr (S+1) k _ _ az;have c5:=zh az;clear an az;go_wp2_with fail
  have bg:=zk wr (S+1) 40 _ _ _ _ (zI c) (zI n) (.slice (zO g 0) z O) (.slice C i y) c5.o;have a5:w.heap.size<=S+1:=by omega
  refine bodyPost_ret (v:=.agg (zS c n (zO g 0) z O C i y)) (results_cell_row Tryz.results88 _ _ (S+1) 40 (zS c n (zO g 0) z O C i y) (0,0) _ rfl bg.1 Tryz.underlying40 rfl (by kernel_rfl)) rfl ⟨g,O,W,C,y,D,rfl,?_,bl.o,av.o,cQ.o,bV.o,?_⟩
  ·have d8:=ag.o;have ea:=V.o;have d9:=aD.o;have dT:∀ aR,(Value.slice C i y).ownBlock=some aR->aR=a/\N.heap.size<=a/\0<i\/i=0:=fun aR e=>by
    by_cases bt:i=0
    ·exact Or.inr bt
    have t:=aM.o (by omega);rw [t] at e;simp only [Value.ownBlock,Option.some.injEq] at e;exact Or.inl ⟨e.symm,(aw.o a 0 t).1,by omega⟩
   obtain ⟨aE,ds⟩:=qB (((((wr.setCell ⟨S+1,0,none⟩ (zI c)).setCell ⟨S+1,1,none⟩ (zI n)).setCell ⟨S+1,2,none⟩ (.slice (some ⟨g,0,none⟩) z O)).setCell ⟨S+1,3,none⟩ (.slice C i y)));rw [<-ds] at bg ⊢;have dV:=bl.o;have dU:=av.o;have aL:∀ j,j<W.length->0<(qu W j).cn->∀ b f,(qu W j).ca=zO b f->S+2<=b:=fun j Q B b f e=>by have:=bY.o j (by omega) B b f e;have:=aq.o;omega
   have dz:=bo.o.row.lt g rfl;have ct:∀ j,j<W.length->0<(qu W j).cn->∀ b f,(qu W j).ca=zO b f->b<N.heap.size:=fun j Q B b f e=>(bo.o.caps j Q).lt B e;have cB:∀ k,S+2<=k->k<N.heap.size->aE.heap[k]?=R.heap[k]?:=fun k bc ak=>by
    rw [bg.2 k (by omega),aN.o k (by omega) (by
     by_cases e:i=0
     ·exact Or.inr e
     have t:=aw.o a 0 (aM.o (by omega))
     left
     omega)]
   have dy:OwnQs aE (S+2) (.slice (zO g 0) z O) W:=by
    refine ⟨⟨aP.o.row.1,?_⟩,fun j Q=>(aP.o.caps j Q).of_away fun B b f e=>cB b (aL j Q B b f e) (ct j Q B b f e),aP.o.far,aP.o.names⟩;rcases aP.o.row.2 with ⟨bM,_⟩ | ⟨I,aQ,a4,aG,aT,bE,rest⟩
    ·cases bM
    have G:=aG;injection G with G;injection G with G;injection G with G;subst G;exact .inr ⟨g,aQ,a4,aG,aT,(cB g aT dz.2).trans bE,rest⟩
   have bL:∀ k,k≠S+1->aE.heap[k]?=wr.heap[k]?:=bg.2;have du:OwnBks aE N.heap.size (.slice C i y) D:=by
    refine a2.o.blocks (fun I e=>bL I ?_) (fun j Q B I f e=>bL I ?_) (fun j Q B I f e=>bL I ?_)
    ·have:=a2.o.row.lt I e;omega
    ·have:=(aO.o j (by omega)).1 I f e;omega
    have:=(aO.o j (by omega)).2 I f e;omega
   refine ⟨dy.base (by omega),du.base (by have:=bX.o.size;omega),fun aR e=>?_,fun j Q B I f e=>?_,fun j Q B I f e=>?_,fun j Q B I f e=>?_⟩
   ·have dZ:aR=a/\N.heap.size<=a:=by
     rcases cW.o with t | t
     ·rw [t] at e;cases e
     ·rw [t] at e;simp only [Value.ownBlock,Option.some.injEq] at e;exact ⟨e.symm,(aw.o a 0 t).1⟩
    refine ⟨xc.2 (by omega),fun j Q B I f G=>?_⟩;have:=ct j Q B I f G;omega
   ·have:=aL j Q B I f e;omega
   ·have:=(aO.o j (by omega)).1 I f e;omega
   have:=(aO.o j (by omega)).2 I f e;omega
  exact ((((bj.o.setCell (p:=(zA (S+1) 0)) a5 _).setCell (p:=(zA (S+1) 1)) a5 _).setCell (p:=(zA (S+1) 2)) a5 _).setCell (p:=(zA (S+1) 3)) a5 _)
end Go.Proofs.YtckpdfkobdgjeaaGreatDoor
