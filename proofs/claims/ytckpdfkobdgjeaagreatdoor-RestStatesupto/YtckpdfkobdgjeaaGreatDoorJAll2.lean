/- Several texts in one: FreshB, PlanA, AnyC, FreshC, AnyS. -/
import Derived.Test.YtckpdfkobdgjeaaGreatDoorJAll1
import Derived.Test.YtckpdfkobdgjeaaGreatDoorJPlaceAll
import Derived.Test.YtckpdfkobdgjeaaGreatDoorJAll0
import Derived.Test.YtckpdfkobdgjeaaGreatDoorJAny
import Derived.Deep.DeepCutAuto
namespace Go.Proofs.YtckpdfkobdgjeaaGreatDoor
set_option maxRecDepth 100000
set_option maxHeartbeats 2000000
open Go.RowKit
set_option linter.unusedSectionVars false
variable [Inhabited Mk]
theorem RunsIn.set_away {w:World} {a:Option Addr} {n d:Nat} {l:zd} (h:RunsIn w a n d l) (p:Addr) (u:Value) (f:0<n->∀ b c,a=zO b c->b≠p.block):RunsIn (w.setCell p u) a n d l :=
 h.of_away fun g b c e=>heap_setCell_other w p b u (f g b c e)
theorem RunsIn.old {w:World} {a:Option Addr} {n c:Nat} {l:zd} (h:RunsIn w a n c l) (d:0<n):∀ b f,a=zO b f->b<w.heap.size:=fun _ _ e=>h.lt d e
theorem Nk (w:World) (f:Nat) (t:TypeId) (o p q r s a b c d e:Value) (h:w.heap[f]?=some (.cells #[o,p,q,r,s] t (0,0))) :
 (((((w.setCell (zA f 0) a).setCell (zA f 1) b).setCell (zA f 2) c).setCell (zA f 3) d).setCell (zA f 4) e).heap[f]?=some (.cells #[a,b,c,d,e] t (0,0)) /\
 ∀ k,k≠f->(((((w.setCell (zA f 0) a).setCell (zA f 1) b).setCell (zA f 2) c).setCell (zA f 3) d).setCell (zA f 4) e).heap[k]?=w.heap[k]?:=by
 have i:=heap_setCell_same w f 0 _ t a h;have j:=heap_setCell_same _ f 1 _ t b i;have l:=heap_setCell_same _ f 2 _ t c j;have m:=heap_setCell_same _ f 3 _ t d l;have n:=heap_setCell_same _ f 4 _ t e m;refine ⟨n,fun k g=>?_⟩;rw [heap_setCell_other _ (zA f 4) k _ g,heap_setCell_other _ (zA f 3) k _ g,heap_setCell_other _ (zA f 2) k _ g,heap_setCell_other _ (zA f 1) k _ g,heap_setCell_other _ (zA f 0) k _ g]
theorem T2:∀ (l:QL) (j:Nat) (a:Option Addr) (n c:Nat) (rs:zd),j<l.length->yE (l.set j ⟨(qu l j).name,(qu l j).parent,a,n,c,rs⟩)=(yE l).set (j*3+2) (.slice a n c)
 | [],j,a,n,c,rs,h=>by simp at h
 | x::l,0,a,n,c,rs,_=>rfl
 | x::l,j+1,a,n,c,rs,h=>by
  have b:=T2 l j a n c rs (by simpa using h);rw [List.set_cons_succ,yE,yE,show (j+1)*3+2=j*3+2+1+1+1 from by omega];show wH x++yE (l.set j ⟨(qu l j).name,(qu l j).parent,a,n,c,rs⟩)=_;rw [b];rfl
theorem Vg {l:QL} {j:Nat} (q:Qu) (a:j<l.length) (i:Nat):qu (l.set j q) i=if i=j then q else qu l i:=by
 unfold qu;rw [List.getD_eq_getElem?_getD,List.getD_eq_getElem?_getD,List.getElem?_set];by_cases e:j=i
 ·subst e;simp [a]
 rw [if_neg e,if_neg (Ne.symm e)]
theorem Kl {l:QL} {j:Nat} {q:Qu} (a:j<l.length) (c:q.bare=(qu l j).bare):zi (l.set j q)=zi l:=by
 apply List.ext_getElem?;intro i;unfold zi;rw [List.getElem?_map,List.getElem?_map,List.getElem?_set];by_cases e:j=i
 ·subst e;rw [if_pos rfl,if_pos a];have b:l[j]?=some (qu l j):=by rw [List.getElem?_eq_getElem a];simp [qu,List.getD,a]
  rw [b];simp [c]
 rw [if_neg e]
structure OwnQs (w:World) (B:Nat) (v:Value) (l:QL):Prop where
 row:w.ownsRow B 66 3 v l.length (yE l)
 caps:∀ i,i<l.length->RunsIn w (qu l i).ca (qu l i).cn (qu l i).cc (qu l i).runs
 far:∀ i,i<l.length->0<(qu l i).cn->∀ b off,(qu l i).ca=zO b off->v.ownBlock≠some b
 names:∀ i,i<l.length->(qu l i).name.size<=9223372036854775807
theorem OwnQs.later {w w':World} {B:Nat} {v:Value} {l:QL} (h:OwnQs w B v l) (a:Below w.heap.size w w'):OwnQs w' B v l :=
 ⟨zT h.row a,fun i b=>(h.caps i b).later a,h.far,h.names⟩
theorem OwnQs.qs {w:World} {B:Nat} {v:Value} {l:QL} (h:OwnQs w B v l):∃ a c,v=.slice a l.length c/\QsIn w a l.length c l/\∀ b d,a=zO b d->B<=b/\d=0:=Fr h.row h.caps h.names
theorem OwnQs.store {w:World} {B g n c:Nat} {l:QL} (h:OwnQs w B (.slice (zO g 0) n c) l) (hn:n=l.length) {j:Nat} (f:j<l.length) {a:Option Addr} {m k:Nat} {rs:zd} (t:RunsIn w a m k rs) (r:0<m->∀ b o,a=zO b o->b≠g) :
 OwnQs (w.setCell (zA g (j*3+2)) (.slice a m k)) B (.slice (zO g 0) n c) (l.set j ⟨(qu l j).name,(qu l j).parent,a,m,k,rs⟩):=by
 subst hn;have p:(l.set j ⟨(qu l j).name,(qu l j).parent,a,m,k,rs⟩).length=l.length:=List.length_set;refine ⟨?_,fun i d=>?_,fun i d=>?_,fun i d=>?_⟩
 ·rw [p,T2 l j a m k rs f];exact (h.row.stored (j*3+2) (.slice a m k)).1
 ·rw [p] at d;rw [Vg _ f]
  split
  ·exact t.set_away _ _ r
  exact (h.caps i d).set_away _ _ fun q b o e s=>h.far i d q b o e (by rw [s];rfl)
 ·rw [p] at d;rw [Vg _ f]
  split
  ·intro q b o e;have:=r q b o e;simpa [Value.ownBlock] using Ne.symm this
  exact h.far i d
 ·rw [p] at d;rw [Vg _ f]
  split
  ·exact h.names j f
  exact h.names i d
theorem SO (w:World) (a:Option Addr) (n C:Nat) (l:QL) (h:QsIn w a n C l) (az:0<n) (hn:n<=1000) (X:∀ i,i<n->(qu l i).cn<=1000) :
 zC 79 #[.slice a n C] w fun e w'=>∃ g d c,e=.returned (.slice (zO g 0) n d)/\OwnQs w' w.heap.size (.slice (zO g 0) n d) c/\n=c.length/\zi c=zi l/\Below w.heap.size w w'/\n<=d/\∀ i,i<n->0<(qu c i).cn->∀ b f,(qu c i).ca=zO b f->w.heap.size<=b:=by
 obtain ⟨aC,aD,rfl,_⟩:=h.cells az;have I:=zh h.len;have A:=zh h;have H:=zh (OE w (zO aC aD) n C (yE l) (by rw [Xp,h.len]) hn (fun aG e j u aB=>by injection e with e;subst e;exact h.list j u aB) (Vf l) (fun e=>by cases e));have ak:=zh X;clear h X;go_enter Tryz.func79,Tryz.ntmps79;go_wp2_with fail
 refine H.o.mono ?_;rintro e ag ⟨v,rfl,D,E⟩;rcases D.2 with ⟨_,aI⟩ | ⟨g,d,aH,rfl,aq,hg,ax,aa,_,_⟩
 ·omega
 have aL:d<=9223372036854775807:=by simpa [maxLen] using aa
 have av:g<ag.heap.size:=(Array.getElem?_eq_some_iff.1 hg).1;have R:OwnQs ag w.heap.size (.slice (zO g 0) n d) l:=by
  have ay:=I.o;subst ay;refine ⟨D,fun i x=>(A.o.caps i x).later E,fun i x aA b f e=>?_,A.o.names⟩;have:=(A.o.caps i x).lt aA e;intro ao;simp only [Value.ownBlock,Option.some.injEq] at ao;omega
 have am:=zh R;have aj:=zh E;clear D E R hg aa H;go_wp2_with fail
 go_loopw [4,9] (fun _ F wr=>∃ (i:Nat) (c:QL),F=zI i/\i<=n/\n=c.length/\zi c=zi l/\OwnQs wr w.heap.size (.slice (zO g 0) n d) c/\(∀ j,i<=j->j<n->qu c j=qu l j)/\(∀ j,j<i->0<(qu c j).cn->∀ b f,(qu c j).ca=zO b f->w.heap.size<=b)/\zL w wr/\g<wr.heap.size) (fun _ F _=>n-(intOf F).toNat)
 case atStart=>exact ⟨0,l,rfl,by omega,I.o,rfl,am.o,fun _ _ _=>rfl,fun j aw=>by omega,aj.o,av⟩
 case round =>
  obtain ⟨i,c,rfl,x,Y,V,Q,ae,ab,W,au⟩:=hrel;have k:=zh Y;have G:=zh V;have q:=zh Q;have M:=zh ae;have J:=zh ab;have z:=zh W;clear Y V Q ae ab W;by_cases Z:i<n
  ·have aM:(i:Int)<n:=(by omega);have m:i<c.length:=(by have:=k.o;omega);have s:=M.o i (Nat.le_refl _) Z;have c2:wr.cell? (zA g (i*3+2))=some (.slice (qu l i).ca (qu l i).cn (qu l i).cc):=by
    rw [<-s];have r:=q.o.row;rw [<-k.o] at r;rw [r.cellAt (i*3+2) (by omega),Ys c i 2 m (by omega)];rfl
   have P:wr.frozen? (zA g (i*3+2))=false:=by
    have r:=q.o.row;rw [<-k.o] at r;exact r.frozenAt _
   have af:RunsIn wr (qu l i).ca (qu l i).cn (qu l i).cc (qu l i).runs:=(by rw [<-s];exact q.o.caps i m);have B:=Qi wr (qu l i).ca (qu l i).cn (qu l i).cc (qu l i).runs af (ak.o i Z);have N:=zh s;obtain ⟨O,S⟩:=qA (qu l i);rw [S] at B c2 N;have al:=zh B;have ai:=zh P;have ah:=zh c2;clear B S s af;go_wp2_with fail
   refine al.o.mono ?_;rintro e aE ⟨aF,aN,rfl,U,t,ad⟩;have c3:=cell_later t ah.o;have aJ:aE.frozen? (zA g (i*3+2))=false:=(by rw [t.frozen (p:=(zA g (i*3+2))) au];exact ai.o);have an:=zh U;have y:=zh t;have L:=zh ad;clear U t ad c2 P;go_wp2;go_roundw
   case rel =>
    have ar:=(q.o.later y.o).store k.o m an.o (fun _ b f e=>by have:=L.o b f e;omega);refine ⟨i+1,_,by go_num,by omega,by rw [List.length_set];exact k.o,?_,ar,fun j aK ap=>?_,fun j aw=>?_,?_,?_⟩
    ·rw [Kl m (by rw [N.o];rfl)];exact G.o
    ·rw [Vg _ m,if_neg (by omega)];exact M.o j (by omega) ap
    ·rw [Vg _ m]
     split
     ·intro _ b f e;have:=L.o b f e;have:=z.o.size;omega
     exact J.o j (by omega)
    ·exact (za z.o y.o).setCell (p:=(zA g (i*3+2))) aq _
    have:=y.o.size;simp only [World.setCell,Array.size_modify];omega
   case measure=>simp [intOf];omega
  obtain rfl:i=n:=by omega
  go_wp2;go_ret;exact ⟨g,d,c,rfl,q.o,k.o,G.o,z.o,ax,J.o⟩
theorem TA (w:World) (r:Rq) (h:zH w r) (hn:r.pn<=1000) :
 zC 89 #[.agg #[zI r.queue,zI r.fr,zI r.un,zI r.kind,.slice r.pa r.pn r.pc]] w fun e w'=>∃ c z,e=.returned (.agg #[zI r.queue,zI r.fr,zI r.un,zI r.kind,.slice c r.pn z])/\RunsIn w' c r.pn z r.ps/\Below w.heap.size w w'/\∀ b s,c=zO b s->w.heap.size<=b:=by
 obtain ⟨i,j⟩:=qB ((w.alloc (.cells (zR r) 24)).alloc (.cells #[zI 0,zI 0,zI 0,zI 0,zN] 24));have t:zL w i:=by rw [j];exact (zr _ _).alloc (by simp) _
 have y:=Sd i r.pa r.pn r.pc r.ps (zH.later h t) hn;have C:i.heap[w.heap.size]?=some (.cells (zR r) 24 (0,0)):=by rw [j];exact (Below.heap_alloc _ _ _ (by simp)).trans (heap_alloc_new w _)
 have F:i.heap[w.heap.size+1]?=some (.cells #[zI 0,zI 0,zI 0,zI 0,zN] 24 (0,0)):=by
  have:=heap_alloc_new (w.alloc (.cells (zR r) 24)) (.cells #[zI 0,zI 0,zI 0,zI 0,zN] 24);rw [World.size_alloc] at this;rw [j];exact this
 have G:i.heap.size=w.heap.size+2:=by rw [j];simp
 have L:=zh y;have O:=zh j;have H:=zh t;have J:=zh C;have N:=zh F;have l:=zh G;clear y j t C F G h;go_enter Tryz.func89,Tryz.ntmps89;go_wp2_with fail
 rw [<-O.o];refine L.o.mono ?_;rintro e a ⟨c,q,rfl,B,n,D⟩;obtain ⟨g,hg⟩:=qA (w.heap.size);have f:a.heap[g]?=some (.cells (zR r) 24 (0,0)):=by rw [<-hg,n.block _ (by have:=l.o;omega)];exact J.o
 have d:a.heap[g+1]?=some (.cells #[zI 0,zI 0,zI 0,zI 0,zN] 24 (0,0)):=by rw [<-hg,n.block _ (by have:=l.o;omega)];exact N.o
 have ag:g+1<a.heap.size:=by have:=n.size;have:=l.o;omega
 have c4:a.cell? (zA g 4)=some (.slice r.pa r.pn r.pc):=by rw [cell_of_row a g 4 _ _ _ f];rfl
 have ae:a.frozen? (zA g 4)=false:=frozen_of_row a g 4 _ _ f;have U:a.cell? (zA g 0)=some (zI r.queue):=by rw [cell_of_row a g 0 _ _ _ f];rfl
 have V:a.cell? (zA g 1)=some (zI r.fr):=by rw [cell_of_row a g 1 _ _ _ f];rfl
 have W:a.cell? (zA g 2)=some (zI r.un):=by rw [cell_of_row a g 2 _ _ _ f];rfl
 have X:a.cell? (zA g 3)=some (zI r.kind):=by rw [cell_of_row a g 3 _ _ _ f];rfl
 have Y:a.cell? (zA (g+1) 0)=some (zI 0):=by rw [cell_of_row a (g+1) 0 _ _ _ d];rfl
 have Z:a.cell? (zA (g+1) 1)=some (zI 0):=by rw [cell_of_row a (g+1) 1 _ _ _ d];rfl
 have aa:a.cell? (zA (g+1) 2)=some (zI 0):=by rw [cell_of_row a (g+1) 2 _ _ _ d];rfl
 have ab:a.cell? (zA (g+1) 3)=some (zI 0):=by rw [cell_of_row a (g+1) 3 _ _ _ d];rfl
 have ad:a.cell? (zA (g+1) 4)=some zN:=by rw [cell_of_row a (g+1) 4 _ _ _ d];rfl
 have af:∀ k,a.frozen? (zA (g+1) k)=false:=fun k=>frozen_of_row a (g+1) k _ _ d;have M:=zh B;have I:=zh n;have x:=zh D;have u:=zh hg;have P:=zh d;rw [hg];clear B n D hg f d;go_wp2_with fail
 have Q:=P.o;have E:=Nk (a.setCell (zA g 4) (.slice c r.pn q)) (g+1) 24 _ _ _ _ _ (zI r.queue) (zI r.fr) (zI r.un) (zI r.kind) (.slice c r.pn q) ((heap_setCell_other a (zA g 4) (g+1) _ (by simp)).trans Q);refine bodyPost_ret (v:=.agg #[zI r.queue,zI r.fr,zI r.un,zI r.kind,.slice c r.pn q]) (results_cell_row Tryz.results89 _ _ (g+1) 24 #[zI r.queue,zI r.fr,zI r.un,zI r.kind,.slice c r.pn q] (0,0) _ rfl E.1 Tryz.underlying24 rfl (by kernel_rfl)) rfl ⟨c,q,rfl,?_,?_,?_⟩
 ·refine M.o.of_away fun ah b s e=>?_;have R:=x.o b s e;have S:=l.o;have A:=u.o;rw [E.2 b (by omega),heap_setCell_other a (zA g 4) b _ (by simp;omega)]
 ·have A:w.heap.size<=g:=by have:=u.o;omega
  have m:w.heap.size<=g+1:=by omega
  exact ((((((za H.o I.o).setCell (p:=(zA g 4)) A _).setCell (p:=(zA (g+1) 0)) m _).setCell (p:=(zA (g+1) 1)) m _).setCell (p:=(zA (g+1) 2)) m _).setCell (p:=(zA (g+1) 3)) m _).setCell (p:=(zA (g+1) 4)) m _
 ·intro b s e;have R:=x.o b s e;have S:=l.o;omega
theorem NX (w:World) (c n:Int) (e:Option Addr) (g f:Nat) (a:Option Addr) (d b:Nat):∀ X:World,Below (w.alloc (.cells (zS c n e g f a d b) 40)).heap.size (w.alloc (.cells (zS c n e g f a d b) 40)) X ->
 X.cell? (zA w.heap.size 0)=some (zI c)/\X.cell? (zA w.heap.size 1)=some (zI n)/\X.cell? (zA w.heap.size 2)=some (.slice e g f)/\X.cell? (zA w.heap.size 3)=some (.slice a d b):=by
 intro X h;refine ⟨?_,?_,?_,?_⟩ <;> (refine cell_later h ?_;go_simp)
theorem Jn (w:World) (x:Bk) (j:zH w x.rq) (i:RunsIn w x.ba x.bn x.bc x.bs) (t:Int) :
 zC 50 #[.agg #[zI x.id,zI x.rq.queue,zI x.rq.fr,zI x.rq.un,zI x.rq.kind,.slice x.rq.pa x.rq.pn x.rq.pc,.slice x.ba x.bn x.bc],zI t] w fun e w'=>e=.returned (.bool (decide (yA x<=t)))/\Below w.heap.size w w':=by
 have b:=zh ((Below.refl w.heap.size w).alloc (Nat.le_refl _) (.cells (zB x) 60));have a:=ON _ x.rq (j.later b.o) x.ba x.bn x.bc x.bs (i.later b.o);rw [show (if yd x.rq x.bs=true then zJ x.rq x.bs x.bs.length else 0)=yA x from rfl] at a;obtain ⟨f,c⟩:=qA (yA x);obtain ⟨d,h⟩:∃ d:Int,(if yd x.rq x.bs=true then (0:Int) else 1)=d:=⟨_,rfl⟩;rw [c,h] at a;rw [c];have l:=zh a;clear a c h j i;go_enter Tryz.func50,Tryz.ntmps50;go_wp2_with fail
 refine l.o.mono ?_;rintro e m ⟨rfl,g⟩;have k:=zh (za b.o g);clear g;go_wp2;go_ret;exact ⟨rfl,k.o⟩
theorem Je (w:World) (x:Bk) (i:zH w x.rq) (h:RunsIn w x.ba x.bn x.bc x.bs) (B:Nat) (t:Int) (g:w.cell? (zA B 0)=some (zI t)) :
 zC 49 #[.agg #[zI x.id,zI x.rq.queue,zI x.rq.fr,zI x.rq.un,zI x.rq.kind,.slice x.rq.pa x.rq.pn x.rq.pc,.slice x.ba x.bn x.bc],.pointer (zO B 0)] w fun e w'=>e=.returned (.bool (decide (yA x<=t)))/\Below w.heap.size w w':=by
 have b:=zh ((Below.refl w.heap.size w).alloc (Nat.le_refl _) (.cells (zB x) 60));have a:=Jn _ x (i.later b.o) (h.later b.o) t;obtain ⟨d,c⟩:=qA (decide (yA x<=t));rw [c] at a;rw [c];have a:=zh a;clear c;have k:=cell_later ((Below.refl w.heap.size w).alloc (Nat.le_refl _) (.cells (zB x) 60)) g;clear i h g;go_enter Tryz.func49,Tryz.ntmps49;go_wp2_with fail
 refine a.o.mono ?_;rintro e l ⟨rfl,f⟩;have j:=zh (za b.o f);clear f;go_wp2;go_ret;exact ⟨rfl,j.o⟩
theorem Lk (w:World) (a:Option Addr) (n v:Nat) (b:BL) (h:BksIn w a n v b) (next:Int) (hn:next<=1048576) :
 zC 47 #[.slice a n v,zI next] w fun e w'=>e=.returned (.bool (Oh b next))/\Below w.heap.size w w':=by
 have g:=zh h.len;have M:=h.le;have I:=h.capb;have D:=zh h.cells;clear h;go_enter Tryz.func47,Tryz.ntmps47;go_wp2;go_loopw [5,7,10] (fun p _ t wr=>∃ k:Nat,t=zI k/\k<=n/\p=zI (xd b k)/\0<=xd b k/\zQ (PV b next) k=true/\zL w wr) (fun _ _ t _=>n-(intOf t).toNat)
 case atStart=>exact ⟨0,rfl,by omega,rfl,by simp [xd],rfl,Below.refl _ _⟩
 case round =>
  obtain ⟨j,rfl,J,rfl,E,z,B⟩:=hrel;have u:=zh z;have c:=zh B;clear z B;by_cases r:j<n
  ·have N:(j:Int)<n:=(by omega);obtain ⟨F,O,rfl,C⟩:=D.o (by omega);obtain ⟨m,c1,c2,c3,c4,c5,q⟩:=C j r
   replace m:=cell_later c.o m
   replace c1:=cell_later c.o c1
   replace c2:=cell_later c.o c2
   replace c3:=cell_later c.o c3
   replace c4:=cell_later c.o c4
   replace c5:=cell_later c.o c5
   replace q:=cell_later c.o q
   clear C;have d:PV b next j=decide (xd b j<=(bk b j).id/\(bk b j).id<next):=rfl;have s:xd b (j+1)=(bk b j).id+1:=(by unfold xd;rw [if_neg (by omega)];rfl);obtain ⟨X,y⟩:=qA (bk b j);rw [y] at m c1 c2 c3 c4 c5 q d s;obtain ⟨L,x⟩:=qA (xd b j);rw [x] at d E ⊢;have l:=zh d;have i:=zh s;have A:zL w (wr.alloc (.cells (zB X) 60)):=c.o.alloc c.o.size _;have f:=zh A;clear y x d s A;by_cases G:X.id<L
   ·go_wp2;go_ret;refine ⟨zm ?_,f.o⟩;show false=zQ (PV b next) b.length;rw [<-g.o,yO (p:=PV b next) (k:=j) (by rw [l.o];exact decide_eq_false (by omega)) n r]
   by_cases H:next<=X.id
   ·go_wp2;go_ret;refine ⟨zm ?_,f.o⟩;show false=zQ (PV b next) b.length;rw [<-g.o,yO (p:=PV b next) (k:=j) (by rw [l.o];exact decide_eq_false (by omega)) n r]
   go_wp2;go_roundw
   case rel=>exact ⟨j+1,by go_num,by omega,by first | (rw [i.o];done) | (rw [i.o];go_num),by rw [i.o];omega,by rw [zQ,u.o,l.o];simp;omega,f.o⟩
   case measure=>simp [intOf];omega
  obtain rfl:j=n:=by omega
  go_wp2;go_ret;exact ⟨zm (by show true=zQ (PV b next) b.length;rw [<-g.o];exact u.o.symm),c.o⟩
def zY (w:World) (ta:Option Addr) (tn tc:Nat) (l:QL) (ba:Option Addr) (bn bc:Nat) (b:BL):Prop:=QsIn w ta tn tc l/\BksIn w ba bn bc b
theorem zY.later {w w':World} {f:Option Addr} {i g:Nat} {l:QL} {a:Option Addr} {d c:Nat} {b:BL} (h:zY w f i g l a d c b) (e:Below w.heap.size w w'):zY w' f i g l a d c b:=⟨h.1.later e,h.2.later e⟩
theorem wY (w:World) (c n:Int) (s:Option Addr) (u t:Nat) (l:QL) (f:Option Addr) (j g:Nat) (b:BL) (h:zY w s u t l f j g b) :
 zC 20 #[.agg (zS c n s u t f j g)] w fun e w'=>e=.returned (zI (zU c n l b))/\Below w.heap.size w w':=by
 have v:=zh ((Below.refl w.heap.size w).alloc (Nat.le_refl _) (.cells (zS c n s u t f j g) 40));have D:=zh (NX w c n s u t f j g);have m:=PM _ s u t l (h.1.later v.o) f j g b (h.2.later v.o);have al:=zh h.1;have y:=zh h.2;clear h;by_cases k:wS l b=0
 ·have av:=zh (O8 k);have z:zU c n l b=if (0<=c/\c<=48)/\(0<=n/\n<=1048576) then (if Oh b n=true then (if WV b c=true then 9 else (if YS l b c=true then 0 else 10)) else 1) else 3:=if_pos k;rw [z];rw [k] at m;have B:=zh m;clear k z m;by_cases M:(0<=c/\c<=48)/\(0<=n/\n<=1048576)
  ·rw [if_pos M];obtain ⟨⟨V,W⟩,az,ag⟩:=M;have aE:¬c<0:=(by omega);have aF:¬(48:Int)<c:=(by omega);have aG:¬n<0:=(by omega);have aH:¬(1048576:Int)<n:=(by omega);have S:=zh fun X (p:zL w X)=>Lk X f j g b (y.o.later p) n ag;have C:=zh fun X (p:zL w X) (cl:X.cell? ⟨w.heap.size,0,none⟩=some (zI c)) =>
    WE 49 #[.pointer (zO w.heap.size 0)] (fun x=>!decide (yA x<=c)) (fun args w=>by go_simp) X f j g b (y.o.later p)
     (fun w' ay x ax aw=>(Je w' x ax aw w.heap.size c (cell_later ay cl)).mono fun r aJ q=>⟨by rw [q.1];simp,q.2⟩)
   have H:=zh fun X (p:zL w X)=>JT X s u t l (al.o.later p) f j g b (y.o.later p) c;rw [y.o.len,show (!zQ (fun i=>(fun x=>!decide (yA x<=c)) (bk b i)) b.length)=WV b c from rfl] at C;rw [<-y.o.len] at C;rw [Ni av.o V W] at H;obtain ⟨I,P⟩:=qA (Oh b n);obtain ⟨L,O⟩:=qA (WV b c);obtain ⟨F,N⟩:=qA (YS l b c);rw [P] at S;rw [O] at C;rw [N] at H;rw [P,O,N];clear P O N V W az ag;go_enter Tryz.func20,Tryz.ntmps20;go_wp2_with fail
   refine B.o.mono ?_;rintro e A ⟨U,af,ae,rfl,_,_,a⟩;obtain ⟨Y,Z,aa,ab⟩:=D.o A a;have d:=zh (za v.o a);have R:=zh a;clear a;go_wp2_with fail
   refine (S.o A d.o).mono ?_;rintro e ah ⟨rfl,a⟩;obtain ⟨ad,am,an,ao⟩:=D.o ah (za R.o a);have E:=zh (za d.o a);have aj:=zh (za R.o a);clear a Y Z aa ab;cases I with
   | false =>
    go_wp2;go_ret;exact ⟨rfl,E.o⟩
   | true =>
    go_wp2_with fail
    refine (C.o ah E.o ad).mono ?_;rintro e ai ⟨rfl,a⟩;obtain ⟨ap,aq,ar,au⟩:=D.o ai (za aj.o a);have G:=zh (za E.o a);clear a ad am an ao;cases L with
    | true =>
     go_wp2;go_ret;exact ⟨rfl,G.o⟩
    | false =>
     go_wp2_with fail
     refine (H.o ai G.o).mono ?_;rintro e aK ⟨rfl,a⟩;have ak:=zh (za G.o a);clear a ap aq ar au;cases F
     all_goals
      go_wp2;go_ret;exact ⟨rfl,ak.o⟩
  rw [if_neg M];go_enter Tryz.func20,Tryz.ntmps20;go_wp2_with fail
  refine B.o.mono ?_;rintro e A ⟨U,af,ae,rfl,_,_,a⟩;obtain ⟨Y,Z,aa,ab⟩:=D.o A a;have d:=zh (za v.o a);clear a;by_cases aA:c<0
  ·go_wp2;go_ret;exact ⟨rfl,d.o⟩
  by_cases aB:(48:Int)<c
  ·go_wp2;go_ret;exact ⟨rfl,d.o⟩
  by_cases aC:n<0
  ·go_wp2;go_ret;exact ⟨rfl,d.o⟩
  have aD:(1048576:Int)<n:=by omega
  go_wp2;go_ret;exact ⟨rfl,d.o⟩
 ·have z:zU c n l b=wS l b:=if_neg k;rw [z];obtain ⟨J,Q⟩:=qA (wS l b);rw [Q] at m k;rw [Q];have aI:(J != 0)=true:=by simp [k]
  have B:=zh m;clear z m k Q;go_enter Tryz.func20,Tryz.ntmps20;go_wp2_with fail
  refine B.o.mono ?_;rintro e A ⟨U,af,ae,rfl,_,_,a⟩;have d:=zh (za v.o a);clear a;go_wp2;go_ret;exact ⟨rfl,d.o⟩
theorem YQ {b:BL} {j:Nat} (x:Bk) (a:j<b.length) (i:Nat):bk (b.set j x) i=if i=j then x else bk b i:=by
 unfold bk;rw [List.getD_eq_getElem?_getD,List.getD_eq_getElem?_getD,List.getElem?_set];by_cases e:j=i
 ·subst e;simp [a]
 rw [if_neg e,if_neg (Ne.symm e)]
theorem QR {b:BL} {j:Nat} {x:Bk} (a:j<b.length) (d:x.bare=(bk b j).bare):zg (b.set j x)=zg b:=by
 apply List.ext_getElem?;intro i;unfold zg;rw [List.getElem?_map,List.getElem?_map,List.getElem?_set];by_cases e:j=i
 ·subst e;rw [if_pos rfl,if_pos a];have c:b[j]?=some (bk b j):=by rw [List.getElem?_eq_getElem a,Ta a]
  rw [c];simp [d]
 rw [if_neg e]
theorem WL:∀ (b:BL) (j:Nat) (q fr un kd:Int) (a:Option Addr) (n c:Nat) (rs:zd),j<b.length ->
 ze (b.set j ⟨(bk b j).id,⟨q,fr,un,kd,a,n,c,rs⟩,(bk b j).ba,(bk b j).bn,(bk b j).bc,(bk b j).bs⟩)=(((((ze b).set (j*7+1) (zI q)).set (j*7+2) (zI fr)).set (j*7+3) (zI un)).set (j*7+4) (zI kd)).set (j*7+5) (.slice a n c)
 | [],j,q,fr,un,kd,a,n,c,rs,h=>by simp at h
 | x::b,0,q,fr,un,kd,a,n,c,rs,_=>rfl
 | x::b,j+1,q,fr,un,kd,a,n,c,rs,h=>by
  have d:=WL b j q fr un kd a n c rs (by simpa using h);rw [List.set_cons_succ,ze,ze,show (j+1)*7+1=j*7+1+1+1+1+1+1+1+1 from by omega,show (j+1)*7+2=j*7+2+1+1+1+1+1+1+1 from by omega,show (j+1)*7+3=j*7+3+1+1+1+1+1+1+1 from by omega,show (j+1)*7+4=j*7+4+1+1+1+1+1+1+1 from by omega,show (j+1)*7+5=j*7+5+1+1+1+1+1+1+1 from by omega];show zx x++ze (b.set j ⟨(bk b j).id,⟨q,fr,un,kd,a,n,c,rs⟩,(bk b j).ba,(bk b j).bn,(bk b j).bc,(bk b j).bs⟩)=_;rw [d];rfl
theorem XQ:∀ (b:BL) (j:Nat) (a:Option Addr) (n c:Nat) (rs:zd),j<b.length->ze (b.set j ⟨(bk b j).id,(bk b j).rq,a,n,c,rs⟩)=(ze b).set (j*7+6) (.slice a n c)
 | [],j,a,n,c,rs,h=>by simp at h
 | x::b,0,a,n,c,rs,_=>rfl
 | x::b,j+1,a,n,c,rs,h=>by
  have d:=XQ b j a n c rs (by simpa using h);rw [List.set_cons_succ,ze,ze,show (j+1)*7+6=j*7+6+1+1+1+1+1+1+1 from by omega];show zx x++ze (b.set j ⟨(bk b j).id,(bk b j).rq,a,n,c,rs⟩)=_;rw [d];rfl
structure OwnBks (w:World) (B:Nat) (v:Value) (b:BL):Prop where
 row:w.ownsRow B 60 7 v b.length (ze b)
 rqs:∀ i,i<b.length->zH w (bk b i).rq
 bites:∀ i,i<b.length->RunsIn w (bk b i).ba (bk b i).bn (bk b i).bc (bk b i).bs
 farP:∀ i,i<b.length->0<(bk b i).rq.pn->∀ g off,(bk b i).rq.pa=zO g off->v.ownBlock≠some g
 farB:∀ i,i<b.length->0<(bk b i).bn->∀ g off,(bk b i).ba=zO g off->v.ownBlock≠some g
theorem OwnBks.later {w w':World} {B:Nat} {v:Value} {b:BL} (h:OwnBks w B v b) (a:Below w.heap.size w w'):OwnBks w' B v b :=
 ⟨zT h.row a,fun i c=>(h.rqs i c).later a,fun i c=>(h.bites i c).later a,h.farP,h.farB⟩
theorem OwnBks.bks {w:World} {B:Nat} {v:Value} {b:BL} (h:OwnBks w B v b):∃ a e,v=.slice a b.length e/\BksIn w a b.length e b/\∀ g f,a=zO g f->B<=g/\f=0 :=
 Gw h.row (fun x d=>by obtain ⟨i,c,rfl⟩:=yT d;exact h.rqs i c) (fun x d=>by obtain ⟨i,c,rfl⟩:=yT d;exact h.bites i c)
theorem xc {g n c b:Nat}:(Value.slice (zO g 0) n c).ownBlock≠some b↔g≠b:=by simp [Value.ownBlock]
theorem RunsIn.set5 {w:World} {a:Option Addr} {n d:Nat} {l:zd} (h:RunsIn w a n d l) {g e f i j k:Nat} (o p q r s:Value) (c:0<n->∀ b m,a=zO b m->b≠g) :
 RunsIn (((((w.setCell (zA g e) o).setCell (zA g f) p).setCell (zA g i) q).setCell (zA g j) r).setCell (zA g k) s) a n d l :=
 ((((h.set_away _ _ c).set_away _ _ c).set_away _ _ c).set_away _ _ c).set_away _ _ c
theorem OwnBks.storeReq {w:World} {B g n c:Nat} {b:BL} (h:OwnBks w B (.slice (zO g 0) n c) b) (hn:n=b.length) {j:Nat} (o:j<b.length) {q fr un kd:Int} {a:Option Addr} {m k:Nat} {rs:zd} (t:RunsIn w a m k rs) (r:0<m->∀ d l,a=zO d l->d≠g) :
 OwnBks (((((w.setCell (zA g (j*7+1)) (zI q)).setCell (zA g (j*7+2)) (zI fr)).setCell (zA g (j*7+3)) (zI un)).setCell (zA g (j*7+4)) (zI kd)).setCell (zA g (j*7+5)) (.slice a m k)) B (.slice (zO g 0) n c)
  (b.set j ⟨(bk b j).id,⟨q,fr,un,kd,a,m,k,rs⟩,(bk b j).ba,(bk b j).bn,(bk b j).bc,(bk b j).bs⟩):=by
 subst hn;have s:(b.set j ⟨(bk b j).id,⟨q,fr,un,kd,a,m,k,rs⟩,(bk b j).ba,(bk b j).bn,(bk b j).bc,(bk b j).bs⟩).length=b.length:=List.length_set;refine ⟨?_,fun i f=>?_,fun i f=>?_,fun i f=>?_,fun i f=>?_⟩
 ·rw [s,WL b j q fr un kd a m k rs o];exact (((((h.row.stored _ _).1.stored _ _).1.stored _ _).1.stored _ _).1.stored _ _).1
 all_goals rw [s] at f
 ·rw [YQ _ o]
  split
  ·exact RunsIn.set5 t _ _ _ _ _ r
  exact RunsIn.set5 (h.rqs i f) _ _ _ _ _ fun p d l e=>Ne.symm (xc.1 (h.farP i f p d l e))
 ·rw [YQ _ o]
  split
  ·exact RunsIn.set5 (h.bites j o) _ _ _ _ _ fun p d l e=>Ne.symm (xc.1 (h.farB j o p d l e))
  exact RunsIn.set5 (h.bites i f) _ _ _ _ _ fun p d l e=>Ne.symm (xc.1 (h.farB i f p d l e))
 ·rw [YQ _ o]
  split
  ·exact fun p d l e=>xc.2 (Ne.symm (r p d l e))
  exact h.farP i f
 ·rw [YQ _ o]
  split
  ·exact h.farB j o
  exact h.farB i f
theorem OwnBks.storeBites {w:World} {B g n c:Nat} {b:BL} (h:OwnBks w B (.slice (zO g 0) n c) b) (hn:n=b.length) {j:Nat} (o:j<b.length) {a:Option Addr} {m k:Nat} {rs:zd} (s:RunsIn w a m k rs) (q:0<m->∀ d l,a=zO d l->d≠g) :
 OwnBks (w.setCell (zA g (j*7+6)) (.slice a m k)) B (.slice (zO g 0) n c) (b.set j ⟨(bk b j).id,(bk b j).rq,a,m,k,rs⟩):=by
 subst hn;have r:(b.set j ⟨(bk b j).id,(bk b j).rq,a,m,k,rs⟩).length=b.length:=List.length_set;refine ⟨?_,fun i f=>?_,fun i f=>?_,fun i f=>?_,fun i f=>?_⟩
 ·rw [r,XQ b j a m k rs o];exact (h.row.stored _ _).1
 all_goals rw [r] at f
 ·rw [YQ _ o]
  split
  ·exact RunsIn.set_away (h.rqs j o) _ _ fun p d l e=>Ne.symm (xc.1 (h.farP j o p d l e))
  exact RunsIn.set_away (h.rqs i f) _ _ fun p d l e=>Ne.symm (xc.1 (h.farP i f p d l e))
 ·rw [YQ _ o]
  split
  ·exact s.set_away _ _ q
  exact (h.bites i f).set_away _ _ fun p d l e=>Ne.symm (xc.1 (h.farB i f p d l e))
 ·rw [YQ _ o]
  split
  ·exact h.farP j o
  exact h.farP i f
 ·rw [YQ _ o]
  split
  ·exact fun p d l e=>xc.2 (Ne.symm (q p d l e))
  exact h.farB i f
end Go.Proofs.YtckpdfkobdgjeaaGreatDoor
