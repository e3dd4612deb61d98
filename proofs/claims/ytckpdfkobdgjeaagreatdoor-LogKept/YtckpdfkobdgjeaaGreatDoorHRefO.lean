/- The reference's without, bookAt, FindBook, CancelOf. -/
import Derived.Test.YtckpdfkobdgjeaaGreatDoorHAll24
import Derived.Test.YtckpdfkobdgjeaaGreatDoorHAll20
namespace Go.Proofs.YtckpdfkobdgjeaaGreatDoor
set_option maxRecDepth 100000
set_option maxHeartbeats 4000000
open Go.RowKit
theorem WK (w:World) (c n:Int) (t:Option Addr) (k u:Nat) (l:QL) (ba:Option Addr) (bn bc:Nat) (b:BL) (h:zY w t k u l ba bn bc b) (I:Modest1 k l bn b) :
 zC 23 #[.agg (zS c n t k u ba bn bc)] w fun e w'=>∃ g q m o z r,e=.returned (.agg (zS c n (zO g 0) k q o bn z))/\OwnSt w' w.heap.size (.slice (zO g 0) k q) m (.slice o bn z) r/\k=m.length/\bn=r.length/\zi m=zi l/\zg r=zg b/\Below w.heap.size w w':=by
 refine (Uj w c n t k u l ba bn bc b h I).mono ?_;rintro e w' ⟨L,g,q,m,o,M,A,rfl,O,P,D,E,F,y,d,G,H,x,C⟩;have R:w.heap.size<=L:=by omega
 refine ⟨g,q,m,o,M,A,rfl,⟨D,⟨⟨d.row.1,?_⟩,d.rqs,d.bites,d.farP,d.farB⟩,fun v e=>?_,fun i s f a j e=>(y i (by omega) f a j e).1,fun i s f a j e=>?_,fun i s f a j e=>?_⟩,E,G,F,H,C⟩
 ·rcases d.row.2 with J | ⟨a,cap,B,e,Q,rest⟩
  ·exact .inl J
  exact .inr ⟨a,cap,B,e,by omega,rest⟩
 ·have S:=(d.row.lt v e).1;refine ⟨fun p=>?_,fun i s f a j p N=>?_⟩
  ·have p:g=v:=(by simpa [Value.ownBlock] using p);omega
  have:=(y i (by omega) f a j p).2;omega
 ·have:=(x i (by omega)).1 f a j e;omega
 ·have:=(x i (by omega)).2 f a j e;omega
theorem Mt (w:World) (g bn k:Nat) (e:Array Value) (b:BL) (i j:Nat) (H:i+1=j) (O:j<=bn) (M:bn=b.length) (P:bn<=k) (hg:w.heap[g]?=some (.cells e 60 (0,0))) (N:e.size=k*7) (u:e.toList.take (bn*7)=ze b) :
 ∃ l c,(if k=j then some ((zA g 0):Addr) else zO g (j*7))=some l/\Zh (∀ t d,c[t]?=some d->w.drew.cell? (l.add t)=some d)/\Zh (c.length=(bn-j)*7)/\Zh (∀ d∈c,d.oneCell'=true)/\Zh (∀ t,t<c.length->(w.drew.cell? (zA g (0+i*7+t))).isSome=true/\w.drew.frozen? (zA g (0+i*7+t))=false) /\
  (∃ q,(w.drew.setCells g (0+i*7) c).heap[g]?=some (.cells q 60 (0,0))/\q.size=k*7/\q.toList.take ((bn-1)*7)=ze (b.take i++b.drop (i+1)))/\(∀ x,x≠g->(w.drew.setCells g (0+i*7) c).heap[x]?=w.heap[x]?)/\∀ B,B<=g->Below B w (w.drew.setCells g (0+i*7) c):=by
 obtain ⟨c,n⟩:=qB (ze (b.drop j));have m:c.length=(bn-j)*7:=by rw [n,zE];simp;omega
 have F:(e.toList.take (bn*7)).drop (j*7)=c:=by rw [u,n,YV b j (by omega)]
 have G:∀ (t:Nat) d,c[t]?=some d->e[j*7+t]?=some d:=fun t d f=>by
  rw [<-F,List.getElem?_drop,List.getElem?_take] at f
  split at f
  ·rw [<-Array.getElem?_toList];exact f
  cases f
 obtain ⟨l,C,I⟩:∃ l:Addr,(if k=j then some (⟨g,0,none⟩:Addr) else some ⟨g,j*7,none⟩)=some l/\Zh (∀ t d,c[t]?=some d->w.drew.cell? (l.add t)=some d):=by
  by_cases h:k=j
  ·refine ⟨(zA g 0),by simp [h],fun t d f=>?_⟩;have y:c.length=0:=(by rw [m];omega);rw [List.length_eq_zero_iff.1 y] at f;simp at f
  refine ⟨(zA g (j*7)),by simp [h],fun t d f=>?_⟩;rw [Addr.add_lit];show w.cell? _=_;rw [cell_of_row w g _ _ _ _ hg];exact G t d f
 have v:Zh (∀ d∈c,d.oneCell'=true):=by rw [n];exact y7 _
 obtain ⟨p,s⟩:=qB (w.drew.setCells g (0+i*7) c);obtain ⟨c1,r⟩:=qB ((e.toList.take (i*7)++c++e.toList.drop (i*7+c.length)).toArray);have E:p=w.drew.setRow g c1:=by
  rw [s,r,Nat.zero_add];exact Wt w.drew g (i*7) e 60 c hg (by omega) v.o
 refine ⟨l,c,C,I,m,v,fun t J=>?_,?_⟩
 ·rw [m] at J;refine ⟨?_,frozen_of_row w.drew g _ _ _ hg⟩;show (w.cell? _).isSome=true;rw [cell_of_row w g _ _ _ _ hg,Array.getElem?_eq_getElem (by omega)];rfl
 rw [<-s,E];refine ⟨⟨c1,setRow_heap w.drew g e _ _ _ hg,by rw [r];simp;omega,?_⟩,fun x L=>setRow_other _ _ _ _ L,fun B D=>Below.setRow (a:=w) (w:=w.drew) ⟨rfl,rfl,rfl,Nat.le_refl _,fun _ _=>rfl⟩ D _⟩;have z:e.toList.take (i*7)=ze (b.take i):=by rw [<-YW b i (by omega),<-u,List.take_take];congr 1;omega
 have A:(ze (b.take i)++c).length=(bn-1)*7:=by rw [List.length_append,m,zE];simp;omega
 rw [r,z,<-A];show ((ze (b.take i)++c)++_).take _=_;rw [List.take_left,n,xw,H]
theorem QO (w:World) (c n:Int) (ad:Option Addr) (u ae:Nat) (l:QL) (ba:Option Addr) (bn bc:Nat) (b:BL) (h:zY w ad u ae l ba bn bc b) (an:Modest1 u l bn b) (i:Nat) (bX:i<bn) :
 zC 109 #[.agg (zS c n ad u ae ba bn bc),zI i] w fun e w'=>∃ v,e=.returned v/\J9 w w' v c n u (bn-1) l (b.take i++b.drop (i+1)):=by
 have bU:=an.b1;obtain ⟨bA,bu,e⟩:=Option.map_eq_some_iff.1 Z5;simp only [Prod.mk.injEq] at e;obtain ⟨_,bz,_⟩:=e;obtain ⟨S,aG⟩:=qA (w.heap.size);obtain ⟨A,Z⟩:=qB ((w.alloc (.cells (zS c n ad u ae ba bn bc) 40)).alloc (.cells zZ 40));obtain ⟨av,aw,ak,aQ⟩:=ZK w _ _ _ _ Z;rw [aG] at av aw aQ;have bp:=zh (WK A c n ad u ae l ba bn bc b (h.later ak) an);have bl:=zh aw;have a4:=zh ak;have bh:=zh Z;have aB:=zh aG;have U:Zh (S+2<=A.heap.size):=by show S+2<=A.heap.size;omega
 obtain ⟨aD,c1,c2,c3⟩:=av.cells;rw [Z] at aD c1 c2 c3;clear Z av aw ak h aQ an;go_enter Tryz.func109,Tryz.ntmps109;go_wp2_with fail
 rw [<-bh.o];refine bp.o.mono ?_;rintro e H ⟨g,F,ab,bs,r,q,rfl,s,bw,aH,aK,aJ,Y⟩;obtain ⟨d,rfl⟩:∃ d,bs=some ⟨d,0,none⟩:=by
  rcases s.bks.row.2 with ⟨b7,bR⟩ | ⟨d,cap,aE,e,_⟩
  ·omega
  simp only [Value.slice.injEq] at e;exact ⟨d,e.1⟩
 obtain ⟨G,N⟩:=qB (H.alloc (.cells (zS c n (some ⟨g,0,none⟩) u F (some ⟨d,0,none⟩) bn r) 40));have M:zL H G:=by rw [N];exact zr _ _
 have ap:G.heap.size=H.heap.size+1:=by rw [N];simp
 have aa:zj G H.heap.size (zI c) (zI n) (.slice (zO g 0) u F) (.slice (zO d 0) bn r):=by rw [N];exact zj.new H _ _ _ _
 obtain ⟨aE,aW,aX,aY,aZ,a0,a1,bF⟩:=P7 (s.bks.later M);obtain ⟨j,E⟩:=qA (i+1);obtain ⟨a3,aV,bT,bx,bG,bH,bI,ao,P,al⟩:=Mt G d bn r aE q i j E (by omega) aX aY aW a0 a1;have b2:IntKind.i64.wrap ((i:Int)+1)=(j:Int):=by rw [IntKind.wrap_i64];omega
 have bY:i<=r:=by omega
 have b0:j<=r:=by omega
 have bZ:j<=bn:=by omega
 have b6:¬i=j:=by omega
 have aM:=aZ;have hlast:i+(bn-j)=bn-1:=by omega
 have bV:i+(bn-j)<=r:=by omega
 have am:A.heap.size<=d/\d<H.heap.size:=s.bks.row.lt d rfl;have hg:A.heap.size<=g/\g<H.heap.size:=s.qs.row.lt g rfl;obtain ⟨B,bt⟩:=qA (H.heap.size);rw [bt] at aa ap am hg;have bm:=zh aa;have be:=zh (s.bks.later M);have ay:=zh (s.qs.later M);have R:=zh am;have a9:=zh hg;have aA:Zh (∀ i,i<ab.length->0<(qu ab i).cn->∀ a f,(qu ab i).ca=zO a f->A.heap.size<=a/\a<B/\a≠d):=zh fun i z m a f e=>by
  have y:=s.newC i z m a f e;have aj:=(s.qs.caps i z).lt m e;have aF:=(s.apart d rfl).2 i z m a f e;exact ⟨y,by omega,aF⟩
 have bb:Zh (g≠d):=zh (xc.1 (s.apart d rfl).1);have W:Zh (∀ i,i<q.length->(0<(bk q i).rq.pn->∀ g f,(bk q i).rq.pa=zO g f->A.heap.size<=g/\g<B)/\(0<(bk q i).bn->∀ g f,(bk q i).ba=zO g f->A.heap.size<=g/\g<B)):=zh fun i z=>⟨fun m g f e=>by have y:=s.newP i z m g f e;have aj:=RunsIn.lt (s.bks.rqs i z) m e;omega,fun m g f e=>by have y:=s.newB i z m g f e;have aj:=(s.bks.bites i z).lt m e;omega⟩;have ah:=zh aH;have a8:=zh aK;have a7:=zh aJ;have aC:=zh N;have bP:=zh ap;have bo:=zh ((bl.o.later Y).later M);have a5:=zh (za (za a4.o Y) M);have ax:Zh (A.heap.size<=B):=by have:=Y.size;show A.heap.size<=B;omega
 obtain ⟨aR,aS,aT,aU⟩:=aa.cells;obtain ⟨D,aq⟩:=qB (G.drew.setCells d (0+i*7) aV);rw [<-aq] at ao P al;have bi:=zh aq;have ag:zj D B (zI c) (zI n) (.slice (zO g 0) u F) (.slice (zO d 0) bn r):=(P B (by have:=R.o;omega)).trans bm.o;have a2:zj D (S+1) (zI 0) (zI 0) zN zN:=(P (S+1) (by have:=R.o;have:=U.o;omega)).trans bo.o;obtain ⟨C,J⟩:=qB (D.setCell ⟨B,3,none⟩ (.slice (some ⟨d,0,none⟩) (bn-1) r));have au:zj C B (zI c) (zI n) (.slice (zO g 0) u F) (.slice (zO d 0) (bn-1) r):=by
  rw [J];unfold zj;rw [heap_setCell_same D B 3 _ _ _ ag];rfl
 have af:zj C (S+1) (zI 0) (zI 0) zN zN:=by rw [J];exact (heap_setCell_other D (zA B 3) (S+1) _ (by have:=ax.o;have:=U.o;simp only;omega)).trans a2
 have aN:∀ k,k≠B->C.heap[k]?=D.heap[k]?:=fun k bv=>by rw [J];exact heap_setCell_other D (zA B 3) k _ bv
 have aI:zL w C:=by
  rw [J];have y:=R.o;have aj:=aB.o;have aF:=U.o;have bS:=ax.o;exact (a5.o.trans (al _ (by omega))).setCell (p:=(zA B 3)) (by simp only;omega) _
 have bf:=zh ao;have az:=zh P;have V:=zh aN;have a6:=zh aI;have bj:=zh J;have bQ:=zh au;have bg:=zh af;obtain ⟨b8,b9,cb,cc⟩:=ag.cells;have cd:∀ k,D.frozen? (zA B k)=false:=fun k=>frozen_of_row D B k _ _ ag;obtain ⟨bB,bC,bD,bE⟩:=au.cells;obtain ⟨bJ,bK,bL,bM⟩:=af.cells;have bN:∀ k,C.frozen? (zA (S+1) k)=false:=fun k=>frozen_of_row C (S+1) k _ _ af;rw [J] at bB bC bD bE bJ bK bL bM bN;rw [aC.o] at aR aS aT aU;have bO:=zh E;have bd:=zh hlast;clear ao P al ag a2 J au af aN aI Y M ap aa s bw aH aK aJ N aW aX aY aZ a0 a1 bF am hg aD c1 c2 c3 aq E hlast;go_upto_region 2 with fail
 rw [<-aC.o] at aR aS aT aU ⊢;go_region_law (refine step_append_room rfl (.tmp 11) (.tmp 16) 38 rfl 60 bA 7 Tryz.underlying38 bu bz d 0 i r (by simp [Act.eval,Act.put]) a3 (bn-j) (r-j) aV (by simp [Act.eval,Act.put]) bG.o bx.o bH.o (by omega) bI.o ?_;rw [<-bi.o,bd.o])
 all_goals
  go_wp2_with fail
  rw [<-bj.o];have Q:=zk C (S+1) 40 _ _ _ _ (zI c) (zI n) (.slice (zO g 0) u F) (.slice (zO d 0) (bn-1) r) bg.o;have X:w.heap.size<=S+1:=by have:=aB.o;omega
  have bW:=R.o;have aL:=a9.o;have b5:=U.o;have aO:∀ k,A.heap.size<=k->k<B->k≠d->((((C.setCell (zA (S+1) 0) (zI c)).setCell (zA (S+1) 1) (zI n)).setCell (zA (S+1) 2) (.slice (zO g 0) u F)).setCell (zA (S+1) 3) (.slice (zO d 0) (bn-1) r)).heap[k]?=G.heap[k]?:=fun k b3 b4 aM=>by
   rw [Q.2 k (by omega),V.o k (by omega),az.o k aM]
  refine bodyPost_ret (v:=.agg (zS c n (zO g 0) u F (zO d 0) (bn-1) r)) (results_cell_row Tryz.results109 _ _ (S+1) 40 (zS c n (zO g 0) u F (zO d 0) (bn-1) r) (0,0) _ rfl Q.1 Tryz.underlying40 rfl (by kernel_rfl)) rfl ⟨_,rfl,g,F,ab,zO d 0,r,q.take i++q.drop (i+1),rfl,⟨?_,?_⟩,a8.o,?_,?_,?_⟩
  ·refine y6 (ay.o.blocks2 (fun a e=>?_) (fun i z m a f e=>?_))
   ·have e:g=a:=(by simpa [Value.ownBlock] using e);subst e;exact aO g aL.1 aL.2 bb.o
   have y:=aA.o i z m a f e;exact aO a y.1 y.2.1 y.2.2
  ·have O:(q.take i++q.drop (i+1)).length=bn-1:=(by have:=ah.o;simp;omega);have aP:=P8 (w':=D) be.o (fun x ar=>wK ar) (by rw [O];omega) (by rw [O];exact bf.o) (fun x ar _=>az.o x ar);rw [O] at aP;refine ym (aP.blocks (fun a e=>?_) (fun j E m a f e=>?_) (fun j E m a f e=>?_))
   ·have e:d=a:=(by simpa [Value.ownBlock] using e);subst e;rw [Q.2 d (by omega),V.o d (by omega)]
   ·obtain ⟨t,L,I⟩:=yT (wK (yx E));rw [<-I] at m e;have y:=(W.o t L).1 m a f e;rw [Q.2 a (by omega),V.o a (by omega)]
   obtain ⟨t,L,I⟩:=yT (wK (yx E));rw [<-I] at m e;have y:=(W.o t L).2 m a f e;rw [Q.2 a (by omega),V.o a (by omega)]
  ·have:=a7.o;unfold zg at this ⊢;rw [List.map_append,List.map_append,List.map_take,List.map_take,List.map_drop,List.map_drop,this]
  ·exact ((((a6.o.setCell (p:=(zA (S+1) 0)) X _).setCell (p:=(zA (S+1) 1)) X _).setCell (p:=(zA (S+1) 2)) X _).setCell (p:=(zA (S+1) 3)) X _)
  ·refine ⟨fun _ a f e=>?_,fun i z m a f e=>?_,fun _ a f e=>?_,fun j E m a f e=>?_,fun j E m a f e=>?_⟩
   ·have ai:g=a:=(by injection e with e;injection e with ai);omega
   ·have y:=aA.o i (by have:=(y6 ay.o).len;omega) m a f e;omega
   ·have ai:d=a:=(by injection e with e;injection e with ai);omega
   ·have O:(q.take i++q.drop (i+1)).length=bn-1:=(by have:=ah.o;simp;omega);obtain ⟨t,L,I⟩:=yT (wK (yx (show j<(q.take i++q.drop (i+1)).length by omega)));rw [<-I] at m e;have y:=(W.o t L).1 m a f e;omega
   have O:(q.take i++q.drop (i+1)).length=bn-1:=(by have:=ah.o;simp;omega);obtain ⟨t,L,I⟩:=yT (wK (yx (show j<(q.take i++q.drop (i+1)).length by omega)));rw [<-I] at m e;have y:=(W.o t L).2 m a f e;omega
theorem J2 (w:World) (c n:Int) (y:Option Addr) (A z:Nat) (ba:Option Addr) (bn bc:Nat) (b:BL) (h:BksIn w ba bn bc b) (a:Int) :
 zC 158 #[.agg (zS c n y A z ba bn bc),zI a] w fun e w'=>e=.returned (zI (match yS b a with | some i=>(i:Int) | none=>-1))/\Below w.heap.size w w':=by
 obtain ⟨S,H⟩:=qA (w.heap.size);obtain ⟨f,g⟩:=qB (w.alloc (.cells (zS c n y A z ba bn bc) 40));have r:zL w f:=by rw [g];exact zr _ _
 have L:zj f S (zI c) (zI n) (.slice y A z) (.slice ba bn bc):=by rw [g,<-H];exact zj.new w _ _ _ _
 have G:=h.later r;have D:=zh h.len;have Y:=h.le;have X:=h.capb;have M:=zh G;have C:=zh r;have N:=zh g;have E:=zh H;obtain ⟨d,m⟩:∃ d:Int,(match yS b a with | some i=>(i:Int) | none=>-1)=d:=⟨_,rfl⟩;rw [m];have B:=zh m;have O:=zh L;clear L r g h G m;go_enter Tryz.func158,Tryz.ntmps158;go_wp2_with fail
 rw [<-N.o];obtain ⟨W,c1,c2,c3⟩:=O.o.cells;go_loop [5] (fun p=>∃ k:Nat,p=zI k/\k<=bn/\∀ s,s<k->((bk b s).id==a)=false) (fun p=>bn-(intOf p).toNat)
 case atStart=>exact ⟨0,rfl,Nat.zero_le _,fun s t=>absurd t (Nat.not_lt_zero _)⟩
 case round =>
  obtain ⟨k,rfl,Z,J⟩:=hrel;have l:=zh J;clear J;by_cases R:k<bn
  ·have aa:(k:Int)<bn:=(by omega);have ab:¬((k:Int)<0):=(by omega);obtain ⟨U,V,Q,I⟩:=M.o.cells (by omega);subst Q;have P:=(I k R).1;obtain ⟨x,u⟩:=qA ((bk b k).id);rw [u] at P;have F:=zh u;clear I u;by_cases j:x=a
   ·have v:(x==a)=true:=(by simp [j]);have q:Zh ((k:Int)=d):=by
     show (k:Int)=d;rw [<-B.o];have:yS b a=some k:=WP l.o (by have:=D.o;omega) (by rw [F.o];exact v);rw [this]
    clear j;go_wp2;go_ret;exact ⟨by rw [<-q.o];rfl,by rw [<-E.o];exact C.o⟩
   have v:(x==a)=false:=(by simp [j]);clear j;go_wp2;go_round
   case measure=>simp [intOf];omega
   case rel=>exact ⟨k+1,by go_num,by omega,fun s t=>by
    by_cases e:s=k
    ·subst e;rw [F.o];exact v
    exact l.o s (by omega)⟩
  obtain rfl:bn=k:=by omega
  have q:Zh (-1=d):=by
   show -1=d;rw [<-B.o];have:yS b a=none:=XB fun s _ t=>l.o s (by have:=D.o;omega);rw [this]
  go_wp2;go_ret;exact ⟨by rw [<-q.o];rfl,by rw [<-E.o];exact C.o⟩
theorem Mq (w:World) (c n:Int) (d:Option Addr) (g f:Nat) (l:QL) (ba:Option Addr) (bn bc:Nat) (b:BL) (h:zY w d g f l ba bn bc b) (I:Sound c n l b) (q:Int) :
 zC 108 #[.agg (zS c n d g f ba bn bc),zI q] w fun e w'=>e=.returned (match yS b q with | some i=>.tuple #[zI i,zI 0] | none=>.tuple #[zI 0,zI 6])/\Below w.heap.size w w':=by
 obtain ⟨S,H⟩:=qA (w.heap.size);obtain ⟨k,m⟩:=qB (w.alloc (.cells (zS c n d g f ba bn bc) 40));have z:zL w k:=by rw [m];exact zr _ _
 have C:zj k S (zI c) (zI n) (.slice d g f) (.slice ba bn bc):=by rw [m,<-H];exact zj.new w _ _ _ _
 have F:=zh (Zm k c n d g f l ba bn bc b (h.later z) I);have s:=zh fun X (J:zL w X)=>J2 X c n d g f ba bn bc b (h.2.later J) q;have G:=zh C;have D:=zh z;have E:=zh m;have M:=zh H;obtain ⟨t,c1,c2,c3⟩:=C.cells;rw [m] at t c1 c2 c3;obtain ⟨o,A⟩:=qA (yS b q);rw [A] at s;rw [A];clear C z m h I A;cases o with
 | none =>
  go_enter Tryz.func108,Tryz.ntmps108;go_wp2_with fail
  rw [<-E.o];refine F.o.mono ?_;rintro e B ⟨rfl,a⟩;obtain ⟨u,v,x,y⟩:=(G.o.later a).cells;have j:=zh (za D.o a);clear a t c1 c2 c3;go_wp2_with fail
  refine (s.o B j.o).mono ?_;rintro e L ⟨rfl,p⟩;have r:=zh (za j.o p);clear p u v x y;go_wp2;go_ret2
  exact ⟨rfl,r.o⟩
 | some i =>
  have N:(0:Int)<=i:=by omega
  go_enter Tryz.func108,Tryz.ntmps108;go_wp2_with fail
  rw [<-E.o];refine F.o.mono ?_;rintro e B ⟨rfl,a⟩;obtain ⟨u,v,x,y⟩:=(G.o.later a).cells;have j:=zh (za D.o a);clear a t c1 c2 c3;go_wp2_with fail
  refine (s.o B j.o).mono ?_;rintro e L ⟨rfl,p⟩;have r:=zh (za j.o p);clear p u v x y;go_wp2;go_ret2
  exact ⟨rfl,r.o⟩
theorem JY (w:World) (c n:Int) (y:Option Addr) (f z:Nat) (l:QL) (ba:Option Addr) (bn bc:Nat) (b:BL) (h:zY w y f z l ba bn bc b) (x:zU c n l b=0) (j:Int) :
 zC 63 #[.agg (zS c n y f z ba bn bc),zI j] w fun e w'=>∃ ad ak al an am Z ab aa,e=.returned (.tuple #[.agg (zS ad ak al an am Z ab aa),zI (xy c n l b j)])/\X9 w' w.heap.size (xy c n l b j) ⟨c,n,zi l,wU (zg b) ((yS b j).getD 0)⟩ ad ak al an am Z ab aa/\Below w.heap.size w w':=by
 have E:=yZ x;have ag:=h.2.len;have R:=Yn h E.clean;obtain ⟨S,ae⟩:=qA (w.heap.size);obtain ⟨O,u⟩:=qB ((w.alloc (.cells (zS c n y f z ba bn bc) 40)).alloc (.cells zZ 40));obtain ⟨A,L,D,G⟩:=ZK w _ _ _ _ u;rw [ae] at A L G;have r:=Mq O c n y f z l ba bn bc b (h.later D) E j;obtain ⟨P,c1,c2,c3⟩:=A.cells;rw [u] at P c1 c2 c3;have aw:=zh A;have Y:=zh L;have U:=zh D;have W:=zh u;have V:=zh ae;have ar:=zh G;cases m:yS b j with
 | none =>
  have t:xy c n l b j=6:=by unfold xy;rw [if_pos x,m];rfl
  rw [m] at r;rw [t];have M:=zh r;clear u A L D h G r x E R t m ag;go_enter Tryz.func63,Tryz.ntmps63;go_wp2_with fail
  rw [<-W.o];refine M.o.mono ?_;rintro e q ⟨rfl,d⟩;have s:=zh (Y.o.later d);have B:=zh (za U.o d);obtain ⟨aF,aG,aH,aI⟩:=s.o.cells;have aJ:∀ k,q.frozen? (zA (S+1) k)=false:=fun k=>frozen_of_row q (S+1) k _ _ s.o;clear d P c1 c2 c3;go_wp2_with fail
  have F:=zk q (S+1) 40 _ _ _ _ (zI 0) (zI 0) zN zN s.o;have a:w.heap.size<=S+1:=by have:=V.o;omega
  refine bodyPost_ret (v:=.tuple #[.agg zZ,zI 6]) (zt Tryz.results63 _ _ (S+1) 40 zZ (0,0) _ rfl F.1 Tryz.underlying40 rfl (by kernel_rfl)) rfl ⟨_,_,_,_,_,_,_,_,rfl,Or.inl ⟨by decide,rfl,rfl,rfl,rfl,rfl,rfl,rfl,rfl⟩,?_⟩;exact ((((B.o.setCell (p:=(zA (S+1) 0)) a _).setCell (p:=(zA (S+1) 1)) a _).setCell (p:=(zA (S+1) 2)) a _).setCell (p:=(zA (S+1) 3)) a _)
 | some i =>
  have t:xy c n l b j=0:=by unfold xy;rw [if_pos x,m];rfl
  have aD:i<bn:=by have:=(yz m).2.1;omega
  rw [m] at r;rw [t];have av:=zh fun X (aC:zL w X)=>QO X c n y f z l ba bn bc b (h.later aC) R i aD;have M:=zh r;clear u A L D h G r x E R t m ag;go_enter Tryz.func63,Tryz.ntmps63;go_wp2_with fail
  rw [<-W.o];refine M.o.mono ?_;rintro e q ⟨rfl,d⟩;have au:=zh (aw.o.later d);have s:=zh (Y.o.later d);have B:=zh (za U.o d);have ap:Zh (S+2<=q.heap.size):=by have:=d.size;have:=ar.o;show S+2<=q.heap.size;omega
  obtain ⟨ay,az,aA,aB⟩:=au.o.cells;clear d P c1 c2 c3;go_wp2_with fail
  refine (av.o q B.o).mono ?_;rintro e J ⟨v,rfl,g,H,aE,C,I,ax,rfl,aj,ah,af,Q,ai⟩;have N:=zh (s.o.later Q);have ao:=zh (za B.o Q);have aq:Zh (X9 J (S+2) 0 ⟨c,n,zi l,wU (zg b) i⟩ c n (zO g 0) f H C (bn-1) I) :=
   Or.inr ⟨rfl,aE,ax,aj,rfl,rfl,ah,by rw [af];exact Xn b i,ai.mono ap.o⟩
  obtain ⟨aF,aG,aH,aI⟩:=N.o.cells;have aJ:∀ k,J.frozen? (zA (S+1) k)=false:=fun k=>frozen_of_row J (S+1) k _ _ N.o;clear aj ah af Q ai ay az aA aB;go_wp2_with fail
  have F:=zk J (S+1) 40 _ _ _ _ (zI c) (zI n) (.slice (zO g 0) f H) (.slice C (bn-1) I) N.o;have a:w.heap.size<=S+1:=by have:=V.o;omega
  refine bodyPost_ret (v:=.tuple #[.agg (zS c n (zO g 0) f H C (bn-1) I),zI 0]) (zt Tryz.results63 _ _ (S+1) 40 (zS c n (zO g 0) f H C (bn-1) I) (0,0) _ rfl F.1 Tryz.underlying40 rfl (by kernel_rfl)) rfl ⟨_,_,_,_,_,_,_,_,rfl,?_,?_⟩
  ·exact (aq.o.keep fun k aK=>F.2 k (by omega)).mono (by omega)
  exact ((((ao.o.setCell (p:=(zA (S+1) 0)) a _).setCell (p:=(zA (S+1) 1)) a _).setCell (p:=(zA (S+1) 2)) a _).setCell (p:=(zA (S+1) 3)) a _)
end Go.Proofs.YtckpdfkobdgjeaaGreatDoor
