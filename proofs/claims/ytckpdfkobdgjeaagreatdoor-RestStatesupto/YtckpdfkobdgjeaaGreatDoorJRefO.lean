/- The reference's without, bookAt, FindBook, CancelOf. -/
import Derived.Test.YtckpdfkobdgjeaaGreatDoorJAll22
import Derived.Test.YtckpdfkobdgjeaaGreatDoorJAll18
namespace Go.Proofs.YtckpdfkobdgjeaaGreatDoor
set_option maxRecDepth 100000
set_option maxHeartbeats 4000000
open Go.RowKit
set_option linter.unusedSectionVars false
variable [Inhabited Mk]
theorem WK (w:World) (c n:Int) (x:Option Addr) (m y:Nat) (l:QL) (t:Option Addr) (d u:Nat) (b:BL) (h:zY w x m y l t d u b) (O:Modest1 m l d b) :
 zC 23 #[.agg (zS c n x m y t d u)] w fun e w'=>∃ g r o p C s,e=.returned (.agg (zS c n (zO g 0) m r p d C))/\OwnSt w' w.heap.size (.slice (zO g 0) m r) o (.slice p d C) s/\m=o.length/\d=s.length/\zi o=zi l/\zg s=zg b/\Below w.heap.size w w':=by
 refine (Uj w c n x m y l t d u b h O).mono ?_;rintro e w' ⟨L,g,r,o,p,Q,D,rfl,S,U,H,I,J,B,f,M,N,A,G⟩;have W:w.heap.size<=L:=by omega
 refine ⟨g,r,o,p,Q,D,rfl,⟨H,⟨⟨f.row.1,?_⟩,f.rqs,f.bites,f.farP,f.farB⟩,fun z e=>?_,fun i v j a k e=>(B i (by omega) j a k e).1,fun i v j a k e=>?_,fun i v j a k e=>?_⟩,I,M,J,N,G⟩
 ·rcases f.row.2 with P | ⟨a,E,F,e,V,rest⟩
  ·exact .inl P
  exact .inr ⟨a,E,F,e,by omega,rest⟩
 ·have X:=(f.row.lt z e).1;refine ⟨fun q=>?_,fun i v j a k q R=>?_⟩
  ·have q:g=z:=(by simpa [Value.ownBlock] using q);omega
  have:=(B i (by omega) j a k q).2;omega
 ·have:=(A i (by omega)).1 j a k e;omega
 ·have:=(A i (by omega)).2 j a k e;omega
theorem Mt (w:World) (g e k:Nat) (d:Array Value) (b:BL) (i j:Nat) (I:i+1=j) (P:j<=e) (N:e=b.length) (Q:e<=k) (hg:w.heap[g]?=some (.cells d 60 (0,0))) (O:d.size=k*7) (v:d.toList.take (e*7)=ze b) :
 ∃ l c,(if k=j then some ((zA g 0):Addr) else zO g (j*7))=some l/\Zh (∀ t u,c[t]?=some u->w.drew.cell? (l.add t)=some u)/\Zh (c.length=(e-j)*7)/\Zh (∀ u∈c,u.oneCell'=true)/\Zh (∀ t,t<c.length->(w.drew.cell? (zA g (0+i*7+t))).isSome=true/\w.drew.frozen? (zA g (0+i*7+t))=false) /\
  (∃ q,(w.drew.setCells g (0+i*7) c).heap[g]?=some (.cells q 60 (0,0))/\q.size=k*7/\q.toList.take ((e-1)*7)=ze (b.take i++b.drop (i+1)))/\(∀ x,x≠g->(w.drew.setCells g (0+i*7) c).heap[x]?=w.heap[x]?)/\∀ B,B<=g->Below B w (w.drew.setCells g (0+i*7) c):=by
 obtain ⟨c,n⟩:=qB (ze (b.drop j));have m:c.length=(e-j)*7:=by rw [n,zE];simp;omega
 have G:(d.toList.take (e*7)).drop (j*7)=c:=by rw [v,n,YV b j (by omega)]
 have H:∀ (t:Nat) u,c[t]?=some u->d[j*7+t]?=some u:=fun t u f=>by
  rw [<-G,List.getElem?_drop,List.getElem?_take] at f
  split at f
  ·rw [<-Array.getElem?_toList];exact f
  cases f
 obtain ⟨l,D,J⟩:∃ l:Addr,(if k=j then some (⟨g,0,none⟩:Addr) else some ⟨g,j*7,none⟩)=some l/\Zh (∀ t u,c[t]?=some u->w.drew.cell? (l.add t)=some u):=by
  by_cases h:k=j
  ·refine ⟨(zA g 0),by simp [h],fun t u f=>?_⟩;have z:c.length=0:=(by rw [m];omega);rw [List.length_eq_zero_iff.1 z] at f;simp at f
  refine ⟨(zA g (j*7)),by simp [h],fun t u f=>?_⟩;rw [Addr.add_lit];show w.cell? _=_;rw [cell_of_row w g _ _ _ _ hg];exact H t u f
 have y:Zh (∀ u∈c,u.oneCell'=true):=by rw [n];exact y7 _
 obtain ⟨p,s⟩:=qB (w.drew.setCells g (0+i*7) c);obtain ⟨c1,r⟩:=qB ((d.toList.take (i*7)++c++d.toList.drop (i*7+c.length)).toArray);have F:p=w.drew.setRow g c1:=by
  rw [s,r,Nat.zero_add];exact Wt w.drew g (i*7) d 60 c hg (by omega) y.o
 refine ⟨l,c,D,J,m,y,fun t L=>?_,?_⟩
 ·rw [m] at L;refine ⟨?_,frozen_of_row w.drew g _ _ _ hg⟩;show (w.cell? _).isSome=true;rw [cell_of_row w g _ _ _ _ hg,Array.getElem?_eq_getElem (by omega)];rfl
 rw [<-s,F];refine ⟨⟨c1,setRow_heap w.drew g d _ _ _ hg,by rw [r];simp;omega,?_⟩,fun x M=>setRow_other _ _ _ _ M,fun B E=>Below.setRow (a:=w) (w:=w.drew) ⟨rfl,rfl,rfl,Nat.le_refl _,fun _ _=>rfl⟩ E _⟩;have A:d.toList.take (i*7)=ze (b.take i):=by rw [<-YW b i (by omega),<-v,List.take_take];congr 1;omega
 have C:(ze (b.take i)++c).length=(e-1)*7:=by rw [List.length_append,m,zE];simp;omega
 rw [r,A,<-C];show ((ze (b.take i)++c)++_).take _=_;rw [List.take_left,n,xw,I]
theorem QO (w:World) (c n:Int) (ag:Option Addr) (y ah:Nat) (l:QL) (Y:Option Addr) (m Z:Nat) (b:BL) (h:zY w ag y ah l Y m Z b) (aq:Modest1 y l m b) (i:Nat) (bY:i<m) :
 zC 109 #[.agg (zS c n ag y ah Y m Z),zI i] w fun e w'=>∃ v,e=.returned v/\J9 w w' v c n y (m-1) l (b.take i++b.drop (i+1)):=by
 have bV:=aq.b1;obtain ⟨bA,bu,e⟩:=Option.map_eq_some_iff.1 Z5;simp only [Prod.mk.injEq] at e;obtain ⟨_,bz,_⟩:=e;obtain ⟨S,aJ⟩:=qA (w.heap.size);obtain ⟨C,ad⟩:=qB ((w.alloc (.cells (zS c n ag y ah Y m Z) 40)).alloc (.cells zZ 40));obtain ⟨ay,az,an,aT⟩:=ZK w _ _ _ _ ad;rw [aJ] at ay az aT;have bp:=zh (WK C c n ag y ah l Y m Z b (h.later an) aq);have bm:=zh az;have a7:=zh an;have bi:=zh ad;have aE:=zh aJ;have V:Zh (S+2<=C.heap.size):=by show S+2<=C.heap.size;omega
 obtain ⟨aG,c1,c2,c3⟩:=ay.cells;rw [ad] at aG c1 c2 c3;clear ad ay az an h aT aq;go_enter Tryz.func109,Tryz.ntmps109;go_wp2_with fail
 rw [<-bi.o];refine bp.o.mono ?_;rintro e I ⟨g,G,af,bs,s,r,rfl,u,bw,aK,aN,aM,ab⟩;obtain ⟨d,rfl⟩:∃ d,bs=some ⟨d,0,none⟩:=by
  rcases u.bks.row.2 with ⟨b8,bS⟩ | ⟨d,bR,aH,e,_⟩
  ·omega
  simp only [Value.slice.injEq] at e;exact ⟨d,e.1⟩
 obtain ⟨H,O⟩:=qB (I.alloc (.cells (zS c n (some ⟨g,0,none⟩) y G (some ⟨d,0,none⟩) m s) 40));have N:zL I H:=by rw [O];exact zr _ _
 have au:H.heap.size=I.heap.size+1:=by rw [O];simp
 have ae:zj H I.heap.size (zI c) (zI n) (.slice (zO g 0) y G) (.slice (zO d 0) m s):=by rw [O];exact zj.new I _ _ _ _
 obtain ⟨aH,aZ,a0,a1,a2,a3,a4,bF⟩:=P7 (u.bks.later N);obtain ⟨j,F⟩:=qA (i+1);obtain ⟨a6,aY,bU,bx,bG,bH,bI,ar,Q,ao⟩:=Mt H d m s aH r i j F (by omega) a0 a1 aZ a3 a4;have b3:IntKind.i64.wrap ((i:Int)+1)=(j:Int):=by rw [IntKind.wrap_i64];omega
 have bZ:i<=s:=by omega
 have b2:j<=s:=by omega
 have b0:j<=m:=by omega
 have b7:¬i=j:=by omega
 have aP:=a2;have hlast:i+(m-j)=m-1:=by omega
 have bW:i+(m-j)<=s:=by omega
 have ap:C.heap.size<=d/\d<I.heap.size:=u.bks.row.lt d rfl;have hg:C.heap.size<=g/\g<I.heap.size:=u.qs.row.lt g rfl;obtain ⟨B,bt⟩:=qA (I.heap.size);rw [bt] at ae au ap hg;have bn:=zh ae;have bf:=zh (u.bks.later N);have aB:=zh (u.qs.later N);have U:=zh ap;have bc:=zh hg;have aD:Zh (∀ i,i<af.length->0<(qu af i).cn->∀ a f,(qu af i).ca=zO a f->C.heap.size<=a/\a<B/\a≠d):=zh fun i A q a f e=>by
  have z:=u.newC i A q a f e;have am:=(u.qs.caps i A).lt q e;have aI:=(u.apart d rfl).2 i A q a f e;exact ⟨z,by omega,aI⟩
 have bd:Zh (g≠d):=zh (xc.1 (u.apart d rfl).1);have X:Zh (∀ i,i<r.length->(0<(bk r i).rq.pn->∀ g f,(bk r i).rq.pa=zO g f->C.heap.size<=g/\g<B)/\(0<(bk r i).bn->∀ g f,(bk r i).ba=zO g f->C.heap.size<=g/\g<B)):=zh fun i A=>⟨fun q g f e=>by have z:=u.newP i A q g f e;have am:=RunsIn.lt (u.bks.rqs i A) q e;omega,fun q g f e=>by have z:=u.newB i A q g f e;have am:=(u.bks.bites i A).lt q e;omega⟩;have ak:=zh aK;have bb:=zh aN;have ba:=zh aM;have aF:=zh O;have bP:=zh au;have bo:=zh ((bm.o.later ab).later N);have a8:=zh (za (za a7.o ab) N);have aA:Zh (C.heap.size<=B):=by have:=ab.size;show C.heap.size<=B;omega
 obtain ⟨aU,aV,aW,aX⟩:=ae.cells;obtain ⟨E,av⟩:=qB (H.drew.setCells d (0+i*7) aY);rw [<-av] at ar Q ao;have bj:=zh av;have aj:zj E B (zI c) (zI n) (.slice (zO g 0) y G) (.slice (zO d 0) m s):=(Q B (by have:=U.o;omega)).trans bn.o;have a5:zj E (S+1) (zI 0) (zI 0) zN zN:=(Q (S+1) (by have:=U.o;have:=V.o;omega)).trans bo.o;obtain ⟨D,L⟩:=qB (E.setCell ⟨B,3,none⟩ (.slice (some ⟨d,0,none⟩) (m-1) s));have ax:zj D B (zI c) (zI n) (.slice (zO g 0) y G) (.slice (zO d 0) (m-1) s):=by
  rw [L];unfold zj;rw [heap_setCell_same E B 3 _ _ _ aj];rfl
 have ai:zj D (S+1) (zI 0) (zI 0) zN zN:=by rw [L];exact (heap_setCell_other E (zA B 3) (S+1) _ (by have:=aA.o;have:=V.o;simp only;omega)).trans a5
 have aQ:∀ k,k≠B->D.heap[k]?=E.heap[k]?:=fun k bv=>by rw [L];exact heap_setCell_other E (zA B 3) k _ bv
 have aL:zL w D:=by
  rw [L];have z:=U.o;have am:=aE.o;have aI:=V.o;have bT:=aA.o;exact (a8.o.trans (ao _ (by omega))).setCell (p:=(zA B 3)) (by simp only;omega) _
 have bg:=zh ar;have aC:=zh Q;have W:=zh aQ;have a9:=zh aL;have bl:=zh L;have bQ:=zh ax;have bh:=zh ai;obtain ⟨b9,cb,cc,cd⟩:=aj.cells;have ce:∀ k,E.frozen? (zA B k)=false:=fun k=>frozen_of_row E B k _ _ aj;obtain ⟨bB,bC,bD,bE⟩:=ax.cells;obtain ⟨bJ,bK,bL,bM⟩:=ai.cells;have bN:∀ k,D.frozen? (zA (S+1) k)=false:=fun k=>frozen_of_row D (S+1) k _ _ ai;rw [L] at bB bC bD bE bJ bK bL bM bN;rw [aF.o] at aU aV aW aX;have bO:=zh F;have be:=zh hlast;clear ar Q ao aj a5 L ax ai aQ aL ab N au ae u bw aK aN aM O aZ a0 a1 a2 a3 a4 bF ap hg aG c1 c2 c3 av F hlast;go_upto_region 2 with fail
 rw [<-aF.o] at aU aV aW aX ⊢;go_region_law (refine step_append_room rfl (.tmp 11) (.tmp 16) 38 rfl 60 bA 7 Tryz.underlying38 bu bz d 0 i s (by simp [Act.eval,Act.put]) a6 (m-j) (s-j) aY (by simp [Act.eval,Act.put]) bG.o bx.o bH.o (by omega) bI.o ?_;rw [<-bj.o,be.o])
 all_goals
  go_wp2_with fail
  rw [<-bl.o];have R:=zk D (S+1) 40 _ _ _ _ (zI c) (zI n) (.slice (zO g 0) y G) (.slice (zO d 0) (m-1) s) bh.o;have aa:w.heap.size<=S+1:=by have:=aE.o;omega
  have bX:=U.o;have aO:=bc.o;have b6:=V.o;have aR:∀ k,C.heap.size<=k->k<B->k≠d->((((D.setCell (zA (S+1) 0) (zI c)).setCell (zA (S+1) 1) (zI n)).setCell (zA (S+1) 2) (.slice (zO g 0) y G)).setCell (zA (S+1) 3) (.slice (zO d 0) (m-1) s)).heap[k]?=H.heap[k]?:=fun k b4 b5 aP=>by
   rw [R.2 k (by omega),W.o k (by omega),aC.o k aP]
  refine bodyPost_ret (v:=.agg (zS c n (zO g 0) y G (zO d 0) (m-1) s)) (results_cell_row Tryz.results109 _ _ (S+1) 40 (zS c n (zO g 0) y G (zO d 0) (m-1) s) (0,0) _ rfl R.1 Tryz.underlying40 rfl (by kernel_rfl)) rfl ⟨_,rfl,g,G,af,zO d 0,s,r.take i++r.drop (i+1),rfl,⟨?_,?_⟩,bb.o,?_,?_,?_⟩
  ·refine y6 (aB.o.blocks2 (fun a e=>?_) (fun i A q a f e=>?_))
   ·have e:g=a:=(by simpa [Value.ownBlock] using e);subst e;exact aR g aO.1 aO.2 bd.o
   have z:=aD.o i A q a f e;exact aR a z.1 z.2.1 z.2.2
  ·have P:(r.take i++r.drop (i+1)).length=m-1:=(by have:=ak.o;simp;omega);have aS:=P8 (w':=E) bf.o (fun x aw=>wK aw) (by rw [P];omega) (by rw [P];exact bg.o) (fun x aw _=>aC.o x aw);rw [P] at aS;refine ym (aS.blocks (fun a e=>?_) (fun j F q a f e=>?_) (fun j F q a f e=>?_))
   ·have e:d=a:=(by simpa [Value.ownBlock] using e);subst e;rw [R.2 d (by omega),W.o d (by omega)]
   ·obtain ⟨t,M,J⟩:=yT (wK (yx F));rw [<-J] at q e;have z:=(X.o t M).1 q a f e;rw [R.2 a (by omega),W.o a (by omega)]
   obtain ⟨t,M,J⟩:=yT (wK (yx F));rw [<-J] at q e;have z:=(X.o t M).2 q a f e;rw [R.2 a (by omega),W.o a (by omega)]
  ·have:=ba.o;unfold zg at this ⊢;rw [List.map_append,List.map_append,List.map_take,List.map_take,List.map_drop,List.map_drop,this]
  ·exact ((((a9.o.setCell (p:=(zA (S+1) 0)) aa _).setCell (p:=(zA (S+1) 1)) aa _).setCell (p:=(zA (S+1) 2)) aa _).setCell (p:=(zA (S+1) 3)) aa _)
  ·refine ⟨fun _ a f e=>?_,fun i A q a f e=>?_,fun _ a f e=>?_,fun j F q a f e=>?_,fun j F q a f e=>?_⟩
   ·have al:g=a:=(by injection e with e;injection e with al);omega
   ·have z:=aD.o i (by have:=(y6 aB.o).len;omega) q a f e;omega
   ·have al:d=a:=(by injection e with e;injection e with al);omega
   ·have P:(r.take i++r.drop (i+1)).length=m-1:=(by have:=ak.o;simp;omega);obtain ⟨t,M,J⟩:=yT (wK (yx (show j<(r.take i++r.drop (i+1)).length by omega)));rw [<-J] at q e;have z:=(X.o t M).1 q a f e;omega
   have P:(r.take i++r.drop (i+1)).length=m-1:=(by have:=ak.o;simp;omega);obtain ⟨t,M,J⟩:=yT (wK (yx (show j<(r.take i++r.drop (i+1)).length by omega)));rw [<-J] at q e;have z:=(X.o t M).2 q a f e;omega
theorem J2 (w:World) (c n:Int) (B:Option Addr) (D C:Nat) (j:Option Addr) (a l:Nat) (b:BL) (h:BksIn w j a l b) (d:Int) :
 zC 158 #[.agg (zS c n B D C j a l),zI d] w fun e w'=>e=.returned (zI (match yS b d with | some i=>(i:Int) | none=>-1))/\Below w.heap.size w w':=by
 obtain ⟨S,L⟩:=qA (w.heap.size);obtain ⟨g,m⟩:=qB (w.alloc (.cells (zS c n B D C j a l) 40));have v:zL w g:=by rw [m];exact zr _ _
 have O:zj g S (zI c) (zI n) (.slice B D C) (.slice j a l):=by rw [m,<-L];exact zj.new w _ _ _ _
 have J:=h.later v;have G:=zh h.len;have ab:=h.le;have aa:=h.capb;have P:=zh J;have F:=zh v;have Q:=zh m;have H:=zh L;obtain ⟨f,t⟩:∃ f:Int,(match yS b d with | some i=>(i:Int) | none=>-1)=f:=⟨_,rfl⟩;rw [t];have E:=zh t;have R:=zh O;clear O v m h J t;go_enter Tryz.func158,Tryz.ntmps158;go_wp2_with fail
 rw [<-Q.o];obtain ⟨Z,c1,c2,c3⟩:=R.o.cells;go_loop [5] (fun p=>∃ k:Nat,p=zI k/\k<=a/\∀ s,s<k->((bk b s).id==d)=false) (fun p=>a-(intOf p).toNat)
 case atStart=>exact ⟨0,rfl,Nat.zero_le _,fun s y=>absurd y (Nat.not_lt_zero _)⟩
 case round =>
  obtain ⟨k,rfl,ad,N⟩:=hrel;have r:=zh N;clear N;by_cases W:k<a
  ·have ae:(k:Int)<a:=(by omega);have af:¬((k:Int)<0):=(by omega);obtain ⟨X,Y,V,M⟩:=P.o.cells (by omega);subst V;have U:=(M k W).1;obtain ⟨x,z⟩:=qA ((bk b k).id);rw [z] at U;have I:=zh z;clear M z;by_cases q:x=d
   ·have A:(x==d)=true:=(by simp [q]);have u:Zh ((k:Int)=f):=by
     show (k:Int)=f;rw [<-E.o];have:yS b d=some k:=WP r.o (by have:=G.o;omega) (by rw [I.o];exact A);rw [this]
    clear q;go_wp2;go_ret;exact ⟨by rw [<-u.o];rfl,by rw [<-H.o];exact F.o⟩
   have A:(x==d)=false:=(by simp [q]);clear q;go_wp2;go_round
   case measure=>simp [intOf];omega
   case rel=>exact ⟨k+1,by go_num,by omega,fun s y=>by
    by_cases e:s=k
    ·subst e;rw [I.o];exact A
    exact r.o s (by omega)⟩
  obtain rfl:a=k:=by omega
  have u:Zh (-1=f):=by
   show -1=f;rw [<-E.o];have:yS b d=none:=XB fun s _ y=>r.o s (by have:=G.o;omega);rw [this]
  go_wp2;go_ret;exact ⟨by rw [<-u.o];rfl,by rw [<-H.o];exact F.o⟩
theorem Mq (w:World) (c n:Int) (j:Option Addr) (m k:Nat) (l:QL) (d:Option Addr) (g f:Nat) (b:BL) (h:zY w j m k l d g f b) (M:Sound c n l b) (t:Int) :
 zC 108 #[.agg (zS c n j m k d g f),zI t] w fun e w'=>e=.returned (match yS b t with | some i=>.tuple #[zI i,zI 0] | none=>.tuple #[zI 0,zI 6])/\Below w.heap.size w w':=by
 obtain ⟨S,L⟩:=qA (w.heap.size);obtain ⟨q,r⟩:=qB (w.alloc (.cells (zS c n j m k d g f) 40));have C:zL w q:=by rw [r];exact zr _ _
 have F:zj q S (zI c) (zI n) (.slice j m k) (.slice d g f):=by rw [r,<-L];exact zj.new w _ _ _ _
 have I:=zh (Zm q c n j m k l d g f b (h.later C) M);have v:=zh fun X (N:zL w X)=>J2 X c n j m k d g f b (h.2.later N) t;have J:=zh F;have G:=zh C;have H:=zh r;have P:=zh L;obtain ⟨x,c1,c2,c3⟩:=F.cells;rw [r] at x c1 c2 c3;obtain ⟨o,D⟩:=qA (yS b t);rw [D] at v;rw [D];clear F C r h M D;cases o with
 | none =>
  go_enter Tryz.func108,Tryz.ntmps108;go_wp2_with fail
  rw [<-H.o];refine I.o.mono ?_;rintro e E ⟨rfl,a⟩;obtain ⟨y,z,A,B⟩:=(J.o.later a).cells;have p:=zh (za G.o a);clear a x c1 c2 c3;go_wp2_with fail
  refine (v.o E p.o).mono ?_;rintro e O ⟨rfl,s⟩;have u:=zh (za p.o s);clear s y z A B;go_wp2;go_ret2
  exact ⟨rfl,u.o⟩
 | some i =>
  have Q:(0:Int)<=i:=by omega
  go_enter Tryz.func108,Tryz.ntmps108;go_wp2_with fail
  rw [<-H.o];refine I.o.mono ?_;rintro e E ⟨rfl,a⟩;obtain ⟨y,z,A,B⟩:=(J.o.later a).cells;have p:=zh (za G.o a);clear a x c1 c2 c3;go_wp2_with fail
  refine (v.o E p.o).mono ?_;rintro e O ⟨rfl,s⟩;have u:=zh (za p.o s);clear s y z A B;go_wp2;go_ret2
  exact ⟨rfl,u.o⟩
theorem JY (w:World) (c n:Int) (B:Option Addr) (j C:Nat) (l:QL) (u:Option Addr) (a x:Nat) (b:BL) (h:zY w B j C l u a x b) (A:zU c n l b=0) (m:Int) :
 zC 63 #[.agg (zS c n B j C u a x),zI m] w fun e w'=>∃ ag an ao aq ap ad af ae,e=.returned (.tuple #[.agg (zS ag an ao aq ap ad af ae),zI (xy c n l b m)])/\X9 w' w.heap.size (xy c n l b m) ⟨c,n,zi l,wU (zg b) ((yS b m).getD 0)⟩ ag an ao aq ap ad af ae/\Below w.heap.size w w':=by
 have H:=yZ A;have aj:=h.2.len;have W:=Yn h H.clean;obtain ⟨S,ah⟩:=qA (w.heap.size);obtain ⟨R,z⟩:=qB ((w.alloc (.cells (zS c n B j C u a x) 40)).alloc (.cells zZ 40));obtain ⟨D,O,G,J⟩:=ZK w _ _ _ _ z;rw [ah] at D O J;have s:=Mq R c n B j C l u a x b (h.later G) H m;obtain ⟨U,c1,c2,c3⟩:=D.cells;rw [z] at U c1 c2 c3;have az:=zh D;have ab:=zh O;have Y:=zh G;have aa:=zh z;have Z:=zh ah;have aw:=zh J;cases q:yS b m with
 | none =>
  have y:xy c n l b m=6:=by unfold xy;rw [if_pos A,q];rfl
  rw [q] at s;rw [y];have P:=zh s;clear z D O G h J s A H W y q aj;go_enter Tryz.func63,Tryz.ntmps63;go_wp2_with fail
  rw [<-aa.o];refine P.o.mono ?_;rintro e r ⟨rfl,f⟩;have t:=zh (ab.o.later f);have E:=zh (za Y.o f);obtain ⟨aI,aJ,aK,aL⟩:=t.o.cells;have aM:∀ k,r.frozen? (zA (S+1) k)=false:=fun k=>frozen_of_row r (S+1) k _ _ t.o;clear f U c1 c2 c3;go_wp2_with fail
  have I:=zk r (S+1) 40 _ _ _ _ (zI 0) (zI 0) zN zN t.o;have d:w.heap.size<=S+1:=by have:=Z.o;omega
  refine bodyPost_ret (v:=.tuple #[.agg zZ,zI 6]) (zt Tryz.results63 _ _ (S+1) 40 zZ (0,0) _ rfl I.1 Tryz.underlying40 rfl (by kernel_rfl)) rfl ⟨_,_,_,_,_,_,_,_,rfl,Or.inl ⟨by decide,rfl,rfl,rfl,rfl,rfl,rfl,rfl,rfl⟩,?_⟩;exact ((((E.o.setCell (p:=(zA (S+1) 0)) d _).setCell (p:=(zA (S+1) 1)) d _).setCell (p:=(zA (S+1) 2)) d _).setCell (p:=(zA (S+1) 3)) d _)
 | some i =>
  have y:xy c n l b m=0:=by unfold xy;rw [if_pos A,q];rfl
  have aG:i<a:=by have:=(yz q).2.1;omega
  rw [q] at s;rw [y];have ay:=zh fun X (aF:zL w X)=>QO X c n B j C l u a x b (h.later aF) W i aG;have P:=zh s;clear z D O G h J s A H W y q aj;go_enter Tryz.func63,Tryz.ntmps63;go_wp2_with fail
  rw [<-aa.o];refine P.o.mono ?_;rintro e r ⟨rfl,f⟩;have ax:=zh (az.o.later f);have t:=zh (ab.o.later f);have E:=zh (za Y.o f);have au:Zh (S+2<=r.heap.size):=by have:=f.size;have:=aw.o;show S+2<=r.heap.size;omega
  obtain ⟨aB,aC,aD,aE⟩:=ax.o.cells;clear f U c1 c2 c3;go_wp2_with fail
  refine (ay.o r E.o).mono ?_;rintro e N ⟨v,rfl,g,L,aH,F,M,aA,rfl,am,ak,ai,V,al⟩;have Q:=zh (t.o.later V);have ar:=zh (za E.o V);have av:Zh (X9 N (S+2) 0 ⟨c,n,zi l,wU (zg b) i⟩ c n (zO g 0) j L F (a-1) M) :=
   Or.inr ⟨rfl,aH,aA,am,rfl,rfl,ak,by rw [ai];exact Xn b i,al.mono au.o⟩
  obtain ⟨aI,aJ,aK,aL⟩:=Q.o.cells;have aM:∀ k,N.frozen? (zA (S+1) k)=false:=fun k=>frozen_of_row N (S+1) k _ _ Q.o;clear am ak ai V al aB aC aD aE;go_wp2_with fail
  have I:=zk N (S+1) 40 _ _ _ _ (zI c) (zI n) (.slice (zO g 0) j L) (.slice F (a-1) M) Q.o;have d:w.heap.size<=S+1:=by have:=Z.o;omega
  refine bodyPost_ret (v:=.tuple #[.agg (zS c n (zO g 0) j L F (a-1) M),zI 0]) (zt Tryz.results63 _ _ (S+1) 40 (zS c n (zO g 0) j L F (a-1) M) (0,0) _ rfl I.1 Tryz.underlying40 rfl (by kernel_rfl)) rfl ⟨_,_,_,_,_,_,_,_,rfl,?_,?_⟩
  ·exact (av.o.keep fun k aN=>I.2 k (by omega)).mono (by omega)
  exact ((((ar.o.setCell (p:=(zA (S+1) 0)) d _).setCell (p:=(zA (S+1) 1)) d _).setCell (p:=(zA (S+1) 2)) d _).setCell (p:=(zA (S+1) 3)) d _)
end Go.Proofs.YtckpdfkobdgjeaaGreatDoor
