/- Several texts in one: DelB, DelC. -/
import Derived.Test.YtckpdfkobdgjeaaGreatDoorHAll8
namespace Go.Proofs.YtckpdfkobdgjeaaGreatDoor
set_option maxRecDepth 100000
set_option maxHeartbeats 2000000
open Go.RowKit
theorem P8 {w w':World} {B g n k:Nat} {b b1:BL} (h:OwnBks w B (.slice (zO g 0) n k) b) (A:∀ x∈b1,x∈b) (E:b1.length<=n) (z:∃ p,w'.heap[g]?=some (.cells p 60 (0,0))/\p.size=k*7/\p.toList.take (b1.length*7)=ze b1)
 (r:∀ x,x≠g->x<w.heap.size->w'.heap[x]?=w.heap[x]?):OwnBks w' B (.slice (zO g 0) b1.length k) b1:=by
 obtain ⟨p,s,t,u⟩:=z;have q:∀ i,i<b1.length->∃ j,j<b.length/\bk b j=bk b1 i:=fun i f=>yT (A _ (yx f));refine ⟨⟨by rw [zE],Or.inr ?_⟩,fun i f=>?_,fun i f=>?_,fun i f c d m e=>?_,fun i f c d m e=>?_⟩
 ·rcases h.row.2 with ⟨C,_⟩ | ⟨d,cap,D,e,v,hg,F,y,_,_⟩
  ·cases C
  simp only [Value.slice.injEq,Option.some.injEq,Addr.mk.injEq] at e;obtain ⟨⟨rfl,_,_⟩,o,rfl⟩:=e;exact ⟨g,k,p,rfl,v,s,by omega,y,t,u⟩
 ·obtain ⟨j,a,e⟩:=q i f;rw [<-e];exact RunsIn.of_away (h.rqs j a) fun c d m o=>r d (fun l=>h.farP j a c d m o (by rw [l];rfl)) (RunsIn.lt (h.rqs j a) c o)
 ·obtain ⟨j,a,e⟩:=q i f;rw [<-e];exact (h.bites j a).of_away fun c d m o=>r d (fun l=>h.farB j a c d m o (by rw [l];rfl)) ((h.bites j a).lt c o)
 ·obtain ⟨j,a,l⟩:=q i f;rw [<-l] at c e;exact xc.2 (xc.1 (h.farP j a c d m e))
 ·obtain ⟨j,a,l⟩:=q i f;rw [<-l] at c e;exact xc.2 (xc.1 (h.farB j a c d m e))
theorem P7 {w:World} {B g n k:Nat} {b:BL} (h:OwnBks w B (.slice (zO g 0) n k) b):∃ a,w.heap[g]?=some (.cells a 60 (0,0))/\n=b.length/\n<=k/\k<=9223372036854775807/\a.size=k*7/\a.toList.take (n*7)=ze b/\B<=g:=by
 rcases h.row.2 with ⟨m,_⟩ | ⟨o,cap,a,e,i,hg,j,l,d,f⟩
 ·cases m
 simp only [Value.slice.injEq,Option.some.injEq,Addr.mk.injEq] at e;obtain ⟨⟨rfl,_,_⟩,c,rfl⟩:=e;subst c;exact ⟨a,hg,rfl,j,by simpa [maxLen] using l,d,f,i⟩
def J9 (w w':World) (v:Value) (c n:Int) (tn m:Nat) (l:QL) (bx:BL):Prop:=∃ g k1 l' aa k9 b9,v=.agg (zS c n (zO g 0) tn k1 aa m k9)/\zY w' (zO g 0) tn k1 l' aa m k9 b9/\zi l'=zi l/\zg b9=zg bx/\Below w.heap.size w w'/\NewSt w.heap.size (zO g 0) tn l' aa m b9
theorem ZK (w:World) (a b c d:Value) {e:World} (f:e=(w.alloc (.cells #[a,b,c,d] 40)).alloc (.cells zZ 40)):zj e w.heap.size a b c d/\zj e (w.heap.size+1) (zI 0) (zI 0) zN zN/\Below w.heap.size w e/\e.heap.size=w.heap.size+2:=by
 subst f;refine ⟨(Below.heap_alloc _ _ _ (by simp)).trans (heap_alloc_new w _),?_,(zr _ _).alloc (by simp) _,by simp⟩;have:=zj.new (w.alloc (.cells #[a,b,c,d] 40)) (zI 0) (zI 0) zN zN;rw [World.size_alloc] at this;exact this
theorem SB (w:World) (g bn k:Nat) (a:Array Value) (b:BL) (i:Nat) (n:i<bn) (d:bn=b.length) (j:bn<=k) (l:k<=9223372036854775807) (hg:w.heap[g]?=some (.cells a 60 (0,0))) (f:a.size=k*7) (m:a.toList.take (bn*7)=ze b) :
 zC 91 #[.slice (zO g 0) bn k,zI i,zI ((i:Int)+1)] w fun e w'=>e=.returned (.slice (zO g 0) (bn-1) k)/\(∃ c,w'.heap[g]?=some (.cells c 60 (0,0))/\c.size=k*7/\c.toList.take ((bn-1)*7)=ze (b.take i++b.drop (i+1)))/\(∀ x,x≠g->w'.heap[x]?=w.heap[x]?)/\w'.heap.size=w.heap.size/\∀ B,B<=g->Below B w w':=by
 have h:=Mh w g bn k a b i (i+1) (by omega) (by omega) d j l hg f m;rw [show ((i+1:Nat):Int)=(i:Int)+1 from by omega,show bn-(i+1-i)=bn-1 from by omega] at h;exact h
theorem PA (w:World) (c n:Int) (g:Option Addr) (j i:Nat) (l:QL) (ba:Option Addr) (bn bc:Nat) (b:BL) (h:zY w g j i l ba bn bc b) (a:Int) (s:xy c n l b a≠0) :
 zC 53 #[.agg (zS c n g j i ba bn bc),zI a] w fun e w'=>e=.returned (.tuple #[.agg zZ,zI (xy c n l b a)])/\Below w.heap.size w w':=by
 obtain ⟨S,C⟩:=qA (w.heap.size);obtain ⟨r,t⟩:=qB ((w.alloc (.cells (zS c n g j i ba bn bc) 40)).alloc (.cells zZ 40));obtain ⟨z,A,x,D⟩:=ZK w _ _ _ _ t;rw [C] at z A D;have q:=QI r c n g j i l ba bn bc b (h.later x) a;have J:=zh A;have E:=zh x;have I:=zh t;have H:=zh C;obtain ⟨L,c1,c2,c3⟩:=z.cells;obtain ⟨d,B⟩:=qA (xy c n l b a);rw [B] at q s ⊢;have N:(d != 0)=true:=by simp [s]
 have G:=zh q;clear t z A x h D q B s;go_enter Tryz.func53,Tryz.ntmps53;go_wp2_with fail
 rw [<-I.o];refine G.o.mono ?_;rintro e y ⟨rfl,u⟩;have m:=zh (J.o.later u);have F:=zh (za E.o u);clear u L c1 c2 c3;obtain ⟨O,P,Q,R⟩:=m.o.cells;have U:∀ k,y.frozen? (zA (S+1) k)=false:=fun k=>frozen_of_row y (S+1) k _ _ m.o;go_wp2_with fail
 have M:=zk y (S+1) 40 _ _ _ _ (zI 0) (zI 0) zN zN m.o;have f:w.heap.size<=S+1:=by have:=H.o;omega
 refine bodyPost_ret (v:=.tuple #[.agg zZ,zI d]) (zt Tryz.results53 _ _ (S+1) 40 zZ (0,0) _ rfl M.1 Tryz.underlying40 rfl (by kernel_rfl)) rfl ⟨rfl,?_⟩;exact ((((F.o.setCell (p:=(zA (S+1) 0)) f _).setCell (p:=(zA (S+1) 1)) f _).setCell (p:=(zA (S+1) 2)) f _).setCell (p:=(zA (S+1) 3)) f _)
def GO (w w':World) (e:Ending) (c n:Int) (tn m:Nat) (l:QL) (bx:BL):Prop:=∃ v,e=.returned (.tuple #[v,zI 0])/\J9 w w' v c n tn m l bx
theorem Ma (w:World) (c n:Int) (W:Option Addr) (u Y:Nat) (l:QL) (ba:Option Addr) (bn bc:Nat) (b:BL) (h:zY w W u Y l ba bn bc b) (V:Int) (d:zU c n l b=0) (i:Nat) (r:yS b V=some i) :
 zC 53 #[.agg (zS c n W u Y ba bn bc),zI V] w fun e w'=>GO w w' e c n u (bn-1) l (b.take i++b.drop (i+1)):=by
 have ap:=yZ d;have aS:=XT h ap.clean;have bx:=h.2.len;have bz:=ap.clean.few;have bA:i<bn:=by
  have:=(yz r).2.1;omega
 have M:xy c n l b V=0:=by unfold xy;rw [if_pos d,r];rfl
 have aJ:Ux c n l b V=i:=by unfold Ux;rw [if_pos d,r]
 obtain ⟨S,aL⟩:=qA (w.heap.size);obtain ⟨an,aq⟩:=qB ((w.alloc (.cells (zS c n W u Y ba bn bc) 40)).alloc (.cells zZ 40));obtain ⟨aj,az,ar,aw⟩:=ZK w _ _ _ _ aq;rw [aL] at aj az aw;have am:=QI an c n W u Y l ba bn bc b (h.later ar) V;rw [M,aJ] at am;have br:=zh fun X (bw:zL w X)=>Vw X c n W u Y l ba bn bc b (h.later bw) aS;have bs:=zh aj;have bt:=zh az;have a4:=zh ar;have bj:=zh aq;have aF:=zh aL;have bh:=zh aw;obtain ⟨O,c1,c2,c3⟩:=aj.cells;have bd:=zh am;have bY:i<12:=by omega
 clear aq aj az ar h aw am d r ap aS M aJ bx bz;go_enter Tryz.func53,Tryz.ntmps53;go_wp2_with fail
 rw [<-bj.o];refine bd.o.mono ?_;rintro e A ⟨rfl,D⟩;have aG:=zh (bs.o.later D);have bo:=zh (bt.o.later D);have aA:=zh (za a4.o D);have aa:Zh (S+2<=A.heap.size):=by have:=D.size;have:=bh.o;show S+2<=A.heap.size;omega
 clear D O c1 c2 c3;obtain ⟨O,c1,c2,c3⟩:=aG.o.cells;go_wp2_with fail
 refine (br.o A aA.o).mono ?_;rintro e G ⟨g,F,ah,bu,z,q,rfl,s,bD,aM,aQ,aO,D⟩;obtain ⟨f,rfl⟩:∃ f,bu=some ⟨f,0,none⟩:=by
  rcases s.bks.row.2 with ⟨b3,bV⟩ | ⟨f,cap,aI,e,_⟩
  ·omega
  simp only [Value.slice.injEq] at e;exact ⟨f,e.1⟩
 obtain ⟨H,P⟩:=qB (G.alloc (.cells (zS c n (some ⟨g,0,none⟩) u F (some ⟨f,0,none⟩) bn z) 40));have N:zL G H:=by rw [P];exact zr _ _
 have av:H.heap.size=G.heap.size+1:=by rw [P];simp
 have ag:zj H G.heap.size (zI c) (zI n) (.slice (zO g 0) u F) (.slice (zO f 0) bn z):=by rw [P];exact zj.new G _ _ _ _
 obtain ⟨aI,aX,aY,aZ,a0,a1,a2,bN⟩:=P7 (s.bks.later N);have aH:=SB H f bn z aI q i bA aY aZ a0 aX a1 a2;have au:A.heap.size<=f/\f<G.heap.size:=s.bks.row.lt f rfl;have hg:A.heap.size<=g/\g<G.heap.size:=s.qs.row.lt g rfl;obtain ⟨B,bv⟩:=qA (G.heap.size);rw [bv] at ag av au hg;have bp:=zh ag;have bf:=zh (s.bks.later N);have aC:=zh (s.qs.later N);have Z:=zh au;have a9:=zh hg;have aE:Zh (∀ i,i<ah.length->0<(qu ah i).cn->∀ a m,(qu ah i).ca=zO a m->A.heap.size<=a/\a<B/\a≠f):=zh fun i r d a m e=>by
  have y:=s.newC i r d a m e;have ao:=(s.qs.caps i r).lt d e;have aK:=(s.apart f rfl).2 i r d a m e;exact ⟨y,by omega,aK⟩
 have bb:Zh (g≠f):=zh (xc.1 (s.apart f rfl).1);have ad:Zh (∀ i,i<q.length->(0<(bk q i).rq.pn->∀ g m,(bk q i).rq.pa=zO g m->A.heap.size<=g/\g<B)/\(0<(bk q i).bn->∀ g m,(bk q i).ba=zO g m->A.heap.size<=g/\g<B)):=zh fun i r=>⟨fun d g m e=>by have y:=s.newP i r d g m e;have ao:=RunsIn.lt (s.bks.rqs i r) d e;omega,fun d g m e=>by have y:=s.newB i r d g m e;have ao:=(s.bks.bites i r).lt d e;omega⟩;have al:=zh aM;have a8:=zh aQ;have a7:=zh aO;have be:=zh aH;have bl:=zh P;have bT:=zh av;have bq:=zh ((bo.o.later D).later N);have a5:=zh (za (za aA.o D) N);have aB:Zh (A.heap.size<=B):=by have:=D.size;show A.heap.size<=B;omega
 obtain ⟨bF,bG,bH,bI⟩:=ag.cells;have bZ:(0:Int)<=i:=by omega
 clear D N av ag s bD aM aQ aO P aH aX aY aZ a0 a1 a2 bN au hg O c1 c2 c3;obtain ⟨O,c1,c2,c3⟩:=aG.o.cells;go_wp2_with fail
 rw [<-bl.o];refine be.o.mono ?_;rintro e E ⟨rfl,aV,af,bE,aP⟩;have ak:zj E B (zI c) (zI n) (.slice (zO g 0) u F) (.slice (zO f 0) bn z):=(af B (by have:=Z.o;omega)).trans bp.o;have a3:zj E (S+1) (zI 0) (zI 0) zN zN:=(af (S+1) (by have:=Z.o;have:=aa.o;omega)).trans bq.o;obtain ⟨C,J⟩:=qB (E.setCell ⟨B,3,none⟩ (.slice (some ⟨f,0,none⟩) (bn-1) z));have ay:zj C B (zI c) (zI n) (.slice (zO g 0) u F) (.slice (zO f 0) (bn-1) z):=by
  rw [J];unfold zj;rw [heap_setCell_same E B 3 _ _ _ ak];rfl
 have ai:zj C (S+1) (zI 0) (zI 0) zN zN:=by rw [J];exact (heap_setCell_other E (zA B 3) (S+1) _ (by have:=aB.o;have:=aa.o;simp only;omega)).trans a3
 have aT:∀ k,k≠B->C.heap[k]?=E.heap[k]?:=fun k bB=>by rw [J];exact heap_setCell_other E (zA B 3) k _ bB
 have aN:zL w C:=by
  rw [J];have y:=Z.o;have ao:=aF.o;have aK:=aa.o;have bW:=aB.o;exact (a5.o.trans (aP _ (by omega))).setCell (p:=(zA B 3)) (by simp only;omega) _
 have bg:=zh aV;have aD:=zh af;have ab:=zh aT;have a6:=zh aN;have bm:=zh J;have bU:=zh ay;have bi:=zh ai;obtain ⟨b4,b5,b6,b7⟩:=ak.cells;have b8:∀ k,E.frozen? (zA B k)=false:=fun k=>frozen_of_row E B k _ _ ak;obtain ⟨bJ,bK,bL,bM⟩:=ay.cells;obtain ⟨bO,bP,bQ,bR⟩:=ai.cells;have bS:∀ k,C.frozen? (zA (S+1) k)=false:=fun k=>frozen_of_row C (S+1) k _ _ ai;rw [J] at bJ bK bL bM bO bP bQ bR bS;clear aV af bE aP ak a3 J ay ai aT aN bF bG bH bI O c1 c2 c3;go_wp2_with fail
 rw [<-bm.o];have U:=zk C (S+1) 40 _ _ _ _ (zI c) (zI n) (.slice (zO g 0) u F) (.slice (zO f 0) (bn-1) z) bi.o;have ae:w.heap.size<=S+1:=by have:=aF.o;omega
 have bX:=Z.o;have aR:=a9.o;have b2:=aa.o;have aU:∀ k,A.heap.size<=k->k<B->k≠f->((((C.setCell (zA (S+1) 0) (zI c)).setCell (zA (S+1) 1) (zI n)).setCell (zA (S+1) 2) (.slice (zO g 0) u F)).setCell (zA (S+1) 3) (.slice (zO f 0) (bn-1) z)).heap[k]?=H.heap[k]?:=fun k b0 b1 bC=>by
  rw [U.2 k (by omega),ab.o k (by omega),aD.o k bC]
 refine bodyPost_ret (v:=.tuple #[.agg (zS c n (zO g 0) u F (zO f 0) (bn-1) z),zI 0]) (zt Tryz.results53 _ _ (S+1) 40 (zS c n (zO g 0) u F (zO f 0) (bn-1) z) (0,0) _ rfl U.1 Tryz.underlying40 rfl (by kernel_rfl)) rfl ⟨_,rfl,g,F,ah,zO f 0,z,q.take i++q.drop (i+1),rfl,⟨?_,?_⟩,a8.o,?_,?_,?_⟩
 ·refine y6 (aC.o.blocks2 (fun a e=>?_) (fun i r d a m e=>?_))
  ·have e:g=a:=(by simpa [Value.ownBlock] using e);subst e;exact aU g aR.1 aR.2 bb.o
  have y:=aE.o i r d a m e;exact aU a y.1 y.2.1 y.2.2
 ·have R:(q.take i++q.drop (i+1)).length=bn-1:=by have:=al.o;simp;omega
  have aW:=P8 (w':=E) bf.o (fun x ax=>wK ax) (by rw [R];omega) (by rw [R];exact bg.o) (fun x ax _=>aD.o x ax);rw [R] at aW;refine ym (aW.blocks (fun a e=>?_) (fun j Q d a m e=>?_) (fun j Q d a m e=>?_))
  ·have e:f=a:=(by simpa [Value.ownBlock] using e);subst e;rw [U.2 f (by omega),ab.o f (by omega)]
  ·obtain ⟨t,L,I⟩:=yT (wK (yx Q));rw [<-I] at d e;have y:=(ad.o t L).1 d a m e;rw [U.2 a (by omega),ab.o a (by omega)]
  obtain ⟨t,L,I⟩:=yT (wK (yx Q));rw [<-I] at d e;have y:=(ad.o t L).2 d a m e;rw [U.2 a (by omega),ab.o a (by omega)]
 ·have:=a7.o;unfold zg at this ⊢;rw [List.map_append,List.map_append,List.map_take,List.map_take,List.map_drop,List.map_drop,this]
 ·exact ((((a6.o.setCell (p:=(zA (S+1) 0)) ae _).setCell (p:=(zA (S+1) 1)) ae _).setCell (p:=(zA (S+1) 2)) ae _).setCell (p:=(zA (S+1) 3)) ae _)
 ·refine ⟨fun _ a m e=>?_,fun i r d a m e=>?_,fun _ a m e=>?_,fun j Q d a m e=>?_,fun j Q d a m e=>?_⟩
  ·have M:g=a:=(by injection e with e;injection e with M);omega
  ·have y:=aE.o i (by have:=(y6 aC.o).len;omega) d a m e;omega
  ·have M:f=a:=(by injection e with e;injection e with M);omega
  ·have R:(q.take i++q.drop (i+1)).length=bn-1:=(by have:=al.o;simp;omega);obtain ⟨t,L,I⟩:=yT (wK (yx (show j<(q.take i++q.drop (i+1)).length by omega)));rw [<-I] at d e;have y:=(ad.o t L).1 d a m e;omega
  have R:(q.take i++q.drop (i+1)).length=bn-1:=by have:=al.o;simp;omega
  obtain ⟨t,L,I⟩:=yT (wK (yx (show j<(q.take i++q.drop (i+1)).length by omega)));rw [<-I] at d e;have y:=(ad.o t L).2 d a m e;omega
theorem QP (w:World) (x:Bk) (T:Nat) (t:Int) (j:w.cell? (zA T 0)=some (zI t)) (l:zH w x.rq) (a:RunsIn w x.ba x.bn x.bc x.bs) :
 zC 93 #[.agg #[zI x.id,zI x.rq.queue,zI x.rq.fr,zI x.rq.un,zI x.rq.kind,.slice x.rq.pa x.rq.pn x.rq.pc,.slice x.ba x.bn x.bc],.pointer (zO T 0)] w fun e w'=>e=.returned (.bool (decide (yA x<=t)))/\Below w.heap.size w w':=by
 obtain ⟨d,f⟩:=qB (w.alloc (.cells (zB x) 60));have c:zL w d:=by rw [f];exact zr _ _
 have b:=ON d x.rq (zH.later l c) x.ba x.bn x.bc x.bs (a.later c);rw [show (if yd x.rq x.bs=true then zJ x.rq x.bs x.bs.length else 0)=yA x from rfl] at b;obtain ⟨h,k⟩:=qA (yA x);rw [k] at b ⊢;obtain ⟨g,i⟩:=qA ((if yd x.rq x.bs=true then (0:Int) else 1));rw [i] at b;have p:=zh b;have r:=zh f;have m:=zh c;have q:=zh (cell_later c j);clear b f c j l a k i;go_enter Tryz.func93,Tryz.ntmps93;go_wp2_with fail
 rw [<-r.o];refine p.o.mono ?_;rintro e u ⟨rfl,a⟩;have s:=cell_later a q.o;have n:=zh (za m.o a);clear a;go_wp2;go_ret;exact ⟨rfl,n.o⟩
def OG (w w':World) (e:Ending) (B:Nat) (aa:Option Addr) (bn k:Nat) (b1:BL):Prop:=e=.returned (.slice aa b1.length k)/\OwnBks w' B (.slice aa b1.length k) b1/\(∀ x,x<w.heap.size->(Value.slice aa bn k).ownBlock≠some x->w'.heap[x]?=w.heap[x]?)/\Below B w w'
structure Swept (w wr:World) (B g bn k:Nat) (b:BL) (q:Bk->Bool) (i j:Nat):Prop where
 len:i=((b.take j).filter fun x=>!q x).length
 row:∃ cur,wr.heap[g]?=some (.cells cur 60 (0,0))/\cur.size=k*7/\cur.toList.take (i*7)=ze ((b.take j).filter fun x=>!q x)/\(cur.toList.take (bn*7)).drop (j*7)=ze (b.drop j)
 oth:∀ x,x≠g->x<w.heap.size->wr.heap[x]?=w.heap[x]?
 below:Below B w wr
theorem PU {b:BL} {j:Nat} (h:j<b.length):b.drop j=bk b j::b.drop (j+1):=by
 rw [Ta h];exact List.drop_eq_getElem_cons h
theorem Oq {b:BL} {j:Nat} (h:j<b.length):b.take (j+1)=b.take j++[bk b j]:=by
 rw [Ta h,List.take_succ_eq_append_getElem h]
theorem Swept.cell {w wr:World} {B g bn k:Nat} {b:BL} {q:Bk->Bool} {i j:Nat} (h:Swept w wr B g bn k b q i j) (l:j<b.length) {m:Nat} {c:Value} (d:(zx (bk b j))[m]?=some c):wr.cell? (zA g (j*7+m))=some c:=by
 obtain ⟨n,e,o,p,f⟩:=h.row;rw [cell_of_row wr g _ _ _ _ e];have a:(ze (b.drop j))[m]?=some c:=by
  rw [PU l,ze,List.getElem?_append_left (List.getElem?_eq_some_iff.1 d).1];exact d
 rw [<-f,List.getElem?_drop,List.getElem?_take] at a
 split at a
 ·rw [<-Array.getElem?_toList];exact a
 cases a
theorem Swept.later {w wr e:World} {B g bn k:Nat} {b:BL} {q:Bk->Bool} {i j:Nat} (h:Swept w wr B g bn k b q i j) (o:B<=wr.heap.size) (a:Below wr.heap.size wr e):Swept w e B g bn k b q i j:=by
 obtain ⟨f,c,l,m,n⟩:=h.row;exact ⟨h.len,⟨f,(a.block g (Array.getElem?_eq_some_iff.1 c).1).trans c,l,m,n⟩,fun x p d=>(a.block x (Nat.lt_of_lt_of_le d h.below.size)).trans (h.oth x p d),h.below.trans (a.mono o)⟩
theorem Swept.skip {w wr:World} {B g bn k:Nat} {b:BL} {q:Bk->Bool} {i j:Nat} (h:Swept w wr B g bn k b q i j) (a:j<b.length) (n:q (bk b j)=true):Swept w wr B g bn k b q i (j+1):=by
 obtain ⟨c,d,f,l,m⟩:=h.row;have e:(b.take (j+1)).filter (fun x=>!q x)=(b.take j).filter fun x=>!q x:=by rw [Oq a,List.filter_append];simp [n]
 refine ⟨by rw [e];exact h.len,⟨c,d,f,by rw [e];exact l,?_⟩,h.oth,h.below⟩;rw [show (j+1)*7=j*7+7 from by omega,<-List.drop_drop,m,PU a,ze];rfl
theorem Swept.stay {w wr:World} {B g bn k:Nat} {b:BL} {q:Bk->Bool} {i j:Nat} (h:Swept w wr B g bn k b q i j) (D:bn=b.length) (F:bn<=k) (l:j<b.length) (E:i<j) (y:q (bk b j)=false) (u:B<=g):Swept w (wr.setCells g (i*7) (zx (bk b j))) B g bn k b q (i+1) (j+1):=by
 obtain ⟨a,f,C,s,t⟩:=h.row;have c:(zx (bk b j)).length=7:=rfl;have e:(b.take (j+1)).filter (fun x=>!q x)=((b.take j).filter fun x=>!q x)++[bk b j]:=by rw [Oq l,List.filter_append];simp [y]
 have v:∀ d∈zx (bk b j),d.oneCell'=true:=fun d z=>y7 [bk b j] d (by simpa [ze] using z);rw [Wt wr g (i*7) a 60 _ f (by rw [c];omega) v,c];have o:(a.toList.take (i*7)).length=i*7:=by rw [List.length_take,Array.length_toList];omega
 refine ⟨by rw [e,List.length_append,<-h.len];rfl,⟨_,setRow_heap wr g a _ _ _ f,?_,?_,?_⟩,fun x p A=>(setRow_other wr g x _ p).trans (h.oth x p A),Below.setRow h.below u _⟩
 ·simp [c];omega
 ·show ((a.toList.take (i*7)++zx (bk b j))++_).take _=_;rw [List.take_left' (by rw [List.length_append,o,c];omega),e,xw,s];simp [ze]
 show (((a.toList.take (i*7)++zx (bk b j))++a.toList.drop (i*7+7)).take (bn*7)).drop ((j+1)*7)=_;have n:(a.toList.take (i*7)++zx (bk b j)).length=i*7+7:=by rw [List.length_append,o,c]
 have r:(a.toList.take (bn*7)).drop ((j+1)*7)=ze (b.drop (j+1)):=by
  rw [show (j+1)*7=j*7+7 from by omega,<-List.drop_drop,t,PU l,ze];rfl
 rw [<-r];apply List.ext_getElem?;intro m;rw [List.getElem?_drop,List.getElem?_drop,List.getElem?_take,List.getElem?_take]
 split
 ·rw [List.getElem?_append_right (by rw [n];omega),n,List.getElem?_drop]
  congr 1
  omega
 rfl
theorem Swept.has {w wr:World} {B g bn k:Nat} {b:BL} {q:Bk->Bool} {i j:Nat} (h:Swept w wr B g bn k b q i j) {o:Nat} (f:o<k*7):∃ d,wr.cell? (zA g o)=some d:=by
 obtain ⟨a,c,e,_⟩:=h.row;exact ⟨a[o],by rw [cell_of_row wr g _ _ _ _ c,Array.getElem?_eq_getElem (by omega)]⟩
theorem Swept.soft {w wr:World} {B g bn k:Nat} {b:BL} {q:Bk->Bool} {i j:Nat} (h:Swept w wr B g bn k b q i j) (o:Nat):wr.frozen? (zA g o)=false:=by
 obtain ⟨c,a,_⟩:=h.row;exact frozen_of_row wr g o _ _ a
theorem Gm {w:World} {T o:Nat} {b:Value} (h:w.cell? (zA T o)=some b):T<w.heap.size:=by
 rcases Nat.lt_or_ge T w.heap.size with a | a
 ·exact a
 simp [World.cell?,Array.getElem?_eq_none a] at h
theorem SA (w:World) (B T:Nat) (G:B<=w.heap.size) (t:Int) (l:Option Addr) (bn k:Nat) (b:BL) (p:OwnBks w B (.slice l bn k) b) (J:bn=b.length) (be:bn<=12) (H:w.cell? (zA T 0)=some (zI t)) (aa:(Value.slice l bn k).ownBlock≠some T) :
 zC 92 #[.slice l bn k,.func (.func 93) #[] #[.pointer (zO T 0)]] w fun e w'=>OG w w' e B l bn k (b.filter fun x=>!decide (yA x<=t)):=by
 have r:=SD 93 #[.pointer (zO T 0)] (fun x=>decide (yA x<=t)) (fun args w=>by go_simp) w l bn k b (ym p) (fun w' aX x Z aS=>QP w' x T t (cell_later aX H) Z aS);cases y:zw (fun i=>decide (yA (bk b i)<=t)) 0 bn with
 | none =>
  have aD:(b.filter fun x=>!decide (yA x<=t))=b:=by
   refine List.filter_eq_self.2 fun x f=>?_;obtain ⟨i,bh,rfl⟩:=yT f;have:=Yy y i (by omega) (by omega);rw [this];rfl
  rw [aD];rw [y] at r;have S:=zh r;have R:Zh (∀ w',zL w w'->OG w w' (.returned (.slice l bn k)) B l bn k b):=zh fun w' c=>by
   unfold OG;rw [<-J];exact ⟨rfl,p.later c,fun x f _=>c.block x f,c.mono G⟩
  clear r y aD H aa p J;go_enter Tryz.func92,Tryz.ntmps92;go_wp2_with fail
  refine S.o.mono ?_;rintro e q ⟨rfl,c⟩;have aN:=zh (R.o q c);clear c;simp only [IB];go_wp2;go_ret;exact aN.o
 | some i0 =>
  obtain ⟨_,aU,aH,aG⟩:=yz y;have bi:i0<bn:=by omega
  obtain ⟨g,rfl⟩:∃ g,l=some ⟨g,0,none⟩:=by
   rcases p.row.2 with ⟨bv,bd⟩ | ⟨g,cap,ax,e,_⟩
   ·omega
   simp only [Value.slice.injEq] at e;exact ⟨g,e.1⟩
  obtain ⟨ax,O,a0,bw,a1,aL,ak,aM⟩:=P7 p;have aB:T≠g:=fun e=>aa (by rw [e];rfl);have af:(b.take (i0+1)).filter (fun x=>!decide (yA x<=t))=b.take i0:=by
   rw [Oq (by omega),List.filter_append];have Z:(b.take i0).filter (fun x=>!decide (yA x<=t))=b.take i0:=by
    refine List.filter_eq_self.2 fun x f=>?_;obtain ⟨s,ah,rfl⟩:=yT f;have aI:s<i0:=(by simp at ah;omega);have e:bk (b.take i0) s=bk b s:=(by unfold bk;simp [List.getD,aI]);rw [e,aG s (by omega) aI];rfl
   rw [Z];have aW:yA (bk b i0)<=t:=of_decide_eq_true aH;simp [aW]
  have ay:∀ q,zL w q->Swept w q B g bn k b (fun x=>decide (yA x<=t)) i0 (i0+1):=fun q c=>by
   refine ⟨by rw [af];simp;omega,⟨ax,(c.block g (Array.getElem?_eq_some_iff.1 O).1).trans O,aL,?_,?_⟩,fun x _ f=>c.block x f,c.mono G⟩
   ·rw [af,<-YW b i0 (by omega),<-ak,List.take_take];congr 1;omega
   rw [ak,YV b (i0+1) (by omega)]
  rw [y] at r;have S:=zh r;have aq:=zh ay;have n:=zh p;have au:=zh H;have Q:=zh J;have an:=zh aM;have aQ:=zh aB;have ao:=zh G;have aF:=(Array.getElem?_eq_some_iff.1 O).1;have a4:=zh aF;clear r y af ay aG aH p H aa J O a0 a1 aL ak aM aB G aF aU;go_enter Tryz.func92,Tryz.ntmps92;go_wp2_with fail
  refine S.o.mono ?_;rintro e q ⟨rfl,c⟩;have aP:=zh (aq.o q c);clear c aq;simp only [IB];have bt:((i0:Int)==-1)=false:=by simp
  have bu:IntKind.i64.wrap ((i0:Int)+1)=(i0:Int)+1:=by rw [IntKind.wrap_i64];omega
  go_wp2;go_loopw [5,6,7] (fun a2 al _ wr=>∃ i j:Nat,a2=zI i/\al=zI j/\i<j/\j<=bn/\Swept w wr B g bn k b (fun x=>decide (yA x<=t)) i j) (fun _ al _ _=>bn-(intOf al).toNat)
  case atStart=>exact ⟨i0,i0+1,rfl,by go_num,by omega,by omega,aP.o⟩
  obtain ⟨i,j,rfl,rfl,aV,bo,az⟩:=hrel;have a:=zh az;clear az;by_cases bq:j<bn
  ·have br:(j:Int)<bn:=(by omega);have d:j<b.length:=(by have:=Q.o;omega);have W:=a.o.cell d (m:=0) rfl;have c1:=a.o.cell d (m:=1) rfl;have c2:=a.o.cell d (m:=2) rfl;have c3:=a.o.cell d (m:=3) rfl;have c4:=a.o.cell d (m:=4) rfl;have c5:=a.o.cell d (m:=5) rfl;have aw:=a.o.cell d (m:=6) rfl;simp only [Nat.add_zero] at W;have ag:zH wr (bk b j).rq:=RunsIn.of_away (n.o.rqs j d) fun F E ai D=>a.o.oth E (fun Y=>n.o.farP j d F E ai D (by rw [Y];rfl)) (RunsIn.lt (n.o.rqs j d) F D);have ae:RunsIn wr (bk b j).ba (bk b j).bn (bk b j).bc (bk b j).bs:=(n.o.bites j d).of_away fun F E ai D=>a.o.oth E (fun Y=>n.o.farB j d F E ai D (by rw [Y];rfl)) ((n.o.bites j d).lt F D);obtain ⟨X,ab⟩:=qA (bk b j);rw [ab] at W c1 c2 c3 c4 c5 aw ag ae;obtain ⟨A,I⟩:=qB (wr.alloc (.cells (zB X) 60));have v:zL wr A:=(by rw [I];exact zr _ _);have aE:ww A wr.heap.size X:=(by rw [I];exact heap_alloc_new wr _);have aC:wr.cell? (zA T 0)=some (zI t):=(World.cell?_of_block (w:=w) (a.o.oth T aQ.o (by have:=au.o;exact Gm this))).trans au.o;have av:=QP A X T t (cell_later v aC) (zH.later ag v) (ae.later v);have aO:=zh av;have V:=zh ab;have aR:=zh I;have ap:=zh aE;have a3:=zh v;have aA:=a.o.later (Nat.le_trans ao.o a.o.below.size) v;have ar:=zh aA;obtain ⟨P,aT⟩:=qA (wr.heap.size);rw [aT] at ap;clear ab I v aE av aC aA ag ae;go_wp2_with fail
   rw [<-aR.o];refine aO.o.mono ?_;rintro e bM ⟨rfl,c⟩;have h:=zh (ar.o.later (Nat.le_trans ao.o ar.o.below.size) c);obtain ⟨a5,b1,a6,a7,a8,a9,bb⟩:=(ap.o.later c).cells;clear c W c1 c2 c3 c4 c5 aw;by_cases z:yA X<=t
   ·have U:=zh z;rw [decide_eq_true z];clear z;go_wp2;go_roundw
    case rel=>exact ⟨i,j+1,rfl,by go_num,by omega,by omega,h.o.skip d (by rw [V.o];exact decide_eq_true U.o)⟩
    case measure=>simp [intOf];omega
   have U:=zh z;rw [decide_eq_false z];clear z;have bm:(i:Int)<bn:=(by omega);obtain ⟨bx,bF⟩:=h.o.has (o:=i*7) (by omega);obtain ⟨bz,bG⟩:=h.o.has (o:=i*7+1) (by omega);obtain ⟨bA,bH⟩:=h.o.has (o:=i*7+2) (by omega);obtain ⟨bB,bI⟩:=h.o.has (o:=i*7+3) (by omega);obtain ⟨bC,bJ⟩:=h.o.has (o:=i*7+4) (by omega);obtain ⟨bD,bK⟩:=h.o.has (o:=i*7+5) (by omega);obtain ⟨bE,bL⟩:=h.o.has (o:=i*7+6) (by omega);have bg:=h.o.soft;go_wp2;go_roundw
   case rel =>
    have aJ:=h.o.stay Q.o (by omega) d aV (by rw [V.o];exact decide_eq_false (by have:=U.o;omega)) an.o;rw [V.o] at aJ;exact ⟨i+1,j+1,by go_num,by go_num,by omega,by omega,aJ⟩
   case measure=>simp [intOf];omega
  obtain rfl:j=bn:=by omega
  obtain ⟨C,aj,aY,aK,aZ⟩:=a.o.row;obtain ⟨u,L⟩:=qB ((C.toList.take (i*7)++(Builtin.zeroCells Vt.cells (j-i)).toList++C.toList.drop (i*7+(j-i)*7)).toArray);have bf:∀ am,(Builtin.clear_ #[38] am #[.slice (zO g (i*7)) (j-i) (k-i)]).run Tryz.prog wr=.ok (.tuple #[]) (wr.setRow g u):=fun am=>by
   rw [L];exact TO wr g _ _ _ am C aj (by omega) (by omega)
  have ad:(b.take j)=b:=List.take_of_length_le (by have:=Q.o;omega);have M:i=(b.filter fun x=>!decide (yA x<=t)).length:=by have:=a.o.len;rw [ad] at this;exact this
  have R:Zh (OG w (wr.setRow g u) (.returned (.slice (zO g 0) i k)) B (zO g 0) j k (b.filter fun x=>!decide (yA x<=t))):=by
   show OG _ _ _ _ _ _ _ _;have ah:=P8 (w':=wr.setRow g u) n.o (b1:=b.filter fun x=>!decide (yA x<=t)) (fun x f=>(List.mem_filter.1 f).1) (by rw [<-M];omega) ⟨u,setRow_heap wr g C _ _ _ aj,by
    have:=Xb (j-i);rw [Array.length_toList] at this;rw [L];simp [this];omega,by
    rw [<-M,L];show ((C.toList.take (i*7)++_)++_).take _=_;rw [List.append_assoc,List.take_left' (by rw [List.length_take,Array.length_toList];omega),aK,ad]⟩
    (fun x f N=>(setRow_other wr g x _ f).trans (a.o.oth x f N))
   refine ⟨by rw [<-M],ah,fun x f N=>(setRow_other wr g x _ (fun e=>N (by rw [e];rfl))).trans (a.o.oth x (fun e=>N (by rw [e];rfl)) f),Below.setRow a.o.below an.o _⟩
  have bp:¬k=i:=by omega
  have bl:i<=k:=by omega
  have bj:(i:Int)<=j:=by omega
  clear aj aY aK aZ L ad M;go_wp2;go_ret;exact R.o
end Go.Proofs.YtckpdfkobdgjeaaGreatDoor
