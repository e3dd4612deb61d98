/- Several texts in one: DelD, BookF, BookN, AskA, CutA. -/
import Derived.BigQuiet
import Derived.Test.YtckpdfkobdgjeaaGreatDoorHAll9
import Derived.Test.YtckpdfkobdgjeaaGreatDoorHAll8
import Derived.Test.YtckpdfkobdgjeaaGreatDoorHAll3
namespace Go.Proofs.YtckpdfkobdgjeaaGreatDoor
set_option maxRecDepth 100000
set_option maxHeartbeats 4000000
open Go.RowKit
open Go.RowKit Go.Shelf
attribute [local go_sem] Oper.semAt_some
open Go.RowKit Go.Shelf
def xU (b:BL) (t:Int):BL:=b.filter fun x=>!decide (yA x<=t)
theorem Xu (b:BL) (t:Int):zg (xU b t)=xU (zg b) t:=by
 unfold zg xU;rw [List.filter_map]
 congr 1
 refine List.filter_congr fun x _=>?_;simp only [Function.comp,Wm]
theorem Qb {b a:BL} (h:zg a=zg b) (t:Int):zg (xU a t)=zg (xU b t):=by rw [Xu,Xu,h]
theorem Ts {b a:BL} (h:zg a=zg b) (t:Int):(xU a t).length=(xU b t).length:=by rw [<-zF,Qb h,zF]
theorem I8 (b:BL) (t:Int):(xU b t).length<=b.length:=List.length_filter_le _ _
theorem Qc (w:World) (a b c d:Value) (t:Int) {g:World} (n:g=((w.alloc (.cells #[a,b,c,d] 40)).alloc (.cells #[zI t] 3)).alloc (.cells zZ 40)):zj g w.heap.size a b c d/\g.cell? (zA (w.heap.size+1) 0)=some (zI t)/\zj g (w.heap.size+2) (zI 0) (zI 0) zN zN/\Below w.heap.size w g/\g.heap.size=w.heap.size+3:=by
 subst n;obtain ⟨f,i⟩:=qB (w.alloc (.cells #[a,b,c,d] 40));have l:zj f w.heap.size a b c d:=by rw [i];exact zj.new w a b c d
 have o:zL w f:=by rw [i];exact zr _ _
 have p:f.heap.size=w.heap.size+1:=by rw [i];simp
 rw [<-i];obtain ⟨e,h⟩:=qB (f.alloc (.cells #[zI t] 3));have m:e.heap[w.heap.size+1]?=some (.cells #[zI t] 3 (0,0)):=by rw [h,<-p];exact heap_alloc_new f _
 have k:zL f e:=by rw [h];exact zr _ _
 have q:e.heap.size=w.heap.size+2:=by rw [h];simp;omega
 rw [<-h];have j:zL e (e.alloc (.cells zZ 40)):=zr _ _;refine ⟨(l.later k).later j,cell_later j (by rw [cell_of_row e _ 0 _ _ _ m];rfl),?_,za (za o k) j,by simp;omega⟩;have:=zj.new e (zI 0) (zI 0) zN zN;rw [q] at this;exact this
def we (c n:Int) (l:QL) (b:BL) (t:Int):Int:=if zU c n l b=0 then (if t<0\/48<t then 3 else if t<c then 9 else 0) else zU c n l b
theorem L6 {c n:Int} {l:QL} {b:BL} {t:Int} (h:we c n l b t=0):zU c n l b=0/\0<=t/\t<=48/\c<=t:=by
 unfold we at h
 split at h
 ·rename_i h1
  split at h
  ·cases h
  split at h
  ·cases h
  exact ⟨h1,by omega,by omega,by omega⟩
 contradiction
theorem My (w:World) (c n:Int) (y:Option Addr) (A z:Nat) (l:QL) (ba:Option Addr) (bn bc:Nat) (b:BL) (h:zY w y A z l ba bn bc b) (t:Int) (r:we c n l b t≠0) :
 zC 54 #[.agg (zS c n y A z ba bn bc),zI t] w fun e w'=>e=.returned (.tuple #[.agg zZ,zI 0,zI (we c n l b t)])/\Below w.heap.size w w':=by
 obtain ⟨S,W⟩:=qA (w.heap.size);obtain ⟨G,J⟩:=qB (((w.alloc (.cells (zS c n y A z ba bn bc) 40)).alloc (.cells #[zI t] 3)).alloc (.cells zZ 40));obtain ⟨B,O,P,L,X⟩:=Qc w _ _ _ _ t J;rw [W] at B O P X;have j:=wY G c n y A z l ba bn bc b (h.later L);have aa:=zh B;have ab:=zh O;have V:=zh P;have Q:=zh L;have U:=zh J;have R:=zh W;obtain ⟨H,c1,c2,c3⟩:=B.cells;clear J B O P L h X;by_cases g:zU c n l b=0
 ·have q:we c n l b t=if t<0\/48<t then 3 else if t<c then 9 else 0:=if_pos g;rw [q] at r ⊢;rw [g] at j;have E:=zh j;clear q j g;obtain ⟨m,I⟩:=qA ((if t<0\/48<t then (3:Int) else if t<c then 9 else 0));rw [I] at r ⊢;have s:=zh I;have Y:=zh r;clear I r;go_enter Tryz.func54,Tryz.ntmps54;go_wp2_with fail
  rw [<-U.o];refine E.o.mono ?_;rintro e i ⟨rfl,d⟩;have f:=zh (V.o.later d);have C:=zh (za Q.o d);have al:=cell_later d ab.o;have Z:=zh (aa.o.later d);clear d H c1 c2 c3;obtain ⟨H,c1,c2,c3⟩:=Z.o.cells;obtain ⟨ag,ah,ai,aj⟩:=f.o.cells;have ak:∀ k,i.frozen? (zA (S+2) k)=false:=fun k=>frozen_of_row i (S+2) k _ _ f.o;have F:=zh (zk i (S+2) 40 _ _ _ _ (zI 0) (zI 0) zN zN f.o);have a:w.heap.size<=S+2:=by have:=R.o;omega
  have D:=zh ((((C.o.setCell (p:=(zA (S+2) 0)) a (zI 0)).setCell (p:=(zA (S+2) 1)) a (zI 0)).setCell (p:=(zA (S+2) 2)) a zN).setCell (p:=(zA (S+2) 3)) a zN);clear a;by_cases ad:t<0
  ·obtain rfl:m=3:=(by rw [<-s.o,if_pos (Or.inl ad)]);go_wp2_with fail
   refine bodyPost_ret (v:=.tuple #[.agg zZ,zI 0,zI 3]) (zq Tryz.results54 _ _ (S+2) 40 zZ (0,0) _ rfl F.o.1 Tryz.underlying40 rfl (by kernel_rfl)) rfl ⟨rfl,D.o⟩
  by_cases ae:48<t
  ·obtain rfl:m=3:=(by rw [<-s.o,if_pos (Or.inr ae)]);go_wp2_with fail
   refine bodyPost_ret (v:=.tuple #[.agg zZ,zI 0,zI 3]) (zq Tryz.results54 _ _ (S+2) 40 zZ (0,0) _ rfl F.o.1 Tryz.underlying40 rfl (by kernel_rfl)) rfl ⟨rfl,D.o⟩
  have N:¬(t<0\/48<t):=by omega
  have x:t<c:=by
   by_cases x:t<c
   ·exact x
   exact absurd (s.o.symm.trans (by rw [if_neg N,if_neg x])) Y.o
  obtain rfl:m=9:=by rw [<-s.o,if_neg N,if_pos x]
  clear N;go_wp2_with fail
  refine bodyPost_ret (v:=.tuple #[.agg zZ,zI 0,zI 9]) (zq Tryz.results54 _ _ (S+2) 40 zZ (0,0) _ rfl F.o.1 Tryz.underlying40 rfl (by kernel_rfl)) rfl ⟨rfl,D.o⟩
 ·have q:we c n l b t=zU c n l b:=if_neg g;rw [q];obtain ⟨u,M⟩:=qA (zU c n l b);rw [M] at j g;rw [M];have am:(u != 0)=true:=by simp [g]
  have E:=zh j;clear q j g M r;go_enter Tryz.func54,Tryz.ntmps54;go_wp2_with fail
  rw [<-U.o];refine E.o.mono ?_;rintro e i ⟨rfl,d⟩;have f:=zh (V.o.later d);have C:=zh (za Q.o d);clear d H c1 c2 c3;obtain ⟨ag,ah,ai,aj⟩:=f.o.cells;have ak:∀ k,i.frozen? (zA (S+2) k)=false:=fun k=>frozen_of_row i (S+2) k _ _ f.o;go_wp2_with fail
  have af:=zk i (S+2) 40 _ _ _ _ (zI 0) (zI 0) zN zN f.o;have a:w.heap.size<=S+2:=by have:=R.o;omega
  refine bodyPost_ret (v:=.tuple #[.agg zZ,zI 0,zI u]) (zq Tryz.results54 _ _ (S+2) 40 zZ (0,0) _ rfl af.1 Tryz.underlying40 rfl (by kernel_rfl)) rfl ⟨rfl,?_⟩;exact ((((C.o.setCell (p:=(zA (S+2) 0)) a _).setCell (p:=(zA (S+2) 1)) a _).setCell (p:=(zA (S+2) 2)) a _).setCell (p:=(zA (S+2) 3)) a _)
def LF (w w':World) (e:Ending) (t n:Int) (tn bn:Nat) (l:QL) (bx:BL):Prop:=∃ v,e=.returned (.tuple #[v,zI ((bn:Int)-bx.length),zI 0])/\J9 w w' v t n tn bx.length l bx
theorem Ia (w:World) (c n:Int) (R:Option Addr) (u U:Nat) (l:QL) (ba:Option Addr) (bn bc:Nat) (b:BL) (h:zY w R u U l ba bn bc b) (t:Int) (aV:we c n l b t=0) :
 zC 54 #[.agg (zS c n R u U ba bn bc),zI t] w fun e w'=>LF w w' e t n u bn l (xU b t):=by
 obtain ⟨f,bT,bU,bV⟩:=L6 aV;have aw:=yZ f;have a6:=XT h aw.clean;have a0:=h.2.len;have bN:=aw.clean.few;have bK:bn<=12:=by omega
 obtain ⟨S,aW⟩:=qA (w.heap.size);obtain ⟨au,ax⟩:=qB (((w.alloc (.cells (zS c n R u U ba bn bc) 40)).alloc (.cells #[zI t] 3)).alloc (.cells zZ 40));obtain ⟨aj,aK,aL,az,aH⟩:=Qc w _ _ _ _ t ax;rw [aW] at aj aK aL aH;have aq:=wY au c n R u U l ba bn bc b (h.later az);rw [f] at aq;have bD:=zh fun X (bM:zL w X)=>Vw X c n R u U l ba bn bc b (h.later bM) a6;have bE:=zh aj;have bF:=zh aK;have bG:=zh aL;have bf:=zh az;have bv:=zh ax;have aS:=zh aW;have bt:=zh aH;have bi:=zh a0;obtain ⟨W,c1,c2,c3⟩:=aj.cells;have bo:=zh aq;have b6:¬t<0:=by omega
 have b7:¬48<t:=by omega
 have b8:¬t<c:=by omega
 clear ax aj aK aL az h aH aq f aw a6 a0 bN aV bT bU bV;go_enter Tryz.func54,Tryz.ntmps54;go_wp2_with fail
 rw [<-bv.o];refine bo.o.mono ?_;rintro e F ⟨rfl,A⟩;have ao:=zh (bE.o.later A);have ap:=zh (cell_later A bF.o);have bz:=zh (bG.o.later A);have aM:=zh (za bf.o A);have al:Zh (S+3<=F.heap.size):=by have:=A.size;have:=bt.o;show S+3<=F.heap.size;omega
 clear A W c1 c2 c3;obtain ⟨W,c1,c2,c3⟩:=ao.o.cells;have bH:=ap.o;go_wp2_with fail
 refine (bD.o F aM.o).mono ?_;rintro e L ⟨g,H,ah,r,z,y,rfl,E,bQ,ay,a1,aY,A⟩;obtain ⟨M,Z⟩:=qB (L.alloc (.cells (zS t n (some ⟨g,0,none⟩) u H r bn z) 40));have P:zL L M:=by rw [Z];exact zr _ _
 have af:M.heap.size=L.heap.size+1:=by rw [Z];simp
 have ag:zj M L.heap.size (zI t) (zI n) (.slice (zO g 0) u H) (.slice r bn z):=by rw [Z];exact zj.new L _ _ _ _
 have a9:=cell_later P (cell_later A ap.o);have ae:∀ x,(Value.slice r bn z).ownBlock=some x->F.heap.size<=x/\x<L.heap.size:=fun x e=>E.bks.row.lt x e;have ar:=SA M F.heap.size (S+1) (by have:=A.size;omega) t r bn z y (E.bks.later P) ay bK a9 (fun e=>by have:=ae _ e;have:=al.o;omega);rw [show (y.filter fun x=>!decide (yA x<=t))=xU y t from rfl] at ar;have hg:F.heap.size<=g/\g<L.heap.size:=E.qs.row.lt g rfl;obtain ⟨B,bL⟩:=qA (L.heap.size);rw [bL] at ag af hg ae;have bA:=zh ag;have aO:=zh (E.qs.later P);have an:=zh ae;have bl:=zh hg;have aR:Zh (∀ i,i<ah.length->0<(qu ah i).cn->∀ d q,(qu ah i).ca=zO d q->F.heap.size<=d/\d<B/\(Value.slice r bn z).ownBlock≠some d):=zh fun i I f d q e=>by
  have D:=E.newC i I f d q e;have av:=(E.qs.caps i I).lt f e;exact ⟨D,by omega,fun bJ=>(E.apart d bJ).2 i I f d q e rfl⟩
 have bm:Zh ((Value.slice r bn z).ownBlock≠some g):=zh fun e=>(E.apart g e).1 rfl;have ad:Zh (∀ i,i<y.length->(0<(bk y i).rq.pn->∀ g q,(bk y i).rq.pa=zO g q->F.heap.size<=g/\g<B)/\(0<(bk y i).bn->∀ g q,(bk y i).ba=zO g q->F.heap.size<=g/\g<B)):=zh fun i I=>⟨fun f g q e=>by have D:=E.newP i I f g q e;have av:=RunsIn.lt (E.bks.rqs i I) f e;omega,fun f g q e=>by have D:=E.newB i I f g q e;have av:=(E.bks.bites i I).lt f e;omega⟩;have b2:=zh ay;have bj:=zh a1;have ab:=zh aY;have bp:=zh ar;have bw:=zh Z;have aT:=zh af;have bB:=zh ((ao.o.later A).later P);have bC:=zh ((bz.o.later A).later P);have bg:=zh (za (za aM.o A) P);have bq:Zh (F.heap.size<=B):=by have:=A.size;show F.heap.size<=B;omega
 obtain ⟨bY,bZ,b0,b1⟩:=ag.cells;have bX:(L.alloc (.cells (zS c n (zO g 0) u H r bn z) 40)).cell? (zA (S+1) 0)=some (zI t):=cell_later (zr _ _) (cell_later A ap.o);clear A P af ag E bQ ay a1 aY Z ar a9 ae hg W c1 c2 c3 bH;obtain ⟨W,c1,c2,c3⟩:=ao.o.cells;go_wp2_with fail
 rw [<-bw.o];refine bp.o.mono ?_;rintro e G ⟨rfl,aF,aE,aA⟩;have aD:=Ts ab.o t;have bS:=I8 b t;obtain ⟨m,aC⟩:=qA ((xU y t).length);rw [aC] at aF aD ⊢;have b5:m<=bn:=by have:=bi.o;omega
 have ak:zj G B (zI t) (zI n) (.slice (zO g 0) u H) (.slice r bn z):=(aE B (by have:=aT.o;omega) (fun e=>by have:=an.o B e;omega)).trans bA.o;have aB:∀ x,x<F.heap.size->G.heap[x]?=M.heap[x]?:=fun x bW=>aA.block x bW;have a5:=al.o;have bd:zj G S (zI c) (zI n) (.slice R u U) (.slice ba bn bc):=(aB S (by omega)).trans bB.o;have be:zj G (S+2) (zI 0) (zI 0) zN zN:=(aB (S+2) (by omega)).trans bC.o;obtain ⟨C,O⟩:=qB (G.setCell ⟨B,3,none⟩ (.slice r m z));have bR:=bq.o;have aJ:zj C B (zI t) (zI n) (.slice (zO g 0) u H) (.slice r m z):=by
  rw [O];unfold zj;rw [heap_setCell_same G B 3 _ _ _ ak];rfl
 have bb:zj C S (zI c) (zI n) (.slice R u U) (.slice ba bn bc):=by rw [O];exact (heap_setCell_other G (zA B 3) S _ (by simp only;omega)).trans bd
 have ai:zj C (S+2) (zI 0) (zI 0) zN zN:=by rw [O];exact (heap_setCell_other G (zA B 3) (S+2) _ (by simp only;omega)).trans be
 have a7:∀ k,k≠B->C.heap[k]?=G.heap[k]?:=fun k bO=>by rw [O];exact heap_setCell_other G (zA B 3) k _ bO
 have aX:zL w C:=by
  rw [O];have av:=aS.o;exact (bg.o.trans (aA.mono (by omega))).setCell (p:=(zA B 3)) (by simp only;omega) _
 have bs:=zh aF;have br:=zh aE;have aP:=zh a7;have V:=zh aX;have bx:=zh O;have b4:=zh aJ;have bu:=zh ai;have b3:=zh aC;have am:=zh aD;obtain ⟨cd,ce,cf,cg⟩:=ak.cells;have ch:∀ k,G.frozen? (zA B k)=false:=fun k=>frozen_of_row G B k _ _ ak;obtain ⟨cm,co,cp,cq⟩:=aJ.cells;obtain ⟨ci,cj,ck,cl⟩:=bb.cells;obtain ⟨cr,cs,ct,cu⟩:=ai.cells;have cv:∀ k,C.frozen? (zA (S+2) k)=false:=fun k=>frozen_of_row C (S+2) k _ _ ai;have cc:IntKind.i64.wrap ((bn:Int)-(m:Int))=(bn:Int)-m:=by rw [IntKind.wrap_i64];omega
 have aN:Zh (S≠B/\S+2≠B):=zh (by omega);clear aF aE aA ak bd be O aJ bb ai a7 aX bY bZ b0 b1 W c1 c2 c3 aB a5 bR aD bS aC bX;go_wp2_with fail
 rw [<-bx.o];have b9:=aN.o.1;have cb:=aN.o.2;go_region
 have aZ:zL w C.drew:=⟨V.o.os,V.o.tape,V.o.output,V.o.size,V.o.block⟩;have aG:=zk C.drew (S+2) 40 _ _ _ _ (zI t) (zI n) (.slice (zO g 0) u H) (.slice r m z) bu.o;have Y:w.heap.size<=S+2:=by have:=aS.o;omega
 have a2:=bl.o;have a5:=al.o;have af:=aT.o;have a8:∀ k,F.heap.size<=k->k<B->(Value.slice r bn z).ownBlock≠some k->((((C.drew.setCell (zA (S+2) 0) (zI t)).setCell (zA (S+2) 1) (zI n)).setCell (zA (S+2) 2) (.slice (zO g 0) u H)).setCell (zA (S+2) 3) (.slice r m z)).heap[k]?=M.heap[k]?:=fun k a3 a4 bP=>by
  rw [aG.2 k (by omega)];show C.heap[k]?=_;rw [aP.o k (by omega),br.o k (by omega) bP]
 have aQ:=zh a8;have aU:=zh aG;have bh:=zh ((((aZ.setCell (p:=(zA (S+2) 0)) Y (zI t)).setCell (p:=(zA (S+2) 1)) Y (zI n)).setCell (p:=(zA (S+2) 2)) Y (.slice (zO g 0) u H)).setCell (p:=(zA (S+2) 3)) Y (.slice r m z));clear a8 aG aZ Y;go_wp2_with fail
 refine bodyPost_ret (v:=.tuple #[.agg (zS t n (zO g 0) u H r m z),zI ((bn:Int)-m),zI 0]) (zq Tryz.results54 _ _ (S+2) 40 (zS t n (zO g 0) u H r m z) (0,0) _ rfl aU.o.1 Tryz.underlying40 rfl (by kernel_rfl)) rfl ?_;unfold LF;rw [<-am.o];refine ⟨_,rfl,g,H,ah,r,z,xU y t,rfl,⟨?_,?_⟩,bj.o,Qb ab.o t,bh.o,?_⟩
 ·refine y6 (aO.o.blocks2 (fun d e=>?_) (fun i I f d q e=>?_))
  ·have e:g=d:=(by simpa [Value.ownBlock] using e);subst e;exact aQ.o g a2.1 a2.2 bm.o
  have D:=aR.o i I f d q e;exact aQ.o d D.1 D.2.1 D.2.2
 ·have aa:∀ j,j<(xU y t).length->∃ s,s<y.length/\bk y s=bk (xU y t) j:=fun j J=>yT (List.mem_filter.1 (yx J)).1;have aI:∀ k,k≠S+2->k≠B->((((C.drew.setCell (zA (S+2) 0) (zI t)).setCell (zA (S+2) 1) (zI n)).setCell (zA (S+2) 2) (.slice (zO g 0) u H)).setCell (zA (S+2) 3) (.slice r m z)).heap[k]?=G.heap[k]?:=fun k a3 a4=>by
   rw [aU.o.2 k a3];exact aP.o k a4
  refine ym (bs.o.blocks (fun d e=>?_) (fun j J f d q e=>?_) (fun j J f d q e=>?_))
  ·have D:=an.o d (by
    cases r with
    | none=>simp [Value.ownBlock] at e
    | some a=>exact e)
   exact aI d (by omega) (by omega)
  ·obtain ⟨s,Q,N⟩:=aa j J;rw [<-N] at f e;have D:=(ad.o s Q).1 f d q e;exact aI d (by omega) (by omega)
  obtain ⟨s,Q,N⟩:=aa j J;rw [<-N] at f e;have D:=(ad.o s Q).2 f d q e;exact aI d (by omega) (by omega)
 ·have aa:∀ j,j<(xU y t).length->∃ s,s<y.length/\bk y s=bk (xU y t) j:=fun j J=>yT (List.mem_filter.1 (yx J)).1;refine ⟨fun _ d q e=>?_,fun i I f d q e=>?_,fun _ d q e=>?_,fun j J f d q e=>?_,fun j J f d q e=>?_⟩
  ·have bI:g=d:=(by injection e with e;injection e with bI);omega
  ·have D:=aR.o i (by have:=(y6 aO.o).len;omega) f d q e;omega
  ·have D:=an.o d (by rw [e];rfl);omega
  ·obtain ⟨s,Q,N⟩:=aa j (by have:=am.o;have:=Ts ab.o t;omega);rw [<-N] at f e;have D:=(ad.o s Q).1 f d q e;omega
  obtain ⟨s,Q,N⟩:=aa j (by have:=am.o;have:=Ts ab.o t;omega);rw [<-N] at f e;have D:=(ad.o s Q).2 f d q e;omega
theorem FG {c n:Int} {l:QL} {b:BL} (h:Sound c n l b) {j:Nat} (a:j<b.length):yS b (bk b j).id=some j:=by
 refine WP (fun s d=>?_) a (by simp);have:=YG h a d;simp;omega
theorem wI {b:BL} {i:Nat} (h:i<b.length):bk b i=b[i]:=by simp [bk,List.getD,h]
theorem Hb (f:Bk->Int):∀ {a b:BL},a.Sublist b->(∀ x∈b,0<=f x)->(a.map f).sum<=(b.map f).sum:=by
 intro a b h
 induction h with
 | slnil=>intro _;exact Int.le_refl _
 | cons x _ ih =>
  intro c;have e:=ih fun y d=>c y (List.mem_cons_of_mem _ d);have g:=c x (List.mem_cons_self ..);simp only [List.map_cons,List.sum_cons];omega
 | cons_cons x _ ih =>
  intro c;have e:=ih fun y d=>c y (List.mem_cons_of_mem _ d);simp only [List.map_cons,List.sum_cons];omega
theorem JC {c n:Int} {l:QL} {b b1:BL} (h:Sound c n l b) (f:b1.Sublist b) {t:Int} (C:c<=t) (A:t<=48) (s:∀ x∈b1,t<yA x):Sound t n l b1:=by
 have D:=f.length_le;have u:Clean l b1:=Tc h.clean (by have:=h.clean.few;omega) (fun x g=>f.subset g);have r:b.Pairwise (fun x y=>x.id<y.id):=by
  rw [List.pairwise_iff_getElem];intro i j a p v;have:=YG h p v;rw [wI a,wI p] at this;exact this
 have o:=r.sublist f;rw [List.pairwise_iff_getElem] at o;have w:∀ x∈b,0<=x.id/\x.id<n:=by
  intro x g;obtain ⟨i,a,rfl⟩:=List.getElem_of_mem g;have d:=h.rise i a;have k:=PW h a;rw [wI a] at d k;exact ⟨k.1,d.2⟩
 refine ⟨u,by have:=h.c0;omega,A,h.n0,h.n1,fun i a=>?_,fun i a=>s _ (yx a),fun q z m E B=>?_⟩
 ·have d:=w _ (f.subset (yx a));refine ⟨?_,d.2⟩;unfold xd;by_cases e:i=0
  ·rw [if_pos e];exact d.1
  rw [if_neg e];have k:=o (i-1) i (by omega) a (by omega);rw [wI a,wI (show i-1<b1.length by omega)];omega
 have d:=h.fits q z m (by omega) B;rw [XI] at d ⊢;have k:=Hb (Tl l q m) f fun x g=>(LW (l:=l) (Uu h.clean g).1 q m).1;omega
theorem Lx {c n:Int} {l:QL} {b:BL} {t:Int} (h:we c n l b t=0):Sound t n l (xU b t):=by
 obtain ⟨e,g,a,d⟩:=L6 h;refine JC (yZ e) List.filter_sublist d a fun x f=>?_;have:=(List.mem_filter.1 f).2;simp at this;exact this
theorem LI {b a:BL} (h:zg a=zg b) (i:Nat):(bk a i).bare=(bk b i).bare:=by rw [<-xp,h,xp]
theorem O1 {b a:BL} (h:zg a=zg b):a.length=b.length:=by rw [<-zF,h,zF]
theorem PS {c n:Int} {l:QL} {b:BL} {r:Rq} (h:Zp c n l b r=0):Sound c (n+1) l (b++[⟨n,r,none,0,0,(yU l b r).1⟩]):=by
 obtain ⟨i,j,hn,a⟩:=Ha h;obtain ⟨k,m,o⟩:=L5 i;unfold yU at a ⊢;by_cases e:Zq l b r.queue=0
 ·rw [if_pos e] at a ⊢;by_cases d:yq (xH l b r.queue) r=0
  ·rw [if_pos d] at a ⊢;obtain ⟨f,g⟩:=Td d (Prod.ext rfl a);exact Oo (yZ k) rfl m o j hn f g
  rw [if_neg d] at a;cases a
 rw [if_neg e] at a;cases a
theorem Ki (w:World) (a:Option Addr) (n cap:Nat) (l:zd) (t:Int) (h:RunsIn w a n cap l) :
 zC 176 #[.slice a n cap,zI t] w fun e w'=>e=.returned (.tuple #[zI (Yv l t).1,zI (Yv l t).2])/\Below w.heap.size w w':=by
 cases d:xe l with
 | false =>
  have g:Yv l t=(0,1):=by simp [Yv,d]
  have i:Wd l=1:=by simp [Wd,d]
  rw [g];go_enter Tryz.func176,Tryz.ntmps176;go_wp2_with (go_at_call 100;refine (yg _ a n cap l h).mono ?_;rintro e w' ⟨rfl,c⟩;rw [i])
  go_ret2
  exact ⟨rfl,c⟩
 | true =>
  have i:Wd l=0:=by simp [Wd,d]
  cases f:yW t 0 47 with
  | false =>
   have g:Yv l t=(0,3):=(by simp [Yv,d,f]);rw [g];simp [yW] at f;have m:t<0\/0<=t/\48<=t:=(by omega);clear f;rcases m with m | ⟨m,E⟩
   all_goals
    go_enter Tryz.func176,Tryz.ntmps176;go_wp2_with (go_at_call 100;refine (yg _ a n cap l h).mono ?_;rintro e w' ⟨rfl,c⟩;rw [i])
    go_ret2
    exact ⟨rfl,c⟩
  | true =>
   have k:=zX.1 d;have g:Yv l t=(XJ l t,0):=(by simp [Yv,d,f]);rw [g];simp [yW] at f;obtain ⟨H,I⟩:=f;have p:=h.len;have v:0<n:=(by rw [p];exact k.1);obtain ⟨b,z,rfl,u⟩:=h.cells v;have q:Zh (n=l.length):=p;clear p;have G:=h.le;have C:=h.bound;have D:=h.capb;go_enter Tryz.func176,Tryz.ntmps176;go_wp2_with (go_at_call 100;refine (yg _ _ n cap l h).mono ?_;rintro e w' ⟨rfl,c⟩;rw [i])
   refine (VF _ b z n cap l 0 t (h.later c) v).mono ?_;rintro e J ⟨j,rfl,B,x,r,s,rfl⟩;have A:=cell_later c (u j x).2;have F:(j:Int)<n:=(by omega);have y:Zh (yH l t j):=⟨by have:=q.o;omega,by
    by_cases e:0<j
    ·exact r e
    obtain rfl:j=0:=(by omega);rw [k.at0];omega,fun h=>s (by have:=q.o;omega)⟩
   clear r s u;go_wp2;go_ret2
   rw [y.o.val k.rises];exact ⟨rfl,c⟩
theorem below_drewN (w:World) (d:Nat):Below w.heap.size w (w.drewN d):=⟨rfl,rfl,rfl,Nat.le_refl _,fun _ _=>rfl⟩
theorem Kd (w:World) (l m:Option Addr) (z A p q:Nat) (c d:zd) (j:RunsIn w l z p c) (k:RunsIn w m A q d) :
 zC 137 #[.slice l z p,.slice m A q] w fun e w'=>SC w w' e (xl (fun x y=>x-y) c d):=by
 cases f:(xe c&&xe d) with
 | false =>
  have h:xl (fun x y=>x-y) c d=([],1):=by simp only [xl,f];rfl
  rw [h];have t:(if (xe c&&xe d)=true then (0:Int) else 1)=1:=by rw [f];rfl
  go_enter Tryz.func137,Tryz.ntmps137;go_wp2_with fail
  refine (wP _ _ _ _ _ _ _ c d j k).mono ?_;rintro e D ⟨rfl,g⟩;rw [t];go_wp2;go_ret2
  exact Yk g
 | true =>
  have h:xl (fun x y=>x-y) c d=Yc (jv (fun x y=>x-y) c d):=by simp only [xl,f];rfl
  rw [h];have t:(if (xe c&&xe d)=true then (0:Int) else 1)=0:=by rw [f];rfl
  rw [Bool.and_eq_true] at f;have B:=zh (zX.1 f.1);have C:=zh (zX.1 f.2);obtain ⟨r,v⟩:=qB (Yc (jv (fun x y=>x-y) c d));rw [<-v];have E:=zh v;clear v h f;go_enter Tryz.func137,Tryz.ntmps137;go_wp2_with fail
  refine (wP _ _ _ _ _ _ _ c d j k).mono ?_;rintro e D ⟨rfl,g⟩;rw [t];go_wp2_with fail
  have u:=V4 170 _ LQ D l m z p A q c d (j.later g) (k.later g) B.o.rises C.o.rises (fun i s=>B.o.bdd (by rw [<-j.len];exact s)) (fun i s=>C.o.bdd (by rw [<-k.len];exact s));rw [<-E.o] at u;refine u.mono ?_;clear u;rintro e I ⟨a,n,cap,rfl,h,F,G⟩;go_wp2;go_ret2
  exact ⟨a,n,cap,rfl,h,za g F,fun b H e=>Nat.le_trans g.size (G b H e)⟩
theorem Ml (d:Nat) (u:Array Value) (p:Nat->Bool) (L:∀ (args:Array Value) (w:World),(callFunc d args).run Tryz.prog w=.ok (.enter d args) w) (w:World) (b A n cap:Nat) (l:zd) (h:RunsIn w (zO b A) n cap l) (C:0<n)
 (z:∀ w',Below w.heap.size w w'->∀ i,i<n->zC d (#[.agg #[zI (zp l i),zI (rN l i)]]++u) w' fun e D=>e=.returned (.bool (!p i))/\Below w'.heap.size w' D) :
 zC 168 #[.slice (zO b A) n cap,.func (.func d) #[] u] w fun e w'=>∃ r:Int,e=.returned (zI r)/\(decide (0<=r))=(!zQ p n)/\Below w.heap.size w w':=by
 have F:=zh h.len;have M:=h.le;have I:=h.capb;obtain ⟨G,O,e,y⟩:=h.cells C;cases e
 have s:=zh y;have t:=zh z;clear y z;go_enter Tryz.func168,Tryz.ntmps168;go_wp2;go_loopw [5,8] (fun _ m wr=>∃ k:Nat,m=zI k/\k<=n/\zQ p k=true/\zL w wr) (fun _ m _=>n-(intOf m).toNat)
 case atStart=>exact ⟨0,rfl,by omega,rfl,Below.refl _ _⟩
 case round =>
  obtain ⟨j,rfl,J,v,x⟩:=hrel;have q:=zh v;have a:=zh x;clear v x;by_cases c:j<n
  ·have N:(j:Int)<n:=(by omega);have H:=cell_later a.o (s.o j c).1;have c1:=cell_later a.o (s.o j c).2;cases g:p j with
   | false =>
    go_wp2_with fail
    refine (t.o wr a.o j c).mono ?_;rintro e E ⟨rfl,f⟩;rw [g];go_wp2;go_ret;exact ⟨_,rfl,by rw [yO (p:=p) g n c];simp,za a.o f⟩
   | true =>
    go_wp2_with fail
    refine (t.o wr a.o j c).mono ?_;rintro e E ⟨rfl,f⟩;have B:=zh f;clear f;rw [g];go_wp2;go_roundw
    case rel=>exact ⟨j+1,by go_num,by omega,by rw [zQ,q.o,g];rfl,za a.o B.o⟩
    case measure=>simp [intOf];omega
  obtain rfl:j=n:=by omega
  go_wp2;go_ret;exact ⟨_,rfl,by rw [q.o];rfl,a.o⟩
theorem Ql (c:Nat) (d:Array Value) (p:Nat->Bool) (s:∀ (args:Array Value) (w:World),(callFunc c args).run Tryz.prog w=.ok (.enter c args) w) (w:World) (a:Option Addr) (n cap:Nat) (l:zd) (h:RunsIn w a n cap l) (g:0<n)
 (f:∀ w',Below w.heap.size w w'->∀ i,i<n->zC c (#[.agg #[zI (zp l i),zI (rN l i)]]++d) w' fun e u=>e=.returned (.bool (!p i))/\Below w'.heap.size w' u) :
 zC 133 #[.slice a n cap,.func (.func c) #[] d] w fun e w'=>e=.returned (.bool (!zQ p n))/\Below w.heap.size w w':=by
 obtain ⟨b,t,rfl,_⟩:=h.cells g;have k:=zh f;clear f;go_enter Tryz.func133,Tryz.ntmps133;go_wp2_with fail
 refine (Ml c d p s w b t n cap l h g k.o).mono ?_;rintro e v ⟨r,rfl,j,q⟩;have m:=zh j;clear j;go_wp2;go_ret;exact ⟨zm m.o,q⟩
def Vq (X:Bk) (t:Int) (i:Nat):Bool:=decide (rN X.bs i<=t)&&decide (t<rN X.bs i+lenOf X.rq X.bs i)
def Yb (X:Bk) (t:Int):Bool:=!zQ (fun i=>!Vq X t i) X.bs.length
theorem Lv (w:World) (X:Bk) (T B k:Nat) (t y:Int) (l:w.cell? (zA T 0)=some (zI t)) (j:ww w B X) (p:zH w X.rq) (L:k<X.rq.ps.length) (R:0<=y) (U:y<=48) (H:0<=zp X.rq.ps k) (I:zp X.rq.ps k<=48) :
 zC 191 #[.agg #[zI k,zI y],.pointer (zO T 0),.pointer (zO B 0)] w fun e w'=>e=.returned (.bool (decide (y<=t)&&decide (t<y+zp X.rq.ps k)))/\Below w.heap.size w w':=by
 obtain ⟨S,J⟩:=qA (w.heap.size);obtain ⟨a,d⟩:=qB (w.alloc (.cells #[zI k,zI y] 62));have b:zL w a:=by rw [d];exact zr _ _
 have c:RunsIn w X.rq.pa X.rq.pn X.rq.pc X.rq.ps:=p;have v:=c.len;have O:=c.le;have N:=c.capb;have u:k<X.rq.pn:=by omega
 have M:(k:Int)<X.rq.pn:=by omega
 obtain ⟨P,Q,n,m⟩:=c.cells (by omega);have r:=cell_later b (m k u).1;have x:=cell_later b l;obtain ⟨A,C,D,E,F,s,G⟩:=(j.later b).cells;rw [n] at s;have h:=zh b;have i:=zh d;rw [d] at r x A C D E F s G;clear b d p c m j l v n;obtain ⟨z,q⟩:=qA (zp X.rq.ps k);rw [q] at r H I ⊢;clear q;by_cases g:y<=t
 ·have f:decide (y<=t)=true:=by simp [g]
  go_enter Tryz.func191,Tryz.ntmps191;go_wp2;go_quiet (fail)
  go_wp2;go_ret;rw [<-i.o];exact ⟨by rw [f];rfl,za h.o (below_drewN a _)⟩
 ·have f:decide (y<=t)=false:=by simp [g]
  go_enter Tryz.func191,Tryz.ntmps191;go_wp2;go_quiet (fail)
  go_wp2;go_ret;rw [<-i.o];exact ⟨by rw [f];rfl,za h.o (below_drewN a _)⟩
theorem JF (w:World) (X:Bk) (D:zH w X.rq) (c:RunsIn w X.ba X.bn X.bc X.bs) (h:meets X.rq X.bs=true) (t:Int) :
 zC 179 #[.agg #[zI X.id,zI X.rq.queue,zI X.rq.fr,zI X.rq.un,zI X.rq.kind,.slice X.rq.pa X.rq.pn X.rq.pc,.slice X.ba X.bn X.bc],zI t] w fun e w'=>e=.returned (.bool (Yb X t))/\Below w.heap.size w w':=by
 obtain ⟨S,g⟩:=qA (w.heap.size);obtain ⟨a,b⟩:=qB ((w.alloc (.cells (zB X) 60)).alloc (.cells #[zI t] 3));have d:zL w a:=by rw [b];exact (zr _ _).alloc (by simp) _
 have f:ww a S X:=by rw [b,<-g];exact (Below.heap_alloc _ _ _ (by simp)).trans (heap_alloc_new w _)
 have x:a.cell? (zA (S+1) 0)=some (zI t):=by rw [b,<-g];go_simp
 have y:=c.len;obtain ⟨m,P,F⟩:=yk.1 h;have n:=zv.1 m;have C:=n.2.1;simp [yW] at C;have B:0<X.bn:=by
  have:0<xu X.rq:=by unfold xu;split <;> omega
  omega
 have L:=YY h;have s:=Ql 191 #[.pointer (zO (S+1) 0),.pointer (zO S 0)] (fun i=>!Vq X t i) (fun args w=>by go_simp) a X.ba X.bn X.bc X.bs (c.later d) B (fun w' l i aa=>by
  have z:=F i (by omega);have j:=(wm z).1;have ad:=wR (wm z).2.1;obtain ⟨k,A⟩:∃ k:Nat,zp X.bs i=k:=⟨(zp X.bs i).toNat,by have:=Zi j;omega⟩;have M:k<X.rq.ps.length:=by have:=Zi j;omega
  have ab:=Xm m j;have O:lenOf X.rq X.bs i=zp X.rq.ps k:=by unfold lenOf;rw [A,Int.toNat_natCast]
  have E:=n.2.2;simp only [yJ,Bool.and_eq_true] at E;have N:=E.1;simp [Xw] at N;have I:=Lv w' X (S+1) S k t (rN X.bs i) (cell_later l x) (f.later l) (zH.later (zH.later D d) l) M (by omega) (by omega) (by omega) (by omega);rw [A];refine I.mono ?_;rintro e ae ⟨rfl,J⟩;refine ⟨?_,J⟩;rw [Bool.not_not];unfold Vq;rw [O])
 have u:Yb X t=!zQ (fun i=>!Vq X t i) X.bn:=by unfold Yb;rw [y]
 rw [u];have r:=zh s;have G:=zh d;have H:=zh b;obtain ⟨Q,R,U,V,W,Y,Z⟩:=f.cells;rw [b] at Q R U V W Y Z;obtain ⟨p,v⟩:=qA ((!zQ (fun i=>!Vq X t i) X.bn));rw [v] at r ⊢;clear s u v f x d b D c h y m P F n C L B;go_enter Tryz.func179,Tryz.ntmps179;go_wp2_with fail
 rw [<-H.o];refine r.o.mono ?_;rintro e af ⟨rfl,c⟩;have q:=zh (za G.o c);clear c;go_wp2;go_ret;exact ⟨rfl,by first | exact q.o | (rw [<-g];exact q.o)⟩
def UA (l:QL) (b:BL) (q:Nat):zd:=(xl (fun x y=>x-y) (qu l q).runs (zM l b b.length q)).1
def P2 (l:QL) (b:BL) (j q:Nat):zd:=if q<j then UA l b q else zM l b b.length q
theorem Jh (w:World) (c n:Int) (B:Option Addr) (a s:Nat) (l:QL) (ba:Option Addr) (bn bc:Nat) (b:BL) (h:zY w B a s l ba bn bc b) (W:wS l b=0) :
 zC 173 #[.agg (zS c n B a s ba bn bc)] w fun e w'=>∃ d,e=.returned (.slice (zO d 0) a a)/\w.heap.size<=d/\Vx w' d a (UA l b)/\Below w.heap.size w w':=by
 obtain ⟨S,Q⟩:=qA (w.heap.size);obtain ⟨f,r⟩:=qB (w.alloc (.cells (zS c n B a s ba bn bc) 40));have k:zL w f:=by rw [r];exact zr _ _
 have H:zj f S (zI c) (zI n) (.slice B a s) (.slice ba bn bc):=by rw [r,<-Q];exact zj.new w _ _ _ _
 have E:=yY (XU W).1;have ap:0<a:=by have:=E.pos;have:=h.1.len;omega
 have az:a<=5:=by have:=E.five;have:=h.1.len;omega
 obtain ⟨aF,aG,rfl,Y⟩:=(h.1.later k).cells ap;have an:=zh (JX f _ a s l (h.1.later k) ba bn bc b (h.2.later k) W);have ag:=zh (h.1.later k);have ah:=zh Y;have al:=zh H;have D:=zh k;have ak:=zh r;have aE:=h.1.le;have aD:=h.1.capb;obtain ⟨u,c1,c2,c3⟩:=H.cells;rw [r] at u c1 c2 c3;clear k r h H Y E;go_enter Tryz.func173,Tryz.ntmps173;go_wp2_with fail
 rw [<-ak.o];refine an.o.mono ?_;rintro e C ⟨d,rfl,P,⟨W0,m⟩,U⟩;have ae:=zh U;have R:Tk C C d a (P2 l b 0):=Tk.congr ⟨rfl,rfl,rfl,Nat.le_refl _,fun _ _ _=>rfl,m.row⟩ (fun q _=>by unfold P2;rw [if_neg (Nat.not_lt_zero q)]);have ai:=zh R;have I:=zh P;clear m U R P u c1 c2 c3;go_wp2_with fail
 go_loopw [17] (fun p wr=>∃ j:Nat,p=zI j/\j<=a/\Tk C wr d a (P2 l b j)/\zL f wr) (fun p _=>a-(intOf p).toNat)
 case atStart=>exact ⟨0,rfl,by omega,ai.o,ae.o⟩
 case round =>
  obtain ⟨j,rfl,aA,m,V⟩:=hrel;have t:=zh m;have g:=zh V;clear m V;by_cases A:j<a
  ·have aC:(j:Int)<a:=(by omega);obtain ⟨L,N,M,y,gf,i,ao⟩:=t.o.at A;have v:P2 l b j j=zM l b b.length j:=(by unfold P2;rw [if_neg (Nat.lt_irrefl j)]);rw [v] at i;obtain ⟨u,c1,c2,c3⟩:=(al.o.later g.o).cells;have ar:=cell_later g.o (ah.o j A).2.2;have am:=zh (Kd wr _ _ _ _ _ _ _ _ ((ag.o.later g.o).caps j A) i);have aB:((j:Nat):Int).toNat=j:=rfl;clear v ao gf i;go_wp2_with fail
   refine am.o.mono ?_;rintro e ad ⟨J,ab,aa,rfl,Z,z,X⟩;obtain ⟨au,ay,av,aw,ax,_,_⟩:=(t.o.later z).at A;have aj:Zh (Tk C (ad.setCell (zA d j) (.slice J ab aa)) d a (P2 l b (j+1))):=by
    have:=(t.o.later z).hit j Z (fun b aq e=>by
     have F:=X b aq e;have O:=block_lt_of_cell y;intro x;rw [x] at F;exact absurd O (Nat.not_lt.2 F))
    refine zh (this.congr fun q G=>?_);unfold P2;by_cases e:q=j
    ·subst e;rw [if_pos rfl,if_pos (Nat.lt_succ_self q)];rfl
    rw [if_neg e];by_cases x:q<j
    ·rw [if_pos x,if_pos (by omega)]
    rw [if_neg x,if_neg (by omega)]
   have af:Zh (zL f (ad.setCell (zA d j) (.slice J ab aa))):=zh ((za g.o z).setCell (p:=(zA d j)) I.o _);clear z X Z y u c1 c2 c3 ar;go_wp2;go_roundw
   case rel=>exact ⟨j+1,by go_num,by omega,aj.o,af.o⟩
   case measure=>simp [intOf];omega
  obtain rfl:j=a:=by omega
  go_wp2;go_ret;refine ⟨d,rfl,?_,fun q G=>?_,?_⟩
  ·have F:=I.o;have O:=D.o.size;omega
  ·obtain ⟨L,N,M,y,_,i,_⟩:=t.o.at G;refine ⟨L,N,M,y,?_⟩;have v:P2 l b j q=UA l b q:=(by unfold P2;rw [if_pos G]);rw [v] at i;exact i
  first | exact za D.o g.o | (rw [<-Q];exact za D.o g.o)
end Go.Proofs.YtckpdfkobdgjeaaGreatDoor
