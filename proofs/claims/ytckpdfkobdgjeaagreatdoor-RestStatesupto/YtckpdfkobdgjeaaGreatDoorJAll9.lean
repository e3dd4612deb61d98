/- Several texts in one: DelD, BookF, BookN, AskA, CutA, CutB. -/
import Derived.Test.YtckpdfkobdgjeaaGreatDoorJAll8
import Derived.Test.YtckpdfkobdgjeaaGreatDoorJAll7
import Derived.Test.YtckpdfkobdgjeaaGreatDoorJAll3
import Derived.BigQuiet
namespace Go.Proofs.YtckpdfkobdgjeaaGreatDoor
set_option maxRecDepth 100000
set_option maxHeartbeats 4000000
open Go.RowKit
open Go.RowKit Go.Shelf
attribute [local go_sem] Oper.semAt_some
open Go.RowKit Go.Shelf
set_option linter.unusedSectionVars false
variable [Inhabited Mk]
def xU (b:BL) (t:Int):BL:=b.filter fun x=>!decide (yA x<=t)
theorem Xu (b:BL) (t:Int):zg (xU b t)=xU (zg b) t:=by
 unfold zg xU;rw [List.filter_map]
 congr 1
 refine List.filter_congr fun x _=>?_;simp only [Function.comp,Wm]
theorem Qb {b a:BL} (h:zg a=zg b) (t:Int):zg (xU a t)=zg (xU b t):=by rw [Xu,Xu,h]
theorem Ts {b a:BL} (h:zg a=zg b) (t:Int):(xU a t).length=(xU b t).length:=by rw [<-zF,Qb h,zF]
theorem I8 (b:BL) (t:Int):(xU b t).length<=b.length:=List.length_filter_le _ _
theorem Qc (w:World) (a b c d:Value) (t:Int) {g:World} (n:g=((w.alloc (.cells #[a,b,c,d] 40)).alloc (.cells #[zI t] 3)).alloc (.cells zZ 40)):zj g w.heap.size a b c d/\g.cell? (zA (w.heap.size+1) 0)=some (zI t)/\zj g (w.heap.size+2) (zI 0) (zI 0) zN zN/\Below w.heap.size w g/\g.heap.size=w.heap.size+3:=by
 subst n;obtain ⟨f,i⟩:=qB (w.alloc (.cells #[a,b,c,d] 40));have l:zj f w.heap.size a b c d:=by rw [i];exact zj.new w a b c d
 have o:zL w f:=by rw [i];exact zr _ _
 have p:f.heap.size=w.heap.size+1:=by rw [i];simp
 rw [<-i];obtain ⟨e,h⟩:=qB (f.alloc (.cells #[zI t] 3));have m:e.heap[w.heap.size+1]?=some (.cells #[zI t] 3 (0,0)):=by rw [h,<-p];exact heap_alloc_new f _
 have k:zL f e:=by rw [h];exact zr _ _
 have q:e.heap.size=w.heap.size+2:=by rw [h];simp;omega
 rw [<-h];have j:zL e (e.alloc (.cells zZ 40)):=zr _ _;refine ⟨(l.later k).later j,cell_later j (by rw [cell_of_row e _ 0 _ _ _ m];rfl),?_,za (za o k) j,by simp;omega⟩;have:=zj.new e (zI 0) (zI 0) zN zN;rw [q] at this;exact this
def we (c n:Int) (l:QL) (b:BL) (t:Int):Int:=if zU c n l b=0 then (if t<0\/48<t then 3 else if t<c then 9 else 0) else zU c n l b
theorem L6 {c n:Int} {l:QL} {b:BL} {t:Int} (h:we c n l b t=0):zU c n l b=0/\0<=t/\t<=48/\c<=t:=by
 unfold we at h
 split at h
 ·rename_i h1
  split at h
  ·cases h
  split at h
  ·cases h
  exact ⟨h1,by omega,by omega,by omega⟩
 contradiction
theorem My (w:World) (c n:Int) (B:Option Addr) (D C:Nat) (l:QL) (u:Option Addr) (y x:Nat) (b:BL) (h:zY w B D C l u y x b) (t:Int) (r:we c n l b t≠0) :
 zC 54 #[.agg (zS c n B D C u y x),zI t] w fun e w'=>e=.returned (.tuple #[.agg zZ,zI 0,zI (we c n l b t)])/\Below w.heap.size w w':=by
 obtain ⟨S,Z⟩:=qA (w.heap.size);obtain ⟨J,N⟩:=qB (((w.alloc (.cells (zS c n B D C u y x) 40)).alloc (.cells #[zI t] 3)).alloc (.cells zZ 40));obtain ⟨E,R,U,O,aa⟩:=Qc w _ _ _ _ t N;rw [Z] at E R U aa;have j:=wY J c n B D C l u y x b (h.later O);have ae:=zh E;have af:=zh R;have Y:=zh U;have V:=zh O;have X:=zh N;have W:=zh Z;obtain ⟨L,c1,c2,c3⟩:=E.cells;clear N E R U O h aa;by_cases g:zU c n l b=0
 ·have q:we c n l b t=if t<0\/48<t then 3 else if t<c then 9 else 0:=if_pos g;rw [q] at r ⊢;rw [g] at j;have H:=zh j;clear q j g;obtain ⟨m,M⟩:=qA ((if t<0\/48<t then (3:Int) else if t<c then 9 else 0));rw [M] at r ⊢;have s:=zh M;have ab:=zh r;clear M r;go_enter Tryz.func54,Tryz.ntmps54;go_wp2_with fail
  rw [<-X.o];refine H.o.mono ?_;rintro e i ⟨rfl,d⟩;have f:=zh (Y.o.later d);have F:=zh (za V.o d);have ao:=cell_later d af.o;have ad:=zh (ae.o.later d);clear d L c1 c2 c3;obtain ⟨L,c1,c2,c3⟩:=ad.o.cells;obtain ⟨aj,ak,al,am⟩:=f.o.cells;have an:∀ k,i.frozen? (zA (S+2) k)=false:=fun k=>frozen_of_row i (S+2) k _ _ f.o;have I:=zh (zk i (S+2) 40 _ _ _ _ (zI 0) (zI 0) zN zN f.o);have a:w.heap.size<=S+2:=by have:=W.o;omega
  have G:=zh ((((F.o.setCell (p:=(zA (S+2) 0)) a (zI 0)).setCell (p:=(zA (S+2) 1)) a (zI 0)).setCell (p:=(zA (S+2) 2)) a zN).setCell (p:=(zA (S+2) 3)) a zN);clear a;by_cases ag:t<0
  ·obtain rfl:m=3:=(by rw [<-s.o,if_pos (Or.inl ag)]);go_wp2_with fail
   refine bodyPost_ret (v:=.tuple #[.agg zZ,zI 0,zI 3]) (zq Tryz.results54 _ _ (S+2) 40 zZ (0,0) _ rfl I.o.1 Tryz.underlying40 rfl (by kernel_rfl)) rfl ⟨rfl,G.o⟩
  by_cases ah:48<t
  ·obtain rfl:m=3:=(by rw [<-s.o,if_pos (Or.inr ah)]);go_wp2_with fail
   refine bodyPost_ret (v:=.tuple #[.agg zZ,zI 0,zI 3]) (zq Tryz.results54 _ _ (S+2) 40 zZ (0,0) _ rfl I.o.1 Tryz.underlying40 rfl (by kernel_rfl)) rfl ⟨rfl,G.o⟩
  have Q:¬(t<0\/48<t):=by omega
  have A:t<c:=by
   by_cases A:t<c
   ·exact A
   exact absurd (s.o.symm.trans (by rw [if_neg Q,if_neg A])) ab.o
  obtain rfl:m=9:=by rw [<-s.o,if_neg Q,if_pos A]
  clear Q;go_wp2_with fail
  refine bodyPost_ret (v:=.tuple #[.agg zZ,zI 0,zI 9]) (zq Tryz.results54 _ _ (S+2) 40 zZ (0,0) _ rfl I.o.1 Tryz.underlying40 rfl (by kernel_rfl)) rfl ⟨rfl,G.o⟩
 ·have q:we c n l b t=zU c n l b:=if_neg g;rw [q];obtain ⟨z,P⟩:=qA (zU c n l b);rw [P] at j g;rw [P];have ap:(z != 0)=true:=by simp [g]
  have H:=zh j;clear q j g P r;go_enter Tryz.func54,Tryz.ntmps54;go_wp2_with fail
  rw [<-X.o];refine H.o.mono ?_;rintro e i ⟨rfl,d⟩;have f:=zh (Y.o.later d);have F:=zh (za V.o d);clear d L c1 c2 c3;obtain ⟨aj,ak,al,am⟩:=f.o.cells;have an:∀ k,i.frozen? (zA (S+2) k)=false:=fun k=>frozen_of_row i (S+2) k _ _ f.o;go_wp2_with fail
  have ai:=zk i (S+2) 40 _ _ _ _ (zI 0) (zI 0) zN zN f.o;have a:w.heap.size<=S+2:=by have:=W.o;omega
  refine bodyPost_ret (v:=.tuple #[.agg zZ,zI 0,zI z]) (zq Tryz.results54 _ _ (S+2) 40 zZ (0,0) _ rfl ai.1 Tryz.underlying40 rfl (by kernel_rfl)) rfl ⟨rfl,?_⟩;exact ((((F.o.setCell (p:=(zA (S+2) 0)) a _).setCell (p:=(zA (S+2) 1)) a _).setCell (p:=(zA (S+2) 2)) a _).setCell (p:=(zA (S+2) 3)) a _)
def LF (w w':World) (e:Ending) (t n:Int) (tn bn:Nat) (l:QL) (bx:BL):Prop:=∃ v,e=.returned (.tuple #[v,zI ((bn:Int)-bx.length),zI 0])/\J9 w w' v t n tn bx.length l bx
theorem Ia (w:World) (c n:Int) (W:Option Addr) (y Y:Nat) (l:QL) (O:Option Addr) (r P:Nat) (b:BL) (h:zY w W y Y l O r P b) (t:Int) (aY:we c n l b t=0) :
 zC 54 #[.agg (zS c n W y Y O r P),zI t] w fun e w'=>LF w w' e t n y r l (xU b t):=by
 obtain ⟨f,bT,bU,bV⟩:=L6 aY;have az:=yZ f;have a9:=XT h az.clean;have a3:=h.2.len;have bN:=az.clean.few;have bK:r<=12:=by omega
 obtain ⟨S,aZ⟩:=qA (w.heap.size);obtain ⟨ax,aA⟩:=qB (((w.alloc (.cells (zS c n W y Y O r P) 40)).alloc (.cells #[zI t] 3)).alloc (.cells zZ 40));obtain ⟨am,aN,aO,aC,aK⟩:=Qc w _ _ _ _ t aA;rw [aZ] at am aN aO aK;have av:=wY ax c n W y Y l O r P b (h.later aC);rw [f] at av;have bD:=zh fun X (bM:zL w X)=>Vw X c n W y Y l O r P b (h.later bM) a9;have bE:=zh am;have bF:=zh aN;have bG:=zh aO;have bg:=zh aC;have bv:=zh aA;have aV:=zh aZ;have bt:=zh aK;have bj:=zh a3;obtain ⟨aa,c1,c2,c3⟩:=am.cells;have bo:=zh av;have b6:¬t<0:=by omega
 have b7:¬48<t:=by omega
 have b8:¬t<c:=by omega
 clear aA am aN aO aC h aK av f az a9 a3 bN aY bT bU bV;go_enter Tryz.func54,Tryz.ntmps54;go_wp2_with fail
 rw [<-bv.o];refine bo.o.mono ?_;rintro e G ⟨rfl,C⟩;have ar:=zh (bE.o.later C);have au:=zh (cell_later C bF.o);have bz:=zh (bG.o.later C);have aP:=zh (za bg.o C);have ao:Zh (S+3<=G.heap.size):=by have:=C.size;have:=bt.o;show S+3<=G.heap.size;omega
 clear C aa c1 c2 c3;obtain ⟨aa,c1,c2,c3⟩:=ar.o.cells;have bH:=au.o;go_wp2_with fail
 refine (bD.o G aP.o).mono ?_;rintro e M ⟨g,I,ak,u,A,z,rfl,F,bQ,aB,a4,a1,C⟩;obtain ⟨N,ad⟩:=qB (M.alloc (.cells (zS t n (some ⟨g,0,none⟩) y I u r A) 40));have U:zL M N:=by rw [ad];exact zr _ _
 have ai:N.heap.size=M.heap.size+1:=by rw [ad];simp
 have aj:zj N M.heap.size (zI t) (zI n) (.slice (zO g 0) y I) (.slice u r A):=by rw [ad];exact zj.new M _ _ _ _
 have bc:=cell_later U (cell_later C au.o);have ah:∀ x,(Value.slice u r A).ownBlock=some x->G.heap.size<=x/\x<M.heap.size:=fun x e=>F.bks.row.lt x e;have aw:=SA N G.heap.size (S+1) (by have:=C.size;omega) t u r A z (F.bks.later U) aB bK bc (fun e=>by have:=ah _ e;have:=ao.o;omega);rw [show (z.filter fun x=>!decide (yA x<=t))=xU z t from rfl] at aw;have hg:G.heap.size<=g/\g<M.heap.size:=F.qs.row.lt g rfl;obtain ⟨B,bL⟩:=qA (M.heap.size);rw [bL] at aj ai hg ah;have bA:=zh aj;have aR:=zh (F.qs.later U);have aq:=zh ah;have bm:=zh hg;have aU:Zh (∀ i,i<ak.length->0<(qu ak i).cn->∀ d q,(qu ak i).ca=zO d q->G.heap.size<=d/\d<B/\(Value.slice u r A).ownBlock≠some d):=zh fun i J f d q e=>by
  have E:=F.newC i J f d q e;have ay:=(F.qs.caps i J).lt f e;exact ⟨E,by omega,fun bJ=>(F.apart d bJ).2 i J f d q e rfl⟩
 have bn:Zh ((Value.slice u r A).ownBlock≠some g):=zh fun e=>(F.apart g e).1 rfl;have ag:Zh (∀ i,i<z.length->(0<(bk z i).rq.pn->∀ g q,(bk z i).rq.pa=zO g q->G.heap.size<=g/\g<B)/\(0<(bk z i).bn->∀ g q,(bk z i).ba=zO g q->G.heap.size<=g/\g<B)):=zh fun i J=>⟨fun f g q e=>by have E:=F.newP i J f g q e;have ay:=RunsIn.lt (F.bks.rqs i J) f e;omega,fun f g q e=>by have E:=F.newB i J f g q e;have ay:=(F.bks.bites i J).lt f e;omega⟩;have b2:=zh aB;have bl:=zh a4;have af:=zh a1;have bp:=zh aw;have bw:=zh ad;have aW:=zh ai;have bB:=zh ((ar.o.later C).later U);have bC:=zh ((bz.o.later C).later U);have bh:=zh (za (za aP.o C) U);have bq:Zh (G.heap.size<=B):=by have:=C.size;show G.heap.size<=B;omega
 obtain ⟨bY,bZ,b0,b1⟩:=aj.cells;have bX:(M.alloc (.cells (zS c n (zO g 0) y I u r A) 40)).cell? (zA (S+1) 0)=some (zI t):=cell_later (zr _ _) (cell_later C au.o);clear C U ai aj F bQ aB a4 a1 ad aw bc ah hg aa c1 c2 c3 bH;obtain ⟨aa,c1,c2,c3⟩:=ar.o.cells;go_wp2_with fail
 rw [<-bw.o];refine bp.o.mono ?_;rintro e H ⟨rfl,aI,aH,aD⟩;have aG:=Ts af.o t;have bS:=I8 b t;obtain ⟨m,aF⟩:=qA ((xU z t).length);rw [aF] at aI aG ⊢;have b5:m<=r:=by have:=bj.o;omega
 have an:zj H B (zI t) (zI n) (.slice (zO g 0) y I) (.slice u r A):=(aH B (by have:=aW.o;omega) (fun e=>by have:=aq.o B e;omega)).trans bA.o;have aE:∀ x,x<G.heap.size->H.heap[x]?=N.heap[x]?:=fun x bW=>aD.block x bW;have a8:=ao.o;have be:zj H S (zI c) (zI n) (.slice W y Y) (.slice O r P):=(aE S (by omega)).trans bB.o;have bf:zj H (S+2) (zI 0) (zI 0) zN zN:=(aE (S+2) (by omega)).trans bC.o;obtain ⟨D,R⟩:=qB (H.setCell ⟨B,3,none⟩ (.slice u m A));have bR:=bq.o;have aM:zj D B (zI t) (zI n) (.slice (zO g 0) y I) (.slice u m A):=by
  rw [R];unfold zj;rw [heap_setCell_same H B 3 _ _ _ an];rfl
 have bd:zj D S (zI c) (zI n) (.slice W y Y) (.slice O r P):=by rw [R];exact (heap_setCell_other H (zA B 3) S _ (by simp only;omega)).trans be
 have al:zj D (S+2) (zI 0) (zI 0) zN zN:=by rw [R];exact (heap_setCell_other H (zA B 3) (S+2) _ (by simp only;omega)).trans bf
 have ba:∀ k,k≠B->D.heap[k]?=H.heap[k]?:=fun k bO=>by rw [R];exact heap_setCell_other H (zA B 3) k _ bO
 have a0:zL w D:=by
  rw [R];have ay:=aV.o;exact (bh.o.trans (aD.mono (by omega))).setCell (p:=(zA B 3)) (by simp only;omega) _
 have bs:=zh aI;have br:=zh aH;have aS:=zh ba;have Z:=zh a0;have bx:=zh R;have b4:=zh aM;have bu:=zh al;have b3:=zh aF;have ap:=zh aG;obtain ⟨cd,ce,cf,cg⟩:=an.cells;have ch:∀ k,H.frozen? (zA B k)=false:=fun k=>frozen_of_row H B k _ _ an;obtain ⟨cm,co,cp,cq⟩:=aM.cells;obtain ⟨ci,cj,ck,cl⟩:=bd.cells;obtain ⟨cr,cs,ct,cu⟩:=al.cells;have cv:∀ k,D.frozen? (zA (S+2) k)=false:=fun k=>frozen_of_row D (S+2) k _ _ al;have cc:IntKind.i64.wrap ((r:Int)-(m:Int))=(r:Int)-m:=by rw [IntKind.wrap_i64];omega
 have aQ:Zh (S≠B/\S+2≠B):=zh (by omega);clear aI aH aD an be bf R aM bd al ba a0 bY bZ b0 b1 aa c1 c2 c3 aE a8 bR aG bS aF bX;go_wp2_with fail
 rw [<-bx.o];have b9:=aQ.o.1;have cb:=aQ.o.2;go_region
 have a2:zL w D.drew:=⟨Z.o.os,Z.o.tape,Z.o.output,Z.o.size,Z.o.block⟩;have aJ:=zk D.drew (S+2) 40 _ _ _ _ (zI t) (zI n) (.slice (zO g 0) y I) (.slice u m A) bu.o;have ab:w.heap.size<=S+2:=by have:=aV.o;omega
 have a5:=bm.o;have a8:=ao.o;have ai:=aW.o;have bb:∀ k,G.heap.size<=k->k<B->(Value.slice u r A).ownBlock≠some k->((((D.drew.setCell (zA (S+2) 0) (zI t)).setCell (zA (S+2) 1) (zI n)).setCell (zA (S+2) 2) (.slice (zO g 0) y I)).setCell (zA (S+2) 3) (.slice u m A)).heap[k]?=N.heap[k]?:=fun k a6 a7 bP=>by
  rw [aJ.2 k (by omega)];show D.heap[k]?=_;rw [aS.o k (by omega),br.o k (by omega) bP]
 have aT:=zh bb;have aX:=zh aJ;have bi:=zh ((((a2.setCell (p:=(zA (S+2) 0)) ab (zI t)).setCell (p:=(zA (S+2) 1)) ab (zI n)).setCell (p:=(zA (S+2) 2)) ab (.slice (zO g 0) y I)).setCell (p:=(zA (S+2) 3)) ab (.slice u m A));clear bb aJ a2 ab;go_wp2_with fail
 refine bodyPost_ret (v:=.tuple #[.agg (zS t n (zO g 0) y I u m A),zI ((r:Int)-m),zI 0]) (zq Tryz.results54 _ _ (S+2) 40 (zS t n (zO g 0) y I u m A) (0,0) _ rfl aX.o.1 Tryz.underlying40 rfl (by kernel_rfl)) rfl ?_;unfold LF;rw [<-ap.o];refine ⟨_,rfl,g,I,ak,u,A,xU z t,rfl,⟨?_,?_⟩,bl.o,Qb af.o t,bi.o,?_⟩
 ·refine y6 (aR.o.blocks2 (fun d e=>?_) (fun i J f d q e=>?_))
  ·have e:g=d:=(by simpa [Value.ownBlock] using e);subst e;exact aT.o g a5.1 a5.2 bn.o
  have E:=aU.o i J f d q e;exact aT.o d E.1 E.2.1 E.2.2
 ·have ae:∀ j,j<(xU z t).length->∃ s,s<z.length/\bk z s=bk (xU z t) j:=fun j L=>yT (List.mem_filter.1 (yx L)).1;have aL:∀ k,k≠S+2->k≠B->((((D.drew.setCell (zA (S+2) 0) (zI t)).setCell (zA (S+2) 1) (zI n)).setCell (zA (S+2) 2) (.slice (zO g 0) y I)).setCell (zA (S+2) 3) (.slice u m A)).heap[k]?=H.heap[k]?:=fun k a6 a7=>by
   rw [aX.o.2 k a6];exact aS.o k a7
  refine ym (bs.o.blocks (fun d e=>?_) (fun j L f d q e=>?_) (fun j L f d q e=>?_))
  ·have E:=aq.o d (by
    cases u with
    | none=>simp [Value.ownBlock] at e
    | some a=>exact e)
   exact aL d (by omega) (by omega)
  ·obtain ⟨s,V,Q⟩:=ae j L;rw [<-Q] at f e;have E:=(ag.o s V).1 f d q e;exact aL d (by omega) (by omega)
  obtain ⟨s,V,Q⟩:=ae j L;rw [<-Q] at f e;have E:=(ag.o s V).2 f d q e;exact aL d (by omega) (by omega)
 ·have ae:∀ j,j<(xU z t).length->∃ s,s<z.length/\bk z s=bk (xU z t) j:=fun j L=>yT (List.mem_filter.1 (yx L)).1;refine ⟨fun _ d q e=>?_,fun i J f d q e=>?_,fun _ d q e=>?_,fun j L f d q e=>?_,fun j L f d q e=>?_⟩
  ·have bI:g=d:=(by injection e with e;injection e with bI);omega
  ·have E:=aU.o i (by have:=(y6 aR.o).len;omega) f d q e;omega
  ·have E:=aq.o d (by rw [e];rfl);omega
  ·obtain ⟨s,V,Q⟩:=ae j (by have:=ap.o;have:=Ts af.o t;omega);rw [<-Q] at f e;have E:=(ag.o s V).1 f d q e;omega
  obtain ⟨s,V,Q⟩:=ae j (by have:=ap.o;have:=Ts af.o t;omega);rw [<-Q] at f e;have E:=(ag.o s V).2 f d q e;omega
theorem FG {c n:Int} {l:QL} {b:BL} (h:Sound c n l b) {j:Nat} (a:j<b.length):yS b (bk b j).id=some j:=by
 refine WP (fun s d=>?_) a (by simp);have:=YG h a d;simp;omega
theorem wI {b:BL} {i:Nat} (h:i<b.length):bk b i=b[i]:=by simp [bk,List.getD,h]
theorem Hb (f:Bk->Int):∀ {a b:BL},a.Sublist b->(∀ x∈b,0<=f x)->(a.map f).sum<=(b.map f).sum:=by
 intro a b h
 induction h with
 | slnil=>intro _;exact Int.le_refl _
 | cons x _ ih =>
  intro c;have e:=ih fun y d=>c y (List.mem_cons_of_mem _ d);have g:=c x (List.mem_cons_self ..);simp only [List.map_cons,List.sum_cons];omega
 | cons_cons x _ ih =>
  intro c;have e:=ih fun y d=>c y (List.mem_cons_of_mem _ d);simp only [List.map_cons,List.sum_cons];omega
theorem JC {c n:Int} {l:QL} {b b1:BL} (h:Sound c n l b) (f:b1.Sublist b) {t:Int} (C:c<=t) (A:t<=48) (r:∀ x∈b1,t<yA x):Sound t n l b1:=by
 have D:=f.length_le;have s:Clean l b1:=Tc h.clean (by have:=h.clean.few;omega) (fun x g=>f.subset g);have p:b.Pairwise (fun x y=>x.id<y.id):=by
  rw [List.pairwise_iff_getElem];intro i j a o v;have:=YG h o v;rw [wI a,wI o] at this;exact this
 have m:=p.sublist f;rw [List.pairwise_iff_getElem] at m;have w:∀ x∈b,0<=x.id/\x.id<n:=by
  intro x g;obtain ⟨i,a,rfl⟩:=List.getElem_of_mem g;have d:=h.rise i a;have k:=PW h a;rw [wI a] at d k;exact ⟨k.1,d.2⟩
 refine ⟨s,by have:=h.c0;omega,A,h.n0,h.n1,fun i a=>?_,fun i a=>r _ (yx a),fun q z u E B=>?_⟩
 ·have d:=w _ (f.subset (yx a));refine ⟨?_,d.2⟩;unfold xd;by_cases e:i=0
  ·rw [if_pos e];exact d.1
  rw [if_neg e];have k:=m (i-1) i (by omega) a (by omega);rw [wI a,wI (show i-1<b1.length by omega)];omega
 have d:=h.fits q z u (by omega) B;rw [XI] at d ⊢;have k:=Hb (Tl l q u) f fun x g=>(LW (l:=l) (Uu h.clean g).1 q u).1;omega
theorem Lx {c n:Int} {l:QL} {b:BL} {t:Int} (h:we c n l b t=0):Sound t n l (xU b t):=by
 obtain ⟨e,g,a,d⟩:=L6 h;refine JC (yZ e) List.filter_sublist d a fun x f=>?_;have:=(List.mem_filter.1 f).2;simp at this;exact this
theorem LI {b a:BL} (h:zg a=zg b) (i:Nat):(bk a i).bare=(bk b i).bare:=by rw [<-xp,h,xp]
theorem O1 {b a:BL} (h:zg a=zg b):a.length=b.length:=by rw [<-zF,h,zF]
theorem PS {c n:Int} {l:QL} {b:BL} {r:Rq} (h:Zp c n l b r=0):Sound c (n+1) l (b++[⟨n,r,none,0,0,(yU l b r).1⟩]):=by
 obtain ⟨i,j,hn,a⟩:=Ha h;obtain ⟨k,m,o⟩:=L5 i;unfold yU at a ⊢;by_cases e:Zq l b r.queue=0
 ·rw [if_pos e] at a ⊢;by_cases d:yq (xH l b r.queue) r=0
  ·rw [if_pos d] at a ⊢;obtain ⟨f,g⟩:=Td d (Prod.ext rfl a);exact Oo (yZ k) rfl m o j hn f g
  rw [if_neg d] at a;cases a
 rw [if_neg e] at a;cases a
theorem Ki (w:World) (a:Option Addr) (n d:Nat) (l:zd) (t:Int) (h:RunsIn w a n d l) :
 zC 176 #[.slice a n d,zI t] w fun e w'=>e=.returned (.tuple #[zI (Yv l t).1,zI (Yv l t).2])/\Below w.heap.size w w':=by
 cases f:xe l with
 | false =>
  have i:Yv l t=(0,1):=by simp [Yv,f]
  have k:Wd l=1:=by simp [Wd,f]
  rw [i];go_enter Tryz.func176,Tryz.ntmps176;go_wp2_with (go_at_call 100;refine (yg _ a n d l h).mono ?_;rintro e w' ⟨rfl,c⟩;rw [k])
  go_ret2
  exact ⟨rfl,c⟩
 | true =>
  have k:Wd l=0:=by simp [Wd,f]
  cases g:yW t 0 47 with
  | false =>
   have i:Yv l t=(0,3):=(by simp [Yv,f,g]);rw [i];simp [yW] at g;have p:t<0\/0<=t/\48<=t:=(by omega);clear g;rcases p with p | ⟨p,F⟩
   all_goals
    go_enter Tryz.func176,Tryz.ntmps176;go_wp2_with (go_at_call 100;refine (yg _ a n d l h).mono ?_;rintro e w' ⟨rfl,c⟩;rw [k])
    go_ret2
    exact ⟨rfl,c⟩
  | true =>
   have m:=zX.1 f;have i:Yv l t=(XJ l t,0):=(by simp [Yv,f,g]);rw [i];simp [yW] at g;obtain ⟨I,J⟩:=g;have q:=h.len;have x:0<n:=(by rw [q];exact m.1);obtain ⟨b,A,rfl,v⟩:=h.cells x;have r:Zh (n=l.length):=q;clear q;have H:=h.le;have D:=h.bound;have E:=h.capb;go_enter Tryz.func176,Tryz.ntmps176;go_wp2_with (go_at_call 100;refine (yg _ _ n d l h).mono ?_;rintro e w' ⟨rfl,c⟩;rw [k])
   refine (VF _ b A n d l 0 t (h.later c) x).mono ?_;rintro e L ⟨j,rfl,C,y,s,u,rfl⟩;have B:=cell_later c (v j y).2;have G:(j:Int)<n:=(by omega);have z:Zh (yH l t j):=⟨by have:=r.o;omega,by
    by_cases e:0<j
    ·exact s e
    obtain rfl:j=0:=(by omega);rw [m.at0];omega,fun h=>u (by have:=r.o;omega)⟩
   clear s u v;go_wp2;go_ret2
   rw [z.o.val m.rises];exact ⟨rfl,c⟩
theorem below_drewN (w:World) (d:Nat):Below w.heap.size w (w.drewN d):=⟨rfl,rfl,rfl,Nat.le_refl _,fun _ _=>rfl⟩
theorem Kd (w:World) (l m:Option Addr) (z A p q:Nat) (c d:zd) (j:RunsIn w l z p c) (k:RunsIn w m A q d) :
 zC 137 #[.slice l z p,.slice m A q] w fun e w'=>SC w w' e (xl (fun x y=>x-y) c d):=by
 cases f:(xe c&&xe d) with
 | false =>
  have h:xl (fun x y=>x-y) c d=([],1):=by simp only [xl,f];rfl
  rw [h];have t:(if (xe c&&xe d)=true then (0:Int) else 1)=1:=by rw [f];rfl
  go_enter Tryz.func137,Tryz.ntmps137;go_wp2_with fail
  refine (wP _ _ _ _ _ _ _ c d j k).mono ?_;rintro e D ⟨rfl,g⟩;rw [t];go_wp2;go_ret2
  exact Yk g
 | true =>
  have h:xl (fun x y=>x-y) c d=Yc (jv (fun x y=>x-y) c d):=by simp only [xl,f];rfl
  rw [h];have t:(if (xe c&&xe d)=true then (0:Int) else 1)=0:=by rw [f];rfl
  rw [Bool.and_eq_true] at f;have B:=zh (zX.1 f.1);have C:=zh (zX.1 f.2);obtain ⟨r,v⟩:=qB (Yc (jv (fun x y=>x-y) c d));rw [<-v];have E:=zh v;clear v h f;go_enter Tryz.func137,Tryz.ntmps137;go_wp2_with fail
  refine (wP _ _ _ _ _ _ _ c d j k).mono ?_;rintro e D ⟨rfl,g⟩;rw [t];go_wp2_with fail
  have u:=V4 170 _ LQ D l m z p A q c d (j.later g) (k.later g) B.o.rises C.o.rises (fun i s=>B.o.bdd (by rw [<-j.len];exact s)) (fun i s=>C.o.bdd (by rw [<-k.len];exact s));rw [<-E.o] at u;refine u.mono ?_;clear u;rintro e J ⟨a,n,F,rfl,h,G,H⟩;go_wp2;go_ret2
  exact ⟨a,n,F,rfl,h,za g G,fun b I e=>Nat.le_trans g.size (H b I e)⟩
theorem Ml (d:Nat) (v:Array Value) (p:Nat->Bool) (M:∀ (args:Array Value) (w:World),(callFunc d args).run Tryz.prog w=.ok (.enter d args) w) (w:World) (b B n u:Nat) (l:zd) (h:RunsIn w (zO b B) n u l) (D:0<n)
 (A:∀ w',Below w.heap.size w w'->∀ i,i<n->zC d (#[.agg #[zI (zp l i),zI (rN l i)]]++v) w' fun e E=>e=.returned (.bool (!p i))/\Below w'.heap.size w' E) :
 zC 168 #[.slice (zO b B) n u,.func (.func d) #[] v] w fun e w'=>∃ r:Int,e=.returned (zI r)/\(decide (0<=r))=(!zQ p n)/\Below w.heap.size w w':=by
 have G:=zh h.len;have N:=h.le;have J:=h.capb;obtain ⟨H,P,e,z⟩:=h.cells D;cases e
 have s:=zh z;have t:=zh A;clear z A;go_enter Tryz.func168,Tryz.ntmps168;go_wp2;go_loopw [5,8] (fun _ m wr=>∃ k:Nat,m=zI k/\k<=n/\zQ p k=true/\zL w wr) (fun _ m _=>n-(intOf m).toNat)
 case atStart=>exact ⟨0,rfl,by omega,rfl,Below.refl _ _⟩
 case round =>
  obtain ⟨j,rfl,L,x,y⟩:=hrel;have q:=zh x;have a:=zh y;clear x y;by_cases c:j<n
  ·have O:(j:Int)<n:=(by omega);have I:=cell_later a.o (s.o j c).1;have c1:=cell_later a.o (s.o j c).2;cases g:p j with
   | false =>
    go_wp2_with fail
    refine (t.o wr a.o j c).mono ?_;rintro e F ⟨rfl,f⟩;rw [g];go_wp2;go_ret;exact ⟨_,rfl,by rw [yO (p:=p) g n c];simp,za a.o f⟩
   | true =>
    go_wp2_with fail
    refine (t.o wr a.o j c).mono ?_;rintro e F ⟨rfl,f⟩;have C:=zh f;clear f;rw [g];go_wp2;go_roundw
    case rel=>exact ⟨j+1,by go_num,by omega,by rw [zQ,q.o,g];rfl,za a.o C.o⟩
    case measure=>simp [intOf];omega
  obtain rfl:j=n:=by omega
  go_wp2;go_ret;exact ⟨_,rfl,by rw [q.o];rfl,a.o⟩
theorem Ql (c:Nat) (f:Array Value) (p:Nat->Bool) (t:∀ (args:Array Value) (w:World),(callFunc c args).run Tryz.prog w=.ok (.enter c args) w) (w:World) (a:Option Addr) (n d:Nat) (l:zd) (h:RunsIn w a n d l) (j:0<n)
 (g:∀ w',Below w.heap.size w w'->∀ i,i<n->zC c (#[.agg #[zI (zp l i),zI (rN l i)]]++f) w' fun e v=>e=.returned (.bool (!p i))/\Below w'.heap.size w' v) :
 zC 133 #[.slice a n d,.func (.func c) #[] f] w fun e w'=>e=.returned (.bool (!zQ p n))/\Below w.heap.size w w':=by
 obtain ⟨b,u,rfl,_⟩:=h.cells j;have m:=zh g;clear g;go_enter Tryz.func133,Tryz.ntmps133;go_wp2_with fail
 refine (Ml c f p t w b u n d l h j m.o).mono ?_;rintro e x ⟨r,rfl,k,s⟩;have q:=zh k;clear k;go_wp2;go_ret;exact ⟨zm q.o,s⟩
def Vq (X:Bk) (t:Int) (i:Nat):Bool:=decide (rN X.bs i<=t)&&decide (t<rN X.bs i+lenOf X.rq X.bs i)
def Yb (X:Bk) (t:Int):Bool:=!zQ (fun i=>!Vq X t i) X.bs.length
theorem Lv (w:World) (X:Bk) (T B k:Nat) (t y:Int) (l:w.cell? (zA T 0)=some (zI t)) (j:ww w B X) (p:zH w X.rq) (L:k<X.rq.ps.length) (R:0<=y) (U:y<=48) (H:0<=zp X.rq.ps k) (I:zp X.rq.ps k<=48) :
 zC 191 #[.agg #[zI k,zI y],.pointer (zO T 0),.pointer (zO B 0)] w fun e w'=>e=.returned (.bool (decide (y<=t)&&decide (t<y+zp X.rq.ps k)))/\Below w.heap.size w w':=by
 obtain ⟨S,J⟩:=qA (w.heap.size);obtain ⟨a,d⟩:=qB (w.alloc (.cells #[zI k,zI y] 62));have b:zL w a:=by rw [d];exact zr _ _
 have c:RunsIn w X.rq.pa X.rq.pn X.rq.pc X.rq.ps:=p;have v:=c.len;have O:=c.le;have N:=c.capb;have u:k<X.rq.pn:=by omega
 have M:(k:Int)<X.rq.pn:=by omega
 obtain ⟨P,Q,n,m⟩:=c.cells (by omega);have r:=cell_later b (m k u).1;have x:=cell_later b l;obtain ⟨A,C,D,E,F,s,G⟩:=(j.later b).cells;rw [n] at s;have h:=zh b;have i:=zh d;rw [d] at r x A C D E F s G;clear b d p c m j l v n;obtain ⟨z,q⟩:=qA (zp X.rq.ps k);rw [q] at r H I ⊢;clear q;by_cases g:y<=t
 ·have f:decide (y<=t)=true:=by simp [g]
  go_enter Tryz.func191,Tryz.ntmps191;go_wp2;go_quiet (fail)
  go_wp2;go_ret;rw [<-i.o];exact ⟨by rw [f];rfl,za h.o (below_drewN a _)⟩
 ·have f:decide (y<=t)=false:=by simp [g]
  go_enter Tryz.func191,Tryz.ntmps191;go_wp2;go_quiet (fail)
  go_wp2;go_ret;rw [<-i.o];exact ⟨by rw [f];rfl,za h.o (below_drewN a _)⟩
theorem JF (w:World) (X:Bk) (D:zH w X.rq) (c:RunsIn w X.ba X.bn X.bc X.bs) (h:meets X.rq X.bs=true) (t:Int) :
 zC 179 #[.agg #[zI X.id,zI X.rq.queue,zI X.rq.fr,zI X.rq.un,zI X.rq.kind,.slice X.rq.pa X.rq.pn X.rq.pc,.slice X.ba X.bn X.bc],zI t] w fun e w'=>e=.returned (.bool (Yb X t))/\Below w.heap.size w w':=by
 obtain ⟨S,g⟩:=qA (w.heap.size);obtain ⟨a,b⟩:=qB ((w.alloc (.cells (zB X) 60)).alloc (.cells #[zI t] 3));have d:zL w a:=by rw [b];exact (zr _ _).alloc (by simp) _
 have f:ww a S X:=by rw [b,<-g];exact (Below.heap_alloc _ _ _ (by simp)).trans (heap_alloc_new w _)
 have x:a.cell? (zA (S+1) 0)=some (zI t):=by rw [b,<-g];go_simp
 have y:=c.len;obtain ⟨m,P,F⟩:=yk.1 h;have n:=zv.1 m;have C:=n.2.1;simp [yW] at C;have B:0<X.bn:=by
  have:0<xu X.rq:=by unfold xu;split <;> omega
  omega
 have L:=YY h;have s:=Ql 191 #[.pointer (zO (S+1) 0),.pointer (zO S 0)] (fun i=>!Vq X t i) (fun args w=>by go_simp) a X.ba X.bn X.bc X.bs (c.later d) B (fun w' l i aa=>by
  have z:=F i (by omega);have j:=(wm z).1;have ad:=wR (wm z).2.1;obtain ⟨k,A⟩:∃ k:Nat,zp X.bs i=k:=⟨(zp X.bs i).toNat,by have:=Zi j;omega⟩;have M:k<X.rq.ps.length:=by have:=Zi j;omega
  have ab:=Xm m j;have O:lenOf X.rq X.bs i=zp X.rq.ps k:=by unfold lenOf;rw [A,Int.toNat_natCast]
  have E:=n.2.2;simp only [yJ,Bool.and_eq_true] at E;have N:=E.1;simp [Xw] at N;have I:=Lv w' X (S+1) S k t (rN X.bs i) (cell_later l x) (f.later l) (zH.later (zH.later D d) l) M (by omega) (by omega) (by omega) (by omega);rw [A];refine I.mono ?_;rintro e ae ⟨rfl,J⟩;refine ⟨?_,J⟩;rw [Bool.not_not];unfold Vq;rw [O])
 have u:Yb X t=!zQ (fun i=>!Vq X t i) X.bn:=by unfold Yb;rw [y]
 rw [u];have r:=zh s;have G:=zh d;have H:=zh b;obtain ⟨Q,R,U,V,W,Y,Z⟩:=f.cells;rw [b] at Q R U V W Y Z;obtain ⟨p,v⟩:=qA ((!zQ (fun i=>!Vq X t i) X.bn));rw [v] at r ⊢;clear s u v f x d b D c h y m P F n C L B;go_enter Tryz.func179,Tryz.ntmps179;go_wp2_with fail
 rw [<-H.o];refine r.o.mono ?_;rintro e af ⟨rfl,c⟩;have q:=zh (za G.o c);clear c;go_wp2;go_ret;exact ⟨rfl,by first | exact q.o | (rw [<-g];exact q.o)⟩
def UA (l:QL) (b:BL) (q:Nat):zd:=(xl (fun x y=>x-y) (qu l q).runs (zM l b b.length q)).1
def P2 (l:QL) (b:BL) (j q:Nat):zd:=if q<j then UA l b q else zM l b b.length q
theorem Jh (w:World) (c n:Int) (E:Option Addr) (a v:Nat) (l:QL) (m:Option Addr) (s r:Nat) (b:BL) (h:zY w E a v l m s r b) (Z:wS l b=0) :
 zC 173 #[.agg (zS c n E a v m s r)] w fun e w'=>∃ d,e=.returned (.slice (zO d 0) a a)/\w.heap.size<=d/\Vx w' d a (UA l b)/\Below w.heap.size w w':=by
 obtain ⟨S,V⟩:=qA (w.heap.size);obtain ⟨f,u⟩:=qB (w.alloc (.cells (zS c n E a v m s r) 40));have k:zL w f:=by rw [u];exact zr _ _
 have L:zj f S (zI c) (zI n) (.slice E a v) (.slice m s r):=by rw [u,<-V];exact zj.new w _ _ _ _
 have H:=yY (XU Z).1;have au:0<a:=by have:=H.pos;have:=h.1.len;omega
 have aC:a<=5:=by have:=H.five;have:=h.1.len;omega
 obtain ⟨aI,aJ,rfl,ab⟩:=(h.1.later k).cells au;have aq:=zh (JX f _ a v l (h.1.later k) m s r b (h.2.later k) Z);have aj:=zh (h.1.later k);have ak:=zh ab;have ao:=zh L;have G:=zh k;have an:=zh u;have aH:=h.1.le;have aG:=h.1.capb;obtain ⟨y,c1,c2,c3⟩:=L.cells;rw [u] at y c1 c2 c3;clear k u h L ab H;go_enter Tryz.func173,Tryz.ntmps173;go_wp2_with fail
 rw [<-an.o];refine aq.o.mono ?_;rintro e F ⟨d,rfl,U,⟨W0,t⟩,X⟩;have ah:=zh X;have W:Tk F F d a (P2 l b 0):=Tk.congr ⟨rfl,rfl,rfl,Nat.le_refl _,fun _ _ _=>rfl,t.row⟩ (fun q _=>by unfold P2;rw [if_neg (Nat.not_lt_zero q)]);have al:=zh W;have M:=zh U;clear t X W U y c1 c2 c3;go_wp2_with fail
 go_loopw [17] (fun p wr=>∃ j:Nat,p=zI j/\j<=a/\Tk F wr d a (P2 l b j)/\zL f wr) (fun p _=>a-(intOf p).toNat)
 case atStart=>exact ⟨0,rfl,by omega,al.o,ah.o⟩
 case round =>
  obtain ⟨j,rfl,aD,t,Y⟩:=hrel;have x:=zh t;have g:=zh Y;clear t Y;by_cases D:j<a
  ·have aF:(j:Int)<a:=(by omega);obtain ⟨O,Q,P,B,gf,i,ar⟩:=x.o.at D;have z:P2 l b j j=zM l b b.length j:=(by unfold P2;rw [if_neg (Nat.lt_irrefl j)]);rw [z] at i;obtain ⟨y,c1,c2,c3⟩:=(ao.o.later g.o).cells;have aw:=cell_later g.o (ak.o j D).2.2;have ap:=zh (Kd wr _ _ _ _ _ _ _ _ ((aj.o.later g.o).caps j D) i);have aE:((j:Nat):Int).toNat=j:=rfl;clear z ar gf i;go_wp2_with fail
   refine ap.o.mono ?_;rintro e ag ⟨N,af,ae,rfl,ad,C,aa⟩;obtain ⟨ax,aB,ay,az,aA,_,_⟩:=(x.o.later C).at D;have am:Zh (Tk F (ag.setCell (zA d j) (.slice N af ae)) d a (P2 l b (j+1))):=by
    have:=(x.o.later C).hit j ad (fun b av e=>by
     have I:=aa b av e;have R:=block_lt_of_cell B;intro A;rw [A] at I;exact absurd R (Nat.not_lt.2 I))
    refine zh (this.congr fun q J=>?_);unfold P2;by_cases e:q=j
    ·subst e;rw [if_pos rfl,if_pos (Nat.lt_succ_self q)];rfl
    rw [if_neg e];by_cases A:q<j
    ·rw [if_pos A,if_pos (by omega)]
    rw [if_neg A,if_neg (by omega)]
   have ai:Zh (zL f (ag.setCell (zA d j) (.slice N af ae))):=zh ((za g.o C).setCell (p:=(zA d j)) M.o _);clear C aa ad B y c1 c2 c3 aw;go_wp2;go_roundw
   case rel=>exact ⟨j+1,by go_num,by omega,am.o,ai.o⟩
   case measure=>simp [intOf];omega
  obtain rfl:j=a:=by omega
  go_wp2;go_ret;refine ⟨d,rfl,?_,fun q J=>?_,?_⟩
  ·have I:=M.o;have R:=G.o.size;omega
  ·obtain ⟨O,Q,P,B,_,i,_⟩:=x.o.at J;refine ⟨O,Q,P,B,?_⟩;have z:P2 l b j q=UA l b q:=(by unfold P2;rw [if_pos J]);rw [z] at i;exact i
  first | exact za G.o g.o | (rw [<-V];exact za G.o g.o)
def yw (l:QL) (b:BL) (t:Int) (q:Nat):Bool:=decide ((Yv (UA l b q) t).1<0)
theorem MT (w:World) (T:Nat) (t:Int) (h:w.cell? (zA T 0)=some (zI t)) (fa:Option Addr) (fm fc:Nat) (f:zd) (b:RunsIn w fa fm fc f) :
 zC 175 #[.slice fa fm fc,.pointer (zO T 0)] w fun e w'=>e=.returned (.bool (decide ((Yv f t).1<0)))/\Below w.heap.size w w':=by
 have a:=Ki w fa fm fc f t b;obtain ⟨x,c⟩:=qA (Yv f t);rw [c] at a ⊢;have d:=zh a;clear a c b;go_enter Tryz.func175,Tryz.ntmps175;go_wp2_with fail
 refine d.o.mono ?_;rintro e i ⟨rfl,g⟩;go_wp2;go_ret;exact ⟨rfl,g⟩
def Fy (p:Nat->Bool) (n:Nat) (r:Int):Prop:=(r=-1/\∀ i,i<n->p i=false)\/∃ k:Nat,k<n/\r=k/\p k=true/\∀ i,i<k->p i=false
theorem OI (d:Nat) (x:Array Value) (p:Nat->Bool) (J:∀ (args:Array Value) (w:World),(callFunc d args).run Tryz.prog w=.ok (.enter d args) w) (w:World) (t n:Nat) (hn:n<=5) (T:Nat->zd) (h:Vx w t n T)
 (B:∀ w',Below w.heap.size w w'->∀ i,i<n->∀ (a:Option Addr) (m c:Nat),RunsIn w' a m c (T i)->zC d (#[.slice a m c]++x) w' fun e F=>e=.returned (.bool (p i))/\Below w'.heap.size w' F) :
 zC 174 #[.slice (zO t 0) n n,.func (.func d) #[] x] w fun e w'=>∃ r:Int,e=.returned (zI r)/\Fy p n r/\Below w.heap.size w w':=by
 have E:=zh h;have u:=zh B;clear h B;go_enter Tryz.func174,Tryz.ntmps174;go_wp2;go_loopw [5,8] (fun _ s wr=>∃ k:Nat,s=zI k/\k<=n/\(∀ i,i<k->p i=false)/\zL w wr) (fun _ s _=>n-(intOf s).toNat)
 case atStart=>exact ⟨0,rfl,by omega,fun i A=>absurd A (Nat.not_lt_zero i),Below.refl _ _⟩
 case round =>
  obtain ⟨j,rfl,I,y,z⟩:=hrel;have q:=zh y;have b:=zh z;clear y z;by_cases l:j<n
  ·have L:(j:Int)<n:=(by omega);obtain ⟨a,m,c,H,C⟩:=(E.o.later b.o) j l;have v:=zh C;clear C;cases g:p j with
   | true =>
    go_wp2_with fail
    refine (u.o wr b.o j l a m c v.o).mono ?_;rintro e G ⟨rfl,f⟩;rw [g];go_wp2;go_ret;exact ⟨_,rfl,Or.inr ⟨j,l,rfl,g,q.o⟩,za b.o f⟩
   | false =>
    go_wp2_with fail
    refine (u.o wr b.o j l a m c v.o).mono ?_;rintro e G ⟨rfl,f⟩;have D:=zh f;clear f;rw [g];go_wp2;go_roundw
    case rel=>exact ⟨j+1,by go_num,by omega,fun i A=>by
     by_cases e:i=j
     ·subst e;exact g
     exact q.o i (by omega),za b.o D.o⟩
    case measure=>simp [intOf];omega
  obtain rfl:j=n:=by omega
  go_wp2;go_ret;exact ⟨_,rfl,Or.inl ⟨rfl,q.o⟩,b.o⟩
def XO (c:Int) (l:QL) (b:BL) (tn:Nat) (t q:Int) (f:Bool):Prop :=
 (f=false/\t=0/\q=0/\∀ u,c<=u->u<48->∀ k,k<tn->yw l b u k=false) \/
 (f=true/\c<=t/\t<48/\∃ k:Nat,k<tn/\q=k/\yw l b t k=true/\(∀ i,i<k->yw l b t i=false)/\∀ u,c<=u->u<t->∀ i,i<tn->yw l b u i=false)
def Mj (w w':World) (e:Ending) (c:Int) (l:QL) (b:BL) (tn:Nat):Prop:=∃ t q f,e=.returned (.tuple #[zI t,zI q,.bool f])/\XO c l b tn t q f/\Below w.heap.size w w'
theorem Q8 (w:World) (c n:Int) (A:Option Addr) (f B:Nat) (l:QL) (v:Option Addr) (y x:Nat) (b:BL) (h:zY w A f B l v y x b) (L:wS l b=0) (ax:0<=c) (ar:c<=48) :
 zC 144 #[.agg (zS c n A f B v y x)] w fun e w'=>Mj w w' e c l b f:=by
 obtain ⟨S,I⟩:=qA (w.heap.size);obtain ⟨s,z⟩:=qB (w.alloc (.cells (zS c n A f B v y x) 40));have J:zL w s:=by rw [z];exact zr _ _
 have N:zj s S (zI c) (zI n) (.slice A f B) (.slice v y x):=by rw [z,<-I];exact zj.new w _ _ _ _
 have ak:f<=5:=by have:=(yY (XU L).1).five;have:=h.1.len;omega
 have ai:=zh (Jh s c n A f B l v y x b (h.later J) L);have af:=zh N;have C:=zh J;have ae:=zh z;obtain ⟨G,c1,c2,c3⟩:=N.cells;rw [z] at G c1 c2 c3;clear J z h N L;go_enter Tryz.func144,Tryz.ntmps144;go_wp2_with fail
 rw [<-ae.o];refine ai.o.mono ?_;rintro e X ⟨Y,rfl,al,Q,g⟩;have D:=zh g;have ad:=zh Q;have ag:=zh (af.o.later g);clear Q al g G c1 c2 c3;obtain ⟨G,c1,c2,c3⟩:=ag.o.cells;go_wp2;go_loopw [6] (fun p wr=>∃ (P:Nat) (t:Int),p=.pointer (zO P 0)/\wr.cell? (zA P 0)=some (zI t)/\c<=t/\t<=48/\(∀ u,c<=u->u<t->∀ i,i<f->yw l b u i=false)/\zL X wr) (fun p wr=>(48-intOf (wr.cell? (match p with | .pointer (some a)=>a | _=>(zA 0 0)) |>.getD undef)).toNat)
 case atStart=>exact ⟨X.heap.size,c,rfl,by go_simp,Int.le_refl _,ar,fun u O aj=>by omega,zr _ _⟩
 case round =>
  obtain ⟨P,t,rfl,H,ap,aw,W,R⟩:=hrel;have E:=zh W;have d:=zh R;have F:=zh H;clear W R;by_cases an:t<48
  ·have ah:=zh (OI 175 #[.pointer (zO P 0)] (yw l b t) (fun args w=>by go_simp) wr Y f ak (UA l b) (ad.o.later d.o) (fun w' aq i M a m k q=>MT w' P t (cell_later aq F.o) a m k _ q));go_wp2_with fail
   refine ah.o.mono ?_;rintro e au ⟨r,rfl,q,g⟩;have j:=zh g;have ay:=cell_later g F.o;rcases q with ⟨rfl,q⟩ | ⟨k,am,rfl,U,V⟩
   ·have ab:=zh q;clear q g H;go_wp2;go_roundw
    case rel=>exact ⟨au.heap.size,t+1,by first | rfl | go_simp,by first | go_simp | (go_simp;go_num),by omega,by omega,fun u O aj i M=>by
     by_cases e:u=t
     ·subst e;exact ab.o i M
     exact E.o u O (by omega) i M,by first | exact (za d.o j.o).alloc (za d.o j.o).size _ | exact ((za d.o j.o).alloc (za d.o j.o).size _).setCell (by simp;exact (za d.o j.o).size) _⟩
    case measure =>
     have ao:=F.o;simp [ao,intOf];omega
   have Z:=zh U;have aa:=zh V;have av:(0:Int)<=k:=(by omega);clear U V g H;go_wp2;go_ret3
   refine ⟨t,k,true,rfl,Or.inr ⟨rfl,ap,an,k,am,rfl,Z.o,aa.o,E.o⟩,?_⟩
   first | exact za C.o (za D.o (za d.o j.o)) | (rw [<-I];exact za C.o (za D.o (za d.o j.o)))
  obtain rfl:t=48:=by omega
  go_wp2;go_ret3
  refine ⟨0,0,false,rfl,Or.inl ⟨rfl,rfl,rfl,E.o⟩,?_⟩
  first | exact za C.o (za D.o d.o) | (rw [<-I];exact za C.o (za D.o d.o))
end Go.Proofs.YtckpdfkobdgjeaaGreatDoor
