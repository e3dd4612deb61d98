/- Contract of the reference's OwnState: the same state, in memory of the call's own. -/
import Derived.Test.YtckpdfkobdgjeaaGreatDoorHAll5
import Derived.Test.YtckpdfkobdgjeaaGreatDoorHFreshD
import Derived.Test.YtckpdfkobdgjeaaGreatDoorHAll2
namespace Go.Proofs.YtckpdfkobdgjeaaGreatDoor
set_option maxRecDepth 100000
set_option maxHeartbeats 4000000
open Go.RowKit
theorem OwnQs.keep {w w':World} {B:Nat} {v:Value} {l:QL} (h:OwnQs w B v l) (d:∀ g,v.ownBlock=some g->w'.heap[g]?=w.heap[g]?) (e:∀ i,i<l.length->0<(qu l i).cn->∀ b k,(qu l i).ca=zO b k->w'.heap[b]?=w.heap[b]?):OwnQs w' B v l:=by
 refine ⟨⟨h.row.1,?_⟩,fun i a=>(h.caps i a).of_away (e i a),h.far,h.names⟩;rcases h.row.2 with j | ⟨g,cap,c,rfl,f,hg,rest⟩
 ·exact .inl j
 exact .inr ⟨g,cap,c,rfl,f,(d g rfl).trans hg,rest⟩
theorem xP {g n c b:Nat}:(Value.slice (zO g 0) n c).ownBlock=some b↔g=b:=by simp [Value.ownBlock]
theorem Lo {w:World} {B g n k m:Nat} {i:List Value} {a b c d:Value} (h:w.ownsRow B 66 3 (.slice (zO g 0) n k) m i) (f:zj w g a b c d):False:=by
 rcases h.2 with ⟨e,_⟩ | ⟨l,cap,j,e,_,hg,_⟩
 ·cases e
 injection e with e;injection e with e;injection e with e;subst e;unfold zj at f;rw [hg] at f;injection f with f;injection f with _ f;exact absurd f (by decide)
theorem JJ {w:World} {g:Nat} {a b c d:Value} (h:Qh w g 55) (e:zj w g a b c d):False:=by
 obtain ⟨cs,fr,h⟩:=h;unfold zj at e;rw [h] at e;injection e with e;injection e with _ e;exact absurd e (by decide)
theorem PZ (w' r:World) (L S B:Nat) (s:Option Addr) (bn u:Nat) (d:BL) (X:Bk) (y:Nat) (R:TypeId) (Z:OwnBks r S (.slice s bn u) d) (w:Below r.heap.size r w')
 (Y:w'.heap[y]?=some (.cells #[zI X.id,zI X.rq.queue,zI X.rq.fr,zI X.rq.un,zI X.rq.kind,.slice X.rq.pa X.rq.pn X.rq.pc,.slice X.ba X.bn X.bc] 60 (0,0)))
 (aa:bn=d.length) (ag:bn<=12) (E:S<=r.heap.size) (ai:B<r.heap.size) (O:RunsIn w' X.rq.pa X.rq.pn X.rq.pc X.rq.ps)
 (M:∀ i,i<d.length->(0<(bk d i).rq.pn->∀ g c,(bk d i).rq.pa=zO g c->L<=g/\g≠B)/\(0<(bk d i).bn->∀ g c,(bk d i).ba=zO g c->L<=g/\g≠B)) (aj:L<=S)
 (N:0<X.rq.pn->∀ b c,X.rq.pa=zO b c->r.heap.size<=b) (P:∀ g,(Value.slice s bn u).ownBlock=some g->g≠B/\g<r.heap.size)
 (F:0<X.bn->∀ b c,X.ba=zO b c->(L<=b/\b≠B)/\(Value.slice s bn u).ownBlock≠some b) (J:RunsIn w' X.ba X.bn X.bc X.bs) :
 ∃ o D v,(Builtin.append_ #[38,38] R #[.slice s bn u,.slice (zO y 0) 1 1]).run Tryz.prog w'=.ok (.slice (zO o 0) (bn+1) D) v/\Made v r L S B s bn u d X o D/\Below S r v:=by
 subst aa;obtain ⟨af,p,e⟩:=Option.map_eq_some_iff.1 Z5;simp only [Prod.mk.injEq] at e;obtain ⟨V,m,t⟩:=e;have q:=Z.later w;obtain ⟨o,D,v,W,H,z,A,ah⟩:=run_append_lies w' 38 R S 60 af _ 7 88 Tryz.underlying38 p V m t (by rfl) (by omega) (.slice s d.length u) d.length (ze d) q.row (zA y 0) 1 1 (zx X) (by simp [zx])
  (fun j U G=>by rw [Addr.add_lit,Nat.zero_add,cell_of_row w' y j _ _ _ Y];simpa [zx] using G) (fun U G=>y7 [X] U (by simpa [ze] using G)) (by omega) (by simp only [maxLen];omega) (by omega) (Nat.le_trans E w.size) w'.heap.size rfl
 have ae:=H.lt o rfl;have x:(Value.slice s d.length u).ownBlock=some o\/w'.heap.size<=o:=by
  rcases A with A | A
  ·exact Or.inl A
  exact Or.inr (by omega)
 have C:∀ {a:Option Addr} {n cap:Nat} {l:zd},RunsIn w' a n cap l->(0<n->∀ b c,a=zO b c->(Value.slice s d.length u).ownBlock≠some b)->RunsIn v a n cap l:=fun h hn=>h.of_away fun f b c e=>z.block b (h.lt f e) (fun m=>hn f b c e m.symm);have Q:=w.size;have I:0<X.rq.pn->∀ b c,X.rq.pa=zO b c->(Value.slice s d.length u).ownBlock≠some b:=fun f b c e m=>by have:=N f b c e;have:=(P b m).2;omega
 refine ⟨o,D,v,W,⟨⟨?_,fun i p=>?_,fun i p=>?_,fun i p f g c e m=>?_,fun i p f g c e m=>?_⟩,rfl,?_,ae.1,fun k ab ad=>?_,Nat.le_trans Q z.size,fun i p=>?_,fun i p=>?_⟩,?_⟩
 ·rw [List.length_append,List.length_singleton,xw];have:ze [X]=zx X:=by simp [ze]
  rw [this];exact H
 ·by_cases e:i<d.length
  ·rw [Zb e];exact C (q.rqs i e) (q.farP i e)
  obtain rfl:i=d.length:=by simp at p;omega
  rw [ZE];exact C O I
 ·by_cases e:i<d.length
  ·rw [Zb e];exact C (q.bites i e) (q.farB i e)
  obtain rfl:i=d.length:=by simp at p;omega
  rw [ZE];exact C J (fun f b c e=>(F f b c e).2)
 ·have m:o=g:=by simpa [Value.ownBlock] using m
  subst m;by_cases t:i<d.length
  ·rw [Zb t] at f e;rcases x with h | h
   ·exact q.farP i t f o c e h
   have:=RunsIn.lt (q.rqs i t) f e;omega
  obtain rfl:i=d.length:=by simp at p;omega
  rw [ZE] at f e;rcases x with h | h
  ·exact I f o c e h
  have:=O.lt f e;omega
 ·have m:o=g:=by simpa [Value.ownBlock] using m
  subst m;by_cases t:i<d.length
  ·rw [Zb t] at f e;rcases x with h | h
   ·exact q.farB i t f o c e h
   have:=(q.bites i t).lt f e;omega
  obtain rfl:i=d.length:=by simp at p;omega
  rw [ZE] at f e;rcases x with h | h
  ·exact (F f o c e).2 h
  have:=J.lt f e;omega
 ·rcases x with h | h
  ·exact (P o h).1
  omega
 ·rw [z.block k (by omega) ad];exact w.block k ab
 ·by_cases e:i<d.length
  ·rw [Zb e];exact (M i e).1
  obtain rfl:i=d.length:=by simp at p;omega
  rw [ZE];intro f g c m;have:=N f g c m;omega
 ·by_cases e:i<d.length
  ·rw [Zb e];exact (M i e).2
  obtain rfl:i=d.length:=by simp at p;omega
  rw [ZE];exact fun f g c m=>(F f g c m).1
 ·exact (w.mono E).grown z (Nat.le_trans E Q) (fun k e=>(q.row.lt k e).1)
structure Put (Z W3:World) (L G:Nat) (aa:Option Addr) (bn k3:Nat) (b':BL) (X:Bk) (g9 k9:Nat) (c n:Int) (tv:Value):Prop where
 own:OwnBks Z L (.slice (zO g9 0) (bn+1) k9) (b'++[X])
 box:zj Z G (zI c) (zI n) tv (.slice (zO g9 0) (bn+1) k9)
 blk:∀ k,k<W3.heap.size->k≠G->some k≠(Value.slice aa bn k3).ownBlock->Z.heap[k]?=W3.heap[k]?
 size:W3.heap.size<=Z.heap.size
 low:L<=g9
 ne:g9≠G
 offP:∀ i,i<(b'++[X]).length->0<(bk (b'++[X]) i).rq.pn->∀ g off,(bk (b'++[X]) i).rq.pa=zO g off->L<=g/\g≠G
 offB:∀ i,i<(b'++[X]).length->0<(bk (b'++[X]) i).bn->∀ g off,(bk (b'++[X]) i).ba=zO g off->L<=g/\g≠G
theorem Put.later {b f e:World} {L d:Nat} {g:Option Addr} {bn l:Nat} {i:BL} {X:Bk} {j m:Nat} {c n:Int} {o:Value} (h:Put b e L d g bn l i X j m c n o) (a:Below b.heap.size b f):Put f e L d g bn l i X j m c n o :=
 ⟨h.own.later a,h.box.later a,fun k p q r=>(a.block k (by have:=h.size;omega)).trans (h.blk k p q r),Nat.le_trans h.size a.size,h.low,h.ne,h.offP,h.offB⟩
theorem Made.put {b d:World} {B L a:Nat} {f:Option Addr} {bn j:Nat} {u:BL} {X:Bk} {l m:Nat} (h:Made b d L L a f bn j u X l m) {c n:Int} {t:Value} (v:zj d a (zI c) (zI n) t (.slice f bn j)/\some a≠(Value.slice f bn j).ownBlock) (w:B<=a) (x:a<d.heap.size) (y:Below B d b) :
 Put (b.setCell (zA a 3) (.slice (zO l 0) (bn+1) m)) d L a f bn j u X l m c n t/\b.cell? (zA a 3)=some (.slice f bn j)/\b.frozen? (zA a 3)=false/\Below B d (b.setCell (zA a 3) (.slice (zO l 0) (bn+1) m)):=by
 have r:zj b a (zI c) (zI n) t (.slice f bn j):=(h.blk a x v.2).trans v.1;refine ⟨⟨?_,?_,fun k z A C=>?_,?_,h.low,h.ne,h.offP,h.offB⟩,r.cells.2.2.2,frozen_of_row b a 3 _ _ r,y.setCell (p:=(zA a 3)) w _⟩
 ·refine h.own.blocks (fun g e=>heap_setCell_other b (zA a 3) g _ ?_) (fun i o q g s e=>heap_setCell_other b (zA a 3) g _ (h.offP i o q g s e).2) (fun i o q g s e=>heap_setCell_other b (zA a 3) g _ (h.offB i o q g s e).2);have e:l=g:=by simpa [Value.ownBlock] using e
  subst e;exact h.ne
 ·unfold zj;rw [heap_setCell_same b a 3 _ _ _ r];rfl
 ·rw [heap_setCell_other b (zA a 3) k _ A];exact h.blk k z C
 ·have:=h.size;simp only [World.setCell,Array.size_modify];omega
structure Laid (W:World) (L G:Nat) (c n:Int) (tv:Value) (l':QL) (aa:Option Addr) (k k3:Nat) (lb:BL):Prop where
 box:zj W G (zI c) (zI n) tv (.slice aa k k3)
 own:OwnBks W L (.slice aa k k3) lb
 len:k=lb.length
 offP:∀ i,i<lb.length->(0<(bk lb i).rq.pn->∀ g off,(bk lb i).rq.pa=zO g off->L<=g/\g≠G)/\(0<(bk lb i).bn->∀ g off,(bk lb i).ba=zO g off->L<=g/\g≠G)
 size:L<=W.heap.size
 gl:G<L
theorem MG {b c:BL} {k:Nat} {X:Bk} (h:zg c=zg (b.take k)) (a:k<b.length) (e:X.bare=(bk b k).bare):zg (c++[X])=zg (b.take (k+1)):=by
 have d:b.take (k+1)=b.take k++[bk b k]:=by
  rw [List.take_succ_eq_append_getElem a]
  congr 2
  unfold bk;simp [List.getD,a]
 rw [d];unfold zg at *;rw [List.map_append,List.map_append,h];simp [e]
structure Modest1 (tn:Nat) (l:QL) (bn:Nat) (b:BL):Prop where
 t0:0<tn
 t1:tn<=999
 caps:∀ i,i<tn->0<(qu l i).cn/\(qu l i).cn<=1000
 b1:bn<=12
 ps:∀ i,i<bn->0<(bk b i).rq.pn/\(bk b i).rq.pn<=1000
 bs:∀ i,i<bn->0<(bk b i).bn/\(bk b i).bn<=1000
theorem Uj (w:World) (c n:Int) (ae:Option Addr) (r af:Nat) (l:QL) (ba:Option Addr) (bn bc:Nat) (b:BL) (h:zY w ae r af l ba bn bc b) (aA:Modest1 r l bn b) :
 zC 23 #[.agg (zS c n ae r af ba bn bc)] w fun e w'=>∃ L g u t J O ah,e=.returned (.agg (zS c n (zO g 0) r u J bn O))/\w.heap.size<=g/\g<L/\OwnQs w' w.heap.size (.slice (zO g 0) r u) t/\r=t.length/\zi t=zi l/\(∀ i,i<r->0<(qu t i).cn->∀ b q,(qu t i).ca=zO b q->w.heap.size<=b/\b<L)/\OwnBks w' L (.slice J bn O) ah/\bn=ah.length/\zg ah=zg b/\(∀ i,i<bn->(0<(bk ah i).rq.pn->∀ g q,(bk ah i).rq.pa=zO g q->L<=g)/\(0<(bk ah i).bn->∀ g q,(bk ah i).ba=zO g q->L<=g))/\Below w.heap.size w w':=by
 obtain ⟨S,aN⟩:=qA (w.heap.size);obtain ⟨F,am⟩:=qB ((w.alloc (.cells (zS c n ae r af ba bn bc) 40)).alloc (.cells zZ 40));have U:Below w.heap.size w F:=by rw [am];exact (zr _ _).alloc (by simp) _
 have ad:zj F S (zI c) (zI n) (.slice ae r af) (.slice ba bn bc):=by unfold zj;rw [am,<-aN];exact (Below.heap_alloc _ _ _ (by simp)).trans (heap_alloc_new w _)
 have bM:zj F (S+1) (zI 0) (zI 0) zN zN:=by
  have:=heap_alloc_new (w.alloc (.cells (zS c n ae r af ba bn bc) 40)) (.cells zZ 40);rw [World.size_alloc,aN] at this;unfold zj;rw [am];exact this
 have a8:F.heap.size=S+2:=by rw [am,<-aN];simp
 have ci:=zh fun X (aw:Below F.heap.size F X)=>TX X ae r af l ((h.1.later U).later aw) aA.t0 aA.t1 aA.caps;have ar:=zh h.2;have aY:=zh aA;have cd:=zh am;have bW:=zh U;have b0:=zh ad;have cb:=zh bM;have bp:=zh a8;have aE:=zh aN;obtain ⟨bx,c1,c2,c3⟩:=ad.cells;have bR:=zh bx;have bS:=zh c1;have bT:=zh c2;clear am U ad bM a8 h aA bx c1 c2 c3;go_enter Tryz.func23,Tryz.ntmps23;go_wp2_with fail
 rw [<-cd.o];go_cut [3] (fun p aW=>∃ cj,cj=aW/\∃ f g u t,p=.pointer (zO f 0)/\zj aW f (zI c) (zI n) (.slice (zO g 0) r u) zN/\F.heap.size<=f/\g≠f/\OwnQs aW F.heap.size (.slice (zO g 0) r u) t/\r=t.length/\zi t=zi l/\(∀ i,i<r->0<(qu t i).cn->∀ b q,(qu t i).ca=zO b q->F.heap.size<=b/\b≠f)/\Below F.heap.size F aW)
 case first =>
  refine wN ((Tryz.f23.body.bind fun c=>yi c 1).getD #[]) (by kernel_rfl) [zl (.pointer (zO S 0)),zl (zI c),zl (.pointer (zO S 1)),zl (zI n),zl (.pointer (zO S 2)),zl (.slice ae r af),⟨fun W P=>∃ g u t,W=.slice (zO g 0) r u/\OwnQs P F.heap.size (.slice (zO g 0) r u) t/\r=t.length/\zi t=zi l/\(∀ i,i<r->0<(qu t i).cn->∀ b q,(qu t i).ca=zO b q->F.heap.size<=b/\Qh P b 55),fun _ _ _ ⟨g,u,t,A,G,Y,aj,ab⟩ a=>⟨g,u,t,A,⟨G.later a,Y,aj,fun i x C b q e=>⟨(ab i x C b q e).1,(ab i x C b q e).2.later a⟩⟩⟩⟩,⟨fun W P=>∃ g u t,W=.agg (zS c n (zO g 0) r u none 0 0)/\OwnQs P F.heap.size (.slice (zO g 0) r u) t/\r=t.length/\zi t=zi l/\(∀ i,i<r->0<(qu t i).cn->∀ b q,(qu t i).ca=zO b q->F.heap.size<=b/\Qh P b 55),fun _ _ _ ⟨g,u,t,A,G,Y,aj,ab⟩ a=>⟨g,u,t,A,⟨G.later a,Y,aj,fun i x C b q e=>⟨(ab i x C b q e).1,(ab i x C b q e).2.later a⟩⟩⟩⟩,⟨fun W P=>∃ f,W=.pointer (zO f 0)/\zj P f (zI 0) (zI 0) zN zN/\F.heap.size<=f,fun _ _ _ ⟨f,A,G,Y⟩ a=>⟨f,A,G.later a,Y⟩⟩,zl undef] 9 (by kernel_rfl) (by kernel_rfl) (by kernel_rfl) ?hstep
  case hstep =>
   refine zc.cons 1 rfl ?_ ?_
   ·intro T w' a V y s;rw [if_neg (by decide)];have H:T.getD 1 undef=.pointer (zO S 0):=y 1;exact zs (by go_simp) rfl
   refine zc.cons 2 rfl ?_ ?_
   ·intro T w' a V y s;rw [if_neg (by decide)];have H:T.getD 5 undef=_:=s 0 5;have aM:=cell_later a bR.o;exact zs (by go_simp) rfl
   refine zc.cons 3 rfl ?_ ?_
   ·intro T w' a V y s;rw [if_neg (by decide)];have H:T.getD 1 undef=.pointer (zO S 0):=y 1;exact zs (by go_simp) rfl
   refine zc.cons 4 rfl ?_ ?_
   ·intro T w' a V y s;rw [if_neg (by decide)];have H:T.getD 7 undef=_:=s 2 7;have aM:=cell_later a bS.o;exact zs (by go_simp) rfl
   refine zc.cons 5 rfl ?_ ?_
   ·intro T w' a V y s;rw [if_neg (by decide)];have H:T.getD 1 undef=.pointer (zO S 0):=y 1;exact zs (by go_simp) rfl
   refine zc.cons 6 rfl ?_ ?_
   ·intro T w' a V y s;rw [if_neg (by decide)];have H:T.getD 9 undef=_:=s 4 9;have aM:=cell_later a bT.o;exact zs (by go_simp) rfl
   refine zc.cons 7 rfl ?_ ?_
   ·intro T w' a V y s;rw [if_neg (by decide)];have H:T.getD 10 undef=_:=s 5 10;refine Or.inr ⟨58,#[.slice ae r af],by go_simp,?_⟩;refine (ci.o w' a).mono ?_;rintro e bg ⟨g,u,t,rfl,Z,y,an,al,aB⟩;exact ⟨_,rfl,⟨g,u,t,rfl,Z.base a.size,y,an,fun i x C b q e=>⟨Nat.le_trans a.size (aB i x C b q e).1,(aB i x C b q e).2⟩⟩,al⟩
   refine zc.cons 8 rfl ?_ ?_
   ·intro T w' a V y s;rw [if_neg (by decide)];have H:T.getD 6 undef=_:=s 1 6;have A:T.getD 8 undef=_:=s 3 8;obtain ⟨g,u,t,G,Z⟩:=s 6 11;have cL:T[6]?.getD undef=zI c:=(by rw [<-H];simp);have cr:T[8]?.getD undef=zI n:=(by rw [<-A];simp);have cM:T[11]?.getD undef=.slice (zO g 0) r u:=(by rw [<-G];simp);exact Or.inl ⟨.agg (zS c n (zO g 0) r u none 0 0),w',by go_simp,⟨g,u,t,rfl,Z⟩,Below.refl _ _⟩
   refine zc.cons 9 rfl ?_ ?_
   ·intro T w' a V y s;rw [if_neg (by decide)];exact Or.inl ⟨.pointer (zO w'.heap.size 0),w'.alloc (.cells zZ 40),by go_simp,⟨_,rfl,zj.new w' _ _ _ _,a.size⟩,zr _ _⟩
   refine zc.cons 10 rfl ?_ ?_
   ·intro T w' a V y s;rw [if_pos rfl]
    replace V:=V.resolve_right (fun h=>h rfl)
    obtain ⟨g,u,t,H,Z,ao,an,aB⟩:=s 7 12;obtain ⟨f,A,ad,ak⟩:=s 8 3;obtain ⟨c5,c6,c7,c8⟩:=ad.cells;have c9:∀ m,w'.frozen? (zA f m)=false:=fun m=>frozen_of_row w' f m _ _ ad;have a7:=zk w' f 40 _ _ _ _ (zI c) (zI n) (.slice (zO g 0) r u) zN ad;have cx:Below F.heap.size F ((((w'.setCell (zA f 0) (zI c)).setCell (zA f 1) (zI n)).setCell (zA f 2) (.slice (zO g 0) r u)).setCell (zA f 3) zN):=(((a.setCell (p:=(zA f 0)) ak _).setCell (p:=(zA f 1)) ak _).setCell (p:=(zA f 2)) ak _).setCell (p:=(zA f 3)) ak _;have ay:g≠f:=fun e=>by subst e;exact Lo Z.row ad
    have bH:∀ i,i<r->0<(qu t i).cn->∀ b q,(qu t i).ca=zO b q->b≠f:=fun i x C b q e au=>by subst au;exact JJ (aB i x C b q e).2 ad
    have cw:OwnQs ((((w'.setCell (zA f 0) (zI c)).setCell (zA f 1) (zI n)).setCell (zA f 2) (.slice (zO g 0) r u)).setCell (zA f 3) zN) F.heap.size (.slice (zO g 0) r u) t:=Z.keep (fun k e=>a7.2 k (fun au=>ay ((xP.1 e).trans au))) (fun i x C b q e=>a7.2 b (bH i (by omega) C b q e));refine ⟨((((w'.setCell (zA f 0) (zI c)).setCell (zA f 1) (zI n)).setCell (zA f 2) (.slice (zO g 0) r u)).setCell (zA f 3) zN),by go_simp,?_⟩;show _;rw [yb (tt 3 [false,true,false,false,false,false,false,false,false,false] 19) (by kernel_rfl) V @y];obtain ⟨us,aq⟩:∃ us:Nat->Value,(fun d=>T.getD d undef)=us:=⟨_,rfl⟩;rw [aq];have cp:us 3=.pointer (zO f 0):=(by rw [<-aq];exact A);clear aq y V s;apply_assumption;simp only [xj,tt,List.replicate,List.cons_append,List.nil_append];go_meet;exact ⟨_,rfl,f,g,u,t,cp,a7.1,ak,ay,cw,ao,an,fun i x C b q e=>⟨(aB i x C b q e).1,bH i x C b q e⟩,cx⟩
   exact trivial
 case rest =>
  obtain ⟨br,rfl,f,g,u,t,rfl,a5,ak,ay,Z,ao,an,a6,aP⟩:=hcut;obtain ⟨L,bD⟩:=qA (br.heap.size);have bB:f<L:=by have:=(Array.getElem?_eq_some_iff.1 a5).1;omega
  have bK:=Z.row.lt g (xP.2 rfl);have aS:g<L:=by omega
  have bI:∀ i,i<r->0<(qu t i).cn->∀ b q,(qu t i).ca=zO b q->F.heap.size<=b/\b<L/\b≠f:=fun i x C b q e=>⟨(a6 i x C b q e).1,by have:=(Z.caps i (by omega)).lt C e;omega,(a6 i x C b q e).2⟩;have bj:=zh bI;have b6:=zh Z;have b3:=zh ao;have bY:=zh an;have bX:=zh aP;have b5:=zh bD;have cf:=zh a5;have bl:=zh (And.intro bK.1 ay);have cO:S+2<=f:=by have:=bp.o;omega
  have cc:=zh (b0.o.later aP);have b9:=zh (cb.o.later aP);have cR:=aY.o.b1;have cP:=ar.o.capb;have cQ:=ar.o.le;clear a6 Z ao an aP bD a5 bK bI ak ay;go_wp2_with fail
  go_loopg [4] bn (fun cq (p:Value) wr=>∃ (k:Nat) (J:Option Addr) (Q:Nat) (lb:BL),p=zI k/\k<=bn/\cq=bn-k/\Laid wr L f c n (.slice (zO g 0) r u) t J k Q lb/\zg lb=zg (b.take k)/\(∀ j,j<L->j≠f->wr.heap[j]?=br.heap[j]?)/\Below S w wr)
  case atStart =>
   refine ⟨0,none,0,[],rfl,by omega,by omega,⟨cf.o,⟨World.ownsRow_nil _ _ _ _,fun i x=>absurd x (Nat.not_lt_zero i),fun i x=>absurd x (Nat.not_lt_zero i),fun i x=>absurd x (Nat.not_lt_zero i),fun i x=>absurd x (Nat.not_lt_zero i)⟩,rfl,fun i x=>absurd x (Nat.not_lt_zero i),by have:=b5.o;omega,bB⟩,rfl,fun j _ _=>rfl,?_⟩;have:=za bW.o bX.o;rw [aE.o] at this;exact this
  obtain ⟨k,J,Q,lb,rfl,cU,rfl,M,al,ax,aR⟩:=hrel;have cv:=M.size;have cu:S<=wr.heap.size:=by omega
  have bC:f<wr.heap.size:=by omega
  have cs:S<=f:=by omega
  have bh:=zh al;have aX:=zh ax;have bi:=zh aR;have b4:=zh M;have bf:zj wr S (zI c) (zI n) (.slice ae r af) (.slice ba bn bc):=(ax S (by omega) (by omega)).trans cc.o;have a4:Below w.heap.size w wr:=by rw [aE.o];exact aR
  obtain ⟨cl,cm,co,bz⟩:=M.box.cells;obtain ⟨bN,bO,bP,bQ⟩:=bf.cells;by_cases az:k<bn
  ·have cW:(k:Int)<bn:=(by omega);have aQ:=ar.o.later a4;obtain ⟨bv,bw,bF,bG⟩:=aQ.cells (by omega);obtain ⟨aF,aG,aH,aI,aJ,aK,aL⟩:=bG k az;have a2:=aQ.rqs k az;have a1:=aQ.bites k az;obtain ⟨a9,bb⟩:=aY.o.ps k az;obtain ⟨bd,be⟩:=aY.o.bs k az;obtain ⟨X,aw⟩:=qA (bk b k);rw [aw] at aF aG aH aI aJ aK aL a2 a1 a9 bb bd be;rw [bF] at bQ;have aF:=zh aF;have aG:=zh aG;have aH:=zh aH;have aI:=zh aI;have aJ:=zh aJ;have aK:=zh aK;have aL:=zh aL;have ce:=zh aw;have bV:=zh bQ;have bU:=zh bz;have ch:=zh fun bq (bE:Below wr.heap.size wr bq)=>Vd bq X (zH.later a2 bE) (a1.later bE) a9 bb bd be;have bo:=zh M.own;have bm:=zh M.len;have b2:=zh M.offP;have cC:k<=12:=(by omega);have ct:S<=L:=(by omega);have aZ:Zh (∀ av,(Value.slice J k Q).ownBlock=some av->av≠f/\av<wr.heap.size):=fun av e=>by have:=M.own.row.lt av e;omega
   have cg:Zh (zj wr f (zI c) (zI n) (.slice (zO g 0) r u) (.slice J k Q)/\some f≠(Value.slice J k Q).ownBlock):=⟨M.box,fun e=>(aZ.o f e.symm).1 rfl⟩;clear aQ bG a2 a1 a9 bb bd be aw M al ax aR bf cl cm co bz bN bO bP a4;subst bF;go_wp2_with fail
   refine Zl ((Tryz.f23.body.bind fun c=>yi c 5).getD #[]) (by kernel_rfl) [zl (.pointer (zO f 3)),zl (.slice J k Q),zl (.pointer (zO S 3)),zl (.slice (zO bv bw) bn bc),zl (zI k),zl (.pointer (zO bv (bw+k*7))),zl (.agg #[zI X.id,zI X.rq.queue,zI X.rq.fr,zI X.rq.un,zI X.rq.kind,.slice X.rq.pa X.rq.pn X.rq.pc,.slice X.ba X.bn X.bc]),⟨fun W P=>∃ B D z E,W=.agg #[zI X.id,zI X.rq.queue,zI X.rq.fr,zI X.rq.un,zI X.rq.kind,.slice (zO B 0) X.rq.pn D,.slice (zO z 0) X.bn E]/\RunsIn P (zO B 0) X.rq.pn D X.rq.ps/\RunsIn P (zO z 0) X.bn E X.bs/\wr.heap.size<=B/\wr.heap.size<=z,fun _ _ _ ⟨B,D,z,E,A,G,Y,aj,ab⟩ a=>⟨B,D,z,E,A,G.later a,Y.later a,aj,ab⟩⟩,⟨fun W P=>∃ B D z E ai,W=.slice (zO ai 0) 1 1/\P.heap[ai]?=some (.cells #[zI X.id,zI X.rq.queue,zI X.rq.fr,zI X.rq.un,zI X.rq.kind,.slice (zO B 0) X.rq.pn D,.slice (zO z 0) X.bn E] 60 (0,0))/\RunsIn P (zO B 0) X.rq.pn D X.rq.ps/\RunsIn P (zO z 0) X.bn E X.bs/\wr.heap.size<=B/\wr.heap.size<=z,fun _ _ _ ⟨B,D,z,E,ai,A,bA,G,Y,aj,ab⟩ a=>⟨B,D,z,E,ai,A,(a.block _ (Array.getElem?_eq_some_iff.1 bA).1).trans bA,G.later a,Y.later a,aj,ab⟩⟩,⟨fun W P=>∃ B D z E R O,W=.slice (zO R 0) (k+1) O/\Made P wr L L f J k Q lb ⟨X.id,⟨X.rq.queue,X.rq.fr,X.rq.un,X.rq.kind,zO B 0,X.rq.pn,D,X.rq.ps⟩,zO z 0,X.bn,E,X.bs⟩ R O,fun _ _ _ ⟨B,D,z,E,R,O,A,G⟩ a=>⟨B,D,z,E,R,O,A,G.later a⟩⟩,zl (.pointer (zO f 3)),⟨fun W P=>W=undef/\∃ B D z E R O,Put P wr L f J k Q lb ⟨X.id,⟨X.rq.queue,X.rq.fr,X.rq.un,X.rq.kind,zO B 0,X.rq.pn,D,X.rq.ps⟩,zO z 0,X.bn,E,X.bs⟩ R O c n (.slice (zO g 0) r u),fun _ _ _ ⟨e,B,D,z,E,R,O,G⟩ a=>⟨e,B,D,z,E,R,O,G.later a⟩⟩] [] [(9,[7,8]),(11,[7,8,9])] S (cu) (by kernel_rfl) (by kernel_rfl) (by kernel_rfl) (by kernel_rfl) ?hg ?hstep ?hfin
   case hg =>
    intro g hg v w h;cases hg
   case hstep =>
    refine zc.cons 1 rfl ?_ ?_
    ·intro T w' I U y s;show zu Tryz.prog _ _ _ _;have a:=I (by kernel_rfl);have H:T.getD 3 undef=.pointer (zO f 0):=y 3;exact zs (by go_simp) rfl
    refine zc.cons 2 rfl ?_ ?_
    ·intro T w' I U y s;show zu Tryz.prog _ _ _ _;have a:=I (by kernel_rfl);have H:T.getD 20 undef=_:=s 0 20;have aM:=cell_later a bU.o;exact zs (by go_simp) rfl
    refine zc.cons 3 rfl ?_ ?_
    ·intro T w' I U y s;show zu Tryz.prog _ _ _ _;have a:=I (by kernel_rfl);have H:T.getD 1 undef=.pointer (zO S 0):=y 1;exact zs (by go_simp) rfl
    refine zc.cons 4 rfl ?_ ?_
    ·intro T w' I U y s;show zu Tryz.prog _ _ _ _;have a:=I (by kernel_rfl);have H:T.getD 22 undef=_:=s 2 22;have aM:=cell_later a bV.o;exact zs (by go_simp) rfl
    refine zc.cons 5 rfl ?_ ?_
    ·intro T w' I U y s;show zu Tryz.prog _ _ _ _;have a:=I (by kernel_rfl);have H:T.getD 4 undef=zI k:=y 4;exact zs (by go_simp) rfl
    refine zc.cons 6 rfl ?_ ?_
    ·intro T w' I U y s;show zu Tryz.prog _ _ _ _;have a:=I (by kernel_rfl);have H:T.getD 23 undef=_:=s 3 23;have A:T.getD 24 undef=_:=s 4 24;exact zs (by go_simp) rfl
    refine zc.cons 7 rfl ?_ ?_
    ·intro T w' I U y s;show zu Tryz.prog _ _ _ _;have a:=I (by kernel_rfl);have H:T.getD 25 undef=_:=s 5 25;have cE:=cell_later a aF.o;have cF:=cell_later a aG.o;have cG:=cell_later a aH.o;have cH:=cell_later a aI.o;have cI:=cell_later a aJ.o;have cJ:=cell_later a aK.o;have cK:=cell_later a aL.o;exact zs (by go_simp) rfl
    refine zc.cons 8 rfl ?_ ?_
    ·intro T w' I U y s;show zu Tryz.prog _ _ _ _;have a:=I (by kernel_rfl);have H:T.getD 26 undef=_:=s 6 26;refine Or.inr ⟨59,#[.agg #[zI X.id,zI X.rq.queue,zI X.rq.fr,zI X.rq.un,zI X.rq.kind,.slice X.rq.pa X.rq.pn X.rq.pc,.slice X.ba X.bn X.bc]],by go_simp,?_⟩;refine (ch.o w' a).mono ?_;rintro e bg ⟨B,D,z,E,rfl,aC,aD,aT,aU,al⟩;exact ⟨_,rfl,⟨B,D,z,E,rfl,aC,aD,Nat.le_trans a.size aT,Nat.le_trans a.size aU⟩,al⟩
    refine zc.cons 9 rfl ?_ ?_
    ·intro T w' I U y s;show zu Tryz.prog _ _ _ _;have a:=I (by kernel_rfl);obtain ⟨B,D,z,E,A,aC,aD,aT,aU⟩:=s 7 27;have cr:T[27]?.getD undef=.agg #[zI X.id,zI X.rq.queue,zI X.rq.fr,zI X.rq.un,zI X.rq.kind,.slice (zO B 0) X.rq.pn D,.slice (zO z 0) X.bn E]:=(by rw [<-A];simp);exact Or.inl ⟨.slice (zO w'.heap.size 0) 1 1,w'.alloc (.cells #[zI X.id,zI X.rq.queue,zI X.rq.fr,zI X.rq.un,zI X.rq.kind,.slice (zO B 0) X.rq.pn D,.slice (zO z 0) X.bn E] 60),by go_simp,⟨B,D,z,E,w'.heap.size,rfl,heap_alloc_new w' _,aC.later (zr _ _),aD.later (zr _ _),aT,aU⟩,zr _ _⟩
    refine zc.cons 10 rfl ?_ ?_
    ·intro T w' I U y s;show Xd Tryz.prog _ _ _ _ _ _ _ _ _;have a:=I (by kernel_rfl);have H:T.getD 21 undef=_:=s 1 21;obtain ⟨B,D,z,E,ai,A,aS,aC,aD,aT,aU⟩:=s 8 28;obtain ⟨R,O,bg,cD,a0,a3⟩:=PZ w' wr L L f J k Q lb ⟨X.id,⟨X.rq.queue,X.rq.fr,X.rq.un,X.rq.kind,zO B 0,X.rq.pn,D,X.rq.ps⟩,zO z 0,X.bn,E,X.bs⟩ ai 38 bo.o a aS bm.o cC cv bC aC b2.o (Nat.le_refl _) (fun _ b q e=>by injection e with e;injection e with e;omega) aZ.o (fun _ b q e=>by injection e with e;injection e with e;subst e;exact ⟨by omega,fun au=>by have:=(aZ.o z au).2;omega⟩) aD;refine ⟨.slice (zO R 0) (k+1) O,bg,Or.inl (Ze (.tmp 21) (.tmp 28) 38 rfl (.slice J k Q) (.slice (zO ai 0) 1 1) H A cD),(fun h=>by cases h),⟨B,D,z,E,R,O,rfl,a0⟩,a3.mono ct,?_⟩;intro i A G Y W N
     match i with
     | 0=>exact N
     | 1=>exact N
     | 2=>exact N
     | 3=>exact N
     | 4=>exact N
     | 5=>exact N
     | 6=>exact N
     | 7=>exact absurd G (by decide)
     | 8=>exact absurd G (by decide)
     | 9=>exact absurd rfl A
     | 10=>exact N
     | 11=>exact absurd (Y.symm.trans (by kernel_rfl:_=true)) (by decide)
     | n+12=>exact N
    refine zc.cons 11 rfl ?_ ?_
    ·intro T w' I U y s;show zu Tryz.prog _ _ _ _;have H:T.getD 3 undef=.pointer (zO f 0):=y 3;exact zs (by go_simp) rfl
    refine zc.cons 12 rfl ?_ ?_
    ·intro T w' I U y s;show Xd Tryz.prog _ _ _ _ _ _ _ _ _;obtain ⟨B,D,z,E,R,O,H,a0⟩:=s 9 29;have A:T.getD 30 undef=_:=s 10 30;obtain ⟨aa,cS,cT,a3⟩:=a0.put cg.o cs bC (U);refine ⟨undef,w'.setCell (zA f 3) (.slice (zO R 0) (k+1) O),Or.inr ⟨by go_simp,rfl⟩,fun _=>rfl,⟨rfl,B,D,z,E,R,O,aa⟩,a3,?_⟩;intro i A G Y W N
     match i with
     | 0=>exact N
     | 1=>exact N
     | 2=>exact N
     | 3=>exact N
     | 4=>exact N
     | 5=>exact N
     | 6=>exact N
     | 7=>exact absurd G (by decide)
     | 8=>exact absurd G (by decide)
     | 9=>exact absurd G (by decide)
     | 10=>exact N
     | 11=>exact absurd rfl A
     | n+12=>exact N
    exact trivial
   intro T w' a V y s bJ;obtain ⟨_,B,D,z,E,R,O,aa⟩:=bJ 11 (by kernel_rfl) (by kernel_rfl) (by kernel_rfl);rw [yb (tt 20 [false,false,false,false,false,false,false,false,false,false,false] 1) (by kernel_rfl) V @y];obtain ⟨us,aq⟩:∃ us:Nat->Value,(fun d=>T.getD d undef)=us:=⟨_,rfl⟩;rw [aq];have b7:=zh aa;have bZ:=zh a;clear aa y s V aq a bJ;simp only [xj,tt,List.replicate,List.cons_append,List.nil_append];go_wp2;go_roundg (bn-(k+1))
   case measure=>omega
   have aa:=b7.o;have cV:=bm.o;refine ⟨k+1,zO R 0,O,_,by go_num,by omega,by omega,⟨aa.box,aa.own,by simp;omega,fun i x=>⟨aa.offP i x,aa.offB i x⟩,by have:=aa.size;omega,bB⟩,MG bh.o (by have:=ar.o.len;omega) (by rw [ce.o];rfl),fun j cB bL=>?_,bi.o.trans bZ.o⟩;rw [aa.blk j (by omega) bL (fun e=>by have:=bo.o.row.lt j e.symm;omega)];exact aX.o j cB bL
  obtain rfl:k=bn:=by omega
  have aV:zj wr (S+1) (zI 0) (zI 0) zN zN:=(ax (S+1) (by omega) (by omega)).trans b9.o;obtain ⟨cX,cY,cZ,c0⟩:=aV.cells;have c4:∀ m,wr.frozen? (zA (S+1) m)=false:=fun m=>frozen_of_row wr (S+1) m _ _ aV;have b8:=zh aV;clear bf bN bO bP al ax aR a4 M aV;go_wp2_with fail
  obtain ⟨ag,aO⟩:=qB ((((wr.setCell ⟨S+1,0,none⟩ (zI c)).setCell ⟨S+1,1,none⟩ (zI n)).setCell ⟨S+1,2,none⟩ (.slice (some ⟨g,0,none⟩) r u)).setCell ⟨S+1,3,none⟩ (.slice J k Q));rw [<-aO];have ap:ag.heap[S+1]?=some (.cells (zS c n (zO g 0) r u J k Q) 40 (0,0))/\∀ j,j≠S+1->ag.heap[j]?=wr.heap[j]?:=by
   rw [aO];exact zk wr (S+1) 40 _ _ _ _ (zI c) (zI n) (.slice (zO g 0) r u) (.slice J k Q) b8.o
  have cy:Below w.heap.size w ag:=by
   rw [aO,aE.o];have A:S<=S+1:=(by omega);exact (((bi.o.setCell (p:=(zA (S+1) 0)) A _).setCell (p:=(zA (S+1) 1)) A _).setCell (p:=(zA (S+1) 2)) A _).setCell (p:=(zA (S+1) 3)) A _
  clear aO;have a8:=bp.o;have M:=b4.o;have ao:=b3.o;have cA:OwnQs ag w.heap.size (.slice (zO g 0) r u) t:=by
   have A:OwnQs ag F.heap.size (.slice (zO g 0) r u) t:=b6.o.keep (fun j e=>by
    have e:=xP.1 e;subst e;have:=bl.o;rw [ap.2 g (by omega),aX.o g aS this.2]) (fun i x C j q e=>by
    obtain ⟨ck,bt,bu⟩:=bj.o i (by omega) C j q e;rw [ap.2 j (by omega),aX.o j bt bu])
   exact A.base (by rw [aE.o];omega)
  have cz:OwnBks ag L (.slice J k Q) lb:=M.own.blocks (fun j e=>ap.2 j (by have:=M.own.row.lt j e;omega)) (fun i x C j q e=>ap.2 j (by have:=(M.offP i x).1 C j q e;omega)) (fun i x C j q e=>ap.2 j (by have:=(M.offP i x).2 C j q e;omega));refine bodyPost_ret (v:=.agg (zS c n (zO g 0) r u J k Q)) (results_cell_row Tryz.results23 _ _ (S+1) 40 (zS c n (zO g 0) r u J k Q) (0,0) _ rfl ap.1 Tryz.underlying40 rfl (by kernel_rfl)) rfl ?_;refine ⟨L,g,u,t,J,Q,lb,rfl,by have:=bl.o.1;omega,aS,cA,ao,bY.o,fun i x C j q e=>?_,cz,M.len,?_,fun i x=>⟨fun C j q e=>((M.offP i (by have:=M.len;omega)).1 C j q e).1,fun C j q e=>((M.offP i (by have:=M.len;omega)).2 C j q e).1⟩,cy⟩
  ·obtain ⟨ck,bt,bu⟩:=bj.o i x C j q e;omega
  rw [bh.o,ar.o.len,List.take_length]
end Go.Proofs.YtckpdfkobdgjeaaGreatDoor
