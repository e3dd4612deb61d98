/- Several texts in one: RefY, RefZ, RefZC. -/
import Derived.Test.YtckpdfkobdgjeaaGreatDoorJAll27
import Derived.Test.YtckpdfkobdgjeaaGreatDoorJAll2
namespace Go.Proofs.YtckpdfkobdgjeaaGreatDoor
set_option maxRecDepth 100000
set_option maxHeartbeats 8000000
open Go.RowKit
set_option linter.unusedSectionVars false
variable [Inhabited Mk]
def Xc (w w':World) (e:Ending) (c n:Int) (l:QL) (b:BL) (q:Int) (rs:zd):Prop:=∃ c' n' ta' tn' tc' ba' bn' bc' m1 m2 m3 d1 d2 d3,e=.returned (.tuple #[.agg (zS c' n' ta' tn' tc' ba' bn' bc'),.slice m1 m2 m3,.slice d1 d2 d3,zI (ZG c n l b q rs)])/\X9 w' w.heap.size (ZG c n l b q rs) ⟨c,n,zi (yP l q.toNat rs),(Sk c (zi (yP l q.toNat rs)) (zg b)).1⟩ c' n' ta' tn' tc' ba' bn' bc'/\Below w.heap.size w w'
theorem Xc.wrong {w w':World} {c n:Int} {l:QL} {b:BL} {q:Int} {rs:zd} {a:Int} (d:ZG c n l b q rs=a) (e:a≠0) (f:Below w.heap.size w w'):Xc w w' (.returned (.tuple #[.agg zZ,zN,zN,zI a])) c n l b q rs:=by
 refine ⟨_,_,_,_,_,_,_,_,_,_,_,_,_,_,by rw [d],Or.inl ⟨by rw [d];exact e,rfl,rfl,rfl,rfl,rfl,rfl,rfl,rfl⟩,f⟩
theorem JQ (w:World) (c n:Int) (s:Option Addr) (a t:Nat) (l:QL) (d:Option Addr) (g f:Nat) (b:BL) (h:zY w s a t l d g f b) (A:zU c n l b=0) (q:Int) (Y:Option Addr) (aa Z:Nat) (rs:zd) (r:¬(0<=q/\q<a)) :
 zC 65 #[.agg (zS c n s a t d g f),zI q,.slice Y aa Z] w fun e w'=>Xc w w' e c n l b q rs:=by
 have B:=yZ A;have W:=h.1.len;have ag:a<=5:=by have:=(yY B.clean.tree).five;omega
 obtain ⟨S,I⟩:=qA (w.heap.size);obtain ⟨y,j⟩:=qB ((w.alloc (.cells (zS c n s a t d g f) 40)).alloc (.cells zZ 40));obtain ⟨u,D,z,J⟩:=ZK w _ _ _ _ j;rw [I] at u D J;have Q:=zh (Zm y c n s a t l d g f b (h.later z) B);have G:ZG c n l b q rs=6:=by unfold ZG;rw [if_pos A,if_neg (by omega)]
 have ah:IntKind.i64.wrap ((a:Int)-1)=(a:Int)-1:=by rw [IntKind.wrap_i64];omega
 have H:yW q 0 ((a:Int)-1)=false:=by simp [yW];omega
 have E:=zh fun X=>zo q 0 ((a:Int)-1) X;rw [H] at E;obtain ⟨F,c1,c2,c3⟩:=u.cells;rw [j] at F c1 c2 c3;have R:=zh u;have U:=zh D;have L:=zh z;have P:=zh j;have O:=zh I;have N:=zh G;clear j u D z h J A B G H W r;go_enter Tryz.func65,Tryz.ntmps65;go_wp2_with fail
 rw [<-P.o];refine Q.o.mono ?_;rintro e C ⟨rfl,m⟩;have x:=zh (U.o.later m);have M:=zh (za L.o m);obtain ⟨ab,ad,ae,af⟩:=(R.o.later m).cells;obtain ⟨aj,ak,al,am⟩:=x.o.cells;have an:∀ k,C.frozen? (zA (S+1) k)=false:=fun k=>frozen_of_row C (S+1) k _ _ x.o;clear m F c1 c2 c3;go_wp2_with fail
 refine (E.o _).mono ?_;rintro e ai ⟨rfl,r⟩;rw [r];clear r;go_wp2_with fail
 have V:=zk C (S+1) 40 _ _ _ _ (zI 0) (zI 0) zN zN x.o;have i:w.heap.size<=S+1:=by have:=O.o;omega
 refine bodyPost_ret (v:=.tuple #[.agg zZ,zN,zN,zI 6]) (yF Tryz.results65 _ _ (S+1) 40 zZ (0,0) _ rfl V.1 Tryz.underlying40 rfl (by kernel_rfl)) rfl (Xc.wrong N.o (by decide) ?_);exact ((((M.o.setCell (p:=(zA (S+1) 0)) i _).setCell (p:=(zA (S+1) 1)) i _).setCell (p:=(zA (S+1) 2)) i _).setCell (p:=(zA (S+1) 3)) i _)
theorem JP (w:World) (c n:Int) (s:Option Addr) (a t:Nat) (l:QL) (f:Option Addr) (i g:Nat) (b:BL) (h:zY w s a t l f i g b) (C:zU c n l b=0) (d:Nat) (ao:d<a) (D:Option Addr) (F E:Nat) (rs:zd) (R:RunsIn w D F E rs) (B:yR rs=false) :
 zC 65 #[.agg (zS c n s a t f i g),zI d,.slice D F E] w fun e w'=>Xc w w' e c n l b (d:Int) rs:=by
 have r:=yZ C;have am:=h.1.len;have ap:a<=5:=by have:=(yY r.clean.tree).five;omega
 obtain ⟨S,P⟩:=qA (w.heap.size);obtain ⟨y,m⟩:=qB ((w.alloc (.cells (zS c n s a t f i g) 40)).alloc (.cells zZ 40));obtain ⟨u,H,z,U⟩:=ZK w _ _ _ _ m;rw [P] at u H U;have ad:=zh (Zm y c n s a t l f i g b (h.later z) r);have N:ZG c n l b (d:Int) rs=1:=by unfold ZG;rw [if_pos C,if_pos (by omega),Int.toNat_natCast,O7 r.clean.tree (by omega),B];rfl
 have aq:IntKind.i64.wrap ((a:Int)-1)=(a:Int)-1:=by rw [IntKind.wrap_i64];omega
 have O:yW (d:Int) 0 ((a:Int)-1)=true:=by simp [yW];omega
 have L:=zh fun X=>zo (d:Int) 0 ((a:Int)-1) X;rw [O] at L;have J:=zh fun X (ak:zL w X)=>Xx X D F E rs (R.later ak);rw [B] at J;obtain ⟨M,c1,c2,c3⟩:=u.cells;rw [m] at M c1 c2 c3;have ae:=zh u;have af:=zh H;have V:=zh z;have aa:=zh m;have Z:=zh P;have Y:=zh N;clear m u H z h U C r N O am R B;go_enter Tryz.func65,Tryz.ntmps65;go_wp2_with fail
 rw [<-aa.o];refine ad.o.mono ?_;rintro e an ⟨rfl,q⟩;have ab:=zh (af.o.later q);have I:=zh (za V.o q);obtain ⟨ag,ah,ai,aj⟩:=(ae.o.later q).cells;clear q M c1 c2 c3;go_wp2_with fail
 refine (L.o _).mono ?_;rintro e ar ⟨rfl,Q⟩;rw [Q];clear Q;go_wp2_with fail
 refine (J.o an I.o).mono ?_;rintro e G ⟨rfl,A⟩;have x:=zh (ab.o.later A);have W:=zh (za I.o A);obtain ⟨au,av,aw,ax⟩:=x.o.cells;have ay:∀ k,G.frozen? (zA (S+1) k)=false:=fun k=>frozen_of_row G (S+1) k _ _ x.o;clear A ag ah ai aj;go_wp2_with fail
 have al:=zk G (S+1) 40 _ _ _ _ (zI 0) (zI 0) zN zN x.o;have j:w.heap.size<=S+1:=by have:=Z.o;omega
 refine bodyPost_ret (v:=.tuple #[.agg zZ,zN,zN,zI 1]) (yF Tryz.results65 _ _ (S+1) 40 zZ (0,0) _ rfl al.1 Tryz.underlying40 rfl (by kernel_rfl)) rfl (Xc.wrong Y.o (by decide) ?_);exact ((((W.o.setCell (p:=(zA (S+1) 0)) j _).setCell (p:=(zA (S+1) 1)) j _).setCell (p:=(zA (S+1) 2)) j _).setCell (p:=(zA (S+1) 3)) j _)
theorem O9 {l:QL} {b:BL} (h:Clean (zi l) (zg b)):Clean l b:=by
 refine ⟨by rw [<-xi];exact h.tree,by have:=h.few;rw [zF] at this;exact this,fun i a=>?_⟩;have:=h.each i (by rw [zF];exact a);rw [xp,Y7] at this;exact this
structure CI (w wr:World) (S M P:Nat) (c n:Int) (tn:Nat) (Lq:QL) (g k1:Nat) (l':QL) (aa:Option Addr) (m k3:Nat) (lb:BL):Prop where
 box:zj wr P (zI c) (zI n) (.slice (zO g 0) tn k1) (.slice aa m k3)
 res:zj wr (S+1) (zI 0) (zI 0) zN zN
 st:zY wr (zO g 0) tn k1 l' aa m k3 lb
 blk:BlkSt (fun k=>M<=k/\k≠P) (zO g 0) tn l' aa m lb
 says:zi l'=Lq
 below:Below S w wr
 ord:S+2<=M/\M<=P
theorem CI.size {w wr:World} {S M P:Nat} {c n:Int} {i:Nat} {a:QL} {g d:Nat} {f:QL} {b:Option Addr} {m e:Nat} {lb:BL} (h:CI w wr S M P c n i a g d f b m e lb):P<wr.heap.size:=(Array.getElem?_eq_some_iff.1 h.box).1
theorem CI.later {w wr k:World} {S M P:Nat} {c n:Int} {j:Nat} {b:QL} {g e:Nat} {i:QL} {d:Option Addr} {m f:Nat} {lb:BL} (h:CI w wr S M P c n j b g e i d m f lb) (a:Below wr.heap.size wr k):CI w k S M P c n j b g e i d m f lb :=
 ⟨h.box.later a,h.res.later a,h.st.later a,h.blk,h.says,h.below.trans (a.mono (by have:=h.size;have:=h.ord;omega)),h.ord⟩
theorem CI.store {w wr:World} {S M P:Nat} {c n:Int} {a:Nat} {o:QL} {g A:Nat} {C:QL} {u:Option Addr} {m B:Nat} {lb:BL} (h:CI w wr S M P c n a o g A C u m B lb)
 {d f:Nat} {l:QL} {b:Option Addr} {e i:Nat} {r:BL} (y:zY wr (zO d 0) a f l b e i r) (s:NewSt (P+1) (zO d 0) a l b e r) (z:zi l=o) :
 CI w ((((wr.setCell (zA P 0) (zI c)).setCell (zA P 1) (zI n)).setCell (zA P 2) (.slice (zO d 0) a f)).setCell (zA P 3) (.slice b e i)) S M P c n a o d f l b e i r/\∀ k,k≠P->((((wr.setCell (zA P 0) (zI c)).setCell (zA P 1) (zI n)).setCell (zA P 2) (.slice (zO d 0) a f)).setCell (zA P 3) (.slice b e i)).heap[k]?=wr.heap[k]?:=by
 have j:=zk wr P 40 _ _ _ _ (zI c) (zI n) (.slice (zO d 0) a f) (.slice b e i) h.box;obtain ⟨q,t⟩:=qB ((((wr.setCell ⟨P,0,none⟩ (zI c)).setCell ⟨P,1,none⟩ (zI n)).setCell ⟨P,2,none⟩ (.slice (some ⟨d,0,none⟩) a f)).setCell ⟨P,3,none⟩ (.slice b e i));have D:=h.ord;have v:Below S w q:=by rw [t];exact (((h.below.setCell (p:=(zA P 0)) (by show S<=P;omega) _).setCell (p:=(zA P 1)) (by show S<=P;omega) _).setCell (p:=(zA P 2)) (by show S<=P;omega) _).setCell (p:=(zA P 3)) (by show S<=P;omega) _
 rw [<-t] at j ⊢;exact ⟨⟨j.1,(j.2 (S+1) (by omega)).trans h.res,y.keep s (fun k x=>j.2 k (by omega)),s.blk (fun k x=>⟨by omega,by omega⟩),z,v,h.ord⟩,j.2⟩
structure AI (wr:World) (M P:Nat) (xa:Option Addr) (xm xk:Nat) (aw:BL):Prop where
 inn:BksIn wr xa xm xk aw
 row:0<xm->∀ g off,xa=zO g off->M<=g/\g≠P
 ps:∀ i,i<xm->0<(bk aw i).rq.pn->∀ g off,(bk aw i).rq.pa=zO g off->M<=g/\g≠P
 bs:∀ i,i<xm->0<(bk aw i).bn->∀ g off,(bk aw i).ba=zO g off->M<=g/\g≠P
theorem AI.later {wr b:World} {M P:Nat} {c:Option Addr} {e d:Nat} {a:BL} (h:AI wr M P c e d a) (f:Below wr.heap.size wr b):AI b M P c e d a:=⟨h.inn.later f,h.row,h.ps,h.bs⟩
theorem AI.keep {wr j:World} {M P:Nat} {l:Option Addr} {n m:Nat} {f:BL} (h:AI wr M P l n m f) (d:∀ k,k≠P->j.heap[k]?=wr.heap[k]?):AI j M P l n m f :=
 ⟨h.inn.keep (fun a g b e=>d g (h.row a g b e).2) (fun i c a g b e=>d g (h.ps i c a g b e).2) (fun i c a g b e=>d g (h.bs i c a g b e).2),h.row,h.ps,h.bs⟩
theorem AI.none (wr:World) (M P:Nat):AI wr M P none 0 0 []:=⟨Wl wr,fun h=>absurd h (Nat.lt_irrefl _),fun _ h=>absurd h (Nat.not_lt_zero _),fun _ h=>absurd h (Nat.not_lt_zero _)⟩
theorem II {c:Int} {l a:QL} {h b g:BL} {C:Nat} (s:c=C) {t q:Int} (u:Lit c (zi l) h (zg b) g) (d:zi a=zi l) (f:Clean a b) (j:Vu C a b t q true):∃ T k:Nat,t=T/\q=k/\T<48/\k<a.length/\0<b.length/\wC a b T k b.length<b.length/\Lit c (zi l) h (zg (wU b (wC a b T k b.length))) (Zj g (bk b (wC a b T k b.length)).bare):=by
 have m:=RP f j;rcases j with ⟨p,_⟩ | ⟨_,T,k,rfl,rfl,y,i,e,r,_⟩
 ·cases p
 have v:a.length=(zi l).length:=by rw [<-d,yv]
 rw [d,<-s,v] at m;have x:yw a b (T:Int) k=true:=by rw [NI f e i];exact r
 have n:=XX f e (t:=(T:Int)) (by omega) (by omega) x;have w:=WT a b T k b.length n;have o:=Lit.step u m;rw [zF,<-d,VZ,xp,d] at o;refine ⟨T,k,rfl,rfl,i,e,n,w,?_⟩;rw [Xn];exact o
theorem P6 (w:World) (X:Bk) (h:zH w X.rq) (f:RunsIn w X.ba X.bn X.bc X.bs):OwnBks (w.alloc (.cells #[zI X.id,zI X.rq.queue,zI X.rq.fr,zI X.rq.un,zI X.rq.kind,.slice X.rq.pa X.rq.pn X.rq.pc,.slice X.ba X.bn X.bc] 60)) w.heap.size (.slice (zO w.heap.size 0) 1 1) [X]:=by
 have d:zL w (w.alloc (.cells (zB X) 60)):=zr _ _;have c:∀ i,i < [X].length->bk [X] i=X:=fun i a=>by
  obtain rfl:i=0:=by simp at a;omega
  rfl
 refine ⟨⟨by simp [ze,zx],Or.inr ⟨w.heap.size,1,_,rfl,Nat.le_refl _,heap_alloc_new w _,Nat.le_refl _,by simp [maxLen],rfl,?_⟩⟩,fun i a=>?_,fun i a=>?_,fun i a b g j e=>?_,fun i a b g j e=>?_⟩
 ·simp [ze,zx]
 ·rw [c i a];exact zH.later h d
 ·rw [c i a];exact f.later d
 ·rw [c i a] at b e;have:=RunsIn.lt h b e;exact xc.2 (by omega)
 rw [c i a] at b e;have:=f.lt b e;exact xc.2 (by omega)
theorem BlkSt.imp {f B:Nat->Prop} {n:Option Addr} {p:Nat} {l:QL} {j:Option Addr} {m:Nat} {b:BL} (h:BlkSt f n p l j m b) (d:∀ k,f k->B k):BlkSt B n p l j m b :=
 ⟨fun a g o e=>d _ (h.qs a g o e),fun i a c g o e=>d _ (h.caps i a c g o e),fun a g o e=>d _ (h.bks a g o e),fun i a c g o e=>d _ (h.ps i a c g o e),fun i a c g o e=>d _ (h.bs i a c g o e)⟩
theorem BlkSt.and {p B:Nat->Prop} {m:Option Addr} {n:Nat} {l:QL} {f:Option Addr} {j:Nat} {b:BL} (h:BlkSt p m n l f j b) (d:BlkSt B m n l f j b):BlkSt (fun k=>p k/\B k) m n l f j b :=
 ⟨fun a g o e=>⟨h.qs a g o e,d.qs a g o e⟩,fun i a c g o e=>⟨h.caps i a c g o e,d.caps i a c g o e⟩,fun a g o e=>⟨h.bks a g o e,d.bks a g o e⟩,fun i a c g o e=>⟨h.ps i a c g o e,d.ps i a c g o e⟩,fun i a c g o e=>⟨h.bs i a c g o e,d.bs i a c g o e⟩⟩
theorem BksIn.rowLt {w:World} {a:Option Addr} {n d:Nat} {l:BL} (h:BksIn w a n d l) (c:0<n) {g i:Nat} (e:a=zO g i):g<w.heap.size:=by
 obtain ⟨j,k,b,f⟩:=h.cells c;rw [e] at b;cases b
 exact block_lt_of_cell (f 0 c).1
theorem QsIn.rowLt {w:World} {a:Option Addr} {n d:Nat} {l:QL} (h:QsIn w a n d l) (c:0<n) {g i:Nat} (e:a=zO g i):g<w.heap.size:=by
 obtain ⟨j,k,b,f⟩:=h.cells c;rw [e] at b;cases b
 exact block_lt_of_cell (f 0 c).1
theorem zY.blkLt {w:World} {g:Option Addr} {j n:Nat} {l:QL} {d:Option Addr} {f m:Nat} {b:BL} (h:zY w g j n l d f m b):BlkSt (fun k=>k<w.heap.size) g j l d f b :=
 ⟨fun a _ _ e=>h.1.rowLt a e,fun i a c _ _ e=>(h.1.caps i a).lt c e,fun a _ _ e=>h.2.rowLt a e,fun i a c _ _ e=>RunsIn.lt (h.2.rqs i a) c e,fun i a c _ _ e=>(h.2.bites i a).lt c e⟩
theorem Ou (b:BL):Up (zg b)↔Up b:=by
 unfold Up zg;rw [List.pairwise_map];rfl
theorem PX {a:BL} {i j:Nat} {X:Bk} (b:j<(yL a i X).length):bk (yL a i X) j=X\/∃ k,k<a.length/\bk (yL a i X) j=bk a k:=by
 rcases Nq (yx b) with h | h
 ·exact Or.inl h
 obtain ⟨k,c,e⟩:=yT h;exact Or.inr ⟨k,c,e.symm⟩
theorem Gi {c:Int} {b:QL} {B0 d a:BL} (k:Lit c b B0 d (zg a)) (l:Clean b B0) (e:0<=c) (n:Up B0) {i:Nat} (m:i<=a.length) {X:Bk} (f:∀ j,j<i->(bk a j).id<X.id) (g:i=a.length\/¬(bk a i).id<X.id):zg (yL a i X)=Zj (zg a) X.bare:=by
 have h:=(Ou a).1 (k.all l e n).2;rw [<-Oc h m f g,VE]
theorem Fe {u m:World} {M P n:Nat} {v:Option Addr} {x w:Nat} {a:BL} (h:AI u M P v x w a) {X:Bk} (p:0<X.rq.pn->∀ g c,X.rq.pa=zO g c->M<=g/\g≠P) (q:0<X.bn->∀ g c,X.ba=zO g c->M<=g/\g≠P) {i b d l:Nat} (r:OwnBks m n (.slice (zO b 0) d l) (yL a i X)) (hg:M<=b/\b≠P):AI m M P (zO b 0) d l (yL a i X):=by
 have f:=ym r;have z:=f.len;have y:=h.inn.len;refine ⟨f,fun _ g c e=>?_,fun j s=>?_,fun j s=>?_⟩
 ·injection e with e;injection e with o;subst o;exact hg
 ·rcases PX (show j<(yL a i X).length by omega) with e | ⟨k,t,e⟩
  ·rw [e];exact p
  rw [e];exact h.ps k (by omega)
 rcases PX (show j<(yL a i X).length by omega) with e | ⟨k,t,e⟩
 ·rw [e];exact q
 rw [e];exact h.bs k (by omega)
structure DI (w wr:World) (S M P:Nat) (c n:Int) (tn:Nat) (Lq:QL) (g k1:Nat) (l':QL) (aa:Option Addr) (m k3:Nat) (lb:BL) (xa:Option Addr) (xm xk:Nat) (aw:BL) (vm vd:Value) (mv dr:List Int):Prop where
 ci:CI w wr S M P c n tn Lq g k1 l' aa m k3 lb
 ai:AI wr M P xa xm xk aw
 mrow:zG wr M vm mv
 drow:zG wr M vd dr
 mdne:∀ k,vm.ownBlock=some k->vd.ownBlock≠some k
 far:BlkSt (fun k=>vm.ownBlock≠some k/\vd.ownBlock≠some k) (zO g 0) tn l' aa m lb
 farR:0<xm->∀ g off,xa=zO g off->vm.ownBlock≠some g/\vd.ownBlock≠some g
 farP:∀ i,i<xm->0<(bk aw i).rq.pn->∀ g off,(bk aw i).rq.pa=zO g off->vm.ownBlock≠some g/\vd.ownBlock≠some g
 farB:∀ i,i<xm->0<(bk aw i).bn->∀ g off,(bk aw i).ba=zO g off->vm.ownBlock≠some g/\vd.ownBlock≠some g
section
variable {w wr wx:World} {S M P:Nat} {c n:Int} {tn:Nat} {Lq:QL} {g k1:Nat} {l':QL} {aa:Option Addr} {m k3:Nat} {lb:BL} {xa:Option Addr} {xm xk:Nat} {aw:BL} {vm vd:Value} {mv dr:List Int}
theorem DI.start (h:CI w wr S M P c n tn Lq g k1 l' aa m k3 lb) (a:AI wr M P xa xm xk aw):DI w wr S M P c n tn Lq g k1 l' aa m k3 lb xa xm xk aw zN zN [] []:=by
 have hn:∀ k:Nat,(Value.slice none 0 0).ownBlock≠some k:=fun k e=>by cases e
 exact ⟨h,a,World.ownsRow_nil _ _ _ _,World.ownsRow_nil _ _ _ _,(fun k e=>by cases e),h.blk.imp fun k _=>⟨hn k,hn k⟩,fun _ _ _ _=>⟨hn _,hn _⟩,fun _ _ _ _ _ _=>⟨hn _,hn _⟩,fun _ _ _ _ _ _=>⟨hn _,hn _⟩⟩
theorem DI.later (h:DI w wr S M P c n tn Lq g k1 l' aa m k3 lb xa xm xk aw vm vd mv dr) (a:Below wr.heap.size wr wx):DI w wx S M P c n tn Lq g k1 l' aa m k3 lb xa xm xk aw vm vd mv dr :=
 ⟨h.ci.later a,h.ai.later a,zy h.mrow a,zy h.drow a,h.mdne,h.far,h.farR,h.farP,h.farB⟩
theorem DI.swap (h:DI w wr S M P c n tn Lq g k1 l' aa m k3 lb xa xm xk aw vm vd mv dr):DI w wr S M P c n tn Lq g k1 l' aa m k3 lb xa xm xk aw vd vm dr mv :=
 ⟨h.ci,h.ai,h.drow,h.mrow,fun k e d=>h.mdne k d e,h.far.imp fun _ h=>⟨h.2,h.1⟩,fun a g o e=>(h.farR a g o e).symm,fun i a b g o e=>(h.farP i a b g o e).symm,fun i a b g o e=>(h.farB i a b g o e).symm⟩
theorem DI.more (h:DI w wr S M P c n tn Lq g k1 l' aa m k3 lb xa xm xk aw vm vd mv dr) {j u t:Nat} {x:Int} (D:zG wx M (.slice (zO j 0) u t) (mv++[x])) (f:wr.grownBy wx vm.ownBlock) (y:vm.ownBlock=some j\/wr.heap.size<=j) :
 DI w wx S M P c n tn Lq g k1 l' aa m k3 lb xa xm xk aw (.slice (zO j 0) u t) vd (mv++[x]) dr:=by
 have F:=h.ci.size;have E:=h.ci.ord;have l:∀ k,k<wr.heap.size->vm.ownBlock≠some k->wx.heap[k]?=wr.heap[k]?:=fun k l s=>f.block k l (fun e=>s e.symm);have r:∀ k,k<wr.heap.size->vm.ownBlock≠some k->(Value.slice (zO j 0) u t).ownBlock≠some k:=fun k l s=>xc.2 fun e=>by
  subst e;rcases y with q | q
  ·exact s q
  omega
 have z:=h.ci.st.blkLt.and h.far;have o:=h.ai.inn;have B:Below S wr wx:=⟨f.os,f.tape,f.output,f.size,fun k l=>f.block k (by omega) (fun e=>by have:=(h.mrow.lt k e.symm).1;omega)⟩;refine ⟨⟨(f.block P F (yc h.ci.box h.mrow (by decide))).trans h.ci.box,(f.block (S+1) (by omega) (yc h.ci.res h.mrow (by decide))).trans h.ci.res,h.ci.st.stand z (fun k p=>l k p.1 p.2.1),h.ci.blk,h.ci.says,h.ci.below.trans B,E⟩,⟨o.keep (fun a g b e=>l g (o.rowLt a e) (h.farR a g b e).1) (fun i d a g b e=>l g (RunsIn.lt (o.rqs i d) a e) (h.farP i d a g b e).1) (fun i d a g b e=>l g ((o.bites i d).lt a e) (h.farB i d a g b e).1),h.ai.row,h.ai.ps,h.ai.bs⟩,D,?_,?_,z.imp (fun k p=>⟨r k p.1 p.2.1,p.2.2⟩),fun a g b e=>⟨r g (o.rowLt a e) (h.farR a g b e).1,(h.farR a g b e).2⟩,fun i d a g b e=>⟨r g (RunsIn.lt (o.rqs i d) a e) (h.farP i d a g b e).1,(h.farP i d a g b e).2⟩,fun i d a g b e=>⟨r g ((o.bites i d).lt a e) (h.farB i d a g b e).1,(h.farB i d a g b e).2⟩⟩
 ·refine h.drow.keep f ?_;cases C:vd.ownBlock with
  | none=>exact Or.inl rfl
  | some gd=>exact Or.inr fun e=>h.mdne gd e.symm C
 ·intro k e v;have A:j=k:=xP.1 e;subst A;rcases y with q | q
  ·exact h.mdne j q v
  have:=(h.drow.lt j v).2;omega
theorem DI.books (h:DI w wr S M P c n tn Lq g k1 l' aa m k3 lb xa xm xk aw vm vd mv dr) {f l s:Nat} {q:BL} (B:BksIn wr (zO f 0) l s q)
 (x:(M<=f/\f≠P)/\vm.ownBlock≠some f/\vd.ownBlock≠some f)
 (v:∀ i,i<l->0<(bk q i).rq.pn->∀ g a,(bk q i).rq.pa=zO g a->(M<=g/\g≠P)/\vm.ownBlock≠some g/\vd.ownBlock≠some g)
 (u:∀ i,i<l->0<(bk q i).bn->∀ g a,(bk q i).ba=zO g a->(M<=g/\g≠P)/\vm.ownBlock≠some g/\vd.ownBlock≠some g) :
 DI w (wr.setCell (zA P 3) (.slice (zO f 0) l s)) S M P c n tn Lq g k1 l' (zO f 0) l s q xa xm xk aw vm vd mv dr:=by
 have G:=h.ci.ord;have H:=h.ci.size;obtain ⟨o,r⟩:=qB (wr.setCell ⟨P,3,none⟩ (.slice (some ⟨f,0,none⟩) l s));have j:∀ k,k≠P->o.heap[k]?=wr.heap[k]?:=fun k j=>by rw [r];exact heap_setCell_other wr (zA P 3) k _ j
 have z:wr.grownBy o (some P):=by rw [r];exact ⟨rfl,rfl,rfl,by simp [World.setCell],fun k _ F=>Below.heap_setCell _ _ _ k (fun e=>F (by rw [e]))⟩
 have D:Below S w o:=by rw [r];exact h.ci.below.setCell (p:=(zA P 3)) (by show S<=P;omega) _
 have E:zj o P (zI c) (zI n) (.slice (zO g 0) tn k1) (.slice (zO f 0) l s):=by rw [r];exact h.ci.box.set3 _
 have y:∀ (t:Nat->Prop),t f->(0<l->∀ g a,(zO f 0:Option Addr)=zO g a->t g):=fun t C _ g a e=>by
  injection e with e;injection e with A;subst A;exact C
 rw [<-r];refine ⟨⟨E,(j (S+1) (by omega)).trans h.ci.res,⟨h.ci.st.1.keep (fun b g a e=>j g (h.ci.blk.qs b g a e).2) (fun i d b g a e=>j g (h.ci.blk.caps i d b g a e).2),B.keep (y (fun g=>o.heap[g]?=wr.heap[g]?) (j f x.1.2)) (fun i d b g a e=>j g (v i d b g a e).1.2) (fun i d b g a e=>j g (u i d b g a e).1.2)⟩,⟨h.ci.blk.qs,h.ci.blk.caps,y _ x.1,fun i d b g a e=>(v i d b g a e).1,fun i d b g a e=>(u i d b g a e).1⟩,h.ci.says,D,G⟩,h.ai.keep j,h.mrow.keep z (Or.inr fun e=>yc h.ci.box h.mrow (by decide) e.symm),h.drow.keep z (Or.inr fun e=>yc h.ci.box h.drow (by decide) e.symm),h.mdne,⟨h.far.qs,h.far.caps,y _ x.2,fun i d b g a e=>(v i d b g a e).2,fun i d b g a e=>(u i d b g a e).2⟩,h.farR,h.farP,h.farB⟩
theorem DI.ins (h:DI w wr S M P c n tn Lq g k1 l' aa m k3 lb xa xm xk aw vm vd mv dr) {j:Nat} (p:j<xm) {X':Bk} (t:X'.rq=(bk aw j).rq) (u:0<X'.bn->∀ g a,X'.ba=zO g a->(M<=g/\g≠P)/\vm.ownBlock≠some g/\vd.ownBlock≠some g) {i d o l r:Nat} (s:OwnBks wr r (.slice (zO d 0) o l) (yL lb i X')) (y:(M<=d/\d≠P)/\vm.ownBlock≠some d/\vd.ownBlock≠some d) :
 DI w (wr.setCell (zA P 3) (.slice (zO d 0) o l)) S M P c n tn Lq g k1 l' (zO d 0) o l (yL lb i X') xa xm xk aw vm vd mv dr:=by
 have f:=ym s;have z:=h.ci.st.2.len;refine h.books f y (fun q x=>?_) (fun q x=>?_)
 ·rcases PX (show q<(yL lb i X').length by have:=f.len;omega) with e | ⟨k,v,e⟩
  ·rw [e,t];exact fun b g a e=>⟨h.ai.ps j p b g a e,h.farP j p b g a e⟩
  rw [e];exact fun b g a e=>⟨h.ci.blk.ps k (by omega) b g a e,h.far.ps k (by omega) b g a e⟩
 ·rcases PX (show q<(yL lb i X').length by have:=f.len;omega) with e | ⟨k,v,e⟩
  ·rw [e];exact u
  rw [e];exact fun b g a e=>⟨h.ci.blk.bs k (by omega) b g a e,h.far.bs k (by omega) b g a e⟩
end
theorem Gx (w:World) (B:Nat):OwnBks w B zN []:=⟨World.ownsRow_nil _ _ _ _,fun _ a=>absurd a (Nat.not_lt_zero _),fun _ a=>absurd a (Nat.not_lt_zero _),fun _ a=>absurd a (Nat.not_lt_zero _),fun _ a=>absurd a (Nat.not_lt_zero _)⟩
theorem RE (w:World) (a:Option Addr) {k:Nat} (c:k<=9223372036854775807):BksIn w a 0 k []:=⟨rfl,Nat.zero_le _,c,fun h=>absurd h (Nat.lt_irrefl _),fun _ b=>absurd b (Nat.not_lt_zero _),fun _ b=>absurd b (Nat.not_lt_zero _),fun h=>absurd h (Nat.lt_irrefl _)⟩
theorem Jz {c:Int} {l b:QL} {b1 a lb:BL} {j:Nat} {mv dr:List Int} (d:Stl c (zi l) b1 (zg a) j (zg lb) mv dr) (g:zi b=zi l) (f:j<a.length) (i:(y9 c b lb (bk a j)).2=true) (fa:Option Addr) (fm fc:Nat) :
 Stl c (zi l) b1 (zg a) (j+1) (zg (Zj lb ⟨(bk a j).id,(bk a j).rq,fa,fm,fc,(y9 c b lb (bk a j)).1⟩)) (mv++[(bk a j).id]) dr:=by
 have e:y9 c (zi l) (zg lb) (bk (zg a) j)=y9 c b lb (bk a j):=by rw [xp,<-g,Ws]
 have h:=Stl.moved (fa:=none) (fm:=0) (fc:=0) d (by rw [zF];exact f) (by rw [e];exact i);rw [e,xp] at h;rw [VE];exact h
theorem Vo {c:Int} {l b:QL} {b1 a lb:BL} {j:Nat} {mv dr:List Int} (d:Stl c (zi l) b1 (zg a) j (zg lb) mv dr) (g:zi b=zi l) (f:j<a.length) (i:(y9 c b lb (bk a j)).2=false) :
 Stl c (zi l) b1 (zg a) (j+1) (zg lb) mv (dr++[(bk a j).id]):=by
 have e:y9 c (zi l) (zg lb) (bk (zg a) j)=y9 c b lb (bk a j):=by rw [xp,<-g,Ws]
 have h:=Stl.dropped d (by rw [zF];exact f) (by rw [e];exact i);rw [xp] at h;exact h
theorem JA {c n:Int} {v l:QL} {b b1 f k:BL} {j:Nat} {mv dr:List Int} (a:Sound c n v b) (d:Clean l b) (g:Lit c l b b1 f) (s:∀ u,c<=u->u<48->∀ q,q<l.length->yw l b1 u q=false) (t:Stl c l b1 f j k mv dr):Sound c n l k:=by
 obtain ⟨i,o,y⟩:=X8 a;obtain ⟨w,D⟩:=g.all d a.c0 i;obtain ⟨A,B,m,C⟩:=g.clean d a.c0;have p:(b1.map Bk.id++f.map Bk.id).Nodup:=by
  rw [<-List.map_append];exact (w.map Bk.id).nodup_iff.2 i.nodup
 have z:=d.few;exact (t.facts (n:=n) (g.sound d a.c0 a.c48 a.n0 a.n1 i o y s) (fun x h=>by
  obtain ⟨j,r,e⟩:=yT (m x h);rw [<-e];exact d.each j r) (fun x h=>o x (m x h)) p (by omega)).sound
theorem Gv {c:Int} {l a:QL} {b:BL} {C:Nat} (k:c=C) {t q:Int} (e:zi a=zi l) (n:Clean a b) (m:Vu C a b t q false):∀ u,c<=u->u<48->∀ q,q<(zi l).length->yw (zi l) (zg b) u q=false:=by
 have d:=RP n m;rw [e,<-k] at d;rcases d with ⟨_,_,_,j⟩ | ⟨i,_⟩
 ·intro u g h q f;exact j u g h q (by rw [<-e,yv] at f;exact f)
 cases i
end Go.Proofs.YtckpdfkobdgjeaaGreatDoor
