/- Several texts in one: OwnA, OwnB. -/
import Derived.Deep.LoopGhost
import Derived.Lib.AppendZeros
import Derived.Test.YtckpdfkobdgjeaaGreatDoorHAll4
namespace Go.Proofs.YtckpdfkobdgjeaaGreatDoor
set_option maxRecDepth 100000
set_option maxHeartbeats 4000000
open Go.RowKit
def Qh (w:World) (b:Nat) (t:TypeId):Prop:=∃ cs fr,w.heap[b]?=some (.cells cs t fr)
theorem Qh.later {w w':World} {b:Nat} {t:TypeId} (h:Qh w b t) (a:Below w.heap.size w w'):Qh w' b t:=by
 obtain ⟨cs,fr,h⟩:=h;exact ⟨cs,fr,(a.block b (Array.getElem?_eq_some_iff.1 h).1).trans h⟩
theorem Qh.away {w w':World} {b:Nat} {t:TypeId} (h:Qh w b t) (a:w'.heap[b]?=w.heap[b]?):Qh w' b t:=by
 obtain ⟨cs,fr,h⟩:=h;exact ⟨cs,fr,a.trans h⟩
theorem Qh.lt {w:World} {b:Nat} {t:TypeId} (h:Qh w b t):b<w.heap.size:=by
 obtain ⟨cs,fr,h⟩:=h;exact (Array.getElem?_eq_some_iff.1 h).1
theorem U7 (t e:TypeId) (b:TypeInfo) (z:Value) (E:Tryz.prog.underlying t=some (.slice e)) (q:Tryz.prog.info? e=some b) (s:b.zero=some z) (u:b.size=2) (x:b.bytes=16)
 (w:World) (a:Addr) (n c:Nat) (l:zd) (h:RunsIn w (some a) n c l) (G:0<n) (hn:n<=1000) :
 ∃ g k w',(∀ (m:Addr) (o:TypeId),(Builtin.append_ #[t,t] o #[.slice (some m) 0 0,.slice (some a) n c]).run Tryz.prog w=.ok (.slice (zO g 0) n k) w')/\RunsIn w' (zO g 0) n k l/\w.heap.size<=g/\Below w.heap.size w w'/\Qh w' g e:=by
 have C:(cellsOf l).length=n*2:=by rw [xL,h.len]
 have y:Builtin.nextslicecap (0+n) 0*16<=281474976710656:=by
  have:Builtin.nextslicecap (0+n) 0=n:=by
   unfold Builtin.nextslicecap;simp;omega
  omega
 have hg:=fun (m:Addr) (o:TypeId)=>run_append_grow (P:=Tryz.prog) w t o e b z E q s m 0 0 [] (by simp) (fun j v F=>by simp at F) a n c (cellsOf l) (by rw [C,u]) (fun j d f=>h.list j d f) (by omega) (by omega) (by rw [x];exact y);simp only [Nat.zero_add] at hg;refine ⟨_,_,_,hg,?_,Nat.le_refl _,(_root_.Go.below_drewN (Below.refl w.heap.size w) 1).alloc (Nat.le_refl _) _,⟨_,_,heap_alloc_new w.drew _⟩⟩;have A:=grownCap_ge w n 0 e;have p:=grownCap_le_maxLen w n 0 e (by simp only [maxLen];omega);simp only [maxLen] at p;refine ⟨h.len,A,h.bound,p,fun _=>⟨w.heap.size,0,rfl,fun i q=>?_⟩⟩;have D:(w.drew.alloc (.cells ([].toArray++(cellsOf l).toArray++Builtin.zeroCells z.cells (grownCap w n 0 e-n)) e)).heap[w.heap.size]?=some (.cells ([].toArray++(cellsOf l).toArray++Builtin.zeroCells z.cells (grownCap w n 0 e-n)) e (0,0)):=heap_alloc_new w.drew _;have key:∀ j d,(cellsOf l)[j]?=some d->(w.drew.alloc (.cells ([].toArray++(cellsOf l).toArray++Builtin.zeroCells z.cells (grownCap w n 0 e-n)) e)).cell? (zA w.heap.size j)=some d:=fun j d f=>by
  rw [cell_of_row _ w.heap.size j _ _ _ D];have B:j<(cellsOf l).length:=(List.getElem?_eq_some_iff.1 f).1;rw [Array.getElem?_append_left (by simpa using B)];simpa using f
 have r:i<l.length:=by have:=h.len;omega
 exact ⟨by rw [Nat.zero_add];exact key _ _ (xr l i r),by rw [Nat.zero_add];exact key _ _ (xJ l i r)⟩
theorem O0 (w:World) (a:Addr) (n c:Nat) (l:zd) (h:RunsIn w (some a) n c l) (f:0<n) (hn:n<=1000) :
 ∃ g k w',(∀ (b:Addr) (m:TypeId),(Builtin.append_ #[25,25] m #[.slice (some b) 0 0,.slice (some a) n c]).run Tryz.prog w=.ok (.slice (zO g 0) n k) w')/\RunsIn w' (zO g 0) n k l/\w.heap.size<=g/\Below w.heap.size w w'/\Qh w' g 55:=by
 obtain ⟨j,d,e⟩:=Option.map_eq_some_iff.1 (show (Tryz.prog.info? 55).map (fun i=>(i.zero,i.size,i.bytes))=some (some (.agg #[zI 0,zI 0]),2,16) from by kernel_rfl);simp only [Prod.mk.injEq] at e;exact U7 _ _ j _ Tryz.underlying25 d e.1 e.2.1 e.2.2 w a n c l h f hn
theorem MC (w:World) (a:Addr) (n c:Nat) (l:zd) (h:RunsIn w (some a) n c l) (f:0<n) (hn:n<=1000) :
 ∃ g k w',(∀ (b:Addr) (m:TypeId),(Builtin.append_ #[22,22] m #[.slice (some b) 0 0,.slice (some a) n c]).run Tryz.prog w=.ok (.slice (zO g 0) n k) w')/\RunsIn w' (zO g 0) n k l/\w.heap.size<=g/\Below w.heap.size w w'/\Qh w' g 64:=by
 obtain ⟨j,d,e⟩:=Option.map_eq_some_iff.1 (show (Tryz.prog.info? 64).map (fun i=>(i.zero,i.size,i.bytes))=some (some (.agg #[zI 0,zI 0]),2,16) from by kernel_rfl);simp only [Prod.mk.injEq] at e;exact U7 _ _ j _ Tryz.underlying22 d e.1 e.2.1 e.2.2 w a n c l h f hn
theorem Kj (w:World) (a:Addr) (n c:Nat) (l:zd) (h:RunsIn w (some a) n c l) (f:0<n) (hn:n<=1000) :
 ∃ g k w',(∀ (b:Addr) (m:TypeId),(Builtin.append_ #[58,58] m #[.slice (some b) 0 0,.slice (some a) n c]).run Tryz.prog w=.ok (.slice (zO g 0) n k) w')/\RunsIn w' (zO g 0) n k l/\w.heap.size<=g/\Below w.heap.size w w'/\Qh w' g 62:=by
 obtain ⟨j,d,e⟩:=Option.map_eq_some_iff.1 (show (Tryz.prog.info? 62).map (fun i=>(i.zero,i.size,i.bytes))=some (some (.agg #[zI 0,zI 0]),2,16) from by kernel_rfl);simp only [Prod.mk.injEq] at e;exact U7 _ _ j _ Tryz.underlying58 d e.1 e.2.1 e.2.2 w a n c l h f hn
theorem TZ:∀ a b:QL,yE (a++b)=yE a++yE b
 | [],_=>rfl
 | x::a,b=>by
  show wH x++yE (a++b)=wH x++yE a++yE b;rw [TZ a b,List.append_assoc]
theorem Od {a b:QL} {i:Nat} (h:i<a.length):qu (a++b) i=qu a i:=by
 unfold qu;rw [List.getD_eq_getElem?_getD,List.getD_eq_getElem?_getD,List.getElem?_append_left h]
theorem Oe (a:QL) (x:Qu):qu (a++[x]) a.length=x:=by
 unfold qu;simp
theorem Ja:(Tryz.prog.info? 66).map (fun i=>(i.zero,i.size,i.bytes))=some (some (.agg #[.string .empty,zI 0,zN]),3,48):=by kernel_rfl
theorem Gy (w:World) (B:Nat) (v:Value) (c:QL) (m:OwnQs w B v c) (X:Qu) (p:Nat) (D:TypeId) (M:w.heap[p]?=some (.cells #[.string X.name,zI X.parent,.slice X.ca X.cn X.cc] 66 (0,0)))
 (C:RunsIn w X.ca X.cn X.cc X.runs) (N:X.name.size<=9223372036854775807) (y:0<X.cn->∀ b f,X.ca=zO b f->v.ownBlock≠some b) (R:c.length<=999) (u:B<=w.heap.size) :
 ∃ F w',(Builtin.append_ #[37,37] D #[v,.slice (zO p 0) 1 1]).run Tryz.prog w=.ok F w'/\OwnQs w' B F (c++[X])/\Below B w w'/\∀ b,b<w.heap.size->v.ownBlock≠some b->w'.heap[b]?=w.heap[b]?:=by
 obtain ⟨O,o,e⟩:=Option.map_eq_some_iff.1 Ja;simp only [Prod.mk.injEq] at e;obtain ⟨G,d,H⟩:=e;obtain ⟨t,P,w',I,J,q,L,Q⟩:=run_append_lies w 37 D B 66 O _ 3 48 Tryz.underlying37 o G d H (by rfl) (by omega) v c.length (yE c) m.row (zA p 0) 1 1 (wH X) (by simp [wH])
  (fun j E r=>by rw [Addr.add_lit,Nat.zero_add,cell_of_row w p j _ _ _ M];simpa [wH] using r) (fun E r=>Vf [X] E (by simpa [yE] using r)) (by omega) (by simp only [maxLen];omega) (by omega) u w.heap.size rfl
 have A:∀ {a:Option Addr} {n cap:Nat} {l:zd},RunsIn w a n cap l->(0<n->∀ b f,a=zO b f->v.ownBlock≠some b)->RunsIn w' a n cap l:=fun h hn=>h.of_away fun g b f e=>q.block b (h.lt g e) (fun d=>hn g b f e d.symm);have z:∀ b,b<w.heap.size->v.ownBlock≠some b->(Value.slice (zO t 0) (c.length+1) P).ownBlock≠some b:=fun b x s e=>by
  have e:t=b:=by simpa [Value.ownBlock] using e
  subst e;rcases L with h | h
  ·exact s h
  omega
 refine ⟨_,w',I,⟨?_,fun i o=>?_,fun i o=>?_,fun i o=>?_⟩,(Below.refl B w).grown q u (fun k e=>(m.row.lt k e).1),fun b x s=>q.block b x (fun e=>s e.symm)⟩
 ·rw [List.length_append,List.length_singleton,TZ];have:yE [X]=wH X:=by simp [yE]
  rw [this];exact J
 ·by_cases e:i<c.length
  ·rw [Od e];exact A (m.caps i e) (m.far i e)
  obtain rfl:i=c.length:=by simp at o;omega
  rw [Oe];exact A C y
 ·by_cases e:i<c.length
  ·rw [Od e];exact fun g b f d=>z b ((m.caps i e).lt g d) (m.far i e g b f d)
  obtain rfl:i=c.length:=by simp at o;omega
  rw [Oe];exact fun g b f d=>z b (C.lt g d) (y g b f d)
 ·by_cases e:i<c.length
  ·rw [Od e];exact m.names i e
  obtain rfl:i=c.length:=by simp at o;omega
  rw [Oe];exact N
theorem MH {l b:QL} {k:Nat} {X:Qu} (h:zi b=zi (l.take k)) (a:k<l.length) (d:X.bare=(qu l k).bare):zi (b++[X])=zi (l.take (k+1)):=by
 have c:l.take (k+1)=l.take k++[qu l k]:=by
  rw [List.take_succ_eq_append_getElem a]
  congr 2
  unfold qu;simp [List.getD,a]
 rw [c];unfold zi at *;rw [List.map_append,List.map_append,h];simp [d]
theorem TX (w:World) (a:Option Addr) (n cap:Nat) (l:QL) (h:QsIn w a n cap l) (ah:0<n) (hn:n<=999) (aL:∀ i,i<n->0<(qu l i).cn/\(qu l i).cn<=1000) :
 zC 58 #[.slice a n cap] w fun e w'=>∃ g af Z,e=.returned (.slice (zO g 0) n af)/\OwnQs w' w.heap.size (.slice (zO g 0) n af) Z/\n=Z.length/\zi Z=zi l/\Below w.heap.size w w'/\∀ i,i<n->0<(qu Z i).cn->∀ b Q,(qu Z i).ca=zO b Q->w.heap.size<=b/\Qh w' b 55:=by
 obtain ⟨H,I,rfl,aI⟩:=h.cells ah;obtain ⟨B,aj⟩:=qA (w.heap.size);have bf:=h.le;have bd:=h.capb;have ax:=zh h.len;have aw:=zh h;have aT:=zh aI;have aV:=zh aL;have ar:=zh aj;clear h aI aL;rw [aj];clear aj;go_enter Tryz.func58,Tryz.ntmps58;go_wp2_with fail
 go_loopg [3,4] n (fun aZ (v p:Value) wr=>∃ (k:Nat) (F:QL),p=zI k/\k<=n/\aZ=n-k/\F.length=k/\OwnQs wr B v F/\zi F=zi (l.take k)/\(∀ i,i<k->0<(qu F i).cn->∀ b Q,(qu F i).ca=zO b Q->B<=b/\Qh wr b 55)/\Below B w wr)
 case atStart=>exact ⟨0,[],rfl,by omega,by omega,rfl,⟨World.ownsRow_nil _ _ _ _,fun i P=>absurd P (Nat.not_lt_zero i),fun i P=>absurd P (Nat.not_lt_zero i),fun i P=>absurd P (Nat.not_lt_zero i)⟩,rfl,fun i P=>absurd P (Nat.not_lt_zero i),Below.refl _ _⟩
 case round =>
  obtain ⟨k,F,rfl,be,rfl,an,L,al,E,X⟩:=hrel;have V:B<=wr.heap.size:=by have:=X.size;have:=ar.o;omega
  have av:=zh X;have ad:=zh an;have au:=zh al;have ay:=zh E;have ae:=zh L;by_cases ag:k<n
  ·have bg:(k:Int)<n:=(by omega);have a4:F.length<=999:=(by omega);have O:Below w.heap.size w wr:=(by rw [ar.o];exact X);obtain ⟨aa,ab,U⟩:=aT.o k ag;have Y:=aw.o.caps k ag;have aq:=aw.o.names k ag;obtain ⟨am,aK⟩:=aV.o k ag;obtain ⟨m,ak⟩:=qA (qu l k);rw [ak] at aa ab U Y aq am aK;obtain ⟨aA,aC,aJ,_⟩:=Y.cells am;rw [aJ] at U Y;have aa:=zh (cell_later O aa);have ab:=zh (cell_later O ab);have U:=zh (cell_later O U);have aU:=zh (Y.later O);have aX:=zh aq;have aW:=zh ak;have az:Zh (∀ b,wr.heap.size<=b->u3.ownBlock≠some b):=fun b f e=>by have:=(ae.o.row.lt b e).2;omega
   clear X an L al E Y aq aJ ak O;go_wp2_with fail
   refine Vr ((Tryz.f58.body.bind fun c=>yi c 5).getD #[]) (by kernel_rfl) [zl (u3),zl (.slice (zO H I) n cap),zl (zI k),zl (.pointer (zO H (I+k*3))),zl (.pointer (zO H (I+k*3))),zl (.string m.name),zl (.slice (zO H I) n cap),zl (zI k),zl (.pointer (zO H (I+k*3))),zl (.pointer (zO H (I+k*3+1))),zl (zI m.parent),⟨fun J _=>∃ aF,J=.slice (zO aF 0) 0 0,fun _ _ _ h _=>h⟩,zl (.slice (zO H I) n cap),zl (zI k),zl (.pointer (zO H (I+k*3))),zl (.pointer (zO H (I+k*3+2))),zl (.slice (zO aA aC) m.cn m.cc),⟨fun J x=>∃ j s,J=.slice (zO j 0) m.cn s/\RunsIn x (zO j 0) m.cn s m.runs/\wr.heap.size<=j/\Qh x j 55,fun _ _ _ ⟨j,s,u,z,C,G⟩ f=>⟨j,s,u,z.later f,C,G.later f⟩⟩,⟨fun J x=>∃ j s,J=.agg #[.string m.name,zI m.parent,.slice (zO j 0) m.cn s]/\RunsIn x (zO j 0) m.cn s m.runs/\wr.heap.size<=j/\Qh x j 55,fun _ _ _ ⟨j,s,u,z,C,G⟩ f=>⟨j,s,u,z.later f,C,G.later f⟩⟩,⟨fun J x=>∃ j s R,J=.slice (zO R 0) 1 1/\x.heap[R]?=some (.cells #[.string m.name,zI m.parent,.slice (zO j 0) m.cn s] 66 (0,0))/\RunsIn x (zO j 0) m.cn s m.runs/\wr.heap.size<=j/\Qh x j 55,fun _ _ _ ⟨j,s,R,u,z,C,G,M⟩ f=>⟨j,s,R,u,(f.block _ (Array.getElem?_eq_some_iff.1 z).1).trans z,C.later f,G,M.later f⟩⟩,⟨fun J x=>∃ j s,OwnQs x B J (F++[⟨m.name,m.parent,zO j 0,m.cn,s,m.runs⟩])/\wr.heap.size<=j/\Below B wr x/\Qh x j 55/\∀ b,b<wr.heap.size->u3.ownBlock≠some b->x.heap[b]?=wr.heap[b]?,fun _ x m ⟨j,s,u,z,C,G,M⟩ f=>⟨j,s,u.later f,z,C.trans (f.mono (Nat.le_trans V C.size)),G.later f,fun b N W=>(f.block b (Nat.lt_of_lt_of_le N C.size)).trans (M b N W)⟩⟩,⟨fun J x=>∃ j s,OwnQs x B J (F++[⟨m.name,m.parent,zO j 0,m.cn,s,m.runs⟩])/\wr.heap.size<=j/\Below B wr x/\Qh x j 55/\∀ b,b<wr.heap.size->u3.ownBlock≠some b->x.heap[b]?=wr.heap[b]?,fun _ x m ⟨j,s,u,z,C,G,M⟩ f=>⟨j,s,u.later f,z,C.trans (f.mono (Nat.le_trans V C.size)),G.later f,fun b N W=>(f.block b (Nat.lt_of_lt_of_le N C.size)).trans (M b N W)⟩⟩] [] [(20,[17,18,19])] B (V) (by kernel_rfl) (by kernel_rfl) (by kernel_rfl) (by kernel_rfl) ?hg ?hstep ?hfin
   case hg =>
    intro g hg v w h;cases hg
   case hstep =>
    refine zc.cons 1 rfl ?_ ?_
    ·intro T w' r A t q;show zu Tryz.prog _ _ _ _;have f:=r (by kernel_rfl);have y:T.getD 3 undef=u3:=t 3;exact zs (by go_simp) rfl
    refine zc.cons 2 rfl ?_ ?_
    ·intro T w' r A t q;show zu Tryz.prog _ _ _ _;have f:=r (by kernel_rfl);have y:T.getD 0 undef=.slice (zO H I) n cap:=t 0;exact zs (by go_simp) rfl
    refine zc.cons 3 rfl ?_ ?_
    ·intro T w' r A t q;show zu Tryz.prog _ _ _ _;have f:=r (by kernel_rfl);have y:T.getD 4 undef=zI k:=t 4;exact zs (by go_simp) rfl
    refine zc.cons 4 rfl ?_ ?_
    ·intro T w' r A t q;show zu Tryz.prog _ _ _ _;have f:=r (by kernel_rfl);have y:T.getD 12 undef=_:=q 1 12;have u:T.getD 13 undef=_:=q 2 13;exact zs (by go_simp) rfl
    refine zc.cons 5 rfl ?_ ?_
    ·intro T w' r A t q;show zu Tryz.prog _ _ _ _;have f:=r (by kernel_rfl);have y:T.getD 14 undef=_:=q 3 14;exact zs (by go_simp) rfl
    refine zc.cons 6 rfl ?_ ?_
    ·intro T w' r A t q;show zu Tryz.prog _ _ _ _;have f:=r (by kernel_rfl);have y:T.getD 15 undef=_:=q 4 15;have aB:=cell_later f aa.o;exact zs (by go_simp) rfl
    refine zc.cons 7 rfl ?_ ?_
    ·intro T w' r A t q;show zu Tryz.prog _ _ _ _;have f:=r (by kernel_rfl);have y:T.getD 0 undef=.slice (zO H I) n cap:=t 0;exact zs (by go_simp) rfl
    refine zc.cons 8 rfl ?_ ?_
    ·intro T w' r A t q;show zu Tryz.prog _ _ _ _;have f:=r (by kernel_rfl);have y:T.getD 4 undef=zI k:=t 4;exact zs (by go_simp) rfl
    refine zc.cons 9 rfl ?_ ?_
    ·intro T w' r A t q;show zu Tryz.prog _ _ _ _;have f:=r (by kernel_rfl);have y:T.getD 17 undef=_:=q 6 17;have u:T.getD 18 undef=_:=q 7 18;exact zs (by go_simp) rfl
    refine zc.cons 10 rfl ?_ ?_
    ·intro T w' r A t q;show zu Tryz.prog _ _ _ _;have f:=r (by kernel_rfl);have y:T.getD 19 undef=_:=q 8 19;exact zs (by go_simp) rfl
    refine zc.cons 11 rfl ?_ ?_
    ·intro T w' r A t q;show zu Tryz.prog _ _ _ _;have f:=r (by kernel_rfl);have y:T.getD 20 undef=_:=q 9 20;have aB:=cell_later f ab.o;exact zs (by go_simp) rfl
    refine zc.cons 12 rfl ?_ ?_
    ·intro T w' r A t q;show zu Tryz.prog _ _ _ _;have f:=r (by kernel_rfl);exact Or.inl ⟨.slice (zO w'.heap.size 0) 0 0,w'.alloc (.cells #[] 55),by go_simp,⟨_,rfl⟩,zr _ _⟩
    refine zc.cons 13 rfl ?_ ?_
    ·intro T w' r A t q;show zu Tryz.prog _ _ _ _;have f:=r (by kernel_rfl);have y:T.getD 0 undef=.slice (zO H I) n cap:=t 0;exact zs (by go_simp) rfl
    refine zc.cons 14 rfl ?_ ?_
    ·intro T w' r A t q;show zu Tryz.prog _ _ _ _;have f:=r (by kernel_rfl);have y:T.getD 4 undef=zI k:=t 4;exact zs (by go_simp) rfl
    refine zc.cons 15 rfl ?_ ?_
    ·intro T w' r A t q;show zu Tryz.prog _ _ _ _;have f:=r (by kernel_rfl);have y:T.getD 23 undef=_:=q 12 23;have u:T.getD 24 undef=_:=q 13 24;exact zs (by go_simp) rfl
    refine zc.cons 16 rfl ?_ ?_
    ·intro T w' r A t q;show zu Tryz.prog _ _ _ _;have f:=r (by kernel_rfl);have y:T.getD 25 undef=_:=q 14 25;exact zs (by go_simp) rfl
    refine zc.cons 17 rfl ?_ ?_
    ·intro T w' r A t q;show zu Tryz.prog _ _ _ _;have f:=r (by kernel_rfl);have y:T.getD 26 undef=_:=q 15 26;have aB:=cell_later f U.o;exact zs (by go_simp) rfl
    refine zc.cons 18 rfl ?_ ?_
    ·intro T w' r A t q;show zu Tryz.prog _ _ _ _;have f:=r (by kernel_rfl);obtain ⟨aF,y⟩:=q 11 22;have u:T.getD 27 undef=_:=q 16 27;obtain ⟨j,s,ai,ao,S,hg,a1,a5⟩:=O0 w' (zA aA aC) m.cn m.cc m.runs (aU.o.later f) am aK;exact Or.inl ⟨.slice (zO j 0) m.cn s,ai,Ze (.tmp 22) (.tmp 27) 25 rfl _ _ y u (ao _ _),⟨j,s,rfl,S,Nat.le_trans f.size hg,a5⟩,a1⟩
    refine zc.cons 19 rfl ?_ ?_
    ·intro T w' r A t q;show zu Tryz.prog _ _ _ _;have f:=r (by kernel_rfl);have y:T.getD 16 undef=_:=q 5 16;have u:T.getD 21 undef=_:=q 10 21;obtain ⟨j,s,z,S,E⟩:=q 17 28;have bb:T[16]?.getD undef=.string m.name:=(by rw [<-y];simp);have a0:T[21]?.getD undef=zI m.parent:=(by rw [<-u];simp);have bc:T[28]?.getD undef=.slice (zO j 0) m.cn s:=(by rw [<-z];simp);exact Or.inl ⟨.agg #[.string m.name,zI m.parent,.slice (zO j 0) m.cn s],w',by go_simp,⟨j,s,rfl,S,E⟩,Below.refl _ _⟩
    refine zc.cons 20 rfl ?_ ?_
    ·intro T w' r A t q;show zu Tryz.prog _ _ _ _;have f:=r (by kernel_rfl);obtain ⟨j,s,u,S,E⟩:=q 18 29;have a0:T[29]?.getD undef=.agg #[.string m.name,zI m.parent,.slice (zO j 0) m.cn s]:=(by rw [<-u];simp);exact Or.inl ⟨.slice (zO w'.heap.size 0) 1 1,w'.alloc (.cells #[.string m.name,zI m.parent,.slice (zO j 0) m.cn s] 66),by go_simp,⟨j,s,w'.heap.size,rfl,heap_alloc_new w' _,S.later (zr _ _),E.1,E.2.later (zr _ _)⟩,zr _ _⟩
    refine zc.cons 21 rfl ?_ ?_
    ·intro T w' r A t q;show Xd Tryz.prog _ _ _ _ _ _ _ _ _;have f:=r (by kernel_rfl);have y:T.getD 11 undef=_:=q 0 11;obtain ⟨j,s,R,u,a3,S,E⟩:=q 19 30;obtain ⟨a7,ai,ao,L,a2,aH⟩:=Gy w' B u3 F (ae.o.later f) ⟨m.name,m.parent,zO j 0,m.cn,s,m.runs⟩ R 37 a3 S aX.o (fun _ b Q e=>by injection e with e;injection e with e;subst e;exact az.o j E.1) a4 (Nat.le_trans V f.size);have O:Below B wr ai:=(f.mono V).trans a2;refine ⟨a7,ai,Or.inl (Ze (.tmp 11) (.tmp 30) 37 rfl u3 (.slice (zO R 0) 1 1) y u ao),(fun h=>by cases h),⟨j,s,L,E.1,O,E.2.away (aH j E.2.lt (az.o j E.1)),fun b N W=>(aH b (Nat.lt_of_lt_of_le N f.size) W).trans (f.block b N)⟩,O,?_⟩;intro i u z C J D
     match i with
     | 0=>exact D
     | 1=>exact D
     | 2=>exact D
     | 3=>exact D
     | 4=>exact D
     | 5=>exact D
     | 6=>exact D
     | 7=>exact D
     | 8=>exact D
     | 9=>exact D
     | 10=>exact D
     | 11=>exact D
     | 12=>exact D
     | 13=>exact D
     | 14=>exact D
     | 15=>exact D
     | 16=>exact D
     | 17=>exact absurd z (by decide)
     | 18=>exact absurd z (by decide)
     | 19=>exact absurd z (by decide)
     | 20=>exact absurd rfl u
     | 21=>exact absurd (C.symm.trans (by kernel_rfl:_=true)) (by decide)
     | n+22=>exact D
    refine zc.cons 22 rfl ?_ ?_
    ·intro T w' r A t q;show zu Tryz.prog _ _ _ _;obtain ⟨j,s,u,z,C⟩:=q 20 31;exact Or.inl ⟨T.getD 31 undef,w',by go_simp,⟨j,s,u,z,C⟩,Below.refl _ _⟩
    exact trivial
   intro T w' f aM t q _;obtain ⟨j,s,u,z,C,G,M⟩:=q 21 3;rw [yb (tt 3 [false,true,true,true,true,true,true,true,false,false,false,false,false,false,false,false,false,false,false,false,false,false,false,false,false,false,false,false,false] 1) (by kernel_rfl) aM @t];obtain ⟨us,ap⟩:∃ us:Nat->Value,(fun d=>T.getD d undef)=us:=⟨_,rfl⟩;rw [ap];have aE:us 3=T.getD 3 undef:=(by rw [<-ap]);rw [<-aE] at u;have aO:=zh u;have aP:=zh z;have aQ:=zh C;have aR:=zh G;have aS:=zh M;clear u z C G M t q aM ap aE f;simp only [xj,tt,List.replicate,List.cons_append,List.nil_append];go_wp2;go_roundg (n-(k+1))
   case measure=>omega
   refine ⟨k+1,_,by go_num,by omega,by omega,by rw [List.length_append,ad.o];rfl,aO.o,MH au.o (by have:=ax.o;omega) (by rw [aW.o];rfl),fun i P=>?_,av.o.trans aQ.o⟩;by_cases e:i<F.length
   ·rw [Od e];intro ah b Q aD;obtain ⟨a6,aN⟩:=ay.o i (by have:=ad.o;omega) ah b Q aD;exact ⟨a6,aN.away (aS.o b aN.lt (ae.o.far i e ah b Q aD))⟩
   obtain rfl:i=F.length:=(by have:=ad.o;omega);rw [Oe];intro _ b Q e;injection e with e;injection e with e;subst e;have:=aP.o;exact ⟨by omega,aR.o⟩
  obtain rfl:k=n:=by omega
  obtain ⟨a8,bi,bh,_⟩:=L.qs;clear X an L al E;go_wp2;go_ret;have aG:=ad.o;have L:=ae.o;rcases L.row.2 with ⟨_,ba⟩ | ⟨g,af,a9,aY,_⟩
  ·omega
  subst aY;rw [aG] at L ⊢;refine ⟨g,af,F,rfl,L,aG.symm,?_,av.o,ay.o⟩;rw [au.o,ax.o,List.take_length]
theorem Vd (w:World) (X:Bk) (V:zH w X.rq) (L:RunsIn w X.ba X.bn X.bc X.bs) (ai:0<X.rq.pn) (az:X.rq.pn<=1000) (ab:0<X.bn) (ax:X.bn<=1000) :
 zC 59 #[.agg #[zI X.id,zI X.rq.queue,zI X.rq.fr,zI X.rq.un,zI X.rq.kind,.slice X.rq.pa X.rq.pn X.rq.pc,.slice X.ba X.bn X.bc]] w fun e w'=>∃ d h g j,e=.returned (.agg #[zI X.id,zI X.rq.queue,zI X.rq.fr,zI X.rq.un,zI X.rq.kind,.slice (zO d 0) X.rq.pn h,.slice (zO g 0) X.bn j])/\RunsIn w' (zO d 0) X.rq.pn h X.rq.ps/\RunsIn w' (zO g 0) X.bn j X.bs/\w.heap.size<=d/\w.heap.size<=g/\Below w.heap.size w w':=by
 obtain ⟨m,⟨q,f,n,kd,aW,c,E,Y⟩,ba,bn,bc,bs⟩:=X;have V:RunsIn w aW c E Y:=V;have L:RunsIn w ba bn bc bs:=L;simp only at ai az ab ax ⊢;obtain ⟨N,O,rfl,-⟩:=V.cells ai;obtain ⟨u,x,rfl,-⟩:=L.cells ab;obtain ⟨S,Q⟩:=qA (w.heap.size);obtain ⟨r,G⟩:=qB ((w.alloc (.cells #[zI m,zI q,zI f,zI n,zI kd,.slice (some ⟨N,O,none⟩) c E,.slice (some ⟨u,x,none⟩) bn bc] 60)).alloc (.cells #[zI 0,zI 0,zI 0,zI 0,zI 0,zN,zN] 60));have ad:Below w.heap.size w r:=by rw [G];exact (zr _ _).alloc (by simp) _
 have aB:r.heap.size=S+2:=by rw [G];simp [Q]
 have am:r.heap[S]?=some (.cells #[zI m,zI q,zI f,zI n,zI kd,.slice (zO N O) c E,.slice (zO u x) bn bc] 60 (0,0)):=by rw [G,<-Q];exact (Below.heap_alloc _ _ _ (by simp)).trans (heap_alloc_new w _)
 have aD:r.heap[S+1]?=some (.cells #[zI 0,zI 0,zI 0,zI 0,zI 0,zN,zN] 60 (0,0)):=by
  have:=heap_alloc_new (w.alloc (.cells #[zI m,zI q,zI f,zI n,zI kd,.slice (zO N O) c E,.slice (zO u x) bn bc] 60)) (.cells #[zI 0,zI 0,zI 0,zI 0,zI 0,zN,zN] 60);rw [World.size_alloc,Q] at this;rw [G];exact this
 obtain ⟨y,Z⟩:=qB (r.alloc (.cells #[] 64));have C:Below r.heap.size r y:=by rw [Z];exact zr _ _
 have aR:y.heap.size=S+3:=by rw [Z];simp [aB]
 obtain ⟨d,h,l,aj,aq,aP,I,-⟩:=MC y (zA N O) c E Y ((V.later ad).later C) ai az;have ag:l.heap[S]?=_:=(I.block S (by omega)).trans ((C.block S (by omega)).trans am);have aE:l.heap[S+1]?=_:=(I.block (S+1) (by omega)).trans ((C.block (S+1) (by omega)).trans aD);obtain ⟨i,H⟩:=qB (l.setCell ⟨S,5,none⟩ (.slice (some ⟨d,0,none⟩) c h));have aT:i.heap.size=l.heap.size:=by rw [H];simp [World.setCell]
 have ah:i.heap[S]?=some (.cells #[zI m,zI q,zI f,zI n,zI kd,.slice (zO d 0) c h,.slice (zO u x) bn bc] 60 (0,0)):=by rw [H];exact heap_setCell_same l S 5 _ _ _ ag
 have ae:∀ k,k≠S->i.heap[k]?=l.heap[k]?:=fun k M=>by rw [H];exact heap_setCell_other l (zA S 5) k _ M
 have aS:=I.size;have aA:∀ k,k<S->i.heap[k]?=w.heap[k]?:=fun k M=>by rw [ae k (by omega),I.block k (by omega),C.block k (by omega),ad.block k (by omega)]
 have ay:RunsIn i (zO u x) bn bc bs:=L.of_away fun _ b W e=>aA b (by have:=L.lt ab e;omega);have ar:RunsIn i (zO d 0) c h Y:=aq.of_away fun _ b W e=>ae b (by injection e with e;injection e with e;omega);obtain ⟨z,aa⟩:=qB (i.alloc (.cells #[] 62));have D:Below i.heap.size i z:=by rw [aa];exact zr _ _
 have aU:z.heap.size=i.heap.size+1:=by rw [aa];simp
 obtain ⟨g,j,a,ak,au,aQ,J,-⟩:=Kj z (zA u x) bn bc bs (ay.later D) ab ax;have t:a.heap[S]?=_:=(J.block S (by omega)).trans ((D.block S (by omega)).trans ah);have P:a.heap[S+1]?=_:=(J.block (S+1) (by omega)).trans ((D.block (S+1) (by omega)).trans ((ae (S+1) (by omega)).trans aE));obtain ⟨s,R⟩:=qB (a.setCell ⟨S,6,none⟩ (.slice (some ⟨g,0,none⟩) bn j));have a2:s.heap[S]?=some (.cells #[zI m,zI q,zI f,zI n,zI kd,.slice (zO d 0) c h,.slice (zO g 0) bn j] 60 (0,0)):=by rw [R];exact heap_setCell_same a S 6 _ _ _ t
 have af:∀ k,k≠S->s.heap[k]?=a.heap[k]?:=fun k M=>by rw [R];exact heap_setCell_other a (zA S 6) k _ M
 have aC:s.heap[S+1]?=_:=(af (S+1) (by omega)).trans P;have aV:=J.size;have av:RunsIn s (zO d 0) c h Y:=((ar.later D).later J).of_away fun _ b W e=>af b (by injection e with e;injection e with e;omega);have aw:RunsIn s (zO g 0) bn j bs:=au.of_away fun _ b W e=>af b (by injection e with e;injection e with e;omega);have ap:Below S w s:=by
  have aX:Below S w l:=by
   have:=ad.trans (C.mono (show w.heap.size<=r.heap.size by omega));exact Q ▸ this.trans (I.mono (by omega))
  have aY:Below S w i:=by rw [H];exact aX.setCell (p:=(zA S 5)) (Nat.le_refl _) _
  have aZ:Below S w a:=(aY.trans (D.mono (by omega))).trans (J.mono (by omega));rw [R];exact aZ.setCell (p:=(zA S 6)) (Nat.le_refl _) _
 have aL:l.cell? (zA S 5)=some (.slice (zO N O) c E):=by rw [cell_of_row l S 5 _ _ _ ag];rfl
 have aM:i.cell? (zA S 6)=some (.slice (zO u x) bn bc):=by rw [cell_of_row i S 6 _ _ _ ah];rfl
 have an:y.cell? (zA S 5)=some (.slice (zO N O) c E):=by rw [cell_of_row y S 5 _ _ _ ((C.block S (by omega)).trans am)];rfl
 have ao:z.cell? (zA S 6)=some (.slice (zO u x) bn bc):=by rw [cell_of_row z S 6 _ _ _ ((D.block S (by omega)).trans ah)];rfl
 have a3:a.cell? (zA S 6)=some (.slice (zO u x) bn bc):=by rw [cell_of_row a S 6 _ _ _ t];rfl
 have aN:l.frozen? (zA S 5)=false:=frozen_of_row l S 5 _ _ ag;have bb:a.frozen? (zA S 6)=false:=frozen_of_row a S 6 _ _ t;have a4:a.cell? (zA S 0)=some (zI m):=by rw [cell_of_row a S 0 _ _ _ t];rfl
 have a5:a.cell? (zA S 1)=some (zI q):=by rw [cell_of_row a S 1 _ _ _ t];rfl
 have a6:a.cell? (zA S 2)=some (zI f):=by rw [cell_of_row a S 2 _ _ _ t];rfl
 have a7:a.cell? (zA S 3)=some (zI n):=by rw [cell_of_row a S 3 _ _ _ t];rfl
 have a8:a.cell? (zA S 4)=some (zI kd):=by rw [cell_of_row a S 4 _ _ _ t];rfl
 have a9:a.cell? (zA S 5)=some (.slice (zO d 0) c h):=by rw [cell_of_row a S 5 _ _ _ t];rfl
 have F:∀ k,k<5->a.cell? (zA (S+1) k)=some (zI 0):=fun k M=>by
  rw [cell_of_row a (S+1) k _ _ _ P]
  match k,M with
  | 0,_=>rfl
  | 1,_=>rfl
  | 2,_=>rfl
  | 3,_=>rfl
  | 4,_=>rfl
 have bf:=F 0 (by omega);have bg:=F 1 (by omega);have bh:=F 2 (by omega);have bi:=F 3 (by omega);have bj:=F 4 (by omega);have bl:a.cell? (zA (S+1) 5)=some zN:=by rw [cell_of_row a (S+1) 5 _ _ _ P];rfl
 have bm:a.cell? (zA (S+1) 6)=some zN:=by rw [cell_of_row a (S+1) 6 _ _ _ P];rfl
 have fr:∀ k,a.frozen? (zA (S+1) k)=false:=fun k=>frozen_of_row a (S+1) k _ _ P;have aJ:=zh aC;have aF:=zh ap;have aG:=zh av;have aH:=zh aw;have aK:=zh R;have bd:S+2<=d:=by omega
 have be:S+2<=g:=by omega
 rw [aa,H] at ak ao;rw [Z,G] at aj an;clear F a2 aC af ae aV aU aT aS aR t P ah ag aE am aD ad C I D J V L ay aq ar au av aw ap aA aM aP aQ R aa H Z G aB;have aI:=zh Q;go_enter Tryz.func59,Tryz.ntmps59;go_wp2_with (first
  | (at_builtin;refine Lib.wpList_append_run _ rfl _ _ _ _ rfl _ _ rfl rfl _ _ (aj _ _) ?_;clear aj an)
  | (at_builtin;refine Lib.wpList_append_run _ rfl _ _ _ _ rfl _ _ rfl rfl _ _ (ak _ _) ?_;clear ak ao aL aN))
 obtain ⟨A,U⟩:=qB (((((((((a.setCell ⟨S,6,none⟩ (.slice (some ⟨g,0,none⟩) bn j)).setCell ⟨S+1,0,none⟩ (zI m)).setCell ⟨S+1,1,none⟩ (zI q)).setCell ⟨S+1,2,none⟩ (zI f)).setCell ⟨S+1,3,none⟩ (zI n)).setCell ⟨S+1,4,none⟩ (zI kd)).setCell ⟨S+1,5,none⟩ (.slice (some ⟨d,0,none⟩) c h)).setCell ⟨S+1,6,none⟩ (.slice (some ⟨g,0,none⟩) bn j)));rw [<-U];rw [<-aK.o] at U;have al:A.heap[S+1]?=some (.cells #[zI m,zI q,zI f,zI n,zI kd,.slice (zO d 0) c h,.slice (zO g 0) bn j] 60 (0,0))/\∀ k,k≠S+1->A.heap[k]?=s.heap[k]?:=by
  rw [U];exact Om s (S+1) 60 _ _ _ _ _ _ _ (zI m) (zI q) (zI f) (zI n) (zI kd) (.slice (zO d 0) c h) (.slice (zO g 0) bn j) aJ.o
 have aO:Below w.heap.size w A:=by
  rw [U,aI.o];have B:S<=S+1:=by omega
  exact ((((((aF.o.setCell (p:=(zA (S+1) 0)) B _).setCell (p:=(zA (S+1) 1)) B _).setCell (p:=(zA (S+1) 2)) B _).setCell (p:=(zA (S+1) 3)) B _).setCell (p:=(zA (S+1) 4)) B _).setCell (p:=(zA (S+1) 5)) B _).setCell (p:=(zA (S+1) 6)) B _
 have a0:RunsIn A (zO d 0) c h Y:=aG.o.of_away fun _ b W e=>by
  injection e with e;injection e with e;exact al.2 b (by omega)
 have a1:RunsIn A (zO g 0) bn j bs:=aH.o.of_away fun _ b W e=>by
  injection e with e;injection e with e;exact al.2 b (by omega)
 clear U;refine bodyPost_ret (v:=.agg #[zI m,zI q,zI f,zI n,zI kd,.slice (zO d 0) c h,.slice (zO g 0) bn j]) (results_cell_row Tryz.results59 _ _ (S+1) 60 #[zI m,zI q,zI f,zI n,zI kd,.slice (zO d 0) c h,.slice (zO g 0) bn j] (0,0) _ rfl al.1 Tryz.underlying60 rfl (by kernel_rfl)) rfl ?_;exact ⟨d,h,g,j,rfl,a0,a1,by omega,by omega,aO⟩
end Go.Proofs.YtckpdfkobdgjeaaGreatDoor
