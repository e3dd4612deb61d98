/- Several texts in one: OwnB, OwnC. -/
import Derived.Test.YtckpdfkobdgjeaaGreatDoorJAll4
import Derived.Lib.AppendZeros
import Derived.Test.YtckpdfkobdgjeaaGreatDoorJFreshD
import Derived.Test.YtckpdfkobdgjeaaGreatDoorJAll2
namespace Go.Proofs.YtckpdfkobdgjeaaGreatDoor
set_option maxRecDepth 100000
set_option maxHeartbeats 4000000
open Go.RowKit
set_option linter.unusedSectionVars false
variable [Inhabited Mk]
theorem Vd (w:World) (X:Bk) (Y:zH w X.rq) (N:RunsIn w X.ba X.bn X.bc X.bs) (ak:0<X.rq.pn) (aB:X.rq.pn<=1000) (ae:0<X.bn) (az:X.bn<=1000) :
 zC 59 #[.agg #[zI X.id,zI X.rq.queue,zI X.rq.fr,zI X.rq.un,zI X.rq.kind,.slice X.rq.pa X.rq.pn X.rq.pc,.slice X.ba X.bn X.bc]] w fun e w'=>∃ g i h l,e=.returned (.agg #[zI X.id,zI X.rq.queue,zI X.rq.fr,zI X.rq.un,zI X.rq.kind,.slice (zO g 0) X.rq.pn i,.slice (zO h 0) X.bn l])/\RunsIn w' (zO g 0) X.rq.pn i X.rq.ps/\RunsIn w' (zO h 0) X.bn l X.bs/\w.heap.size<=g/\w.heap.size<=h/\Below w.heap.size w w':=by
 obtain ⟨n,⟨q,f,u,kd,aZ,d,G,aa⟩,aP,c,t,bs⟩:=X;have Y:RunsIn w aZ d G aa:=Y;have N:RunsIn w aP c t bs:=N;simp only at ak aB ae az ⊢;obtain ⟨P,Q,rfl,-⟩:=Y.cells ak;obtain ⟨y,z,rfl,-⟩:=N.cells ae;obtain ⟨S,U⟩:=qA (w.heap.size);obtain ⟨r,I⟩:=qB ((w.alloc (.cells #[zI n,zI q,zI f,zI u,zI kd,.slice (some ⟨P,Q,none⟩) d G,.slice (some ⟨y,z,none⟩) c t] 60)).alloc (.cells #[zI 0,zI 0,zI 0,zI 0,zI 0,zN,zN] 60));have af:Below w.heap.size w r:=by rw [I];exact (zr _ _).alloc (by simp) _
 have aD:r.heap.size=S+2:=by rw [I];simp [U]
 have ao:r.heap[S]?=some (.cells #[zI n,zI q,zI f,zI u,zI kd,.slice (zO P Q) d G,.slice (zO y z) c t] 60 (0,0)):=by rw [I,<-U];exact (Below.heap_alloc _ _ _ (by simp)).trans (heap_alloc_new w _)
 have aF:r.heap[S+1]?=some (.cells #[zI 0,zI 0,zI 0,zI 0,zI 0,zN,zN] 60 (0,0)):=by
  have:=heap_alloc_new (w.alloc (.cells #[zI n,zI q,zI f,zI u,zI kd,.slice (zO P Q) d G,.slice (zO y z) c t] 60)) (.cells #[zI 0,zI 0,zI 0,zI 0,zI 0,zN,zN] 60);rw [World.size_alloc,U] at this;rw [I];exact this
 obtain ⟨A,ab⟩:=qB (r.alloc (.cells #[] 64));have E:Below r.heap.size r A:=by rw [ab];exact zr _ _
 have aU:A.heap.size=S+3:=by rw [ab];simp [aD]
 obtain ⟨g,i,m,al,au,aS,L,-⟩:=MC A (zA P Q) d G aa ((Y.later af).later E) ak aB;have ai:m.heap[S]?=_:=(L.block S (by omega)).trans ((E.block S (by omega)).trans ao);have aG:m.heap[S+1]?=_:=(L.block (S+1) (by omega)).trans ((E.block (S+1) (by omega)).trans aF);obtain ⟨j,J⟩:=qB (m.setCell ⟨S,5,none⟩ (.slice (some ⟨g,0,none⟩) d i));have aW:j.heap.size=m.heap.size:=by rw [J];simp [World.setCell]
 have aj:j.heap[S]?=some (.cells #[zI n,zI q,zI f,zI u,zI kd,.slice (zO g 0) d i,.slice (zO y z) c t] 60 (0,0)):=by rw [J];exact heap_setCell_same m S 5 _ _ _ ai
 have ag:∀ k,k≠S->j.heap[k]?=m.heap[k]?:=fun k O=>by rw [J];exact heap_setCell_other m (zA S 5) k _ O
 have aV:=L.size;have aC:∀ k,k<S->j.heap[k]?=w.heap[k]?:=fun k O=>by rw [ag k (by omega),L.block k (by omega),E.block k (by omega),af.block k (by omega)]
 have aA:RunsIn j (zO y z) c t bs:=N.of_away fun _ b Z e=>aC b (by have:=N.lt ae e;omega);have av:RunsIn j (zO g 0) d i aa:=au.of_away fun _ b Z e=>ag b (by injection e with e;injection e with e;omega);obtain ⟨B,ad⟩:=qB (j.alloc (.cells #[] 62));have F:Below j.heap.size j B:=by rw [ad];exact zr _ _
 have aX:B.heap.size=j.heap.size+1:=by rw [ad];simp
 obtain ⟨h,l,a,am,aw,aT,M,-⟩:=Kj B (zA y z) c t bs (aA.later F) ae az;have x:a.heap[S]?=_:=(M.block S (by omega)).trans ((F.block S (by omega)).trans aj);have R:a.heap[S+1]?=_:=(M.block (S+1) (by omega)).trans ((F.block (S+1) (by omega)).trans ((ag (S+1) (by omega)).trans aG));obtain ⟨s,V⟩:=qB (a.setCell ⟨S,6,none⟩ (.slice (some ⟨h,0,none⟩) c l));have a5:s.heap[S]?=some (.cells #[zI n,zI q,zI f,zI u,zI kd,.slice (zO g 0) d i,.slice (zO h 0) c l] 60 (0,0)):=by rw [V];exact heap_setCell_same a S 6 _ _ _ x
 have ah:∀ k,k≠S->s.heap[k]?=a.heap[k]?:=fun k O=>by rw [V];exact heap_setCell_other a (zA S 6) k _ O
 have aE:s.heap[S+1]?=_:=(ah (S+1) (by omega)).trans R;have aY:=M.size;have ax:RunsIn s (zO g 0) d i aa:=((av.later F).later M).of_away fun _ b Z e=>ah b (by injection e with e;injection e with e;omega);have ay:RunsIn s (zO h 0) c l bs:=aw.of_away fun _ b Z e=>ah b (by injection e with e;injection e with e;omega);have ar:Below S w s:=by
  have a0:Below S w m:=by
   have:=af.trans (E.mono (show w.heap.size<=r.heap.size by omega));exact U ▸ this.trans (L.mono (by omega))
  have a1:Below S w j:=by rw [J];exact a0.setCell (p:=(zA S 5)) (Nat.le_refl _) _
  have a2:Below S w a:=(a1.trans (F.mono (by omega))).trans (M.mono (by omega));rw [V];exact a2.setCell (p:=(zA S 6)) (Nat.le_refl _) _
 have aN:m.cell? (zA S 5)=some (.slice (zO P Q) d G):=by rw [cell_of_row m S 5 _ _ _ ai];rfl
 have aO:j.cell? (zA S 6)=some (.slice (zO y z) c t):=by rw [cell_of_row j S 6 _ _ _ aj];rfl
 have ap:A.cell? (zA S 5)=some (.slice (zO P Q) d G):=by rw [cell_of_row A S 5 _ _ _ ((E.block S (by omega)).trans ao)];rfl
 have aq:B.cell? (zA S 6)=some (.slice (zO y z) c t):=by rw [cell_of_row B S 6 _ _ _ ((F.block S (by omega)).trans aj)];rfl
 have a6:a.cell? (zA S 6)=some (.slice (zO y z) c t):=by rw [cell_of_row a S 6 _ _ _ x];rfl
 have aQ:m.frozen? (zA S 5)=false:=frozen_of_row m S 5 _ _ ai;have bd:a.frozen? (zA S 6)=false:=frozen_of_row a S 6 _ _ x;have a7:a.cell? (zA S 0)=some (zI n):=by rw [cell_of_row a S 0 _ _ _ x];rfl
 have a8:a.cell? (zA S 1)=some (zI q):=by rw [cell_of_row a S 1 _ _ _ x];rfl
 have a9:a.cell? (zA S 2)=some (zI f):=by rw [cell_of_row a S 2 _ _ _ x];rfl
 have ba:a.cell? (zA S 3)=some (zI u):=by rw [cell_of_row a S 3 _ _ _ x];rfl
 have bb:a.cell? (zA S 4)=some (zI kd):=by rw [cell_of_row a S 4 _ _ _ x];rfl
 have bc:a.cell? (zA S 5)=some (.slice (zO g 0) d i):=by rw [cell_of_row a S 5 _ _ _ x];rfl
 have H:∀ k,k<5->a.cell? (zA (S+1) k)=some (zI 0):=fun k O=>by
  rw [cell_of_row a (S+1) k _ _ _ R]
  match k,O with
  | 0,_=>rfl
  | 1,_=>rfl
  | 2,_=>rfl
  | 3,_=>rfl
  | 4,_=>rfl
 have bg:=H 0 (by omega);have bh:=H 1 (by omega);have bi:=H 2 (by omega);have bj:=H 3 (by omega);have bl:=H 4 (by omega);have bm:a.cell? (zA (S+1) 5)=some zN:=by rw [cell_of_row a (S+1) 5 _ _ _ R];rfl
 have bn:a.cell? (zA (S+1) 6)=some zN:=by rw [cell_of_row a (S+1) 6 _ _ _ R];rfl
 have fr:∀ k,a.frozen? (zA (S+1) k)=false:=fun k=>frozen_of_row a (S+1) k _ _ R;have aL:=zh aE;have aH:=zh ar;have aI:=zh ax;have aJ:=zh ay;have aM:=zh V;have be:S+2<=g:=by omega
 have bf:S+2<=h:=by omega
 rw [ad,J] at am aq;rw [ab,I] at al ap;clear H a5 aE ah ag aY aX aW aV aU x R aj ai aG ao aF af E L F M Y N aA au av aw ax ay ar aC aO aS aT V ad J ab I aD;have aK:=zh U;go_enter Tryz.func59,Tryz.ntmps59;go_wp2_with (first
  | (at_builtin;refine Lib.wpList_append_run _ rfl _ _ _ _ rfl _ _ rfl rfl _ _ (al _ _) ?_;clear al ap)
  | (at_builtin;refine Lib.wpList_append_run _ rfl _ _ _ _ rfl _ _ rfl rfl _ _ (am _ _) ?_;clear am aq aN aQ))
 obtain ⟨C,W⟩:=qB (((((((((a.setCell ⟨S,6,none⟩ (.slice (some ⟨h,0,none⟩) c l)).setCell ⟨S+1,0,none⟩ (zI n)).setCell ⟨S+1,1,none⟩ (zI q)).setCell ⟨S+1,2,none⟩ (zI f)).setCell ⟨S+1,3,none⟩ (zI u)).setCell ⟨S+1,4,none⟩ (zI kd)).setCell ⟨S+1,5,none⟩ (.slice (some ⟨g,0,none⟩) d i)).setCell ⟨S+1,6,none⟩ (.slice (some ⟨h,0,none⟩) c l)));rw [<-W];rw [<-aM.o] at W;have an:C.heap[S+1]?=some (.cells #[zI n,zI q,zI f,zI u,zI kd,.slice (zO g 0) d i,.slice (zO h 0) c l] 60 (0,0))/\∀ k,k≠S+1->C.heap[k]?=s.heap[k]?:=by
  rw [W];exact Om s (S+1) 60 _ _ _ _ _ _ _ (zI n) (zI q) (zI f) (zI u) (zI kd) (.slice (zO g 0) d i) (.slice (zO h 0) c l) aL.o
 have aR:Below w.heap.size w C:=by
  rw [W,aK.o];have D:S<=S+1:=by omega
  exact ((((((aH.o.setCell (p:=(zA (S+1) 0)) D _).setCell (p:=(zA (S+1) 1)) D _).setCell (p:=(zA (S+1) 2)) D _).setCell (p:=(zA (S+1) 3)) D _).setCell (p:=(zA (S+1) 4)) D _).setCell (p:=(zA (S+1) 5)) D _).setCell (p:=(zA (S+1) 6)) D _
 have a3:RunsIn C (zO g 0) d i aa:=aI.o.of_away fun _ b Z e=>by
  injection e with e;injection e with e;exact an.2 b (by omega)
 have a4:RunsIn C (zO h 0) c l bs:=aJ.o.of_away fun _ b Z e=>by
  injection e with e;injection e with e;exact an.2 b (by omega)
 clear W;refine bodyPost_ret (v:=.agg #[zI n,zI q,zI f,zI u,zI kd,.slice (zO g 0) d i,.slice (zO h 0) c l]) (results_cell_row Tryz.results59 _ _ (S+1) 60 #[zI n,zI q,zI f,zI u,zI kd,.slice (zO g 0) d i,.slice (zO h 0) c l] (0,0) _ rfl an.1 Tryz.underlying60 rfl (by kernel_rfl)) rfl ?_;exact ⟨g,i,h,l,rfl,a3,a4,by omega,by omega,aR⟩
theorem OwnQs.keep {w w':World} {B:Nat} {v:Value} {l:QL} (h:OwnQs w B v l) (e:∀ g,v.ownBlock=some g->w'.heap[g]?=w.heap[g]?) (f:∀ i,i<l.length->0<(qu l i).cn->∀ b m,(qu l i).ca=zO b m->w'.heap[b]?=w.heap[b]?):OwnQs w' B v l:=by
 refine ⟨⟨h.row.1,?_⟩,fun i a=>(h.caps i a).of_away (f i a),h.far,h.names⟩;rcases h.row.2 with k | ⟨g,c,d,rfl,j,hg,rest⟩
 ·exact .inl k
 exact .inr ⟨g,c,d,rfl,j,(e g rfl).trans hg,rest⟩
theorem xP {g n c b:Nat}:(Value.slice (zO g 0) n c).ownBlock=some b↔g=b:=by simp [Value.ownBlock]
theorem Lo {w:World} {B g n k m:Nat} {i:List Value} {a b c d:Value} (h:w.ownsRow B 66 3 (.slice (zO g 0) n k) m i) (f:zj w g a b c d):False:=by
 rcases h.2 with ⟨e,_⟩ | ⟨o,j,l,e,_,hg,_⟩
 ·cases e
 injection e with e;injection e with e;injection e with e;subst e;unfold zj at f;rw [hg] at f;injection f with f;injection f with _ f;exact absurd f (by decide)
theorem JJ {w:World} {g:Nat} {a b c d:Value} (h:Qh w g 55) (e:zj w g a b c d):False:=by
 obtain ⟨cs,fr,h⟩:=h;unfold zj at e;rw [h] at e;injection e with e;injection e with _ e;exact absurd e (by decide)
theorem PZ (w' r:World) (L S B:Nat) (s:Option Addr) (w v:Nat) (d:BL) (X:Bk) (A:Nat) (V:TypeId) (aa:OwnBks r S (.slice s w v) d) (y:Below r.heap.size r w')
 (Z:w'.heap[A]?=some (.cells #[zI X.id,zI X.rq.queue,zI X.rq.fr,zI X.rq.un,zI X.rq.kind,.slice X.rq.pa X.rq.pn X.rq.pc,.slice X.ba X.bn X.bc] 60 (0,0)))
 (ab:w=d.length) (ah:w<=12) (G:S<=r.heap.size) (aj:B<r.heap.size) (Q:RunsIn w' X.rq.pa X.rq.pn X.rq.pc X.rq.ps)
 (O:∀ i,i<d.length->(0<(bk d i).rq.pn->∀ g c,(bk d i).rq.pa=zO g c->L<=g/\g≠B)/\(0<(bk d i).bn->∀ g c,(bk d i).ba=zO g c->L<=g/\g≠B)) (ak:L<=S)
 (P:0<X.rq.pn->∀ b c,X.rq.pa=zO b c->r.heap.size<=b) (R:∀ g,(Value.slice s w v).ownBlock=some g->g≠B/\g<r.heap.size)
 (H:0<X.bn->∀ b c,X.ba=zO b c->(L<=b/\b≠B)/\(Value.slice s w v).ownBlock≠some b) (N:RunsIn w' X.ba X.bn X.bc X.bs) :
 ∃ o F x,(Builtin.append_ #[38,38] V #[.slice s w v,.slice (zO A 0) 1 1]).run Tryz.prog w'=.ok (.slice (zO o 0) (w+1) F) x/\Made x r L S B s w v d X o F/\Below S r x:=by
 subst ab;obtain ⟨ag,p,e⟩:=Option.map_eq_some_iff.1 Z5;simp only [Prod.mk.injEq] at e;obtain ⟨W,m,t⟩:=e;have q:=aa.later y;obtain ⟨o,F,x,Y,J,C,D,ai⟩:=run_append_lies w' 38 V S 60 ag _ 7 88 Tryz.underlying38 p W m t (by rfl) (by omega) (.slice s d.length v) d.length (ze d) q.row (zA A 0) 1 1 (zx X) (by simp [zx])
  (fun j u I=>by rw [Addr.add_lit,Nat.zero_add,cell_of_row w' A j _ _ _ Z];simpa [zx] using I) (fun u I=>y7 [X] u (by simpa [ze] using I)) (by omega) (by simp only [maxLen];omega) (by omega) (Nat.le_trans G y.size) w'.heap.size rfl
 have af:=J.lt o rfl;have z:(Value.slice s d.length v).ownBlock=some o\/w'.heap.size<=o:=by
  rcases D with D | D
  ·exact Or.inl D
  exact Or.inr (by omega)
 have E:∀ {a:Option Addr} {n cap:Nat} {l:zd},RunsIn w' a n cap l->(0<n->∀ b c,a=zO b c->(Value.slice s d.length v).ownBlock≠some b)->RunsIn x a n cap l:=fun h hn=>h.of_away fun f b c e=>C.block b (h.lt f e) (fun m=>hn f b c e m.symm);have U:=y.size;have M:0<X.rq.pn->∀ b c,X.rq.pa=zO b c->(Value.slice s d.length v).ownBlock≠some b:=fun f b c e m=>by have:=P f b c e;have:=(R b m).2;omega
 refine ⟨o,F,x,Y,⟨⟨?_,fun i p=>?_,fun i p=>?_,fun i p f g c e m=>?_,fun i p f g c e m=>?_⟩,rfl,?_,af.1,fun k ad ae=>?_,Nat.le_trans U C.size,fun i p=>?_,fun i p=>?_⟩,?_⟩
 ·rw [List.length_append,List.length_singleton,xw];have:ze [X]=zx X:=by simp [ze]
  rw [this];exact J
 ·by_cases e:i<d.length
  ·rw [Zb e];exact E (q.rqs i e) (q.farP i e)
  obtain rfl:i=d.length:=by simp at p;omega
  rw [ZE];exact E Q M
 ·by_cases e:i<d.length
  ·rw [Zb e];exact E (q.bites i e) (q.farB i e)
  obtain rfl:i=d.length:=by simp at p;omega
  rw [ZE];exact E N (fun f b c e=>(H f b c e).2)
 ·have m:o=g:=by simpa [Value.ownBlock] using m
  subst m;by_cases t:i<d.length
  ·rw [Zb t] at f e;rcases z with h | h
   ·exact q.farP i t f o c e h
   have:=RunsIn.lt (q.rqs i t) f e;omega
  obtain rfl:i=d.length:=by simp at p;omega
  rw [ZE] at f e;rcases z with h | h
  ·exact M f o c e h
  have:=Q.lt f e;omega
 ·have m:o=g:=by simpa [Value.ownBlock] using m
  subst m;by_cases t:i<d.length
  ·rw [Zb t] at f e;rcases z with h | h
   ·exact q.farB i t f o c e h
   have:=(q.bites i t).lt f e;omega
  obtain rfl:i=d.length:=by simp at p;omega
  rw [ZE] at f e;rcases z with h | h
  ·exact (H f o c e).2 h
  have:=N.lt f e;omega
 ·rcases z with h | h
  ·exact (R o h).1
  omega
 ·rw [C.block k (by omega) ae];exact y.block k ad
 ·by_cases e:i<d.length
  ·rw [Zb e];exact (O i e).1
  obtain rfl:i=d.length:=by simp at p;omega
  rw [ZE];intro f g c m;have:=P f g c m;omega
 ·by_cases e:i<d.length
  ·rw [Zb e];exact (O i e).2
  obtain rfl:i=d.length:=by simp at p;omega
  rw [ZE];exact fun f g c m=>(H f g c m).1
 ·exact (y.mono G).grown C (Nat.le_trans G U) (fun k e=>(q.row.lt k e).1)
structure Put (Z W3:World) (L G:Nat) (aa:Option Addr) (bn k3:Nat) (b':BL) (X:Bk) (g9 k9:Nat) (c n:Int) (tv:Value):Prop where
 own:OwnBks Z L (.slice (zO g9 0) (bn+1) k9) (b'++[X])
 box:zj Z G (zI c) (zI n) tv (.slice (zO g9 0) (bn+1) k9)
 blk:∀ k,k<W3.heap.size->k≠G->some k≠(Value.slice aa bn k3).ownBlock->Z.heap[k]?=W3.heap[k]?
 size:W3.heap.size<=Z.heap.size
 low:L<=g9
 ne:g9≠G
 offP:∀ i,i<(b'++[X]).length->0<(bk (b'++[X]) i).rq.pn->∀ g off,(bk (b'++[X]) i).rq.pa=zO g off->L<=g/\g≠G
 offB:∀ i,i<(b'++[X]).length->0<(bk (b'++[X]) i).bn->∀ g off,(bk (b'++[X]) i).ba=zO g off->L<=g/\g≠G
theorem Put.later {b f e:World} {L d:Nat} {g:Option Addr} {j m:Nat} {i:BL} {X:Bk} {l o:Nat} {c n:Int} {p:Value} (h:Put b e L d g j m i X l o c n p) (a:Below b.heap.size b f):Put f e L d g j m i X l o c n p :=
 ⟨h.own.later a,h.box.later a,fun k q r s=>(a.block k (by have:=h.size;omega)).trans (h.blk k q r s),Nat.le_trans h.size a.size,h.low,h.ne,h.offP,h.offB⟩
theorem Made.put {b f:World} {B L a:Nat} {j:Option Addr} {d l:Nat} {v:BL} {X:Bk} {m o:Nat} (h:Made b f L L a j d l v X m o) {c n:Int} {u:Value} (w:zj f a (zI c) (zI n) u (.slice j d l)/\some a≠(Value.slice j d l).ownBlock) (x:B<=a) (y:a<f.heap.size) (z:Below B f b) :
 Put (b.setCell (zA a 3) (.slice (zO m 0) (d+1) o)) f L a j d l v X m o c n u/\b.cell? (zA a 3)=some (.slice j d l)/\b.frozen? (zA a 3)=false/\Below B f (b.setCell (zA a 3) (.slice (zO m 0) (d+1) o)):=by
 have s:zj b a (zI c) (zI n) u (.slice j d l):=(h.blk a y w.2).trans w.1;refine ⟨⟨?_,?_,fun k A C D=>?_,?_,h.low,h.ne,h.offP,h.offB⟩,s.cells.2.2.2,frozen_of_row b a 3 _ _ s,z.setCell (p:=(zA a 3)) x _⟩
 ·refine h.own.blocks (fun g e=>heap_setCell_other b (zA a 3) g _ ?_) (fun i q r g t e=>heap_setCell_other b (zA a 3) g _ (h.offP i q r g t e).2) (fun i q r g t e=>heap_setCell_other b (zA a 3) g _ (h.offB i q r g t e).2);have e:m=g:=by simpa [Value.ownBlock] using e
  subst e;exact h.ne
 ·unfold zj;rw [heap_setCell_same b a 3 _ _ _ s];rfl
 ·rw [heap_setCell_other b (zA a 3) k _ C];exact h.blk k A D
 ·have:=h.size;simp only [World.setCell,Array.size_modify];omega
structure Laid (W:World) (L G:Nat) (c n:Int) (tv:Value) (l':QL) (aa:Option Addr) (k k3:Nat) (lb:BL):Prop where
 box:zj W G (zI c) (zI n) tv (.slice aa k k3)
 own:OwnBks W L (.slice aa k k3) lb
 len:k=lb.length
 offP:∀ i,i<lb.length->(0<(bk lb i).rq.pn->∀ g off,(bk lb i).rq.pa=zO g off->L<=g/\g≠G)/\(0<(bk lb i).bn->∀ g off,(bk lb i).ba=zO g off->L<=g/\g≠G)
 size:L<=W.heap.size
 gl:G<L
theorem MG {b c:BL} {k:Nat} {X:Bk} (h:zg c=zg (b.take k)) (a:k<b.length) (e:X.bare=(bk b k).bare):zg (c++[X])=zg (b.take (k+1)):=by
 have d:b.take (k+1)=b.take k++[bk b k]:=by
  rw [List.take_succ_eq_append_getElem a]
  congr 2
  unfold bk;simp [List.getD,a]
 rw [d];unfold zg at *;rw [List.map_append,List.map_append,h];simp [e]
structure Modest1 (tn:Nat) (l:QL) (bn:Nat) (b:BL):Prop where
 t0:0<tn
 t1:tn<=999
 caps:∀ i,i<tn->0<(qu l i).cn/\(qu l i).cn<=1000
 b1:bn<=12
 ps:∀ i,i<bn->0<(bk b i).rq.pn/\(bk b i).rq.pn<=1000
 bs:∀ i,i<bn->0<(bk b i).bn/\(bk b i).bn<=1000
theorem Uj (w:World) (c n:Int) (af:Option Addr) (r ag:Nat) (l:QL) (ao:Option Addr) (O aj:Nat) (b:BL) (h:zY w af r ag l ao O aj b) (aD:Modest1 r l O b) :
 zC 23 #[.agg (zS c n af r ag ao O aj)] w fun e w'=>∃ L g x t M Q ai,e=.returned (.agg (zS c n (zO g 0) r x M O Q))/\w.heap.size<=g/\g<L/\OwnQs w' w.heap.size (.slice (zO g 0) r x) t/\r=t.length/\zi t=zi l/\(∀ i,i<r->0<(qu t i).cn->∀ b q,(qu t i).ca=zO b q->w.heap.size<=b/\b<L)/\OwnBks w' L (.slice M O Q) ai/\O=ai.length/\zg ai=zg b/\(∀ i,i<O->(0<(bk ai i).rq.pn->∀ g q,(bk ai i).rq.pa=zO g q->L<=g)/\(0<(bk ai i).bn->∀ g q,(bk ai i).ba=zO g q->L<=g))/\Below w.heap.size w w':=by
 obtain ⟨S,aQ⟩:=qA (w.heap.size);obtain ⟨G,ap⟩:=qB ((w.alloc (.cells (zS c n af r ag ao O aj) 40)).alloc (.cells zZ 40));have W:Below w.heap.size w G:=by rw [ap];exact (zr _ _).alloc (by simp) _
 have ae:zj G S (zI c) (zI n) (.slice af r ag) (.slice ao O aj):=by unfold zj;rw [ap,<-aQ];exact (Below.heap_alloc _ _ _ (by simp)).trans (heap_alloc_new w _)
 have bM:zj G (S+1) (zI 0) (zI 0) zN zN:=by
  have:=heap_alloc_new (w.alloc (.cells (zS c n af r ag ao O aj) 40)) (.cells zZ 40);rw [World.size_alloc,aQ] at this;unfold zj;rw [ap];exact this
 have bb:G.heap.size=S+2:=by rw [ap,<-aQ];simp
 have ci:=zh fun X (az:Below G.heap.size G X)=>TX X af r ag l ((h.1.later W).later az) aD.t0 aD.t1 aD.caps;have aw:=zh h.2;have a1:=zh aD;have cd:=zh ap;have bW:=zh W;have b0:=zh ae;have cb:=zh bM;have bp:=zh bb;have aH:=zh aQ;obtain ⟨bx,c1,c2,c3⟩:=ae.cells;have bR:=zh bx;have bS:=zh c1;have bT:=zh c2;clear ap W ae bM bb h aD bx c1 c2 c3;go_enter Tryz.func23,Tryz.ntmps23;go_wp2_with fail
 rw [<-cd.o];go_cut [3] (fun p aZ=>∃ cj,cj=aZ/\∃ f g x t,p=.pointer (zO f 0)/\zj aZ f (zI c) (zI n) (.slice (zO g 0) r x) zN/\G.heap.size<=f/\g≠f/\OwnQs aZ G.heap.size (.slice (zO g 0) r x) t/\r=t.length/\zi t=zi l/\(∀ i,i<r->0<(qu t i).cn->∀ b q,(qu t i).ca=zO b q->G.heap.size<=b/\b≠f)/\Below G.heap.size G aZ)
 case first =>
  refine wN ((Tryz.f23.body.bind fun c=>yi c 1).getD #[]) (by kernel_rfl) [zl (.pointer (zO S 0)),zl (zI c),zl (.pointer (zO S 1)),zl (zI n),zl (.pointer (zO S 2)),zl (.slice af r ag),⟨fun u R=>∃ g x t,u=.slice (zO g 0) r x/\OwnQs R G.heap.size (.slice (zO g 0) r x) t/\r=t.length/\zi t=zi l/\(∀ i,i<r->0<(qu t i).cn->∀ b q,(qu t i).ca=zO b q->G.heap.size<=b/\Qh R b 55),fun _ _ _ ⟨g,x,t,B,H,Z,al,ad⟩ a=>⟨g,x,t,B,⟨H.later a,Z,al,fun i y D b q e=>⟨(ad i y D b q e).1,(ad i y D b q e).2.later a⟩⟩⟩⟩,⟨fun u R=>∃ g x t,u=.agg (zS c n (zO g 0) r x none 0 0)/\OwnQs R G.heap.size (.slice (zO g 0) r x) t/\r=t.length/\zi t=zi l/\(∀ i,i<r->0<(qu t i).cn->∀ b q,(qu t i).ca=zO b q->G.heap.size<=b/\Qh R b 55),fun _ _ _ ⟨g,x,t,B,H,Z,al,ad⟩ a=>⟨g,x,t,B,⟨H.later a,Z,al,fun i y D b q e=>⟨(ad i y D b q e).1,(ad i y D b q e).2.later a⟩⟩⟩⟩,⟨fun u R=>∃ f,u=.pointer (zO f 0)/\zj R f (zI 0) (zI 0) zN zN/\G.heap.size<=f,fun _ _ _ ⟨f,B,H,Z⟩ a=>⟨f,B,H.later a,Z⟩⟩,zl undef] 9 (by kernel_rfl) (by kernel_rfl) (by kernel_rfl) ?hstep
  case hstep =>
   refine zc.cons 1 rfl ?_ ?_
   ·intro T w' a Y z s;rw [if_neg (by decide)];have I:T.getD 1 undef=.pointer (zO S 0):=z 1;exact zs (by go_simp) rfl
   refine zc.cons 2 rfl ?_ ?_
   ·intro T w' a Y z s;rw [if_neg (by decide)];have I:T.getD 5 undef=_:=s 0 5;have aP:=cell_later a bR.o;exact zs (by go_simp) rfl
   refine zc.cons 3 rfl ?_ ?_
   ·intro T w' a Y z s;rw [if_neg (by decide)];have I:T.getD 1 undef=.pointer (zO S 0):=z 1;exact zs (by go_simp) rfl
   refine zc.cons 4 rfl ?_ ?_
   ·intro T w' a Y z s;rw [if_neg (by decide)];have I:T.getD 7 undef=_:=s 2 7;have aP:=cell_later a bS.o;exact zs (by go_simp) rfl
   refine zc.cons 5 rfl ?_ ?_
   ·intro T w' a Y z s;rw [if_neg (by decide)];have I:T.getD 1 undef=.pointer (zO S 0):=z 1;exact zs (by go_simp) rfl
   refine zc.cons 6 rfl ?_ ?_
   ·intro T w' a Y z s;rw [if_neg (by decide)];have I:T.getD 9 undef=_:=s 4 9;have aP:=cell_later a bT.o;exact zs (by go_simp) rfl
   refine zc.cons 7 rfl ?_ ?_
   ·intro T w' a Y z s;rw [if_neg (by decide)];have I:T.getD 10 undef=_:=s 5 10;refine Or.inr ⟨58,#[.slice af r ag],by go_simp,?_⟩;refine (ci.o w' a).mono ?_;rintro e bh ⟨g,x,t,rfl,aa,z,aq,an,aE⟩;exact ⟨_,rfl,⟨g,x,t,rfl,aa.base a.size,z,aq,fun i y D b q e=>⟨Nat.le_trans a.size (aE i y D b q e).1,(aE i y D b q e).2⟩⟩,an⟩
   refine zc.cons 8 rfl ?_ ?_
   ·intro T w' a Y z s;rw [if_neg (by decide)];have I:T.getD 6 undef=_:=s 1 6;have B:T.getD 8 undef=_:=s 3 8;obtain ⟨g,x,t,H,aa⟩:=s 6 11;have cL:T[6]?.getD undef=zI c:=(by rw [<-I];simp);have cr:T[8]?.getD undef=zI n:=(by rw [<-B];simp);have cM:T[11]?.getD undef=.slice (zO g 0) r x:=(by rw [<-H];simp);exact Or.inl ⟨.agg (zS c n (zO g 0) r x none 0 0),w',by go_simp,⟨g,x,t,rfl,aa⟩,Below.refl _ _⟩
   refine zc.cons 9 rfl ?_ ?_
   ·intro T w' a Y z s;rw [if_neg (by decide)];exact Or.inl ⟨.pointer (zO w'.heap.size 0),w'.alloc (.cells zZ 40),by go_simp,⟨_,rfl,zj.new w' _ _ _ _,a.size⟩,zr _ _⟩
   refine zc.cons 10 rfl ?_ ?_
   ·intro T w' a Y z s;rw [if_pos rfl]
    replace Y:=Y.resolve_right (fun h=>h rfl)
    obtain ⟨g,x,t,I,aa,ar,aq,aE⟩:=s 7 12;obtain ⟨f,B,ae,am⟩:=s 8 3;obtain ⟨c5,c6,c7,c8⟩:=ae.cells;have c9:∀ m,w'.frozen? (zA f m)=false:=fun m=>frozen_of_row w' f m _ _ ae;have ba:=zk w' f 40 _ _ _ _ (zI c) (zI n) (.slice (zO g 0) r x) zN ae;have cx:Below G.heap.size G ((((w'.setCell (zA f 0) (zI c)).setCell (zA f 1) (zI n)).setCell (zA f 2) (.slice (zO g 0) r x)).setCell (zA f 3) zN):=(((a.setCell (p:=(zA f 0)) am _).setCell (p:=(zA f 1)) am _).setCell (p:=(zA f 2)) am _).setCell (p:=(zA f 3)) am _;have aB:g≠f:=fun e=>by subst e;exact Lo aa.row ae
    have bH:∀ i,i<r->0<(qu t i).cn->∀ b q,(qu t i).ca=zO b q->b≠f:=fun i y D b q e ax=>by subst ax;exact JJ (aE i y D b q e).2 ae
    have cw:OwnQs ((((w'.setCell (zA f 0) (zI c)).setCell (zA f 1) (zI n)).setCell (zA f 2) (.slice (zO g 0) r x)).setCell (zA f 3) zN) G.heap.size (.slice (zO g 0) r x) t:=aa.keep (fun k e=>ba.2 k (fun ax=>aB ((xP.1 e).trans ax))) (fun i y D b q e=>ba.2 b (bH i (by omega) D b q e));refine ⟨((((w'.setCell (zA f 0) (zI c)).setCell (zA f 1) (zI n)).setCell (zA f 2) (.slice (zO g 0) r x)).setCell (zA f 3) zN),by go_simp,?_⟩;show _;rw [yb (tt 3 [false,true,false,false,false,false,false,false,false,false] 19) (by kernel_rfl) Y @z];obtain ⟨us,av⟩:∃ us:Nat->Value,(fun d=>T.getD d undef)=us:=⟨_,rfl⟩;rw [av];have cp:us 3=.pointer (zO f 0):=(by rw [<-av];exact B);clear av z Y s;apply_assumption;simp only [xj,tt,List.replicate,List.cons_append,List.nil_append];go_meet;exact ⟨_,rfl,f,g,x,t,cp,ba.1,am,aB,cw,ar,aq,fun i y D b q e=>⟨(aE i y D b q e).1,bH i y D b q e⟩,cx⟩
   exact trivial
 case rest =>
  obtain ⟨br,rfl,f,g,x,t,rfl,a8,am,aB,aa,ar,aq,a9,aS⟩:=hcut;obtain ⟨L,bD⟩:=qA (br.heap.size);have bB:f<L:=by have:=(Array.getElem?_eq_some_iff.1 a8).1;omega
  have bK:=aa.row.lt g (xP.2 rfl);have aV:g<L:=by omega
  have bI:∀ i,i<r->0<(qu t i).cn->∀ b q,(qu t i).ca=zO b q->G.heap.size<=b/\b<L/\b≠f:=fun i y D b q e=>⟨(a9 i y D b q e).1,by have:=(aa.caps i (by omega)).lt D e;omega,(a9 i y D b q e).2⟩;have bl:=zh bI;have b6:=zh aa;have b3:=zh ar;have bY:=zh aq;have bX:=zh aS;have b5:=zh bD;have cf:=zh a8;have bm:=zh (And.intro bK.1 aB);have cO:S+2<=f:=by have:=bp.o;omega
  have cc:=zh (b0.o.later aS);have b9:=zh (cb.o.later aS);have cR:=a1.o.b1;have cP:=aw.o.capb;have cQ:=aw.o.le;clear a9 aa ar aq aS bD a8 bK bI am aB;go_wp2_with fail
  go_loopg [4] O (fun cq (p:Value) wr=>∃ (k:Nat) (M:Option Addr) (U:Nat) (lb:BL),p=zI k/\k<=O/\cq=O-k/\Laid wr L f c n (.slice (zO g 0) r x) t M k U lb/\zg lb=zg (b.take k)/\(∀ j,j<L->j≠f->wr.heap[j]?=br.heap[j]?)/\Below S w wr)
  case atStart =>
   refine ⟨0,none,0,[],rfl,by omega,by omega,⟨cf.o,⟨World.ownsRow_nil _ _ _ _,fun i y=>absurd y (Nat.not_lt_zero i),fun i y=>absurd y (Nat.not_lt_zero i),fun i y=>absurd y (Nat.not_lt_zero i),fun i y=>absurd y (Nat.not_lt_zero i)⟩,rfl,fun i y=>absurd y (Nat.not_lt_zero i),by have:=b5.o;omega,bB⟩,rfl,fun j _ _=>rfl,?_⟩;have:=za bW.o bX.o;rw [aH.o] at this;exact this
  obtain ⟨k,M,U,lb,rfl,cU,rfl,N,an,aA,aU⟩:=hrel;have cv:=N.size;have cu:S<=wr.heap.size:=by omega
  have bC:f<wr.heap.size:=by omega
  have cs:S<=f:=by omega
  have bi:=zh an;have a0:=zh aA;have bj:=zh aU;have b4:=zh N;have bg:zj wr S (zI c) (zI n) (.slice af r ag) (.slice ao O aj):=(aA S (by omega) (by omega)).trans cc.o;have a7:Below w.heap.size w wr:=by rw [aH.o];exact aU
  obtain ⟨cl,cm,co,bz⟩:=N.box.cells;obtain ⟨bN,bO,bP,bQ⟩:=bg.cells;by_cases aC:k<O
  ·have cW:(k:Int)<O:=(by omega);have aT:=aw.o.later a7;obtain ⟨bv,bw,bF,bG⟩:=aT.cells (by omega);obtain ⟨aI,aJ,aK,aL,aM,aN,aO⟩:=bG k aC;have a5:=aT.rqs k aC;have a4:=aT.bites k aC;obtain ⟨bc,bd⟩:=a1.o.ps k aC;obtain ⟨be,bf⟩:=a1.o.bs k aC;obtain ⟨X,az⟩:=qA (bk b k);rw [az] at aI aJ aK aL aM aN aO a5 a4 bc bd be bf;rw [bF] at bQ;have aI:=zh aI;have aJ:=zh aJ;have aK:=zh aK;have aL:=zh aL;have aM:=zh aM;have aN:=zh aN;have aO:=zh aO;have ce:=zh az;have bV:=zh bQ;have bU:=zh bz;have ch:=zh fun bq (bE:Below wr.heap.size wr bq)=>Vd bq X (zH.later a5 bE) (a4.later bE) bc bd be bf;have bo:=zh N.own;have bn:=zh N.len;have b2:=zh N.offP;have cC:k<=12:=(by omega);have ct:S<=L:=(by omega);have a2:Zh (∀ ay,(Value.slice M k U).ownBlock=some ay->ay≠f/\ay<wr.heap.size):=fun ay e=>by have:=N.own.row.lt ay e;omega
   have cg:Zh (zj wr f (zI c) (zI n) (.slice (zO g 0) r x) (.slice M k U)/\some f≠(Value.slice M k U).ownBlock):=⟨N.box,fun e=>(a2.o f e.symm).1 rfl⟩;clear aT bG a5 a4 bc bd be bf az N an aA aU bg cl cm co bz bN bO bP a7;subst bF;go_wp2_with fail
   refine Zl ((Tryz.f23.body.bind fun c=>yi c 5).getD #[]) (by kernel_rfl) [zl (.pointer (zO f 3)),zl (.slice M k U),zl (.pointer (zO S 3)),zl (.slice (zO bv bw) O aj),zl (zI k),zl (.pointer (zO bv (bw+k*7))),zl (.agg #[zI X.id,zI X.rq.queue,zI X.rq.fr,zI X.rq.un,zI X.rq.kind,.slice X.rq.pa X.rq.pn X.rq.pc,.slice X.ba X.bn X.bc]),⟨fun u R=>∃ C E A F,u=.agg #[zI X.id,zI X.rq.queue,zI X.rq.fr,zI X.rq.un,zI X.rq.kind,.slice (zO C 0) X.rq.pn E,.slice (zO A 0) X.bn F]/\RunsIn R (zO C 0) X.rq.pn E X.rq.ps/\RunsIn R (zO A 0) X.bn F X.bs/\wr.heap.size<=C/\wr.heap.size<=A,fun _ _ _ ⟨C,E,A,F,B,H,Z,al,ad⟩ a=>⟨C,E,A,F,B,H.later a,Z.later a,al,ad⟩⟩,⟨fun u R=>∃ C E A F ak,u=.slice (zO ak 0) 1 1/\R.heap[ak]?=some (.cells #[zI X.id,zI X.rq.queue,zI X.rq.fr,zI X.rq.un,zI X.rq.kind,.slice (zO C 0) X.rq.pn E,.slice (zO A 0) X.bn F] 60 (0,0))/\RunsIn R (zO C 0) X.rq.pn E X.rq.ps/\RunsIn R (zO A 0) X.bn F X.bs/\wr.heap.size<=C/\wr.heap.size<=A,fun _ _ _ ⟨C,E,A,F,ak,B,bA,H,Z,al,ad⟩ a=>⟨C,E,A,F,ak,B,(a.block _ (Array.getElem?_eq_some_iff.1 bA).1).trans bA,H.later a,Z.later a,al,ad⟩⟩,⟨fun u R=>∃ C E A F V Q,u=.slice (zO V 0) (k+1) Q/\Made R wr L L f M k U lb ⟨X.id,⟨X.rq.queue,X.rq.fr,X.rq.un,X.rq.kind,zO C 0,X.rq.pn,E,X.rq.ps⟩,zO A 0,X.bn,F,X.bs⟩ V Q,fun _ _ _ ⟨C,E,A,F,V,Q,B,H⟩ a=>⟨C,E,A,F,V,Q,B,H.later a⟩⟩,zl (.pointer (zO f 3)),⟨fun u R=>u=undef/\∃ C E A F V Q,Put R wr L f M k U lb ⟨X.id,⟨X.rq.queue,X.rq.fr,X.rq.un,X.rq.kind,zO C 0,X.rq.pn,E,X.rq.ps⟩,zO A 0,X.bn,F,X.bs⟩ V Q c n (.slice (zO g 0) r x),fun _ _ _ ⟨e,C,E,A,F,V,Q,H⟩ a=>⟨e,C,E,A,F,V,Q,H.later a⟩⟩] [] [(9,[7,8]),(11,[7,8,9])] S (cu) (by kernel_rfl) (by kernel_rfl) (by kernel_rfl) (by kernel_rfl) ?hg ?hstep ?hfin
   case hg =>
    intro g hg v w h;cases hg
   case hstep =>
    refine zc.cons 1 rfl ?_ ?_
    ·intro T w' J W z s;show zu Tryz.prog _ _ _ _;have a:=J (by kernel_rfl);have I:T.getD 3 undef=.pointer (zO f 0):=z 3;exact zs (by go_simp) rfl
    refine zc.cons 2 rfl ?_ ?_
    ·intro T w' J W z s;show zu Tryz.prog _ _ _ _;have a:=J (by kernel_rfl);have I:T.getD 20 undef=_:=s 0 20;have aP:=cell_later a bU.o;exact zs (by go_simp) rfl
    refine zc.cons 3 rfl ?_ ?_
    ·intro T w' J W z s;show zu Tryz.prog _ _ _ _;have a:=J (by kernel_rfl);have I:T.getD 1 undef=.pointer (zO S 0):=z 1;exact zs (by go_simp) rfl
    refine zc.cons 4 rfl ?_ ?_
    ·intro T w' J W z s;show zu Tryz.prog _ _ _ _;have a:=J (by kernel_rfl);have I:T.getD 22 undef=_:=s 2 22;have aP:=cell_later a bV.o;exact zs (by go_simp) rfl
    refine zc.cons 5 rfl ?_ ?_
    ·intro T w' J W z s;show zu Tryz.prog _ _ _ _;have a:=J (by kernel_rfl);have I:T.getD 4 undef=zI k:=z 4;exact zs (by go_simp) rfl
    refine zc.cons 6 rfl ?_ ?_
    ·intro T w' J W z s;show zu Tryz.prog _ _ _ _;have a:=J (by kernel_rfl);have I:T.getD 23 undef=_:=s 3 23;have B:T.getD 24 undef=_:=s 4 24;exact zs (by go_simp) rfl
    refine zc.cons 7 rfl ?_ ?_
    ·intro T w' J W z s;show zu Tryz.prog _ _ _ _;have a:=J (by kernel_rfl);have I:T.getD 25 undef=_:=s 5 25;have cE:=cell_later a aI.o;have cF:=cell_later a aJ.o;have cG:=cell_later a aK.o;have cH:=cell_later a aL.o;have cI:=cell_later a aM.o;have cJ:=cell_later a aN.o;have cK:=cell_later a aO.o;exact zs (by go_simp) rfl
    refine zc.cons 8 rfl ?_ ?_
    ·intro T w' J W z s;show zu Tryz.prog _ _ _ _;have a:=J (by kernel_rfl);have I:T.getD 26 undef=_:=s 6 26;refine Or.inr ⟨59,#[.agg #[zI X.id,zI X.rq.queue,zI X.rq.fr,zI X.rq.un,zI X.rq.kind,.slice X.rq.pa X.rq.pn X.rq.pc,.slice X.ba X.bn X.bc]],by go_simp,?_⟩;refine (ch.o w' a).mono ?_;rintro e bh ⟨C,E,A,F,rfl,aF,aG,aW,aX,an⟩;exact ⟨_,rfl,⟨C,E,A,F,rfl,aF,aG,Nat.le_trans a.size aW,Nat.le_trans a.size aX⟩,an⟩
    refine zc.cons 9 rfl ?_ ?_
    ·intro T w' J W z s;show zu Tryz.prog _ _ _ _;have a:=J (by kernel_rfl);obtain ⟨C,E,A,F,B,aF,aG,aW,aX⟩:=s 7 27;have cr:T[27]?.getD undef=.agg #[zI X.id,zI X.rq.queue,zI X.rq.fr,zI X.rq.un,zI X.rq.kind,.slice (zO C 0) X.rq.pn E,.slice (zO A 0) X.bn F]:=(by rw [<-B];simp);exact Or.inl ⟨.slice (zO w'.heap.size 0) 1 1,w'.alloc (.cells #[zI X.id,zI X.rq.queue,zI X.rq.fr,zI X.rq.un,zI X.rq.kind,.slice (zO C 0) X.rq.pn E,.slice (zO A 0) X.bn F] 60),by go_simp,⟨C,E,A,F,w'.heap.size,rfl,heap_alloc_new w' _,aF.later (zr _ _),aG.later (zr _ _),aW,aX⟩,zr _ _⟩
    refine zc.cons 10 rfl ?_ ?_
    ·intro T w' J W z s;show Xd Tryz.prog _ _ _ _ _ _ _ _ _;have a:=J (by kernel_rfl);have I:T.getD 21 undef=_:=s 1 21;obtain ⟨C,E,A,F,ak,B,aV,aF,aG,aW,aX⟩:=s 8 28;obtain ⟨V,Q,bh,cD,a3,a6⟩:=PZ w' wr L L f M k U lb ⟨X.id,⟨X.rq.queue,X.rq.fr,X.rq.un,X.rq.kind,zO C 0,X.rq.pn,E,X.rq.ps⟩,zO A 0,X.bn,F,X.bs⟩ ak 38 bo.o a aV bn.o cC cv bC aF b2.o (Nat.le_refl _) (fun _ b q e=>by injection e with e;injection e with e;omega) a2.o (fun _ b q e=>by injection e with e;injection e with e;subst e;exact ⟨by omega,fun ax=>by have:=(a2.o A ax).2;omega⟩) aG;refine ⟨.slice (zO V 0) (k+1) Q,bh,Or.inl (Ze (.tmp 21) (.tmp 28) 38 rfl (.slice M k U) (.slice (zO ak 0) 1 1) I B cD),(fun h=>by cases h),⟨C,E,A,F,V,Q,rfl,a3⟩,a6.mono ct,?_⟩;intro i B H Z u P
     match i with
     | 0=>exact P
     | 1=>exact P
     | 2=>exact P
     | 3=>exact P
     | 4=>exact P
     | 5=>exact P
     | 6=>exact P
     | 7=>exact absurd H (by decide)
     | 8=>exact absurd H (by decide)
     | 9=>exact absurd rfl B
     | 10=>exact P
     | 11=>exact absurd (Z.symm.trans (by kernel_rfl:_=true)) (by decide)
     | n+12=>exact P
    refine zc.cons 11 rfl ?_ ?_
    ·intro T w' J W z s;show zu Tryz.prog _ _ _ _;have I:T.getD 3 undef=.pointer (zO f 0):=z 3;exact zs (by go_simp) rfl
    refine zc.cons 12 rfl ?_ ?_
    ·intro T w' J W z s;show Xd Tryz.prog _ _ _ _ _ _ _ _ _;obtain ⟨C,E,A,F,V,Q,I,a3⟩:=s 9 29;have B:T.getD 30 undef=_:=s 10 30;obtain ⟨ab,cS,cT,a6⟩:=a3.put cg.o cs bC (W);refine ⟨undef,w'.setCell (zA f 3) (.slice (zO V 0) (k+1) Q),Or.inr ⟨by go_simp,rfl⟩,fun _=>rfl,⟨rfl,C,E,A,F,V,Q,ab⟩,a6,?_⟩;intro i B H Z u P
     match i with
     | 0=>exact P
     | 1=>exact P
     | 2=>exact P
     | 3=>exact P
     | 4=>exact P
     | 5=>exact P
     | 6=>exact P
     | 7=>exact absurd H (by decide)
     | 8=>exact absurd H (by decide)
     | 9=>exact absurd H (by decide)
     | 10=>exact P
     | 11=>exact absurd rfl B
     | n+12=>exact P
    exact trivial
   intro T w' a Y z s bJ;obtain ⟨_,C,E,A,F,V,Q,ab⟩:=bJ 11 (by kernel_rfl) (by kernel_rfl) (by kernel_rfl);rw [yb (tt 20 [false,false,false,false,false,false,false,false,false,false,false] 1) (by kernel_rfl) Y @z];obtain ⟨us,av⟩:∃ us:Nat->Value,(fun d=>T.getD d undef)=us:=⟨_,rfl⟩;rw [av];have b7:=zh ab;have bZ:=zh a;clear ab z s Y av a bJ;simp only [xj,tt,List.replicate,List.cons_append,List.nil_append];go_wp2;go_roundg (O-(k+1))
   case measure=>omega
   have ab:=b7.o;have cV:=bn.o;refine ⟨k+1,zO V 0,Q,_,by go_num,by omega,by omega,⟨ab.box,ab.own,by simp;omega,fun i y=>⟨ab.offP i y,ab.offB i y⟩,by have:=ab.size;omega,bB⟩,MG bi.o (by have:=aw.o.len;omega) (by rw [ce.o];rfl),fun j cB bL=>?_,bj.o.trans bZ.o⟩;rw [ab.blk j (by omega) bL (fun e=>by have:=bo.o.row.lt j e.symm;omega)];exact a0.o j cB bL
  obtain rfl:k=O:=by omega
  have aY:zj wr (S+1) (zI 0) (zI 0) zN zN:=(aA (S+1) (by omega) (by omega)).trans b9.o;obtain ⟨cX,cY,cZ,c0⟩:=aY.cells;have c4:∀ m,wr.frozen? (zA (S+1) m)=false:=fun m=>frozen_of_row wr (S+1) m _ _ aY;have b8:=zh aY;clear bg bN bO bP an aA aU a7 N aY;go_wp2_with fail
  obtain ⟨ah,aR⟩:=qB ((((wr.setCell ⟨S+1,0,none⟩ (zI c)).setCell ⟨S+1,1,none⟩ (zI n)).setCell ⟨S+1,2,none⟩ (.slice (some ⟨g,0,none⟩) r x)).setCell ⟨S+1,3,none⟩ (.slice M k U));rw [<-aR];have au:ah.heap[S+1]?=some (.cells (zS c n (zO g 0) r x M k U) 40 (0,0))/\∀ j,j≠S+1->ah.heap[j]?=wr.heap[j]?:=by
   rw [aR];exact zk wr (S+1) 40 _ _ _ _ (zI c) (zI n) (.slice (zO g 0) r x) (.slice M k U) b8.o
  have cy:Below w.heap.size w ah:=by
   rw [aR,aH.o];have B:S<=S+1:=(by omega);exact (((bj.o.setCell (p:=(zA (S+1) 0)) B _).setCell (p:=(zA (S+1) 1)) B _).setCell (p:=(zA (S+1) 2)) B _).setCell (p:=(zA (S+1) 3)) B _
  clear aR;have bb:=bp.o;have N:=b4.o;have ar:=b3.o;have cA:OwnQs ah w.heap.size (.slice (zO g 0) r x) t:=by
   have B:OwnQs ah G.heap.size (.slice (zO g 0) r x) t:=b6.o.keep (fun j e=>by
    have e:=xP.1 e;subst e;have:=bm.o;rw [au.2 g (by omega),a0.o g aV this.2]) (fun i y D j q e=>by
    obtain ⟨ck,bt,bu⟩:=bl.o i (by omega) D j q e;rw [au.2 j (by omega),a0.o j bt bu])
   exact B.base (by rw [aH.o];omega)
  have cz:OwnBks ah L (.slice M k U) lb:=N.own.blocks (fun j e=>au.2 j (by have:=N.own.row.lt j e;omega)) (fun i y D j q e=>au.2 j (by have:=(N.offP i y).1 D j q e;omega)) (fun i y D j q e=>au.2 j (by have:=(N.offP i y).2 D j q e;omega));refine bodyPost_ret (v:=.agg (zS c n (zO g 0) r x M k U)) (results_cell_row Tryz.results23 _ _ (S+1) 40 (zS c n (zO g 0) r x M k U) (0,0) _ rfl au.1 Tryz.underlying40 rfl (by kernel_rfl)) rfl ?_;refine ⟨L,g,x,t,M,U,lb,rfl,by have:=bm.o.1;omega,aV,cA,ar,bY.o,fun i y D j q e=>?_,cz,N.len,?_,fun i y=>⟨fun D j q e=>((N.offP i (by have:=N.len;omega)).1 D j q e).1,fun D j q e=>((N.offP i (by have:=N.len;omega)).2 D j q e).1⟩,cy⟩
  ·obtain ⟨ck,bt,bu⟩:=bl.o i y D j q e;omega
  rw [bi.o,aw.o.len,List.take_length]
end Go.Proofs.YtckpdfkobdgjeaaGreatDoor
