/- Several texts in one: CutV, CutW, CutX, LogE. -/
import Derived.WalkLawsBesides
import Derived.BigQuiet
import Derived.Test.YtckpdfkobdgjeaaGreatDoorHAll15
import Derived.Test.YtckpdfkobdgjeaaGreatDoorHAll7
namespace Go.Proofs.YtckpdfkobdgjeaaGreatDoor
set_option maxRecDepth 100000
set_option maxHeartbeats 4000000
open Go.RowKit
def LC (c:Int) (X Y:Bk):Prop:=Y.id=X.id/\Y.rq=X.rq/\∀ i,i<Y.bs.length->c<=rN Y.bs i
structure StlFacts (c n:Int) (l:QL) (b1 aw:BL) (j:Nat) (b:BL) (mv dr:List Int):Prop where
 sound:Sound c n l b
 le:j<=aw.length
 told:(mv++dr).Perm ((aw.take j).map Bk.id)
 ids:(b.map Bk.id).Perm (b1.map Bk.id++mv)
 each:∀ y∈b,y∈b1\/y.id∈mv/\∃ X∈aw,LC c X y
theorem Stl.facts {c n:Int} {l:QL} {b1 a:BL} (q:Sound c n l b1) (s:∀ x∈a,ZZ l x=0) (t:∀ x∈a,0<=x.id/\x.id<n) (m:(b1.map Bk.id++a.map Bk.id).Nodup) (A:b1.length+a.length<=12) {j:Nat} {b:BL} {mv dr:List Int} (h:Stl c l b1 a j b mv dr):StlFacts c n l b1 a j b mv dr:=by
 induction h with
 | start=>exact ⟨q,Nat.zero_le _,by simp,by simp,fun y d=>Or.inl d⟩
 | @moved j b mv dr fa fm fc hs hj hr ih =>
  have k:=yx hj;have B:=hs.few;have v:∀ y∈b,y.id≠(bk a j).id:=by
   intro y d e;have f:=ih.ids.subset (List.mem_map_of_mem d);rw [List.nodup_append] at m;rcases List.mem_append.1 f with f | f
   ·exact m.2.2 _ f _ (List.mem_map_of_mem k) e
   have g:=ih.told.subset (List.mem_append_left dr f);rw [List.map_take,List.mem_take_iff_getElem] at g;obtain ⟨i,u,g⟩:=g;have r:=List.pairwise_iff_getElem.1 m.2.1 i j (by simp at u ⊢;omega) (by simpa using hj) (by omega);apply r;rw [g,e,wI hj,List.getElem_map]
  obtain ⟨w,z⟩:=Jo (fa:=fa) (fm:=fm) (fc:=fc) ih.sound (s _ k) (t _ k) v (by omega) hr;refine ⟨w,hj,?_,?_,fun y d=>?_⟩
  ·rw [List.take_succ_eq_append_getElem hj,List.map_append,List.append_assoc];refine (List.Perm.append_left mv List.perm_append_comm).trans ?_;rw [<-List.append_assoc];refine (ih.told.append_right _).trans ?_;rw [wI hj];exact List.Perm.refl _
  ·refine ((Tp _ _).map Bk.id).trans ?_;rw [List.map_cons,<-List.append_assoc];refine (List.Perm.cons _ ih.ids).trans ?_;exact (List.perm_append_singleton _ _).symm
  rcases UO d with e | d
  ·refine Or.inr ⟨?_,bk a j,k,?_⟩
   ·rw [e];simp
   rw [e];exact ⟨rfl,rfl,z⟩
  rcases ih.each y d with e | ⟨o,p⟩
  ·exact Or.inl e
  exact Or.inr ⟨List.mem_append_left _ o,p⟩
 | @dropped j b mv dr hs hj hr ih =>
  refine ⟨ih.sound,hj,?_,ih.ids,ih.each⟩;rw [List.take_succ_eq_append_getElem hj,List.map_append,<-List.append_assoc];refine (ih.told.append_right _).trans ?_;rw [wI hj];exact List.Perm.refl _
theorem L4 {b:BL} (h:(b.map Bk.id).Nodup) {x y:Bk} (k:x∈b) (l:y∈b) (e:x.id=y.id):x=y:=by
 obtain ⟨i,d,rfl⟩:=List.getElem_of_mem k;obtain ⟨j,f,rfl⟩:=List.getElem_of_mem l;have c:=List.pairwise_iff_getElem.1 h;by_cases a:i=j
 ·subst a;rfl
 exfalso;rcases Nat.lt_or_gt_of_ne a with g | g
 ·have:=c i j (by simpa using d) (by simpa using f) g;simp only [List.getElem_map] at this;exact this e
 have:=c j i (by simpa using f) (by simpa using d) g;simp only [List.getElem_map] at this;exact this e.symm
structure CutFacts (c n:Int) (l:QL) (b0 b:BL) (mv dr:List Int):Prop where
 sound:Sound c n l b
 len:b.length+dr.length=b0.length
 few:mv.length<=12/\dr.length<=12
 each:∀ X∈b0,(mv.count X.id=0/\dr.count X.id=0/\X∈b)\/(mv.count X.id=1/\dr.count X.id=0/\∃ Y∈b,LC c X Y)\/(mv.count X.id=0/\dr.count X.id=1/\∀ Y∈b,Y.id≠X.id)
theorem Q5 {c n:Int} {l:QL} {i b1 k b:BL} {mv dr:List Int} (t:Clean l i) (w:0<=c) (c1:c<=48) (ae:0<=n) (af:n<=1048576) (G:Up i) (O:∀ x∈i,0<=x.id/\x.id<n) (B:∀ x∈i,c<yA x) (h:Lit c l i b1 k) (o:∀ J,c<=J->J<48->∀ q,q<l.length->yw l b1 J q=false) (E:Stl c l b1 k k.length b mv dr):CutFacts c n l i b mv dr:=by
 obtain ⟨S,am⟩:=h.all t w G;obtain ⟨aj,ak,R,al⟩:=h.clean t w;have L:(b1.map Bk.id++k.map Bk.id).Nodup:=by
  rw [<-List.map_append];exact (S.map Bk.id).nodup_iff.2 G.nodup
 have ag:=t.few;have F:=E.facts (n:=n) (h.sound t w c1 ae af G O B o) (fun x I=>by
  obtain ⟨j,Z,e⟩:=yT (R x I);rw [<-e];exact t.each j Z) (fun x I=>O x (R x I)) L (by omega)
 have u:=F.told;rw [List.take_length] at u;have ai:mv.length+dr.length=k.length:=by
  have:=u.length_eq;simpa using this
 have ah:b.length=b1.length+mv.length:=by
  have:=F.ids.length_eq;simpa using this
 have r:=List.nodup_append.1 L;have aa:(mv++dr).Nodup:=u.nodup_iff.2 r.2.1;have v:=List.nodup_append.1 aa;have Y:∀ X∈i,X∈b1\/X∈k:=fun X A=>List.mem_append.1 (S.symm.subset A);have M:∀ {s:List Int} {a:Int},s.Nodup->a∈s->s.count a=1:=fun E B=>by
  have p:=List.nodup_iff_count.1 E;have m:=List.count_pos_iff.2 B;exact Nat.le_antisymm (p _) m
 refine ⟨F.sound,by omega,by omega,fun X A=>?_⟩;rcases Y X A with C | H
 ·have o:X.id∉mv++dr:=fun e=>by
   exact r.2.2 _ (List.mem_map_of_mem C) _ (u.subset e) rfl
  rw [List.mem_append,not_or] at o;refine Or.inl ⟨List.count_eq_zero.2 o.1,List.count_eq_zero.2 o.2,?_⟩;have p:=F.ids.symm.subset (List.mem_append_left mv (List.mem_map_of_mem (f:=Bk.id) C));obtain ⟨y,d,e⟩:=List.mem_map.1 p;rcases F.each y d with g | ⟨g,_⟩
  ·rw [<-L4 r.1 g C e];exact d
  ·rw [e] at g;exact absurd g o.1
 have p:X.id∈mv++dr:=u.symm.subset (List.mem_map_of_mem H);have P:∀ y∈b1,y.id≠X.id:=fun y d e=>r.2.2 _ (List.mem_map_of_mem d) _ (List.mem_map_of_mem H) e;rcases List.mem_append.1 p with D | N
 ·have ab:X.id∉dr:=fun e=>v.2.2 _ D _ e rfl;refine Or.inr (Or.inl ⟨M v.1 D,List.count_eq_zero.2 ab,?_⟩);have m:=F.ids.symm.subset (List.mem_append_right (b1.map Bk.id) D);obtain ⟨y,d,e⟩:=List.mem_map.1 m;rcases F.each y d with g | ⟨_,U,W,g⟩
  ·exact absurd e (P y g)
  have:U=X:=L4 r.2.1 W H (g.1.symm.trans e);rw [this] at g;exact ⟨y,d,g⟩
 have Q:X.id∉mv:=fun e=>v.2.2 _ e _ N rfl;refine Or.inr (Or.inr ⟨List.count_eq_zero.2 Q,M v.2.1 N,fun y d e=>?_⟩);have m:=F.ids.subset (List.mem_map_of_mem (f:=Bk.id) d);rw [e] at m;rcases List.mem_append.1 m with g | g
 ·obtain ⟨z,ad,V⟩:=List.mem_map.1 g;exact P z ad V
 exact Q g
theorem Stl.ids {c:Int} {l:QL} {b1 d b:BL} {j:Nat} {mv dr:List Int} (h:Stl c l b1 d j b mv dr):∀ i,i∈mv\/i∈dr->∃ x∈d,x.id=i:=by
 induction h with
 | start=>intro i a;rcases a with a | a <;> cases a
 | moved _ hj _ ih =>
  intro i a;rw [List.mem_append,List.mem_singleton] at a;rcases a with (a | a) | a
  ·exact ih i (Or.inl a)
  ·exact ⟨_,yx hj,a.symm⟩
  exact ih i (Or.inr a)
 | dropped _ hj _ ih =>
  intro i a;rw [List.mem_append,List.mem_singleton] at a;rcases a with a | a | a
  ·exact ih i (Or.inl a)
  ·exact ih i (Or.inr a)
  exact ⟨_,yx hj,a.symm⟩
theorem Stl.nil {c:Int} {l:QL} {b1 b:BL} {mv dr:List Int} (h:Stl c l b1 [] 0 b mv dr):b=b1/\mv=[]/\dr=[]:=by
 cases h
 exact ⟨rfl,rfl,rfl⟩
theorem Qj (w:World) (a:Option Addr) (n c:Nat) (b:List Value) (B:b.length=n*2) (hn:n<=1048576) (p:∀ f,a=some f->∀ j d,b[j]?=some d->w.cell? (f.add j)=some d) (v:∀ d∈b,d.oneCell'=true) (m:a=none->n=0) :
 zC 94 #[.slice a n c] w fun e w'=>∃ g,e=.returned g/\w'.ownsRow w.heap.size 55 2 g n b/\Below w.heap.size w w':=by
 have E:∀ (w:World) (a:Option Addr) (n c l h:Nat),(binOp .eql 25 (.slice a n c) (.slice none l h)).run Tryz.prog w=.ok (.bool a.isNone) w:=fun w a n c l h=>Lib.run_eql_slice_nil w _ _ a n c l h Tryz.underlying25;obtain ⟨D,y,e⟩:=Option.map_eq_some_iff.1 (show (Tryz.prog.info? 55).map (fun i=>(i.zero,i.size,i.bytes))=some (some (.agg #[zI 0,zI 0]),2,16) from by kernel_rfl);simp only [Prod.mk.injEq] at e;obtain ⟨s,t,u⟩:=e;cases a with
 | none =>
  obtain rfl:=m rfl;have q:b=[]:=List.length_eq_zero_iff.1 (by omega);subst q;go_enter Tryz.func94,Tryz.ntmps94;go_wp2;go_ret;exact ⟨_,rfl,World.ownsRow_nil _ _ _ _,Below.refl _ _⟩
 | some f =>
  have r:=zh (p f rfl);clear p m;go_enter Tryz.func94,Tryz.ntmps94;go_wp2_with (at_builtin;refine wpList_append_own _ rfl _ _ 25 rfl w.heap.size 55 D _ 2 16 Tryz.underlying25 y s t u (by rfl) (by omega) _ _ _ rfl (World.ownsRow_made w #[] 0 (Nat.le_refl _) (Nat.zero_le _) (by simp)) f n c b rfl ?qc1 ?qc2 ?qc3 ?qc4 ?qc5 ?qc6 ?_)
  case qc1=>exact B
  case qc2 =>
   intro j d z;exact cell_later (zr _ _) (r.o j d z)
  case qc3=>exact v
  case qc4=>simp only [maxLen];omega
  case qc5=>omega
  case qc6=>simp
  intro g F C x q;go_wp2;go_ret;refine ⟨g,rfl,by simpa using C,?_⟩;exact ((Below.refl _ w).alloc (Nat.le_refl _) _).grown x (by simp) (by intro k A;simp [Value.ownBlock] at A;omega)
theorem QD {w:World} {B:Nat} {v:Value} {l:zd} (h:w.ownsRow B 55 2 v l.length (cellsOf l)) (u:l.length<=1048576):∃ a cap,v=.slice a l.length cap/\Wx w a l.length cap l/\∀ b c,a=zO b c->B<=b/\c=0:=by
 rcases h.2 with ⟨rfl,hn⟩ | ⟨g,cap,o,rfl,t,hg,p,q,x,s⟩
 ·refine ⟨none,0,by rw [hn],⟨⟨rfl,by omega,by omega,by omega,fun r=>by omega⟩,fun b c e=>by cases e⟩,fun b c e=>by cases e⟩
 refine ⟨zO g 0,cap,rfl,⟨⟨rfl,p,by omega,by simpa [maxLen] using q,fun r=>⟨g,0,rfl,fun i n=>?_⟩⟩,fun b c e _=>by
  injection e with e;injection e with j m;subst j;exact ⟨_,_,_,hg,by decide,by decide,by decide⟩⟩,fun b c e=>by
  injection e with e;injection e with j m;exact ⟨by omega,m.symm⟩⟩
 have key:∀ k f,(cellsOf l)[k]?=some f->w.cell? (zA g k)=some f:=by
  intro k f d;rw [<-s,List.getElem?_take] at d
  split at d
  ·rw [cell_of_row w g k o _ (0,0) hg];simpa using d
  cases d
 exact ⟨by rw [Nat.zero_add];exact key _ _ (xr l i n),by rw [Nat.zero_add];exact key _ _ (xJ l i n)⟩
theorem Sy (w:World) (a:Option Addr) (n cap:Nat) (l:zd) (h:RunsIn w a n cap l) (hn:n<=1048576) :
 zC 94 #[.slice a n cap] w fun e w'=>∃ c d,e=.returned (.slice c n d)/\Wx w' c n d l/\Below w.heap.size w w'/\∀ b f,c=zO b f->w.heap.size<=b:=by
 refine (Qj w a n cap (cellsOf l) (by rw [xL,h.len]) hn ?_ (YE l) ?_).mono ?_
 ·rintro q rfl j p o;exact h.list j p o
 ·rintro rfl;by_cases e:0<n
  ·obtain ⟨b,f,e,_⟩:=h.cells e;cases e
  omega
 ·rintro e w' ⟨r,rfl,k,m⟩;obtain ⟨c,d,rfl,g,i⟩:=QD (l:=l) (h.len ▸ k) (by have:=h.len;omega);exact ⟨c,d,by rw [h.len],by rw [h.len];exact g,m,fun b f e=>(i b f e).1⟩
theorem WO {g:Nat} {w:World} {p:Addr} {v:Value} (h:w.cell? p=some v) (a:p.block≠g):(Ui g w).cell? p=some v :=
 (World.cell?_of_block (w:=w) (w':=Ui g w) (World.putObj_heap_other a)).trans h
theorem RunsIn.off {g:Nat} {w:World} {a:Option Addr} {n cap:Nat} {l:zd} (h:RunsIn w a n cap l) (k:0<n->∀ b c,a=zO b c->b≠g):RunsIn (Ui g w) a n cap l:=by
 refine ⟨h.len,h.le,h.bound,h.capb,fun e=>?_⟩;obtain ⟨b,c,d,f⟩:=h.cells e;exact ⟨b,c,d,fun i j=>⟨WO (f i j).1 (k e b c d),WO (f i j).2 (k e b c d)⟩⟩
theorem QsIn.off {g:Nat} {w:World} {a:Option Addr} {n cap:Nat} {l:QL} (h:QsIn w a n cap l) (k:0<n->∀ b c,a=zO b c->b≠g) (m:∀ i,i<n->0<(qu l i).cn->∀ b c,(qu l i).ca=zO b c->b≠g):QsIn (Ui g w) a n cap l:=by
 refine ⟨h.len,h.le,h.capb,fun f=>?_,fun i d=>(h.caps i d).off (m i d),h.names⟩;obtain ⟨b,c,e,j⟩:=h.cells f;exact ⟨b,c,e,fun i d=>⟨WO (j i d).1 (k f b c e),WO (j i d).2.1 (k f b c e),WO (j i d).2.2 (k f b c e)⟩⟩
theorem UM {l:QL} (h:Clean l []) {q:Nat} (c:q<l.length) {t:Int} (a:0<=t) (b:t<48):yw l [] t q=false:=by
 cases e:yw l [] t q with
 | false=>rfl
 | true=>have:=XX h c a b e;cases this
theorem Nv (w:World) (c n:Int) (b:Option Addr) (g d:Nat) (l:QL) (ba:Option Addr) (a:Nat) (z:Clean l []) (U:0<=c) (V:c<=48) (x:zY w b g d l ba 0 a []) :
 zC 95 #[.agg (zS c n b g d ba 0 a)] w fun e w'=>e=.returned (.tuple #[.agg (zS c n b g d ba 0 a),zN])/\Below w.heap.size w w':=by
 obtain ⟨S,W⟩:=qA (w.heap.size);obtain ⟨h,m⟩:=qB ((w.alloc (.cells (zS c n b g d ba 0 a) 40)).alloc (.cells zZ 40));obtain ⟨s,B,y,J⟩:=ZK w _ _ _ _ m;rw [W] at s B J;have Q:=zh (Q8 h c n b g d l ba 0 a [] (x.later y) (Xk z) U V);have P:=zh m;have C:=zh s;have R:=zh B;have L:=zh y;have N:=zh z;have O:=zh x.1.len;obtain ⟨i,c1,c2,c3⟩:=s.cells;have D:=i;have E:=c1;have F:=c2;have G:=c3;rw [m] at D E F G;clear s B y J m x z i c1 c2 c3;go_enter Tryz.func95,Tryz.ntmps95;go_wp2;go_loopw [4] (fun (p:Value) wr=>p=.slice none 0 0/\wr=h) (fun _ _=>0)
 case atStart=>exact ⟨rfl,P.o.symm⟩
 case round =>
  obtain ⟨rfl,rfl⟩:=hrel;obtain ⟨i,c1,c2,c3⟩:=C.o.cells;go_wp2_with fail
  refine Q.o.mono ?_;rintro e A ⟨t,q,f,rfl,H,r⟩;cases f with
  | true =>
   exfalso;rcases H with ⟨e,_⟩ | ⟨_,ae,Y,ad,ab,rfl,I,Z,aa⟩
   ·cases e
   rw [UM N.o (by have:=O.o;omega) (by omega) Y] at I;cases I
  | false =>
   obtain ⟨D,E,F,G⟩:=(C.o.later r).cells;have u:=zh (R.o.later r);have M:=zh (za L.o r);obtain ⟨af,ag,ah,ai⟩:=u.o.cells;have aj:∀ k,A.frozen? (zA (S+1) k)=false:=fun k=>frozen_of_row A (S+1) k _ _ u.o;clear H r i c1 c2 c3;go_wp2;have X:=zk A (S+1) 40 _ _ _ _ (zI c) (zI n) (.slice b g d) (.slice ba 0 a) u.o;refine bodyPost_ret (v:=.tuple #[.agg (zS c n b g d ba 0 a),zN]) (zt Tryz.results95 _ _ (S+1) 40 (zS c n b g d ba 0 a) (0,0) _ rfl X.1 Tryz.underlying40 rfl (by kernel_rfl)) rfl ⟨rfl,?_⟩;have j:w.heap.size<=S+1:=(by omega);exact ((((M.o.setCell (p:=(zA (S+1) 0)) j _).setCell (p:=(zA (S+1) 1)) j _).setCell (p:=(zA (S+1) 2)) j _).setCell (p:=(zA (S+1) 3)) j _)
theorem Lr (w:World) (c n:Int) (d:Option Addr) (g f:Nat) (ba:Option Addr) (b a:Nat) :
 zC 96 #[.agg (zS c n d g f ba b a),zN] w fun e w'=>e=.returned (.tuple #[.agg (zS c n d g f ba b a),zN,zN])/\Below w.heap.size w w':=by
 obtain ⟨S,A⟩:=qA (w.heap.size);obtain ⟨i,l⟩:=qB ((w.alloc (.cells (zS c n d g f ba b a) 40)).alloc (.cells zZ 40));obtain ⟨m,s,t,u⟩:=ZK w _ _ _ _ l;rw [A] at m s u;have y:=zh l;have z:=zh m;have j:=zh s;have x:=zh t;clear m s t u l;go_enter Tryz.func96,Tryz.ntmps96;go_wp2;go_loopw [7,8,15] (fun (p q r:Value) wr=>p=.slice none 0 0/\q=.slice none 0 0/\r=zI 0/\wr=i) (fun _ _ _ _=>0)
 case atStart=>exact ⟨rfl,rfl,rfl,y.o.symm⟩
 case round =>
  obtain ⟨rfl,rfl,rfl,rfl⟩:=hrel;obtain ⟨C,D,E,F⟩:=z.o.cells;obtain ⟨G,H,I,J⟩:=j.o.cells;have L:∀ k,wr.frozen? (zA (S+1) k)=false:=fun k=>frozen_of_row wr (S+1) k _ _ j.o;go_wp2;have B:=zk wr (S+1) 40 _ _ _ _ (zI c) (zI n) (.slice d g f) (.slice ba b a) j.o;refine bodyPost_ret (v:=.tuple #[.agg (zS c n d g f ba b a),zN,zN]) (zq Tryz.results96 _ _ (S+1) 40 (zS c n d g f ba b a) (0,0) _ rfl B.1 Tryz.underlying40 rfl (by kernel_rfl)) rfl ⟨rfl,?_⟩;have h:w.heap.size<=S+1:=by omega
  exact ((((x.o.setCell (p:=(zA (S+1) 0)) h _).setCell (p:=(zA (S+1) 1)) h _).setCell (p:=(zA (S+1) 2)) h _).setCell (p:=(zA (S+1) 3)) h _)
theorem yF {P:Program} {fn:Func} {p b v x:Tmp} {a:TypeId} (h:fn.results=#[.cell p a,.tmp b,.tmp v,.tmp x]) (tmps:Array Value) (w:World) (g:Nat) (t:TypeId) (cs:Array Value) (fr:Nat×Nat) (d:TypeDesc)
 (f:tmps.getD p undef=.pointer (zO g 0)) (hg:w.heap[g]?=some (.cells cs t fr)) (j:P.underlying a=some d) (c:(match d with | .struct _ | .array _ _=>true | _=>false)=true) (e:(P.info? a).map (·.size)=some cs.size) :
 (results fn tmps).run P w=.ok (.tuple #[.agg cs,tmps.getD b undef,tmps.getD v undef,tmps.getD x undef]) w:=by
 have i:tmps[p]?.getD undef=.pointer (zO g 0):=by simpa using f
 simp [results,h,i,asAddr,run_loadVar_row w g t a cs fr d hg j c e,Result.andThen]
def YP:List Nat->World->World
 | [],w=>w
 | k::ks,w=>Ui k (YP ks w)
theorem XV:∀ (ks:List Nat) (w:World),(YP ks w).heap.size=w.heap.size
 | [],_=>rfl
 | k::ks,w=>by rw [YP,Vb,XV ks w]
theorem RG:∀ {ks:List Nat} {w:World} {b:Nat},b∉ks->(YP ks w).heap[b]?=w.heap[b]?
 | [],_,_,_=>rfl
 | k::ks,w,b,h=>by
  rw [List.mem_cons,not_or] at h;rw [YP,show (Ui k (YP ks w)).heap[b]?=(YP ks w).heap[b]? from World.putObj_heap_other h.1,RG h.2]
theorem P3:∀ {ks:List Nat} {w:World} {b:Nat},b∈ks->b<w.heap.size->(YP ks w).heap[b]?=some (.deferred none)
 | k::ks,w,b,h,hl=>by
  by_cases e:b=k
  ·subst e;exact World.putObj_heap_same (by rw [XV];exact hl)
  rw [YP,show (Ui k (YP ks w)).heap[b]?=(YP ks w).heap[b]? from World.putObj_heap_other e];exact P3 ((List.mem_cons.1 h).resolve_left e) hl
theorem Tj:∀ (ks:List Nat) (w:World),(YP ks w).os=w.os/\(YP ks w).tape=w.tape/\(YP ks w).output=w.output
 | [],_=>⟨rfl,rfl,rfl⟩
 | k::ks,w=>by
  obtain ⟨a,b,c⟩:=Tj ks w;exact ⟨a,b,c⟩
structure But (ks:List Nat) (w w':World):Prop where
 os:w'.os=w.os
 tape:w'.tape=w.tape
 output:w'.output=w.output
 size:w.heap.size<=w'.heap.size
 block:∀ k,k<w.heap.size->k∉ks->w'.heap[k]?=w.heap[k]?
theorem But.refl (ks:List Nat) (w:World):But ks w w:=⟨rfl,rfl,rfl,Nat.le_refl _,fun _ _ _=>rfl⟩
theorem But.trans {ks:List Nat} {a b c:World} (h:But ks a b) (k:But ks b c):But ks a c :=
 ⟨k.os.trans h.os,k.tape.trans h.tape,k.output.trans h.output,Nat.le_trans h.size k.size,fun i d hn=>(k.block i (Nat.lt_of_lt_of_le d h.size) hn).trans (h.block i d hn)⟩
theorem But.grown {ks:List Nat} {w w':World} {g:Nat} (h:w.grownBy w' (some g)) (hg:g∈ks):But ks w w' :=
 ⟨h.os,h.tape,h.output,h.size,fun k a hn=>h.block k a (fun e=>hn (by rw [Option.some.inj e];exact hg))⟩
theorem But.below {ks:List Nat} {w w':World} (h:Below w.heap.size w w'):But ks w w':=⟨h.os,h.tape,h.output,h.size,fun k a _=>h.block k a⟩
theorem But.set {ks:List Nat} {w:World} {p:Addr} (a:p.block∈ks) (v:Value):But ks w (w.setCell p v) :=
 ⟨rfl,rfl,rfl,by simp [World.setCell],fun k _ hn=>Below.heap_setCell _ _ _ k (fun e=>hn (by rw [e];exact a))⟩
theorem But.far {ks:List Nat} {B:Nat} {w w':World} (h:But ks w w') (b:B<=w.heap.size) (a:∀ k∈ks,B<=k):Below B w w' :=
 ⟨h.os,h.tape,h.output,h.size,fun k c=>h.block k (by omega) (fun e=>by have:=a k e;omega)⟩
theorem ZI {ks:List Nat} {w w':World} (h:But ks w w'):Below (YP ks w).heap.size (YP ks w) (YP ks w'):=by
 obtain ⟨b,c,d⟩:=Tj ks w;obtain ⟨b1,f,g⟩:=Tj ks w';refine ⟨by rw [b,b1,h.os],by rw [c,f,h.tape],by rw [d,g,h.output],by rw [XV,XV];exact h.size,fun k a=>?_⟩;rw [XV] at a;by_cases e:k∈ks
 ·rw [P3 e a,P3 e (Nat.lt_of_lt_of_le a h.size)]
 rw [RG e,RG e,h.block k a e]
theorem RunsIn.offL {w:World} {a:Option Addr} {n cap:Nat} {l:zd} (h:RunsIn w a n cap l):∀ (ks:List Nat),(0<n->∀ b c,a=zO b c->b∉ks)->RunsIn (YP ks w) a n cap l
 | [],_=>h
 | k::ks,hn=>(RunsIn.offL h ks fun d b c e g=>hn d b c e (List.mem_cons_of_mem _ g)).off fun d b c e f=>hn d b c e (by rw [f];exact List.mem_cons_self ..)
theorem QsIn.offL {w:World} {a:Option Addr} {n cap:Nat} {l:QL} (h:QsIn w a n cap l):∀ (ks:List Nat),(0<n->∀ b c,a=zO b c->b∉ks)->(∀ i,i<n->0<(qu l i).cn->∀ b c,(qu l i).ca=zO b c->b∉ks)->QsIn (YP ks w) a n cap l
 | [],_,_=>h
 | k::ks,hn,hc=>(QsIn.offL h ks (fun d b c e g=>hn d b c e (List.mem_cons_of_mem _ g)) (fun i j d b c e g=>hc i j d b c e (List.mem_cons_of_mem _ g))).off (fun d b c e f=>hn d b c e (by rw [f];exact List.mem_cons_self ..)) (fun i j d b c e f=>hc i j d b c e (by rw [f];exact List.mem_cons_self ..))
theorem RunsIn.onL {a:Option Addr} {n cap:Nat} {l:zd}:∀ {ks:List Nat} {w:World},RunsIn (YP ks w) a n cap l->RunsIn w a n cap l
 | [],_,h=>h
 | _::_,_,h=>RunsIn.onL (RunsIn.on h)
theorem QsIn.onL {a:Option Addr} {n cap:Nat} {l:QL}:∀ {ks:List Nat} {w:World},QsIn (YP ks w) a n cap l->QsIn w a n cap l
 | [],_,h=>h
 | _::_,_,h=>QsIn.onL (QsIn.on h)
theorem wT.onL {x:Bk} {ks:List Nat} {w:World} (h:wT (YP ks w) x):wT w x:=⟨RunsIn.onL h.1,RunsIn.onL h.2⟩
theorem RunsIn.set_slice {w:World} {a:Option Addr} {n cap:Nat} {l:zd} (h:RunsIn w a n cap l) {p:Addr} {x:Option Addr} {m k:Nat} (r:w.cell? p=some (.slice x m k)) (d:Value):RunsIn (w.setCell p d) a n cap l:=by
 refine ⟨h.len,h.le,h.bound,h.capb,fun j=>?_⟩;obtain ⟨b,s,o,f⟩:=h.cells j;have key:∀ q v,w.cell? q=some (zI v)->(w.setCell p d).cell? q=some (zI v):=fun q v c=>by
  by_cases e:p=q
  ·subst e;rw [r] at c;cases c
  rw [World.cell?_setCell_other (w:=w) (v:=d) (h:=e)];exact c
 exact ⟨b,s,o,fun i g=>⟨key _ _ (f i g).1,key _ _ (f i g).2⟩⟩
def yP (l:QL) (q:Nat) (rs:zd):QL:=l.set q ⟨(qu l q).name,(qu l q).parent,none,0,0,rs⟩
def ZG (c n:Int) (l:QL) (b:BL) (q:Int) (rs:zd):Int:=if zU c n l b=0 then (if 0<=q/\q<l.length then z9 (yP l q.toNat rs) else 6) else zU c n l b
theorem U9 {l b:QL} (h:zi b=zi l) (q:Nat) (a:Option Addr) (m k:Nat) (rs:zd):zi (b.set q ⟨(qu b q).name,(qu b q).parent,a,m,k,rs⟩)=zi (yP l q rs):=by
 have c:(qu b q).bare=(qu l q).bare:=by rw [<-Z8,h,Z8]
 have d:(qu b q).name=(qu l q).name:=(show (qu b q).bare.name=(qu l q).bare.name by rw [c]);have e:(qu b q).parent=(qu l q).parent:=(show (qu b q).bare.parent=(qu l q).bare.parent by rw [c]);unfold yP zi at *;rw [List.map_set,List.map_set,h,d,e];rfl
theorem Zd (l:QL) (q:Nat) (rs:zd):(yP l q rs).length=l.length:=List.length_set
theorem Yh {l c:QL} {b:BL} (h:Clean l b) (d:z9 c=0) (f:c.length=l.length):Clean c b:=by
 refine ⟨d,h.few,fun i e=>?_⟩;have a:=h.each i e;unfold ZZ yI at a ⊢;rw [if_pos h.tree] at a;rw [if_pos d,f];exact a
theorem Wg {l:QL} {b a:BL} (h:Clean l b) (c:zg a=zg b):Clean l a:=by
 have d:a.length=b.length:=O1 c;refine ⟨h.tree,by rw [d];exact h.few,fun i e=>?_⟩;rw [<-Y7,LI c,Y7];exact h.each i (by omega)
def LB (w w':World) (e:Ending) (c n:Int) (tn:Nat) (l:QL) (b:BL) (q:Nat) (rs:zd):Prop :=
 ∃ (g k1:Nat) (l9:QL) (aa:Option Addr) (k9:Nat) (b9 b0 b1 aw:BL) (mv dr:List Int) (ma:Option Addr) (mk:Nat) (da:Option Addr) (dk:Nat),
  e=.returned (.tuple #[.agg (zS c n (zO g 0) tn k1 aa (List.length b9) k9),.slice ma (List.length mv) mk,.slice da (List.length dr) dk,zI 0])/\zY w' (zO g 0) tn k1 l9 aa b9.length k9 b9/\zi l9=zi (yP l q rs)/\zg b0=zg b/\Lit c l9 b0 b1 aw/\(∀ u,c<=u->u<48->∀ k,k<l9.length->yw l9 b1 u k=false)/\Stl c l9 b1 aw aw.length b9 mv dr/\zG w' w.heap.size (.slice ma mv.length mk) mv/\zG w' w.heap.size (.slice da dr.length dk) dr/\Below w.heap.size w w'
def JO (w w':World) (e:Ending) (c n:Int) (tn:Nat) (l:QL) (b:BL) (q:Nat) (rs:zd):Prop :=
 ∃ (g k1:Nat) (l9:QL) (aa:Option Addr) (k9:Nat) (b9 b0 b1 aw:BL) (mv dr:List Int) (ma:Option Addr) (mk:Nat) (da:Option Addr) (dk:Nat),
  e=.returned (.tuple #[.agg (zS c n (zO g 0) tn k1 aa (List.length b9) k9),.slice ma (List.length mv) mk,.slice da (List.length dr) dk,zI 0])/\zY w' (zO g 0) tn k1 l9 aa b9.length k9 b9/\zi l9=zi (yP l q rs)/\zg b0=zg b/\Lit c l9 b0 b1 aw/\(∀ u,c<=u->u<48->∀ k,k<l9.length->yw l9 b1 u k=false)/\Stl c l9 b1 aw aw.length b9 mv dr/\zG w' w.heap.size (.slice ma mv.length mk) mv/\zG w' w.heap.size (.slice da dr.length dk) dr/\Below w.heap.size w w'/\NewSt w.heap.size (zO g 0) tn l9 aa b9.length b9
def Rd (w:World) (R:Nat) (t:ByteArray) (k:Nat):Prop:=w.heap[R]?=some (.cells #[.string t,zI k] 82 (0,0))
theorem Rd.later {w w':World} {a:Nat} {t:ByteArray} {k:Nat} (h:Rd w a t k) (b:Below w.heap.size w w'):Rd w' a t k:=(b.block a (Array.getElem?_eq_some_iff.1 h).1).trans h
def Zx (w:World) (v:Value):Prop:=w.cell? (zA 0 0)=some v/\∃ T u,v=.iface T u
def byt (t:ByteArray) (k:Nat):Int:=if h:k<t.size then (t[k].toNat:Int) else 0
theorem Wb (t:ByteArray) (k:Nat):0<=byt t k/\byt t k<=255:=by
 unfold byt
 split
 ·rename_i h;have:=t[k].toNat_lt;omega
 omega
theorem But.drewN (ks:List Nat) (w:World) (d:Nat):But ks w (w.drewN d):=⟨rfl,rfl,rfl,Nat.le_refl _,fun _ _ _=>rfl⟩
theorem Jm (w:World) (a:Nat) (t:ByteArray) (k:Nat) (h:Rd w a t k) (f:k<t.size) (n:t.size<=4096) :
 zC 74 #[.pointer (zO a 0)] w fun e w'=>e=.returned (zI (byt t k))/\Rd w' a t (k+1)/\But [a] w w':=by
 have g:w.cell? (zA a 0)=some (.string t):=by rw [cell_of_row w a 0 _ _ _ h];rfl
 have c1:w.cell? (zA a 1)=some (zI k):=by rw [cell_of_row w a 1 _ _ _ h];rfl
 have i:∀ m,w.frozen? (zA a m)=false:=fun m=>frozen_of_row w a m _ _ h;have j:¬(t.size<=k):=by omega
 have l:(k:Int)<t.size:=by omega
 have b:=zh h;clear h;go_enter Tryz.func74,Tryz.ntmps74;go_wp2;go_quiet (fail)
 go_wp2;go_quiet (fail)
 go_wp2;have c:byt t k=(t[k].toNat:Int):=by unfold byt;rw [dif_pos f]
 have d:wrap64 (t[k].toNat:Int)=(t[k].toNat:Int):=by
  have:=t[k].toNat_lt;unfold wrap64;omega
 rw [c,d];go_ret;exact ⟨rfl,heap_setCell_same (w.drewN _) a 1 _ _ _ b.o,(But.drewN [a] w _).trans (But.set (p:=(zA a 1)) (List.mem_singleton.2 rfl) _)⟩
theorem Jl (w:World) (a:Nat) (t:ByteArray) (k:Nat) (h:Rd w a t k) (d:t.size<=k) (v:Value) (b:Zx w v) :
 zC 74 #[.pointer (zO a 0)] w fun e w'=>e=.panicked [{ v:=v,recovered:=false }]/\But [a] w w':=by
 have c:w.cell? (zA a 0)=some (.string t):=by rw [cell_of_row w a 0 _ _ _ h];rfl
 have c1:w.cell? (zA a 1)=some (zI k):=by rw [cell_of_row w a 1 _ _ _ h];rfl
 obtain ⟨f,T,g,rfl⟩:=b;clear h;go_enter Tryz.func74,Tryz.ntmps74;go_wp2;go_quiet (fail)
 go_wp2;exact ⟨rfl,rfl,But.drewN _ _ _⟩
theorem Zx.but {w w':World} {v:Value} {a:Nat} (h:Zx w v) (c:0<a) (b:But [a] w w'):Zx w' v:=by
 refine ⟨?_,h.2⟩;rw [World.cell?_of_block (w:=w) (b.block 0 (block_lt_of_cell h.1) (fun e=>by have:=List.mem_singleton.1 e;omega))];exact h.1
theorem xO (w:World) (a:Nat) (t:ByteArray) (k:Nat) (h:Rd w a t k) (g:t.size<=4096) (v:Value) (i:Zx w v) :
 zC 74 #[.pointer (zO a 0)] w fun e w'=>(k<t.size/\e=.returned (zI (byt t k))/\Rd w' a t (k+1)/\But [a] w w')\/(t.size<=k/\e=.panicked [{ v:=v,recovered:=false }]/\But [a] w w'):=by
 by_cases d:k<t.size
 ·refine (Jm w a t k h d g).mono ?_;rintro e w' ⟨b,c,f⟩;exact Or.inl ⟨d,b,c,f⟩
 ·refine (Jl w a t k h (by omega) v i).mono ?_;rintro e w' ⟨b,c⟩;exact Or.inr ⟨by omega,b,c⟩
theorem QZ (w:World) (a:Nat) (t:ByteArray) (k:Nat) (h:Rd w a t k) (u:t.size<=4096) (v:Value) (g:Zx w v) (r:0<a) (c:Int) :
 zC 76 #[.pointer (zO a 0),zI c] w fun e w'=>(k<t.size/\byt t k<=c/\e=.returned (zI (byt t k))/\Rd w' a t (k+1)/\But [a] w w')\/(¬(k<t.size/\byt t k<=c)/\e=.panicked [{ v:=v,recovered:=false }]/\But [a] w w'):=by
 have p:=zh (xO w a t k h u v g);have n:=zh g;clear h g;go_enter Tryz.func76,Tryz.ntmps76;go_wp2_with fail
 refine p.o.mono ?_;rintro e D (⟨j,rfl,l,b⟩ | ⟨j,rfl,b⟩)
 ·obtain ⟨y,i⟩:=qA (byt t k);rw [i];have x:=n.o.but r b;obtain ⟨B,T,C,z⟩:=x;subst z;have m:=zh l;have d:=zh b;have f:=zh i;clear l b i;by_cases A:y<=c
  ·have s:¬c<y:=(by omega);go_wp2;go_ret;exact Or.inl ⟨j,by rw [f.o];omega,by rw [f.o];rfl,m.o,d.o⟩
  have s:c<y:=by omega
  go_wp2;exact ⟨rfl,Or.inr ⟨fun h=>by have q:=h.2;rw [f.o] at q;omega,rfl,d.o⟩⟩
 ·have d:=zh b;clear b;go_wp2;exact ⟨rfl,Or.inr ⟨fun h=>by omega,rfl,d.o⟩⟩
end Go.Proofs.YtckpdfkobdgjeaaGreatDoor
