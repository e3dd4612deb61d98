/- Several texts in one: RefQ, AnyB. -/
import Derived.Test.YtckpdfkobdgjeaaGreatDoorJAll23
import Derived.Test.YtckpdfkobdgjeaaGreatDoorJAll25
import Derived.Test.YtckpdfkobdgjeaaGreatDoorJAny
namespace Go.Proofs.YtckpdfkobdgjeaaGreatDoor
set_option maxRecDepth 100000
set_option maxHeartbeats 8000000
open Go.RowKit
set_option linter.unusedSectionVars false
variable [Inhabited Mk]
theorem GL {l:QL} {r:Rq} (b:z9 l=0) (h:yI l r=0):z8 false r=0/\0<=r.queue/\r.queue<l.length:=by
 unfold yI at h;rw [if_pos b] at h;cases a:wV l.length r.queue with
 | true =>
  rw [a] at h;unfold z8 at h
  revert h
  repeat' split
  all_goals simp_all
 | false =>
  rw [a] at h;refine ⟨h,?_⟩;simp [wV,yW] at a;omega
theorem NN {l:QL} {b:BL} {r:Rq} (c:Clean l b) (h:z8 false r=0) (f:0<=r.queue) (a:r.queue<l.length):yU l b r=Zf r (xH l b r.queue):=by
 have d:Zq l b r.queue=0:=by unfold Zq;rw [if_pos (Xk c),if_pos (And.intro f a)]
 have e:yq (xH l b r.queue) r=0:=by unfold yq;rw [if_pos (zX.2 (XZ c a)),h]
 unfold yU;rw [if_pos d,if_pos e]
def YA (w w':World) (e:Ending) (c n:Int) (l:QL) (b:BL) (r:Rq):Prop:=∃ c' n' ta' tn' tc' ba' bn' bc' i,e=.returned (.tuple #[.agg (zS c' n' ta' tn' tc' ba' bn' bc'),zI i,zI (Zp c n l b r)])/\X9 w' w.heap.size (Zp c n l b r) ⟨c,n+1,zi l,zg b++[⟨n,r.bare,none,0,0,(yU l b r).1⟩]⟩ c' n' ta' tn' tc' ba' bn' bc'/\Below w.heap.size w w'
theorem YA.wrong {w w':World} {c n:Int} {l:QL} {b:BL} {r:Rq} {a:Int} (d:Zp c n l b r=a) (e:a≠0) (f:Below w.heap.size w w'):YA w w' (.returned (.tuple #[.agg zZ,zI 0,zI a])) c n l b r:=by
 refine ⟨_,_,_,_,_,_,_,_,_,by rw [d],Or.inl ⟨by rw [d];exact e,rfl,rfl,rfl,rfl,rfl,rfl,rfl,rfl⟩,f⟩
theorem J1 (w:World) (c n:Int) (aB:Option Addr) (U aC:Nat) (l:QL) (aF:Option Addr) (x aG:Nat) (b:BL) (h:zY w aB U aC l aF x aG b) (F:zU c n l b=0) (r:Rq) (Z:zH w r) :
 zC 62 #[.agg (zS c n aB U aC aF x aG),.agg #[zI r.queue,zI r.fr,zI r.un,zI r.kind,.slice r.pa r.pn r.pc]] w fun e w'=>YA w w' e c n l b r:=by
 have aa:=yZ F;have bh:=Yn h aa.clean;have bC:=h.2.len;have bG:=h.1.len;obtain ⟨S,cC⟩:=qA (w.heap.size);obtain ⟨b0,aX⟩:=qB (((w.alloc (.cells (zS c n aB U aC aF x aG) 40)).alloc (.cells (zR r) 24)).alloc (.cells zZ 40));obtain ⟨a1,a9,ba,Y,a7⟩:=YL w _ _ _ _ r aX;rw [cC] at a1 a9 ba a7;have bd:=zh (Zm b0 c n aB U aC l aF x aG b (h.later Y) aa);have aT:=zh fun X (ax:zL w X)=>Ue X aB U aC l (h.1.later ax) r (zH.later Z ax);obtain ⟨be,c1,c2,c3⟩:=a1.cells;rw [aX] at be c1 c2 c3;have bu:=zh a1;have bv:=zh a9;have bw:=zh ba;have bp:=zh Y;have br:=zh aX;have cl:=zh cC;have dv:=zh a7;have z:w.heap.size<=S+2:=by omega
 have bb:=zh z;obtain ⟨a2,aW⟩:=qA (yI l r);by_cases af:yI l r=0
 case neg =>
  have aw:Zp c n l b r=a2:=by
   have aJ:wW c n l b r=a2:=(by unfold wW;rw [if_pos F,if_neg af,aW]);unfold Zp;rw [aJ,if_neg (by rw [<-aW];exact af)]
  rw [aW] at aT af;have eE:(a2 != 0)=true:=by simpa using af
  have a3:=zh (And.intro aw af);clear aX a1 a9 ba Y h a7 F aa bh aw af aW bC bG Z z;go_enter Tryz.func62,Tryz.ntmps62;go_wp2_with fail
  rw [<-br.o];refine bd.o.mono ?_;rintro e aK ⟨rfl,Q⟩;have aS:=zh (bw.o.later Q);have az:=zh (za bp.o Q);obtain ⟨ai,aj,ag,ah⟩:=(bu.o.later Q).cells;obtain ⟨ao,ap,aq,ar,au⟩:=(bv.o.later Q).cells;clear Q be c1 c2 c3;go_wp2_with fail
  refine (aT.o aK az.o).mono ?_;rintro e aD ⟨rfl,V⟩;have aA:=zh (aS.o.later V);have aI:=zh (za az.o V);obtain ⟨bN,bO,bP,bQ⟩:=aA.o.cells;have bR:∀ k,aD.frozen? (zA (S+2) k)=false:=fun k=>frozen_of_row aD (S+2) k _ _ aA.o;clear V ai aj ag ah ao ap aq ar au;go_wp2_with fail
  have aH:=zk aD (S+2) 40 _ _ _ _ (zI 0) (zI 0) zN zN aA.o;have z:=bb.o;refine bodyPost_ret (v:=.tuple #[.agg zZ,zI 0,zI a2]) (zq Tryz.results62 _ _ (S+2) 40 zZ (0,0) _ rfl aH.1 Tryz.underlying40 rfl (by kernel_rfl)) rfl (YA.wrong a3.o.1 a3.o.2 ?_);exact ((((aI.o.setCell (p:=(zA (S+2) 0)) z _).setCell (p:=(zA (S+2) 1)) z _).setCell (p:=(zA (S+2) 2)) z _).setCell (p:=(zA (S+2) 3)) z _)
 rw [af] at aT;by_cases cS:r.fr<c
 ·have aw:Zp c n l b r=9:=by
   have aJ:wW c n l b r=9:=(by unfold wW;rw [if_pos F,if_pos af,if_pos cS]);unfold Zp;rw [aJ,if_neg (by decide)]
  have a3:=zh aw;clear aX a1 a9 ba Y h a7 F aa bh aw af aW bC bG Z z;go_enter Tryz.func62,Tryz.ntmps62;go_wp2_with fail
  rw [<-br.o];refine bd.o.mono ?_;rintro e aK ⟨rfl,Q⟩;have aM:=zh (bu.o.later Q);have aN:=zh (bv.o.later Q);have aS:=zh (bw.o.later Q);have az:=zh (za bp.o Q);obtain ⟨ai,aj,ag,ah⟩:=aM.o.cells;obtain ⟨ao,ap,aq,ar,au⟩:=aN.o.cells;clear Q be c1 c2 c3;go_wp2_with fail
  refine (aT.o aK az.o).mono ?_;rintro e aD ⟨rfl,V⟩;have aA:=zh (aS.o.later V);have aI:=zh (za az.o V);obtain ⟨bN,bO,bP,bQ⟩:=aA.o.cells;have bR:∀ k,aD.frozen? (zA (S+2) k)=false:=fun k=>frozen_of_row aD (S+2) k _ _ aA.o;clear ai aj ag ah ao ap aq ar au;obtain ⟨ai,aj,ag,ah⟩:=(aM.o.later V).cells;obtain ⟨ao,ap,aq,ar,au⟩:=(aN.o.later V).cells;clear V;go_wp2_with fail
  have aH:=zk aD (S+2) 40 _ _ _ _ (zI 0) (zI 0) zN zN aA.o;have z:=bb.o;refine bodyPost_ret (v:=.tuple #[.agg zZ,zI 0,zI 9]) (zq Tryz.results62 _ _ (S+2) 40 zZ (0,0) _ rfl aH.1 Tryz.underlying40 rfl (by kernel_rfl)) rfl (YA.wrong a3.o (by decide) ?_);exact ((((aI.o.setCell (p:=(zA (S+2) 0)) z _).setCell (p:=(zA (S+2) 1)) z _).setCell (p:=(zA (S+2) 2)) z _).setCell (p:=(zA (S+2) 3)) z _)
 have bF:wW c n l b r=0:=by unfold wW;rw [if_pos F,if_pos af,if_neg cS]
 have ev:x<=12:=by have:=aa.clean.few;omega
 have eC:=aa.n1;by_cases cc:x=12\/n=1048576
 ·have aw:Zp c n l b r=2:=by unfold Zp;rw [if_pos bF,if_pos (by omega)]
  have a3:=zh aw;have ee:((x:Int)==12)=true\/(((x:Int)==12)=false/\(n==1048576)=true):=by
   by_cases g:x=12
   ·exact Or.inl (by simp [g])
   refine Or.inr ⟨?_,?_⟩
   ·simp;omega
   rcases cc with bf | bf
   ·exact absurd bf g
   simp [bf]
  clear aX a1 a9 ba Y h a7 F aa bh aw af aW bC bG Z z bF cc;rcases ee with cx | ⟨cx,bf⟩
  all_goals
   go_enter Tryz.func62,Tryz.ntmps62;go_wp2_with fail
   rw [<-br.o];refine bd.o.mono ?_;rintro e aK ⟨rfl,Q⟩;have aM:=zh (bu.o.later Q);have aN:=zh (bv.o.later Q);have aS:=zh (bw.o.later Q);have az:=zh (za bp.o Q);obtain ⟨ai,aj,ag,ah⟩:=aM.o.cells;obtain ⟨ao,ap,aq,ar,au⟩:=aN.o.cells;clear Q be c1 c2 c3;go_wp2_with fail
   refine (aT.o aK az.o).mono ?_;rintro e aD ⟨rfl,V⟩;have aA:=zh (aS.o.later V);have aI:=zh (za az.o V);obtain ⟨bN,bO,bP,bQ⟩:=aA.o.cells;have bR:∀ k,aD.frozen? (zA (S+2) k)=false:=fun k=>frozen_of_row aD (S+2) k _ _ aA.o;clear ai aj ag ah ao ap aq ar au;obtain ⟨ai,aj,ag,ah⟩:=(aM.o.later V).cells;obtain ⟨ao,ap,aq,ar,au⟩:=(aN.o.later V).cells;clear V;go_wp2_with fail
   have aH:=zk aD (S+2) 40 _ _ _ _ (zI 0) (zI 0) zN zN aA.o;have z:=bb.o;refine bodyPost_ret (v:=.tuple #[.agg zZ,zI 0,zI 2]) (zq Tryz.results62 _ _ (S+2) 40 zZ (0,0) _ rfl aH.1 Tryz.underlying40 rfl (by kernel_rfl)) rfl (YA.wrong a3.o (by decide) ?_);exact ((((aI.o.setCell (p:=(zA (S+2) 0)) z _).setCell (p:=(zA (S+2) 1)) z _).setCell (p:=(zA (S+2) 2)) z _).setCell (p:=(zA (S+2) 3)) z _)
 have cx:((x:Int)==12)=false:=by simp;omega
 have bf:(n==1048576)=false:=by simp;omega
 obtain ⟨bg,a6,cf⟩:=GL aa.clean.tree af;have cU:=NN aa.clean bg a6 cf;obtain ⟨f,bD⟩:=qA (xH l b r.queue);have cb:zW f:=by rw [<-bD];exact XZ aa.clean cf
 have bZ:=zh fun X (ax:zL w X)=>J5 X aB U aC l aF x aG b (h.later ax) aa.clean r.queue.toNat (by omega);rw [NS aa.clean (by omega),Int.toNat_of_nonneg a6,bD] at bZ;have bY:=zh fun X (ax:zL w X)=>Nf X f cb r (zH.later Z ax) bg;obtain ⟨E,bz⟩:=qA (Zf r f);rw [bz] at bY;have ce:yU l b r=E:=by rw [cU,bD,bz]
 have dq:=zh ce;have cX:Zp c n l b r=if E.2=true then 0 else 8:=by unfold Zp;rw [if_pos bF,if_neg (by omega),ce]
 have bW:=zh cX;have du:=zh Z;have dr:=zh (V7 af);have dt:=zh (RunsIn.len Z);have dp:Zh (0<r.ps.length):=by have:=of_decide_eq_true (zv.1 bg).2.1;show 0<r.ps.length;omega
 have dj:Zh (E.2=true->0<E.1.length/\E.1.length<=3):=fun e=>by
  have dX:yq f r=0:=by unfold yq;rw [if_pos (zX.2 cb)];exact bg
  obtain ⟨bl,_⟩:=Td (b:=E.1) dX (by rw [bz];exact Prod.ext rfl e);have cg:=(yk.1 bl).2.1;have ch:=(zv.1 (yk.1 bl).1).2.1;have ej:E.1.length<=3:=Ym bl;simp [yW] at ch;have ei:0<xu r:=by unfold xu;split <;> omega
  refine ⟨?_,ej⟩;have ek:(0:Int)<E.1.length:=by rw [cg];exact ei
  exact Int.ofNat_lt.1 ek
 have dI:=zh fun X (ax:zL w X)=>WK X c n aB U aC l aF x aG b (h.later ax) bh;have ew:x<12:=by omega
 have dk:Zh (0<=n/\n<1048576):=by have:=aa.n0;show 0<=n/\n<1048576;omega
 clear aX a1 a9 ba Y h a7 F aa bh af aW bC bG Z z bF cc bg a6 cf cU cb bD bz ce cX;go_enter Tryz.func62,Tryz.ntmps62;go_wp2_with fail
 rw [<-br.o];refine bd.o.mono ?_;rintro e aK ⟨rfl,Q⟩;have aM:=zh (bu.o.later Q);have aN:=zh (bv.o.later Q);have aS:=zh (bw.o.later Q);have az:=zh (za bp.o Q);have dD:Zh (S+3<=aK.heap.size):=by have:=Q.size;have:=dv.o;show S+3<=aK.heap.size;omega
 obtain ⟨ai,aj,ag,ah⟩:=aM.o.cells;obtain ⟨ao,ap,aq,ar,au⟩:=aN.o.cells;clear Q be c1 c2 c3;go_wp2_with fail
 refine (aT.o aK az.o).mono ?_;rintro e wr ⟨rfl,V⟩;have cr:=zh (aM.o.later V);have ct:=zh (aN.o.later V);have dC:=zh (aS.o.later V);have aI:=zh (za az.o V);have dF:Zh (S+3<=wr.heap.size):=by have:=V.size;have:=dD.o;show S+3<=wr.heap.size;omega
 clear ai aj ag ah ao ap aq ar au V;obtain ⟨ai,aj,ag,ah⟩:=cr.o.cells;obtain ⟨ao,ap,aq,ar,au⟩:=ct.o.cells;have c9:=zh ag;have c7:=zh ah;have cu:=zh ao;have dR:=zh ap;have dS:=zh aq;have dT:=zh ar;have dU:=zh au;have dL:=zh fun X (ax:zL wr X)=>bZ.o X (za aI.o ax);have dK:=zh fun X (ax:zL wr X)=>bY.o X (za aI.o ax);clear bd aT bZ bY;go_upto_region 11 with fail
 go_cut [9,10] (fun p q av=>∃ (dW:World) (X:Bk),dW=av/\p=.slice X.ba X.bn X.bc/\q=.bool E.2/\X.id=n/\X.rq=r/\X.bs=E.1/\(E.2=true->wk wr.heap.size av X.ba X.bn X.bc E.1)/\zL wr av)
 case first =>
  clear ai aj ag ah ao ap aq ar au;refine zV ((Tryz.f62.body.bind fun c=>yi c 11).getD #[]) (by kernel_rfl) [zl (.pointer (zO S 2)),zl (.slice aB U aC),zl (.pointer (zO S 3)),zl (.slice aF x aG),zl (.pointer (zO (S+1) 0)),zl (zI r.queue),zl (.agg (ya (zn f))),zl (.agg (zR r)),⟨fun v X=>∃ a n A,v=.tuple #[.slice a n A,.bool E.2]/\(E.2=true->wk wr.heap.size X a n A E.1),fun _ X b1 ⟨a,n,A,D,I⟩ s=>⟨a,n,A,D,fun e=>(I e).later s⟩⟩,⟨fun v X=>∃ a n A,v=.tuple #[.slice a n A,.bool E.2]/\(E.2=true->wk wr.heap.size X a n A E.1),fun _ X b1 ⟨a,n,A,D,I⟩ s=>⟨a,n,A,D,fun e=>(I e).later s⟩⟩,⟨fun v X=>∃ a n A,v=.slice a n A/\(E.2=true->wk wr.heap.size X a n A E.1),fun _ X b1 ⟨a,n,A,D,I⟩ s=>⟨a,n,A,D,fun e=>(I e).later s⟩⟩,zl (.bool E.2),⟨fun v X=>∃ a n A,v=.slice a n A/\(E.2=true->wk wr.heap.size X a n A E.1),fun _ X b1 ⟨a,n,A,D,I⟩ s=>⟨a,n,A,D,fun e=>(I e).later s⟩⟩,zl (.bool E.2)] [] (by kernel_rfl) (by kernel_rfl) (by kernel_rfl) ?hg ?hstep ?hfin
  case hg =>
   intro g hg v w h;cases hg
  case hstep =>
   refine zc.cons 1 rfl ?_ ?_
   ·intro T w' s y t;have N:T.getD 2 undef=.pointer (zO S 0):=y 2;exact zs (by go_simp) rfl
   refine zc.cons 2 rfl ?_ ?_
   ·intro T w' s y t;have N:T.getD 43 undef=_:=t 0 43;have bx:=cell_later s c9.o;exact zs (by go_simp) rfl
   refine zc.cons 3 rfl ?_ ?_
   ·intro T w' s y t;have N:T.getD 2 undef=.pointer (zO S 0):=y 2;exact zs (by go_simp) rfl
   refine zc.cons 4 rfl ?_ ?_
   ·intro T w' s y t;have N:T.getD 45 undef=_:=t 2 45;have bx:=cell_later s c7.o;exact zs (by go_simp) rfl
   refine zc.cons 5 rfl ?_ ?_
   ·intro T w' s y t;have N:T.getD 3 undef=.pointer (zO (S+1) 0):=y 3;exact zs (by go_simp) rfl
   refine zc.cons 6 rfl ?_ ?_
   ·intro T w' s y t;have N:T.getD 47 undef=_:=t 4 47;have bx:=cell_later s cu.o;exact zs (by go_simp) rfl
   refine zc.cons 7 rfl ?_ ?_
   ·intro T w' s y t;have N:T.getD 44 undef=_:=t 1 44;have D:T.getD 46 undef=_:=t 3 46;have I:T.getD 48 undef=_:=t 5 48;refine Or.inr ⟨107,#[.slice aB U aC,.slice aF x aG,zI r.queue],by go_simp,?_⟩;refine (dL.o w' s).mono ?_;rintro e bL ⟨rfl,aR⟩;exact ⟨_,rfl,rfl,aR⟩
   refine zc.cons 8 rfl ?_ ?_
   ·intro T w' s y t;have N:T.getD 3 undef=.pointer (zO (S+1) 0):=y 3;have em:=cell_later s cu.o;have bo:=cell_later s dR.o;have aL:=cell_later s dS.o;have bS:=cell_later s dT.o;have en:=cell_later s dU.o;exact zs (by go_simp) rfl
   refine zc.cons 9 rfl ?_ ?_
   ·intro T w' s y t;have N:T.getD 49 undef=_:=t 6 49;have D:T.getD 50 undef=_:=t 7 50;refine Or.inr ⟨70,#[.agg (ya (zn f)),.agg (zR r)],by go_simp,?_⟩;refine (dK.o w' s).mono ?_;rintro e bL ⟨a,n,A,rfl,Z,aR⟩;exact ⟨_,rfl,⟨a,n,A,rfl,fun e=>(Z e).mono s.size⟩,aR⟩
   refine zc.cons 10 rfl ?_ ?_
   ·intro T w' s y t;obtain ⟨a,n,A,N,Z⟩:=t 8 51;exact Or.inl ⟨.tuple #[.slice a n A,.bool E.2],w',by go_simp,⟨a,n,A,rfl,Z⟩,Below.refl _ _⟩
   refine zc.cons 11 rfl ?_ ?_
   ·intro T w' s y t;obtain ⟨a,n,A,N,Z⟩:=t 9 42;exact Or.inl ⟨.slice a n A,w',by go_simp,⟨a,n,A,rfl,Z⟩,Below.refl _ _⟩
   refine zc.cons 12 rfl ?_ ?_
   ·intro T w' s y t;obtain ⟨a,n,A,N,Z⟩:=t 9 42;exact zs (by go_simp) rfl
   refine zc.cons 13 rfl ?_ ?_
   ·intro T w' s y t;obtain ⟨a,n,A,N,Z⟩:=t 10 52;exact Or.inl ⟨.slice a n A,w',by go_simp,⟨a,n,A,rfl,Z⟩,Below.refl _ _⟩
   refine zc.cons 14 rfl ?_ ?_
   ·intro T w' s y t;have N:T.getD 53 undef=_:=t 11 53;exact zs (by go_simp) rfl
   exact trivial
  case hfin =>
   intro T w' s aa y t;obtain ⟨a,m,A,dZ,Z⟩:=t 12 9;have dY:T.getD 10 undef=.bool E.2:=t 13 10;rw [yb (tt 9 [false,false,true,true,true,true,true,true,true,true,true,true,true,true,true,true,true,true,true,true,true,true,true,true,true,true,true,true,true,true,true,true,true,false,false,false,false,false,false,false,false,false,false,false,false] 23) (by kernel_rfl) aa @y];obtain ⟨us,a8⟩:∃ us:Nat->Value,(fun d=>T.getD d undef)=us:=⟨_,rfl⟩;rw [a8];have d1:us 9=.slice a m A:=(by rw [<-a8];exact dZ);have d0:us 10=.bool E.2:=(by rw [<-a8];exact dY);apply_assumption;simp only [xj,tt,List.replicate,List.cons_append,List.nil_append];go_meet;exact ⟨_,⟨n,r,a,m,A,E.1⟩,rfl,d1,d0,rfl,rfl,rfl,Z,s⟩
 case rest =>
  obtain ⟨a0,X,rfl,rfl,rfl,b7,bB,b8,a5,aY⟩:=hcut;have bt:=zh (dC.o.later aY);have cs:=zh (cr.o.later aY);have dB:=zh (ct.o.later aY);have bT:=zh (za aI.o aY);have dG:Zh (S+3<=a0.heap.size):=by have:=aY.size;have:=dF.o;show S+3<=a0.heap.size;omega
  obtain ⟨eo,c5⟩:=E;cases c5 with
  | false =>
   obtain ⟨bN,bO,bP,bQ⟩:=bt.o.cells;have bR:∀ k,a0.frozen? (zA (S+2) k)=false:=fun k=>frozen_of_row a0 (S+2) k _ _ bt.o;clear b7 bB b8 a5 aY ai aj ag ah ao ap aq ar au;go_wp2_with fail
   have aH:=zk a0 (S+2) 40 _ _ _ _ (zI 0) (zI 0) zN zN bt.o;have z:=bb.o;refine bodyPost_ret (v:=.tuple #[.agg zZ,zI 0,zI 8]) (zq Tryz.results62 _ _ (S+2) 40 zZ (0,0) _ rfl aH.1 Tryz.underlying40 rfl (by kernel_rfl)) rfl (YA.wrong (by rw [bW.o];rfl) (by decide) ?_);exact ((((bT.o.setCell (p:=(zA (S+2) 0)) z _).setCell (p:=(zA (S+2) 1)) z _).setCell (p:=(zA (S+2) 2)) z _).setCell (p:=(zA (S+2) 3)) z _)
  | true =>
   have a5:=a5 rfl;have cJ:=dj.o rfl;have cG:=a5.1.len;have de:=zh a5;have cp:=zh b7;have bX:=zh bB;have cq:=zh b8;clear ai aj ag ah ao ap aq ar au;obtain ⟨ai,aj,ag,ah⟩:=cs.o.cells;have a6:0<X.bn/\X.bn<=1000:=(by simp only at cJ cG;omega);have cT:0<X.rq.pn/\X.rq.pn<=1000:=(by have:=dt.o;have:=dr.o;have:=dp.o;rw [bB];omega);have bq:=zh (And.intro a6 cT);clear b7 bB b8 a5 aY cJ cG a6 cT;go_wp2_with fail
   refine (dI.o a0 bT.o).mono ?_;rintro e bM ⟨g,ay,bj,al,an,lb,rfl,am,cR,cI,cK,aR,aZ⟩;obtain ⟨L,cA⟩:=qA (a0.heap.size);rw [cA] at am;obtain ⟨P,bA⟩:=qA (bM.heap.size);obtain ⟨wr,bi⟩:=qB (bM.alloc (.cells (zS c n (some ⟨g,0,none⟩) U ay al x an) 40));have aQ:zL bM wr:=(by rw [bi];exact zr _ _);have cW:wr.heap.size=P+1:=(by rw [bi,<-bA];simp);have ci:zj wr P (zI c) (zI n) (.slice (zO g 0) U ay) (.slice al x an):=(by rw [bi,<-bA];exact zj.new bM _ _ _ _);have b4:=za (za bT.o aZ) aQ;have d5:L<=P:=(by have:=aZ.size;omega);have et:S+3<=L:=(by have:=dG.o;omega);have cB:L<=wr.heap.size:=(by omega);have cz:P<wr.heap.size:=(by omega);have d3:L<=P:=d5;have d4:L<=L:=Nat.le_refl _;have ed:x<=12:=(by omega);have cV:=am.qs.later aQ;have cQ:=am.bks.later aQ;have cM:L<=g/\g<P:=(by have:=am.qs.row.lt g (xP.2 rfl);omega);have bU:Zh (∀ aV,(Value.slice al x an).ownBlock=some aV->L<=aV/\aV<P/\aV≠g):=fun aV e=>by
    have D:=am.bks.row.lt aV e;have I:=(am.apart aV e).1;exact ⟨D.1,by omega,fun aJ=>I (by rw [aJ];rfl)⟩
   have cj:Zh (∀ i,i<bj.length->0<(qu bj i).cn->∀ O J,(qu bj i).ca=zO O J->L<=O/\O<P/\(Value.slice al x an).ownBlock≠some O):=fun i ae F O J e=>by
    have D:=am.newC i ae F O J e;have I:=(am.qs.caps i ae).lt F e;exact ⟨D,by omega,fun aJ=>(am.apart O aJ).2 i ae F O J e rfl⟩
   have dg:Zh (∀ i,i<lb.length->(0<(bk lb i).rq.pn->∀ g J,(bk lb i).rq.pa=zO g J->L<=g/\g≠P)/\(0<(bk lb i).bn->∀ g J,(bk lb i).ba=zO g J->L<=g/\g≠P)):=fun i ae=>⟨fun F g J e=>by have D:=am.newP i ae F g J e;have I:=RunsIn.lt (am.bks.rqs i ae) F e;omega,fun F g J e=>by have D:=am.newB i ae F g J e;have I:=(am.bks.bites i ae).lt F e;omega⟩;have bV:Zh (∀ O,(Value.slice al x an).ownBlock=some O->O≠P/\O<wr.heap.size):=fun O e=>by have:=bU.o O e;omega
   have dA:Zh (zj wr P (zI c) (zI n) (.slice (zO g 0) U ay) (.slice al x an)/\some P≠(Value.slice al x an).ownBlock):=⟨ci,fun e=>(bV.o P e.symm).1 rfl⟩;have bo:=(cs.o.later aZ).later aQ;have aL:=(dB.o.later aZ).later aQ;have bS:=(bt.o.later aZ).later aQ;rw [<-bX.o] at aL;have cF:zH wr X.rq:=(by rw [bX.o];exact zH.later du.o b4);have cE:RunsIn wr X.ba X.bn X.bc X.bs:=(by rw [cq.o];exact (de.o.1.later aZ).later aQ);have dJ:=zh fun ak (aP:zL wr ak)=>Vd ak X (zH.later cF aP) (cE.later aP) bq.o.2.1 bq.o.2.2 bq.o.1.1 bq.o.1.2;have c8:Zh (wr.cell? (zA S 1)=some (zI X.id)):=(by rw [cp.o];exact bo.cells.2.1);have c6:=zh ci.cells.2.2.2;have dM:=zh aL.cells.1;have dN:=zh aL.cells.2.1;have dO:=zh aL.cells.2.2.1;have dP:=zh aL.cells.2.2.2.1;have dQ:=zh aL.cells.2.2.2.2;have dl:=zh cQ;have dm:=zh cV;have ck:=zh cI;have di:=zh cR;have dc:=zh cK;have db:=zh aR;have da:=zh b4;have dE:=zh bo;have dH:=zh bS;have dh:=zh cM;have dz:=zh bi;have cm:=zh cW;clear am cR cI cK aR aZ cA aQ ci b4 cV cQ cM bo aL bS cF cE ai aj ag ah cW bi;go_upto_region 15 with fail
   rw [<-dz.o];refine Zl ((Tryz.f62.body.bind fun c=>yi c 15).getD #[]) (by kernel_rfl) [zl (.pointer (zO P 3)),zl (.slice al x an),zl (.pointer (zO S 1)),zl (zI X.id),zl (.agg (zR X.rq)),zl (.slice X.ba X.bn X.bc),zl (.agg (zB X)),⟨fun u aE=>∃ C G B H,u=.agg #[zI X.id,zI X.rq.queue,zI X.rq.fr,zI X.rq.un,zI X.rq.kind,.slice (zO C 0) X.rq.pn G,.slice (zO B 0) X.bn H]/\RunsIn aE (zO C 0) X.rq.pn G X.rq.ps/\RunsIn aE (zO B 0) X.bn H X.bs/\wr.heap.size<=C/\wr.heap.size<=B,fun _ _ _ ⟨C,G,B,H,D,I,a4,z,b3⟩ s=>⟨C,G,B,H,D,I.later s,a4.later s,z,b3⟩⟩,⟨fun u aE=>∃ C G B H aU,u=.slice (zO aU 0) 1 1/\aE.heap[aU]?=some (.cells #[zI X.id,zI X.rq.queue,zI X.rq.fr,zI X.rq.un,zI X.rq.kind,.slice (zO C 0) X.rq.pn G,.slice (zO B 0) X.bn H] 60 (0,0))/\RunsIn aE (zO C 0) X.rq.pn G X.rq.ps/\RunsIn aE (zO B 0) X.bn H X.bs/\wr.heap.size<=C/\wr.heap.size<=B,fun _ _ _ ⟨C,G,B,H,aU,D,cy,I,a4,z,b3⟩ s=>⟨C,G,B,H,aU,D,(s.block _ (Array.getElem?_eq_some_iff.1 cy).1).trans cy,I.later s,a4.later s,z,b3⟩⟩,⟨fun u aE=>∃ C G B H M R,u=.slice (zO M 0) (x+1) R/\Made aE wr L L P al x an lb ⟨X.id,⟨X.rq.queue,X.rq.fr,X.rq.un,X.rq.kind,zO C 0,X.rq.pn,G,X.rq.ps⟩,zO B 0,X.bn,H,X.bs⟩ M R,fun _ _ _ ⟨C,G,B,H,M,R,D,I⟩ s=>⟨C,G,B,H,M,R,D,I.later s⟩⟩,zl (.pointer (zO P 3)),⟨fun u aE=>u=undef/\∃ C G B H M R,Put aE wr L P al x an lb ⟨X.id,⟨X.rq.queue,X.rq.fr,X.rq.un,X.rq.kind,zO C 0,X.rq.pn,G,X.rq.ps⟩,zO B 0,X.bn,H,X.bs⟩ M R c n (.slice (zO g 0) U ay),fun _ _ _ ⟨e,C,G,B,H,M,R,I⟩ s=>⟨e,C,G,B,H,M,R,I.later s⟩⟩] [] [(9,[7,8]),(11,[7,8,9])] L (cB) (by kernel_rfl) (by kernel_rfl) (by kernel_rfl) (by kernel_rfl) ?hg ?hstep ?hfin
   case hg =>
    intro g hg v w h;cases hg
   case hstep =>
    refine zc.cons 1 rfl ?_ ?_
    ·intro T w' W Y y t;show zu Tryz.prog _ _ _ _;have s:=W (by kernel_rfl);have N:T.getD 11 undef=.pointer (zO P 0):=y 11;exact zs (by go_simp) rfl
    refine zc.cons 2 rfl ?_ ?_
    ·intro T w' W Y y t;show zu Tryz.prog _ _ _ _;have s:=W (by kernel_rfl);have N:T.getD 59 undef=_:=t 0 59;have bx:=cell_later s c6.o;exact zs (by go_simp) rfl
    refine zc.cons 3 rfl ?_ ?_
    ·intro T w' W Y y t;show zu Tryz.prog _ _ _ _;have s:=W (by kernel_rfl);have N:T.getD 2 undef=.pointer (zO S 0):=y 2;exact zs (by go_simp) rfl
    refine zc.cons 4 rfl ?_ ?_
    ·intro T w' W Y y t;show zu Tryz.prog _ _ _ _;have s:=W (by kernel_rfl);have N:T.getD 61 undef=_:=t 2 61;have bx:=cell_later s c8.o;exact zs (by go_simp) rfl
    refine zc.cons 5 rfl ?_ ?_
    ·intro T w' W Y y t;show zu Tryz.prog _ _ _ _;have s:=W (by kernel_rfl);have N:T.getD 3 undef=.pointer (zO (S+1) 0):=y 3;have em:=cell_later s dM.o;have bo:=cell_later s dN.o;have aL:=cell_later s dO.o;have bS:=cell_later s dP.o;have en:=cell_later s dQ.o;exact zs (by go_simp) rfl
    refine zc.cons 6 rfl ?_ ?_
    ·intro T w' W Y y t;show zu Tryz.prog _ _ _ _;have s:=W (by kernel_rfl);have N:T.getD 9 undef=.slice X.ba X.bn X.bc:=y 9;exact zs (by go_simp) rfl
    refine zc.cons 7 rfl ?_ ?_
    ·intro T w' W Y y t;show zu Tryz.prog _ _ _ _;have s:=W (by kernel_rfl);have N:T.getD 62 undef=_:=t 3 62;have D:T.getD 63 undef=_:=t 4 63;have I:T.getD 64 undef=_:=t 5 64;have er:T[62]?.getD undef=zI X.id:=(by rw [<-N];simp);have d2:T[63]?.getD undef=.agg (zR X.rq):=(by rw [<-D];simp);have es:T[64]?.getD undef=.slice X.ba X.bn X.bc:=(by rw [<-I];simp);exact zs (by go_simp) rfl
    refine zc.cons 8 rfl ?_ ?_
    ·intro T w' W Y y t;show zu Tryz.prog _ _ _ _;have s:=W (by kernel_rfl);have N:T.getD 65 undef=_:=t 6 65;refine Or.inr ⟨59,#[.agg (zB X)],by go_simp,?_⟩;refine (dJ.o w' s).mono ?_;rintro e bL ⟨C,G,B,H,rfl,bm,bn,bH,bI,aR⟩;exact ⟨_,rfl,⟨C,G,B,H,rfl,bm,bn,Nat.le_trans s.size bH,Nat.le_trans s.size bI⟩,aR⟩
    refine zc.cons 9 rfl ?_ ?_
    ·intro T w' W Y y t;show zu Tryz.prog _ _ _ _;have s:=W (by kernel_rfl);obtain ⟨C,G,B,H,D,bm,bn,bH,bI⟩:=t 7 66;have d2:T[66]?.getD undef=.agg #[zI X.id,zI X.rq.queue,zI X.rq.fr,zI X.rq.un,zI X.rq.kind,.slice (zO C 0) X.rq.pn G,.slice (zO B 0) X.bn H]:=(by rw [<-D];simp);exact Or.inl ⟨.slice (zO w'.heap.size 0) 1 1,w'.alloc (.cells #[zI X.id,zI X.rq.queue,zI X.rq.fr,zI X.rq.un,zI X.rq.kind,.slice (zO C 0) X.rq.pn G,.slice (zO B 0) X.bn H] 60),by go_simp,⟨C,G,B,H,w'.heap.size,rfl,heap_alloc_new w' _,bm.later (zr _ _),bn.later (zr _ _),bH,bI⟩,zr _ _⟩
    refine zc.cons 10 rfl ?_ ?_
    ·intro T w' W Y y t;show Xd Tryz.prog _ _ _ _ _ _ _ _ _;have s:=W (by kernel_rfl);have N:T.getD 60 undef=_:=t 1 60;obtain ⟨C,G,B,H,aU,D,ea,bm,bn,bH,bI⟩:=t 8 67;obtain ⟨M,R,bL,ef,b5,b9⟩:=PZ w' wr L L P al x an lb ⟨X.id,⟨X.rq.queue,X.rq.fr,X.rq.un,X.rq.kind,zO C 0,X.rq.pn,G,X.rq.ps⟩,zO B 0,X.bn,H,X.bs⟩ aU 38 dl.o s ea ck.o ed cB cz bm dg.o (Nat.le_refl _) (fun _ b J e=>by injection e with e;injection e with e;omega) bV.o (fun _ b J e=>by injection e with e;injection e with e;subst e;exact ⟨by omega,fun aJ=>by have:=(bV.o B aJ).2;omega⟩) bn;refine ⟨.slice (zO M 0) (x+1) R,bL,Or.inl (Ze (.tmp 60) (.tmp 67) 38 rfl (.slice al x an) (.slice (zO aU 0) 1 1) N D ef),(fun h=>by cases h),⟨C,G,B,H,M,R,rfl,b5⟩,b9.mono d4,?_⟩;intro i D I a4 u ab
     match i with
     | 0=>exact ab
     | 1=>exact ab
     | 2=>exact ab
     | 3=>exact ab
     | 4=>exact ab
     | 5=>exact ab
     | 6=>exact ab
     | 7=>exact absurd I (by decide)
     | 8=>exact absurd I (by decide)
     | 9=>exact absurd rfl D
     | 10=>exact ab
     | 11=>exact absurd (a4.symm.trans (by kernel_rfl:_=true)) (by decide)
     | n+12=>exact ab
    refine zc.cons 11 rfl ?_ ?_
    ·intro T w' W Y y t;show zu Tryz.prog _ _ _ _;have N:T.getD 11 undef=.pointer (zO P 0):=y 11;exact zs (by go_simp) rfl
    refine zc.cons 12 rfl ?_ ?_
    ·intro T w' W Y y t;show Xd Tryz.prog _ _ _ _ _ _ _ _ _;obtain ⟨C,G,B,H,M,R,N,b5⟩:=t 9 68;have D:T.getD 69 undef=_:=t 10 69;obtain ⟨bA,ex,ey,b9⟩:=b5.put dA.o d3 cz (Y);refine ⟨undef,w'.setCell (zA P 3) (.slice (zO M 0) (x+1) R),Or.inr ⟨by go_simp,rfl⟩,fun _=>rfl,⟨rfl,C,G,B,H,M,R,bA⟩,b9,?_⟩;intro i D I a4 u ab
     match i with
     | 0=>exact ab
     | 1=>exact ab
     | 2=>exact ab
     | 3=>exact ab
     | 4=>exact ab
     | 5=>exact ab
     | 6=>exact ab
     | 7=>exact absurd I (by decide)
     | 8=>exact absurd I (by decide)
     | 9=>exact absurd I (by decide)
     | 10=>exact ab
     | 11=>exact absurd rfl D
     | n+12=>exact ab
    exact trivial
   case hfin =>
    intro T av s aa y t cL;obtain ⟨_,C,G,B,H,M,R,ad⟩:=cL 11 (by kernel_rfl) (by kernel_rfl) (by kernel_rfl);rw [yb (tt 59 [false,false,false,false,false,false,false,false,false,false,false] 7) (by kernel_rfl) aa @y];obtain ⟨us,a8⟩:∃ us:Nat->Value,(fun d=>T.getD d undef)=us:=⟨_,rfl⟩;rw [a8];clear y t aa a8 cL;simp only [xj,tt,List.replicate,List.cons_append,List.nil_append];have cD:=cm.o;have cd:∀ k,k<L->some k≠(Value.slice al x an).ownBlock:=fun k cP e=>by have:=bU.o k e.symm;omega
    have cY:zj av S (zI c) (zI n) (.slice aB U aC) (.slice aF x aG):=(ad.blk S (by omega) (by omega) (cd S (by omega))).trans dE.o;have cZ:zj av (S+2) (zI 0) (zI 0) zN zN:=(ad.blk (S+2) (by omega) (by omega) (cd (S+2) (by omega))).trans dH.o;obtain ⟨ak,aP⟩:=qB (av.setCell ⟨P,1,none⟩ (zI (n+1)));have bK:∀ k,k≠P->ak.heap[k]?=av.heap[k]?:=fun k cP=>by rw [aP];exact heap_setCell_other av (zA P 1) k _ cP
    have c4:zj ak P (zI c) (zI (n+1)) (.slice (zO g 0) U ay) (.slice (zO M 0) (x+1) R):=by
     rw [aP];unfold zj;rw [heap_setCell_same av P 1 _ _ _ ad.box];rfl
    have c0:zj ak S (zI c) (zI n) (.slice aB U aC) (.slice aF x aG):=(bK S (by omega)).trans cY;have bJ:zj ak (S+2) (zI 0) (zI 0) zN zN:=(bK (S+2) (by omega)).trans cZ;have cH:zL w ak:=by
     rw [aP];have eg:w.heap.size<=L:=(by have:=cl.o;omega);exact (da.o.trans (s.mono eg)).setCell (p:=(zA P 1)) (by simp only;omega) _
    have eD:IntKind.i64.wrap (n+1)=n+1:=(by rw [IntKind.wrap_i64];have:=dk.o;omega);obtain ⟨eh,bl,cg,ch⟩:=ad.box.cells;have el:∀ k,av.frozen? (zA P k)=false:=fun k=>frozen_of_row av P k _ _ ad.box;obtain ⟨eL,eM,eN,eO⟩:=c4.cells;obtain ⟨eH,eI,eJ,eK⟩:=c0.cells;obtain ⟨bN,bO,bP,bQ⟩:=bJ.cells;have bR:∀ k,ak.frozen? (zA (S+2) k)=false:=fun k=>frozen_of_row ak (S+2) k _ _ bJ;have eF:S≠P:=(by omega);have eG:S+2≠P:=(by omega);have ds:=zh ad;have dy:=zh bK;have dw:=zh aP;have dx:=zh bJ;have df:=zh cH;have ep:=zh s;clear ad cd cY cZ aP bK c4 c0 bJ cH s cD;go_wp2_with fail
    rw [<-dw.o];clear eh bl cg ch el;go_region
    have aH:=zk ak (S+2) 40 _ _ _ _ (zI c) (zI (n+1)) (.slice (zO g 0) U ay) (.slice (zO M 0) (x+1) R) dx.o;have co:=zh aH;have z:=bb.o;have bc:=zh ((((df.o.setCell (p:=(zA (S+2) 0)) z (zI c)).setCell (p:=(zA (S+2) 1)) z (zI (n+1))).setCell (p:=(zA (S+2) 2)) z (.slice (zO g 0) U ay)).setCell (p:=(zA (S+2) 3)) z (.slice (zO M 0) (x+1) R));clear aH z;go_wp2_with fail
    refine bodyPost_ret (v:=.tuple #[.agg (zS c (n+1) (zO g 0) U ay (zO M 0) (x+1) R),zI n,zI 0]) (zq Tryz.results62 _ _ (S+2) 40 (zS c (n+1) (zO g 0) U ay (zO M 0) (x+1) R) (0,0) _ rfl co.o.1 Tryz.underlying40 rfl (by kernel_rfl)) rfl ?_;obtain ⟨aO,b6⟩:=qB (((((ak.setCell ⟨S+2,0,none⟩ (zI c)).setCell ⟨S+2,1,none⟩ (zI (n+1))).setCell ⟨S+2,2,none⟩ (.slice (some ⟨g,0,none⟩) U ay)).setCell ⟨S+2,3,none⟩ (.slice (some ⟨M,0,none⟩) (x+1) R)).drew);have bE:∀ j,j≠S+2->j≠P->aO.heap[j]?=av.heap[j]?:=fun j eb ec=>by rw [b6];exact (co.o.2 j eb).trans (dy.o j ec)
    have d6:zL w aO:=(by rw [b6];exact ⟨bc.o.os,bc.o.tape,bc.o.output,bc.o.size,bc.o.block⟩);rw [<-b6];have ad:=ds.o;have cO:=dh.o;have eu:=cl.o;have cD:=cm.o;have af:∀ j,L<=j->j<P->(Value.slice al x an).ownBlock≠some j->aO.heap[j]?=wr.heap[j]?:=fun j cv cw b2=>by
     rw [bE j (by omega) (by omega)];exact ad.blk j (by omega) (by omega) (fun e=>b2 e.symm)
    have d9:OwnQs aO L (.slice (zO g 0) U ay) bj:=dm.o.keep (fun j e=>by
     have e:=xP.1 e;subst e;exact af g cO.1 cO.2 (fun e=>(bU.o g e).2.2 rfl)) (fun i ae F j J e=>by
     obtain ⟨cv,cw,b2⟩:=cj.o i ae F j J e;exact af j cv cw b2)
    have d7:=ad.own.blocks (w':=aO) (fun j e=>by
     have e:M=j:=xP.1 e;subst e;exact bE M (by have:=ad.low;omega) ad.ne) (fun i ae F j J e=>by have a:=ad.offP i ae F j J e;exact bE j (by omega) a.2) (fun i ae F j J e=>by have a:=ad.offB i ae F j J e;exact bE j (by omega) a.2)
    have eA:=ck.o;have ez:=di.o;have eB:(lb++[(⟨X.id,⟨X.rq.queue,X.rq.fr,X.rq.un,X.rq.kind,zO C 0,X.rq.pn,G,X.rq.ps⟩,zO B 0,X.bn,H,X.bs⟩:Bk)]).length=x+1:=(by simp;omega);have d8:BksIn aO (zO M 0) (x+1) R (lb++[⟨X.id,⟨X.rq.queue,X.rq.fr,X.rq.un,X.rq.kind,zO C 0,X.rq.pn,G,X.rq.ps⟩,zO B 0,X.bn,H,X.bs⟩]):=ym d7;refine ⟨c,n+1,zO g 0,U,ay,zO M 0,x+1,R,_,by rw [bW.o];rfl,Or.inr ⟨by rw [bW.o];rfl,bj,_,⟨y6 d9,d8⟩,rfl,rfl,dc.o,?_,⟨fun _ O J e=>?_,fun i ae F O J e=>?_,fun F O J e=>?_,fun i ae F O J e=>?_,fun i ae F O J e=>?_⟩⟩,d6⟩
    ·show zg (lb++[_])=zg b++[_];rw [dq.o];have:=db.o;unfold zg at this ⊢;rw [List.map_append,this]
     congr 1
     show [(⟨X.id,X.rq.bare,none,0,0,X.bs⟩:Bk)]=_;rw [cp.o,bX.o,cq.o]
    ·have aw:g=O:=(by injection e with e;injection e with aw);omega
    ·have:=cj.o i (by omega) F O J e;omega
    ·have aw:M=O:=(by injection e with e;injection e with aw);have:=ad.low;omega
    ·have:=ad.offP i (by omega) F O J e;omega
    have:=ad.offB i (by omega) F O J e;omega
end Go.Proofs.YtckpdfkobdgjeaaGreatDoor
