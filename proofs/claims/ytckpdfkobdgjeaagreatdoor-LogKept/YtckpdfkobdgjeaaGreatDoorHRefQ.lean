/- The reference's SubmitOf at a right state. -/
import Derived.Test.YtckpdfkobdgjeaaGreatDoorHRefP
import Derived.Test.YtckpdfkobdgjeaaGreatDoorHAll26
namespace Go.Proofs.YtckpdfkobdgjeaaGreatDoor
set_option maxRecDepth 100000
set_option maxHeartbeats 8000000
open Go.RowKit
theorem GL {l:QL} {r:Rq} (b:z9 l=0) (h:yI l r=0):z8 false r=0/\0<=r.queue/\r.queue<l.length:=by
 unfold yI at h;rw [if_pos b] at h;cases a:wV l.length r.queue with
 | true =>
  rw [a] at h;unfold z8 at h
  revert h
  repeat' split
  all_goals simp_all
 | false =>
  rw [a] at h;refine ⟨h,?_⟩;simp [wV,yW] at a;omega
theorem NN {l:QL} {b:BL} {r:Rq} (c:Clean l b) (h:z8 false r=0) (f:0<=r.queue) (a:r.queue<l.length):yU l b r=Zf r (xH l b r.queue):=by
 have d:Zq l b r.queue=0:=by unfold Zq;rw [if_pos (Xk c),if_pos (And.intro f a)]
 have e:yq (xH l b r.queue) r=0:=by unfold yq;rw [if_pos (zX.2 (XZ c a)),h]
 unfold yU;rw [if_pos d,if_pos e]
def YA (w w':World) (e:Ending) (c n:Int) (l:QL) (b:BL) (r:Rq):Prop:=∃ c' n' ta' tn' tc' ba' bn' bc' i,e=.returned (.tuple #[.agg (zS c' n' ta' tn' tc' ba' bn' bc'),zI i,zI (Zp c n l b r)])/\X9 w' w.heap.size (Zp c n l b r) ⟨c,n+1,zi l,zg b++[⟨n,r.bare,none,0,0,(yU l b r).1⟩]⟩ c' n' ta' tn' tc' ba' bn' bc'/\Below w.heap.size w w'
theorem YA.wrong {w w':World} {c n:Int} {l:QL} {b:BL} {r:Rq} {a:Int} (d:Zp c n l b r=a) (e:a≠0) (f:Below w.heap.size w w'):YA w w' (.returned (.tuple #[.agg zZ,zI 0,zI a])) c n l b r:=by
 refine ⟨_,_,_,_,_,_,_,_,_,by rw [d],Or.inl ⟨by rw [d];exact e,rfl,rfl,rfl,rfl,rfl,rfl,rfl,rfl⟩,f⟩
theorem J1 (w:World) (c n:Int) (ay:Option Addr) (O az:Nat) (l:QL) (ba:Option Addr) (bn bc:Nat) (b:BL) (h:zY w ay O az l ba bn bc b) (C:zU c n l b=0) (r:Rq) (V:zH w r) :
 zC 62 #[.agg (zS c n ay O az ba bn bc),.agg #[zI r.queue,zI r.fr,zI r.un,zI r.kind,.slice r.pa r.pn r.pc]] w fun e w'=>YA w w' e c n l b r:=by
 have W:=yZ C;have bf:=Yn h W.clean;have bB:=h.2.len;have bF:=h.1.len;obtain ⟨S,cB⟩:=qA (w.heap.size);obtain ⟨bZ,aT⟩:=qB (((w.alloc (.cells (zS c n ay O az ba bn bc) 40)).alloc (.cells (zR r) 24)).alloc (.cells zZ 40));obtain ⟨aX,a5,a6,U,a3⟩:=YL w _ _ _ _ r aT;rw [cB] at aX a5 a6 a3;have a9:=zh (Zm bZ c n ay O az l ba bn bc b (h.later U) W);have aP:=zh fun X (au:zL w X)=>Ue X ay O az l (h.1.later au) r (zH.later V au);obtain ⟨bb,c1,c2,c3⟩:=aX.cells;rw [aT] at bb c1 c2 c3;have bt:=zh aX;have bu:=zh a5;have bv:=zh a6;have bo:=zh U;have bq:=zh aT;have ck:=zh cB;have du:=zh a3;have x:w.heap.size<=S+2:=by omega
 have a7:=zh x;obtain ⟨aY,aS⟩:=qA (yI l r);by_cases ab:yI l r=0
 case neg =>
  have ar:Zp c n l b r=aY:=by
   have aE:wW c n l b r=aY:=(by unfold wW;rw [if_pos C,if_neg ab,aS]);unfold Zp;rw [aE,if_neg (by rw [<-aS];exact ab)]
  rw [aS] at aP ab;have eD:(aY != 0)=true:=by simpa using ab
  have aZ:=zh (And.intro ar ab);clear aT aX a5 a6 U h a3 C W bf ar ab aS bB bF V x;go_enter Tryz.func62,Tryz.ntmps62;go_wp2_with fail
  rw [<-bq.o];refine a9.o.mono ?_;rintro e aG ⟨rfl,M⟩;have aO:=zh (bv.o.later M);have aw:=zh (za bo.o M);obtain ⟨af,ag,ad,ae⟩:=(bt.o.later M).cells;obtain ⟨al,am,an,ao,ap⟩:=(bu.o.later M).cells;clear M bb c1 c2 c3;go_wp2_with fail
  refine (aP.o aG aw.o).mono ?_;rintro e aA ⟨rfl,Q⟩;have ax:=zh (aO.o.later Q);have aD:=zh (za aw.o Q);obtain ⟨bM,bN,bO,bP⟩:=ax.o.cells;have bQ:∀ k,aA.frozen? (zA (S+2) k)=false:=fun k=>frozen_of_row aA (S+2) k _ _ ax.o;clear Q af ag ad ae al am an ao ap;go_wp2_with fail
  have aC:=zk aA (S+2) 40 _ _ _ _ (zI 0) (zI 0) zN zN ax.o;have x:=a7.o;refine bodyPost_ret (v:=.tuple #[.agg zZ,zI 0,zI aY]) (zq Tryz.results62 _ _ (S+2) 40 zZ (0,0) _ rfl aC.1 Tryz.underlying40 rfl (by kernel_rfl)) rfl (YA.wrong aZ.o.1 aZ.o.2 ?_);exact ((((aD.o.setCell (p:=(zA (S+2) 0)) x _).setCell (p:=(zA (S+2) 1)) x _).setCell (p:=(zA (S+2) 2)) x _).setCell (p:=(zA (S+2) 3)) x _)
 rw [ab] at aP;by_cases cR:r.fr<c
 ·have ar:Zp c n l b r=9:=by
   have aE:wW c n l b r=9:=(by unfold wW;rw [if_pos C,if_pos ab,if_pos cR]);unfold Zp;rw [aE,if_neg (by decide)]
  have aZ:=zh ar;clear aT aX a5 a6 U h a3 C W bf ar ab aS bB bF V x;go_enter Tryz.func62,Tryz.ntmps62;go_wp2_with fail
  rw [<-bq.o];refine a9.o.mono ?_;rintro e aG ⟨rfl,M⟩;have aI:=zh (bt.o.later M);have aJ:=zh (bu.o.later M);have aO:=zh (bv.o.later M);have aw:=zh (za bo.o M);obtain ⟨af,ag,ad,ae⟩:=aI.o.cells;obtain ⟨al,am,an,ao,ap⟩:=aJ.o.cells;clear M bb c1 c2 c3;go_wp2_with fail
  refine (aP.o aG aw.o).mono ?_;rintro e aA ⟨rfl,Q⟩;have ax:=zh (aO.o.later Q);have aD:=zh (za aw.o Q);obtain ⟨bM,bN,bO,bP⟩:=ax.o.cells;have bQ:∀ k,aA.frozen? (zA (S+2) k)=false:=fun k=>frozen_of_row aA (S+2) k _ _ ax.o;clear af ag ad ae al am an ao ap;obtain ⟨af,ag,ad,ae⟩:=(aI.o.later Q).cells;obtain ⟨al,am,an,ao,ap⟩:=(aJ.o.later Q).cells;clear Q;go_wp2_with fail
  have aC:=zk aA (S+2) 40 _ _ _ _ (zI 0) (zI 0) zN zN ax.o;have x:=a7.o;refine bodyPost_ret (v:=.tuple #[.agg zZ,zI 0,zI 9]) (zq Tryz.results62 _ _ (S+2) 40 zZ (0,0) _ rfl aC.1 Tryz.underlying40 rfl (by kernel_rfl)) rfl (YA.wrong aZ.o (by decide) ?_);exact ((((aD.o.setCell (p:=(zA (S+2) 0)) x _).setCell (p:=(zA (S+2) 1)) x _).setCell (p:=(zA (S+2) 2)) x _).setCell (p:=(zA (S+2) 3)) x _)
 have bE:wW c n l b r=0:=by unfold wW;rw [if_pos C,if_pos ab,if_neg cR]
 have eu:bn<=12:=by have:=W.clean.few;omega
 have eB:=W.n1;by_cases cb:bn=12\/n=1048576
 ·have ar:Zp c n l b r=2:=by unfold Zp;rw [if_pos bE,if_pos (by omega)]
  have aZ:=zh ar;have ed:((bn:Int)==12)=true\/(((bn:Int)==12)=false/\(n==1048576)=true):=by
   by_cases g:bn=12
   ·exact Or.inl (by simp [g])
   refine Or.inr ⟨?_,?_⟩
   ·simp;omega
   rcases cb with bd | bd
   ·exact absurd bd g
   simp [bd]
  clear aT aX a5 a6 U h a3 C W bf ar ab aS bB bF V x bE cb;rcases ed with cw | ⟨cw,bd⟩
  all_goals
   go_enter Tryz.func62,Tryz.ntmps62;go_wp2_with fail
   rw [<-bq.o];refine a9.o.mono ?_;rintro e aG ⟨rfl,M⟩;have aI:=zh (bt.o.later M);have aJ:=zh (bu.o.later M);have aO:=zh (bv.o.later M);have aw:=zh (za bo.o M);obtain ⟨af,ag,ad,ae⟩:=aI.o.cells;obtain ⟨al,am,an,ao,ap⟩:=aJ.o.cells;clear M bb c1 c2 c3;go_wp2_with fail
   refine (aP.o aG aw.o).mono ?_;rintro e aA ⟨rfl,Q⟩;have ax:=zh (aO.o.later Q);have aD:=zh (za aw.o Q);obtain ⟨bM,bN,bO,bP⟩:=ax.o.cells;have bQ:∀ k,aA.frozen? (zA (S+2) k)=false:=fun k=>frozen_of_row aA (S+2) k _ _ ax.o;clear af ag ad ae al am an ao ap;obtain ⟨af,ag,ad,ae⟩:=(aI.o.later Q).cells;obtain ⟨al,am,an,ao,ap⟩:=(aJ.o.later Q).cells;clear Q;go_wp2_with fail
   have aC:=zk aA (S+2) 40 _ _ _ _ (zI 0) (zI 0) zN zN ax.o;have x:=a7.o;refine bodyPost_ret (v:=.tuple #[.agg zZ,zI 0,zI 2]) (zq Tryz.results62 _ _ (S+2) 40 zZ (0,0) _ rfl aC.1 Tryz.underlying40 rfl (by kernel_rfl)) rfl (YA.wrong aZ.o (by decide) ?_);exact ((((aD.o.setCell (p:=(zA (S+2) 0)) x _).setCell (p:=(zA (S+2) 1)) x _).setCell (p:=(zA (S+2) 2)) x _).setCell (p:=(zA (S+2) 3)) x _)
 have cw:((bn:Int)==12)=false:=by simp;omega
 have bd:(n==1048576)=false:=by simp;omega
 obtain ⟨be,a2,ce⟩:=GL W.clean.tree ab;have cT:=NN W.clean be a2 ce;obtain ⟨f,bC⟩:=qA (xH l b r.queue);have b9:zW f:=by rw [<-bC];exact XZ W.clean ce
 have bY:=zh fun X (au:zL w X)=>J5 X ay O az l ba bn bc b (h.later au) W.clean r.queue.toNat (by omega);rw [NS W.clean (by omega),Int.toNat_of_nonneg a2,bC] at bY;have bX:=zh fun X (au:zL w X)=>Nf X f b9 r (zH.later V au) be;obtain ⟨B,bx⟩:=qA (Zf r f);rw [bx] at bX;have cd:yU l b r=B:=by rw [cT,bC,bx]
 have dp:=zh cd;have cW:Zp c n l b r=if B.2=true then 0 else 8:=by unfold Zp;rw [if_pos bE,if_neg (by omega),cd]
 have bV:=zh cW;have dt:=zh V;have dq:=zh (V7 ab);have ds:=zh (RunsIn.len V);have dm:Zh (0<r.ps.length):=by have:=of_decide_eq_true (zv.1 be).2.1;show 0<r.ps.length;omega
 have di:Zh (B.2=true->0<B.1.length/\B.1.length<=3):=fun e=>by
  have dW:yq f r=0:=by unfold yq;rw [if_pos (zX.2 b9)];exact be
  obtain ⟨bi,_⟩:=Td (b:=B.1) dW (by rw [bx];exact Prod.ext rfl e);have cf:=(yk.1 bi).2.1;have cg:=(zv.1 (yk.1 bi).1).2.1;have ei:B.1.length<=3:=Ym bi;simp [yW] at cg;have eh:0<xu r:=by unfold xu;split <;> omega
  refine ⟨?_,ei⟩;have ej:(0:Int)<B.1.length:=by rw [cf];exact eh
  exact Int.ofNat_lt.1 ej
 have dH:=zh fun X (au:zL w X)=>WK X c n ay O az l ba bn bc b (h.later au) bf;have ev:bn<12:=by omega
 have dj:Zh (0<=n/\n<1048576):=by have:=W.n0;show 0<=n/\n<1048576;omega
 clear aT aX a5 a6 U h a3 C W bf ab aS bB bF V x bE cb be a2 ce cT b9 bC bx cd cW;go_enter Tryz.func62,Tryz.ntmps62;go_wp2_with fail
 rw [<-bq.o];refine a9.o.mono ?_;rintro e aG ⟨rfl,M⟩;have aI:=zh (bt.o.later M);have aJ:=zh (bu.o.later M);have aO:=zh (bv.o.later M);have aw:=zh (za bo.o M);have dC:Zh (S+3<=aG.heap.size):=by have:=M.size;have:=du.o;show S+3<=aG.heap.size;omega
 obtain ⟨af,ag,ad,ae⟩:=aI.o.cells;obtain ⟨al,am,an,ao,ap⟩:=aJ.o.cells;clear M bb c1 c2 c3;go_wp2_with fail
 refine (aP.o aG aw.o).mono ?_;rintro e wr ⟨rfl,Q⟩;have cq:=zh (aI.o.later Q);have cs:=zh (aJ.o.later Q);have dB:=zh (aO.o.later Q);have aD:=zh (za aw.o Q);have dE:Zh (S+3<=wr.heap.size):=by have:=Q.size;have:=dC.o;show S+3<=wr.heap.size;omega
 clear af ag ad ae al am an ao ap Q;obtain ⟨af,ag,ad,ae⟩:=cq.o.cells;obtain ⟨al,am,an,ao,ap⟩:=cs.o.cells;have c8:=zh ad;have c6:=zh ae;have ct:=zh al;have dQ:=zh am;have dR:=zh an;have dS:=zh ao;have dT:=zh ap;have dK:=zh fun X (au:zL wr X)=>bY.o X (za aD.o au);have dJ:=zh fun X (au:zL wr X)=>bX.o X (za aD.o au);clear a9 aP bY bX;go_upto_region 11 with fail
 go_cut [9,10] (fun p q aq=>∃ (dV:World) (X:Bk),dV=aq/\p=.slice X.ba X.bn X.bc/\q=.bool B.2/\X.id=n/\X.rq=r/\X.bs=B.1/\(B.2=true->wk wr.heap.size aq X.ba X.bn X.bc B.1)/\zL wr aq)
 case first =>
  clear af ag ad ae al am an ao ap;refine zV ((Tryz.f62.body.bind fun c=>yi c 11).getD #[]) (by kernel_rfl) [zl (.pointer (zO S 2)),zl (.slice ay O az),zl (.pointer (zO S 3)),zl (.slice ba bn bc),zl (.pointer (zO (S+1) 0)),zl (zI r.queue),zl (.agg (ya (zn f))),zl (.agg (zR r)),⟨fun v X=>∃ a n cap,v=.tuple #[.slice a n cap,.bool B.2]/\(B.2=true->wk wr.heap.size X a n cap B.1),fun _ X b0 ⟨a,n,cap,A,F⟩ s=>⟨a,n,cap,A,fun e=>(F e).later s⟩⟩,⟨fun v X=>∃ a n cap,v=.tuple #[.slice a n cap,.bool B.2]/\(B.2=true->wk wr.heap.size X a n cap B.1),fun _ X b0 ⟨a,n,cap,A,F⟩ s=>⟨a,n,cap,A,fun e=>(F e).later s⟩⟩,⟨fun v X=>∃ a n cap,v=.slice a n cap/\(B.2=true->wk wr.heap.size X a n cap B.1),fun _ X b0 ⟨a,n,cap,A,F⟩ s=>⟨a,n,cap,A,fun e=>(F e).later s⟩⟩,zl (.bool B.2),⟨fun v X=>∃ a n cap,v=.slice a n cap/\(B.2=true->wk wr.heap.size X a n cap B.1),fun _ X b0 ⟨a,n,cap,A,F⟩ s=>⟨a,n,cap,A,fun e=>(F e).later s⟩⟩,zl (.bool B.2)] [] (by kernel_rfl) (by kernel_rfl) (by kernel_rfl) ?hg ?hstep ?hfin
  case hg =>
   intro g hg v w h;cases hg
  case hstep =>
   refine zc.cons 1 rfl ?_ ?_
   ·intro T w' s u t;have I:T.getD 2 undef=.pointer (zO S 0):=u 2;exact zs (by go_simp) rfl
   refine zc.cons 2 rfl ?_ ?_
   ·intro T w' s u t;have I:T.getD 43 undef=_:=t 0 43;have bw:=cell_later s c8.o;exact zs (by go_simp) rfl
   refine zc.cons 3 rfl ?_ ?_
   ·intro T w' s u t;have I:T.getD 2 undef=.pointer (zO S 0):=u 2;exact zs (by go_simp) rfl
   refine zc.cons 4 rfl ?_ ?_
   ·intro T w' s u t;have I:T.getD 45 undef=_:=t 2 45;have bw:=cell_later s c6.o;exact zs (by go_simp) rfl
   refine zc.cons 5 rfl ?_ ?_
   ·intro T w' s u t;have I:T.getD 3 undef=.pointer (zO (S+1) 0):=u 3;exact zs (by go_simp) rfl
   refine zc.cons 6 rfl ?_ ?_
   ·intro T w' s u t;have I:T.getD 47 undef=_:=t 4 47;have bw:=cell_later s ct.o;exact zs (by go_simp) rfl
   refine zc.cons 7 rfl ?_ ?_
   ·intro T w' s u t;have I:T.getD 44 undef=_:=t 1 44;have A:T.getD 46 undef=_:=t 3 46;have F:T.getD 48 undef=_:=t 5 48;refine Or.inr ⟨107,#[.slice ay O az,.slice ba bn bc,zI r.queue],by go_simp,?_⟩;refine (dK.o w' s).mono ?_;rintro e bK ⟨rfl,aN⟩;exact ⟨_,rfl,rfl,aN⟩
   refine zc.cons 8 rfl ?_ ?_
   ·intro T w' s u t;have I:T.getD 3 undef=.pointer (zO (S+1) 0):=u 3;have el:=cell_later s ct.o;have bm:=cell_later s dQ.o;have aH:=cell_later s dR.o;have bR:=cell_later s dS.o;have em:=cell_later s dT.o;exact zs (by go_simp) rfl
   refine zc.cons 9 rfl ?_ ?_
   ·intro T w' s u t;have I:T.getD 49 undef=_:=t 6 49;have A:T.getD 50 undef=_:=t 7 50;refine Or.inr ⟨70,#[.agg (ya (zn f)),.agg (zR r)],by go_simp,?_⟩;refine (dJ.o w' s).mono ?_;rintro e bK ⟨a,n,cap,rfl,V,aN⟩;exact ⟨_,rfl,⟨a,n,cap,rfl,fun e=>(V e).mono s.size⟩,aN⟩
   refine zc.cons 10 rfl ?_ ?_
   ·intro T w' s u t;obtain ⟨a,n,cap,I,V⟩:=t 8 51;exact Or.inl ⟨.tuple #[.slice a n cap,.bool B.2],w',by go_simp,⟨a,n,cap,rfl,V⟩,Below.refl _ _⟩
   refine zc.cons 11 rfl ?_ ?_
   ·intro T w' s u t;obtain ⟨a,n,cap,I,V⟩:=t 9 42;exact Or.inl ⟨.slice a n cap,w',by go_simp,⟨a,n,cap,rfl,V⟩,Below.refl _ _⟩
   refine zc.cons 12 rfl ?_ ?_
   ·intro T w' s u t;obtain ⟨a,n,cap,I,V⟩:=t 9 42;exact zs (by go_simp) rfl
   refine zc.cons 13 rfl ?_ ?_
   ·intro T w' s u t;obtain ⟨a,n,cap,I,V⟩:=t 10 52;exact Or.inl ⟨.slice a n cap,w',by go_simp,⟨a,n,cap,rfl,V⟩,Below.refl _ _⟩
   refine zc.cons 14 rfl ?_ ?_
   ·intro T w' s u t;have I:T.getD 53 undef=_:=t 11 53;exact zs (by go_simp) rfl
   exact trivial
  case hfin =>
   intro T w' s W u t;obtain ⟨a,m,cap,dY,V⟩:=t 12 9;have dX:T.getD 10 undef=.bool B.2:=t 13 10;rw [yb (tt 9 [false,false,true,true,true,true,true,true,true,true,true,true,true,true,true,true,true,true,true,true,true,true,true,true,true,true,true,true,true,true,true,true,true,false,false,false,false,false,false,false,false,false,false,false,false] 23) (by kernel_rfl) W @u];obtain ⟨us,a4⟩:∃ us:Nat->Value,(fun d=>T.getD d undef)=us:=⟨_,rfl⟩;rw [a4];have d0:us 9=.slice a m cap:=(by rw [<-a4];exact dY);have dZ:us 10=.bool B.2:=(by rw [<-a4];exact dX);apply_assumption;simp only [xj,tt,List.replicate,List.cons_append,List.nil_append];go_meet;exact ⟨_,⟨n,r,a,m,cap,B.1⟩,rfl,d0,dZ,rfl,rfl,rfl,V,s⟩
 case rest =>
  obtain ⟨aW,X,rfl,rfl,rfl,b6,bA,b7,a1,aU⟩:=hcut;have br:=zh (dB.o.later aU);have cr:=zh (cq.o.later aU);have dA:=zh (cs.o.later aU);have bS:=zh (za aD.o aU);have dF:Zh (S+3<=aW.heap.size):=by have:=aU.size;have:=dE.o;show S+3<=aW.heap.size;omega
  obtain ⟨en,c4⟩:=B;cases c4 with
  | false =>
   obtain ⟨bM,bN,bO,bP⟩:=br.o.cells;have bQ:∀ k,aW.frozen? (zA (S+2) k)=false:=fun k=>frozen_of_row aW (S+2) k _ _ br.o;clear b6 bA b7 a1 aU af ag ad ae al am an ao ap;go_wp2_with fail
   have aC:=zk aW (S+2) 40 _ _ _ _ (zI 0) (zI 0) zN zN br.o;have x:=a7.o;refine bodyPost_ret (v:=.tuple #[.agg zZ,zI 0,zI 8]) (zq Tryz.results62 _ _ (S+2) 40 zZ (0,0) _ rfl aC.1 Tryz.underlying40 rfl (by kernel_rfl)) rfl (YA.wrong (by rw [bV.o];rfl) (by decide) ?_);exact ((((bS.o.setCell (p:=(zA (S+2) 0)) x _).setCell (p:=(zA (S+2) 1)) x _).setCell (p:=(zA (S+2) 2)) x _).setCell (p:=(zA (S+2) 3)) x _)
  | true =>
   have a1:=a1 rfl;have cI:=di.o rfl;have cF:=a1.1.len;have dc:=zh a1;have co:=zh b6;have bW:=zh bA;have cp:=zh b7;clear af ag ad ae al am an ao ap;obtain ⟨af,ag,ad,ae⟩:=cr.o.cells;have a2:0<X.bn/\X.bn<=1000:=(by simp only at cI cF;omega);have cS:0<X.rq.pn/\X.rq.pn<=1000:=(by have:=ds.o;have:=dq.o;have:=dm.o;rw [bA];omega);have bp:=zh (And.intro a2 cS);clear b6 bA b7 a1 aU cI cF a2 cS;go_wp2_with fail
   refine (dH.o aW bS.o).mono ?_;rintro e bL ⟨g,av,bh,ai,ak,lb,rfl,aj,cQ,cH,cJ,aN,aV⟩;obtain ⟨L,cz⟩:=qA (aW.heap.size);rw [cz] at aj;obtain ⟨P,bz⟩:=qA (bL.heap.size);obtain ⟨wr,bg⟩:=qB (bL.alloc (.cells (zS c n (some ⟨g,0,none⟩) O av ai bn ak) 40));have aM:zL bL wr:=(by rw [bg];exact zr _ _);have cV:wr.heap.size=P+1:=(by rw [bg,<-bz];simp);have ch:zj wr P (zI c) (zI n) (.slice (zO g 0) O av) (.slice ai bn ak):=(by rw [bg,<-bz];exact zj.new bL _ _ _ _);have b3:=za (za bS.o aV) aM;have d4:L<=P:=(by have:=aV.size;omega);have es:S+3<=L:=(by have:=dF.o;omega);have cA:L<=wr.heap.size:=(by omega);have cy:P<wr.heap.size:=(by omega);have d2:L<=P:=d4;have d3:L<=L:=Nat.le_refl _;have ec:bn<=12:=(by omega);have cU:=aj.qs.later aM;have cP:=aj.bks.later aM;have cL:L<=g/\g<P:=(by have:=aj.qs.row.lt g (xP.2 rfl);omega);have bT:Zh (∀ aR,(Value.slice ai bn ak).ownBlock=some aR->L<=aR/\aR<P/\aR≠g):=fun aR e=>by
    have A:=aj.bks.row.lt aR e;have F:=(aj.apart aR e).1;exact ⟨A.1,by omega,fun aE=>F (by rw [aE];rfl)⟩
   have ci:Zh (∀ i,i<bh.length->0<(qu bh i).cn->∀ J G,(qu bh i).ca=zO J G->L<=J/\J<P/\(Value.slice ai bn ak).ownBlock≠some J):=fun i aa C J G e=>by
    have A:=aj.newC i aa C J G e;have F:=(aj.qs.caps i aa).lt C e;exact ⟨A,by omega,fun aE=>(aj.apart J aE).2 i aa C J G e rfl⟩
   have df:Zh (∀ i,i<lb.length->(0<(bk lb i).rq.pn->∀ g G,(bk lb i).rq.pa=zO g G->L<=g/\g≠P)/\(0<(bk lb i).bn->∀ g G,(bk lb i).ba=zO g G->L<=g/\g≠P)):=fun i aa=>⟨fun C g G e=>by have A:=aj.newP i aa C g G e;have F:=RunsIn.lt (aj.bks.rqs i aa) C e;omega,fun C g G e=>by have A:=aj.newB i aa C g G e;have F:=(aj.bks.bites i aa).lt C e;omega⟩;have bU:Zh (∀ J,(Value.slice ai bn ak).ownBlock=some J->J≠P/\J<wr.heap.size):=fun J e=>by have:=bT.o J e;omega
   have dz:Zh (zj wr P (zI c) (zI n) (.slice (zO g 0) O av) (.slice ai bn ak)/\some P≠(Value.slice ai bn ak).ownBlock):=⟨ch,fun e=>(bU.o P e.symm).1 rfl⟩;have bm:=(cr.o.later aV).later aM;have aH:=(dA.o.later aV).later aM;have bR:=(br.o.later aV).later aM;rw [<-bW.o] at aH;have cE:zH wr X.rq:=(by rw [bW.o];exact zH.later dt.o b3);have cD:RunsIn wr X.ba X.bn X.bc X.bs:=(by rw [cp.o];exact (dc.o.1.later aV).later aM);have dI:=zh fun ah (aL:zL wr ah)=>Vd ah X (zH.later cE aL) (cD.later aL) bp.o.2.1 bp.o.2.2 bp.o.1.1 bp.o.1.2;have c7:Zh (wr.cell? (zA S 1)=some (zI X.id)):=(by rw [co.o];exact bm.cells.2.1);have c5:=zh ch.cells.2.2.2;have dL:=zh aH.cells.1;have dM:=zh aH.cells.2.1;have dN:=zh aH.cells.2.2.1;have dO:=zh aH.cells.2.2.2.1;have dP:=zh aH.cells.2.2.2.2;have dk:=zh cP;have dl:=zh cU;have cj:=zh cH;have dh:=zh cQ;have db:=zh cJ;have da:=zh aN;have c9:=zh b3;have dD:=zh bm;have dG:=zh bR;have dg:=zh cL;have dy:=zh bg;have cl:=zh cV;clear aj cQ cH cJ aN aV cz aM ch b3 cU cP cL bm aH bR cE cD af ag ad ae cV bg;go_upto_region 15 with fail
   rw [<-dy.o];refine Zl ((Tryz.f62.body.bind fun c=>yi c 15).getD #[]) (by kernel_rfl) [zl (.pointer (zO P 3)),zl (.slice ai bn ak),zl (.pointer (zO S 1)),zl (zI X.id),zl (.agg (zR X.rq)),zl (.slice X.ba X.bn X.bc),zl (.agg (zB X)),⟨fun aF aB=>∃ z D y E,aF=.agg #[zI X.id,zI X.rq.queue,zI X.rq.fr,zI X.rq.un,zI X.rq.kind,.slice (zO z 0) X.rq.pn D,.slice (zO y 0) X.bn E]/\RunsIn aB (zO z 0) X.rq.pn D X.rq.ps/\RunsIn aB (zO y 0) X.bn E X.bs/\wr.heap.size<=z/\wr.heap.size<=y,fun _ _ _ ⟨z,D,y,E,A,F,a0,x,b2⟩ s=>⟨z,D,y,E,A,F.later s,a0.later s,x,b2⟩⟩,⟨fun aF aB=>∃ z D y E aQ,aF=.slice (zO aQ 0) 1 1/\aB.heap[aQ]?=some (.cells #[zI X.id,zI X.rq.queue,zI X.rq.fr,zI X.rq.un,zI X.rq.kind,.slice (zO z 0) X.rq.pn D,.slice (zO y 0) X.bn E] 60 (0,0))/\RunsIn aB (zO z 0) X.rq.pn D X.rq.ps/\RunsIn aB (zO y 0) X.bn E X.bs/\wr.heap.size<=z/\wr.heap.size<=y,fun _ _ _ ⟨z,D,y,E,aQ,A,cx,F,a0,x,b2⟩ s=>⟨z,D,y,E,aQ,A,(s.block _ (Array.getElem?_eq_some_iff.1 cx).1).trans cx,F.later s,a0.later s,x,b2⟩⟩,⟨fun aF aB=>∃ z D y E H N,aF=.slice (zO H 0) (bn+1) N/\Made aB wr L L P ai bn ak lb ⟨X.id,⟨X.rq.queue,X.rq.fr,X.rq.un,X.rq.kind,zO z 0,X.rq.pn,D,X.rq.ps⟩,zO y 0,X.bn,E,X.bs⟩ H N,fun _ _ _ ⟨z,D,y,E,H,N,A,F⟩ s=>⟨z,D,y,E,H,N,A,F.later s⟩⟩,zl (.pointer (zO P 3)),⟨fun aF aB=>aF=undef/\∃ z D y E H N,Put aB wr L P ai bn ak lb ⟨X.id,⟨X.rq.queue,X.rq.fr,X.rq.un,X.rq.kind,zO z 0,X.rq.pn,D,X.rq.ps⟩,zO y 0,X.bn,E,X.bs⟩ H N c n (.slice (zO g 0) O av),fun _ _ _ ⟨e,z,D,y,E,H,N,F⟩ s=>⟨e,z,D,y,E,H,N,F.later s⟩⟩] [] [(9,[7,8]),(11,[7,8,9])] L (cA) (by kernel_rfl) (by kernel_rfl) (by kernel_rfl) (by kernel_rfl) ?hg ?hstep ?hfin
   case hg =>
    intro g hg v w h;cases hg
   case hstep =>
    refine zc.cons 1 rfl ?_ ?_
    ·intro T w' R U u t;show zu Tryz.prog _ _ _ _;have s:=R (by kernel_rfl);have I:T.getD 11 undef=.pointer (zO P 0):=u 11;exact zs (by go_simp) rfl
    refine zc.cons 2 rfl ?_ ?_
    ·intro T w' R U u t;show zu Tryz.prog _ _ _ _;have s:=R (by kernel_rfl);have I:T.getD 59 undef=_:=t 0 59;have bw:=cell_later s c5.o;exact zs (by go_simp) rfl
    refine zc.cons 3 rfl ?_ ?_
    ·intro T w' R U u t;show zu Tryz.prog _ _ _ _;have s:=R (by kernel_rfl);have I:T.getD 2 undef=.pointer (zO S 0):=u 2;exact zs (by go_simp) rfl
    refine zc.cons 4 rfl ?_ ?_
    ·intro T w' R U u t;show zu Tryz.prog _ _ _ _;have s:=R (by kernel_rfl);have I:T.getD 61 undef=_:=t 2 61;have bw:=cell_later s c7.o;exact zs (by go_simp) rfl
    refine zc.cons 5 rfl ?_ ?_
    ·intro T w' R U u t;show zu Tryz.prog _ _ _ _;have s:=R (by kernel_rfl);have I:T.getD 3 undef=.pointer (zO (S+1) 0):=u 3;have el:=cell_later s dL.o;have bm:=cell_later s dM.o;have aH:=cell_later s dN.o;have bR:=cell_later s dO.o;have em:=cell_later s dP.o;exact zs (by go_simp) rfl
    refine zc.cons 6 rfl ?_ ?_
    ·intro T w' R U u t;show zu Tryz.prog _ _ _ _;have s:=R (by kernel_rfl);have I:T.getD 9 undef=.slice X.ba X.bn X.bc:=u 9;exact zs (by go_simp) rfl
    refine zc.cons 7 rfl ?_ ?_
    ·intro T w' R U u t;show zu Tryz.prog _ _ _ _;have s:=R (by kernel_rfl);have I:T.getD 62 undef=_:=t 3 62;have A:T.getD 63 undef=_:=t 4 63;have F:T.getD 64 undef=_:=t 5 64;have ep:T[62]?.getD undef=zI X.id:=(by rw [<-I];simp);have d1:T[63]?.getD undef=.agg (zR X.rq):=(by rw [<-A];simp);have er:T[64]?.getD undef=.slice X.ba X.bn X.bc:=(by rw [<-F];simp);exact zs (by go_simp) rfl
    refine zc.cons 8 rfl ?_ ?_
    ·intro T w' R U u t;show zu Tryz.prog _ _ _ _;have s:=R (by kernel_rfl);have I:T.getD 65 undef=_:=t 6 65;refine Or.inr ⟨59,#[.agg (zB X)],by go_simp,?_⟩;refine (dI.o w' s).mono ?_;rintro e bK ⟨z,D,y,E,rfl,bj,bl,bG,bH,aN⟩;exact ⟨_,rfl,⟨z,D,y,E,rfl,bj,bl,Nat.le_trans s.size bG,Nat.le_trans s.size bH⟩,aN⟩
    refine zc.cons 9 rfl ?_ ?_
    ·intro T w' R U u t;show zu Tryz.prog _ _ _ _;have s:=R (by kernel_rfl);obtain ⟨z,D,y,E,A,bj,bl,bG,bH⟩:=t 7 66;have d1:T[66]?.getD undef=.agg #[zI X.id,zI X.rq.queue,zI X.rq.fr,zI X.rq.un,zI X.rq.kind,.slice (zO z 0) X.rq.pn D,.slice (zO y 0) X.bn E]:=(by rw [<-A];simp);exact Or.inl ⟨.slice (zO w'.heap.size 0) 1 1,w'.alloc (.cells #[zI X.id,zI X.rq.queue,zI X.rq.fr,zI X.rq.un,zI X.rq.kind,.slice (zO z 0) X.rq.pn D,.slice (zO y 0) X.bn E] 60),by go_simp,⟨z,D,y,E,w'.heap.size,rfl,heap_alloc_new w' _,bj.later (zr _ _),bl.later (zr _ _),bG,bH⟩,zr _ _⟩
    refine zc.cons 10 rfl ?_ ?_
    ·intro T w' R U u t;show Xd Tryz.prog _ _ _ _ _ _ _ _ _;have s:=R (by kernel_rfl);have I:T.getD 60 undef=_:=t 1 60;obtain ⟨z,D,y,E,aQ,A,d9,bj,bl,bG,bH⟩:=t 8 67;obtain ⟨H,N,bK,ee,b4,b8⟩:=PZ w' wr L L P ai bn ak lb ⟨X.id,⟨X.rq.queue,X.rq.fr,X.rq.un,X.rq.kind,zO z 0,X.rq.pn,D,X.rq.ps⟩,zO y 0,X.bn,E,X.bs⟩ aQ 38 dk.o s d9 cj.o ec cA cy bj df.o (Nat.le_refl _) (fun _ b G e=>by injection e with e;injection e with e;omega) bU.o (fun _ b G e=>by injection e with e;injection e with e;subst e;exact ⟨by omega,fun aE=>by have:=(bU.o y aE).2;omega⟩) bl;refine ⟨.slice (zO H 0) (bn+1) N,bK,Or.inl (Ze (.tmp 60) (.tmp 67) 38 rfl (.slice ai bn ak) (.slice (zO aQ 0) 1 1) I A ee),(fun h=>by cases h),⟨z,D,y,E,H,N,rfl,b4⟩,b8.mono d3,?_⟩;intro i A F a0 aF Y
     match i with
     | 0=>exact Y
     | 1=>exact Y
     | 2=>exact Y
     | 3=>exact Y
     | 4=>exact Y
     | 5=>exact Y
     | 6=>exact Y
     | 7=>exact absurd F (by decide)
     | 8=>exact absurd F (by decide)
     | 9=>exact absurd rfl A
     | 10=>exact Y
     | 11=>exact absurd (a0.symm.trans (by kernel_rfl:_=true)) (by decide)
     | n+12=>exact Y
    refine zc.cons 11 rfl ?_ ?_
    ·intro T w' R U u t;show zu Tryz.prog _ _ _ _;have I:T.getD 11 undef=.pointer (zO P 0):=u 11;exact zs (by go_simp) rfl
    refine zc.cons 12 rfl ?_ ?_
    ·intro T w' R U u t;show Xd Tryz.prog _ _ _ _ _ _ _ _ _;obtain ⟨z,D,y,E,H,N,I,b4⟩:=t 9 68;have A:T.getD 69 undef=_:=t 10 69;obtain ⟨bz,ew,ex,b8⟩:=b4.put dz.o d2 cy (U);refine ⟨undef,w'.setCell (zA P 3) (.slice (zO H 0) (bn+1) N),Or.inr ⟨by go_simp,rfl⟩,fun _=>rfl,⟨rfl,z,D,y,E,H,N,bz⟩,b8,?_⟩;intro i A F a0 aF Y
     match i with
     | 0=>exact Y
     | 1=>exact Y
     | 2=>exact Y
     | 3=>exact Y
     | 4=>exact Y
     | 5=>exact Y
     | 6=>exact Y
     | 7=>exact absurd F (by decide)
     | 8=>exact absurd F (by decide)
     | 9=>exact absurd F (by decide)
     | 10=>exact Y
     | 11=>exact absurd rfl A
     | n+12=>exact Y
    exact trivial
   case hfin =>
    intro T aq s W u t cK;obtain ⟨_,z,D,y,E,H,N,Z⟩:=cK 11 (by kernel_rfl) (by kernel_rfl) (by kernel_rfl);rw [yb (tt 59 [false,false,false,false,false,false,false,false,false,false,false] 7) (by kernel_rfl) W @u];obtain ⟨us,a4⟩:∃ us:Nat->Value,(fun d=>T.getD d undef)=us:=⟨_,rfl⟩;rw [a4];clear u t W a4 cK;simp only [xj,tt,List.replicate,List.cons_append,List.nil_append];have cC:=cl.o;have cc:∀ k,k<L->some k≠(Value.slice ai bn ak).ownBlock:=fun k cO e=>by have:=bT.o k e.symm;omega
    have cX:zj aq S (zI c) (zI n) (.slice ay O az) (.slice ba bn bc):=(Z.blk S (by omega) (by omega) (cc S (by omega))).trans dD.o;have cY:zj aq (S+2) (zI 0) (zI 0) zN zN:=(Z.blk (S+2) (by omega) (by omega) (cc (S+2) (by omega))).trans dG.o;obtain ⟨ah,aL⟩:=qB (aq.setCell ⟨P,1,none⟩ (zI (n+1)));have bJ:∀ k,k≠P->ah.heap[k]?=aq.heap[k]?:=fun k cO=>by rw [aL];exact heap_setCell_other aq (zA P 1) k _ cO
    have c0:zj ah P (zI c) (zI (n+1)) (.slice (zO g 0) O av) (.slice (zO H 0) (bn+1) N):=by
     rw [aL];unfold zj;rw [heap_setCell_same aq P 1 _ _ _ Z.box];rfl
    have cZ:zj ah S (zI c) (zI n) (.slice ay O az) (.slice ba bn bc):=(bJ S (by omega)).trans cX;have bI:zj ah (S+2) (zI 0) (zI 0) zN zN:=(bJ (S+2) (by omega)).trans cY;have cG:zL w ah:=by
     rw [aL];have ef:w.heap.size<=L:=(by have:=ck.o;omega);exact (c9.o.trans (s.mono ef)).setCell (p:=(zA P 1)) (by simp only;omega) _
    have eC:IntKind.i64.wrap (n+1)=n+1:=(by rw [IntKind.wrap_i64];have:=dj.o;omega);obtain ⟨eg,bi,cf,cg⟩:=Z.box.cells;have ek:∀ k,aq.frozen? (zA P k)=false:=fun k=>frozen_of_row aq P k _ _ Z.box;obtain ⟨eK,eL,eM,eN⟩:=c0.cells;obtain ⟨eG,eH,eI,eJ⟩:=cZ.cells;obtain ⟨bM,bN,bO,bP⟩:=bI.cells;have bQ:∀ k,ah.frozen? (zA (S+2) k)=false:=fun k=>frozen_of_row ah (S+2) k _ _ bI;have eE:S≠P:=(by omega);have eF:S+2≠P:=(by omega);have dr:=zh Z;have dx:=zh bJ;have dv:=zh aL;have dw:=zh bI;have de:=zh cG;have eo:=zh s;clear Z cc cX cY aL bJ c0 cZ bI cG s cC;go_wp2_with fail
    rw [<-dv.o];clear eg bi cf cg ek;go_region
    have aC:=zk ah (S+2) 40 _ _ _ _ (zI c) (zI (n+1)) (.slice (zO g 0) O av) (.slice (zO H 0) (bn+1) N) dw.o;have cm:=zh aC;have x:=a7.o;have a8:=zh ((((de.o.setCell (p:=(zA (S+2) 0)) x (zI c)).setCell (p:=(zA (S+2) 1)) x (zI (n+1))).setCell (p:=(zA (S+2) 2)) x (.slice (zO g 0) O av)).setCell (p:=(zA (S+2) 3)) x (.slice (zO H 0) (bn+1) N));clear aC x;go_wp2_with fail
    refine bodyPost_ret (v:=.tuple #[.agg (zS c (n+1) (zO g 0) O av (zO H 0) (bn+1) N),zI n,zI 0]) (zq Tryz.results62 _ _ (S+2) 40 (zS c (n+1) (zO g 0) O av (zO H 0) (bn+1) N) (0,0) _ rfl cm.o.1 Tryz.underlying40 rfl (by kernel_rfl)) rfl ?_;obtain ⟨aK,b5⟩:=qB (((((ah.setCell ⟨S+2,0,none⟩ (zI c)).setCell ⟨S+2,1,none⟩ (zI (n+1))).setCell ⟨S+2,2,none⟩ (.slice (some ⟨g,0,none⟩) O av)).setCell ⟨S+2,3,none⟩ (.slice (some ⟨H,0,none⟩) (bn+1) N)).drew);have bD:∀ j,j≠S+2->j≠P->aK.heap[j]?=aq.heap[j]?:=fun j ea eb=>by rw [b5];exact (cm.o.2 j ea).trans (dx.o j eb)
    have d5:zL w aK:=(by rw [b5];exact ⟨a8.o.os,a8.o.tape,a8.o.output,a8.o.size,a8.o.block⟩);rw [<-b5];have Z:=dr.o;have cM:=dg.o;have et:=ck.o;have cC:=cl.o;have ab:∀ j,L<=j->j<P->(Value.slice ai bn ak).ownBlock≠some j->aK.heap[j]?=wr.heap[j]?:=fun j cu cv b1=>by
     rw [bD j (by omega) (by omega)];exact Z.blk j (by omega) (by omega) (fun e=>b1 e.symm)
    have d8:OwnQs aK L (.slice (zO g 0) O av) bh:=dl.o.keep (fun j e=>by
     have e:=xP.1 e;subst e;exact ab g cM.1 cM.2 (fun e=>(bT.o g e).2.2 rfl)) (fun i aa C j G e=>by
     obtain ⟨cu,cv,b1⟩:=ci.o i aa C j G e;exact ab j cu cv b1)
    have d6:=Z.own.blocks (w':=aK) (fun j e=>by
     have e:H=j:=xP.1 e;subst e;exact bD H (by have:=Z.low;omega) Z.ne) (fun i aa C j G e=>by have a:=Z.offP i aa C j G e;exact bD j (by omega) a.2) (fun i aa C j G e=>by have a:=Z.offB i aa C j G e;exact bD j (by omega) a.2)
    have ez:=cj.o;have ey:=dh.o;have eA:(lb++[(⟨X.id,⟨X.rq.queue,X.rq.fr,X.rq.un,X.rq.kind,zO z 0,X.rq.pn,D,X.rq.ps⟩,zO y 0,X.bn,E,X.bs⟩:Bk)]).length=bn+1:=(by simp;omega);have d7:BksIn aK (zO H 0) (bn+1) N (lb++[⟨X.id,⟨X.rq.queue,X.rq.fr,X.rq.un,X.rq.kind,zO z 0,X.rq.pn,D,X.rq.ps⟩,zO y 0,X.bn,E,X.bs⟩]):=ym d6;refine ⟨c,n+1,zO g 0,O,av,zO H 0,bn+1,N,_,by rw [bV.o];rfl,Or.inr ⟨by rw [bV.o];rfl,bh,_,⟨y6 d8,d7⟩,rfl,rfl,db.o,?_,⟨fun _ J G e=>?_,fun i aa C J G e=>?_,fun C J G e=>?_,fun i aa C J G e=>?_,fun i aa C J G e=>?_⟩⟩,d5⟩
    ·show zg (lb++[_])=zg b++[_];rw [dp.o];have:=da.o;unfold zg at this ⊢;rw [List.map_append,this]
     congr 1
     show [(⟨X.id,X.rq.bare,none,0,0,X.bs⟩:Bk)]=_;rw [co.o,bW.o,cp.o]
    ·have ar:g=J:=(by injection e with e;injection e with ar);omega
    ·have:=ci.o i (by omega) C J G e;omega
    ·have ar:H=J:=(by injection e with e;injection e with ar);have:=Z.low;omega
    ·have:=Z.offP i (by omega) C J G e;omega
    have:=Z.offB i (by omega) C J G e;omega
end Go.Proofs.YtckpdfkobdgjeaaGreatDoor
