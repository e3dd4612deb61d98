/- Several texts in one: RefP, SeekA. -/
import Derived.Test.YtckpdfkobdgjeaaGreatDoorJRefO
import Derived.Test.YtckpdfkobdgjeaaGreatDoorJAll20
import Derived.Test.YtckpdfkobdgjeaaGreatDoorJPlaceAll
namespace Go.Proofs.YtckpdfkobdgjeaaGreatDoor
set_option maxRecDepth 100000
set_option maxHeartbeats 8000000
open Go.RowKit
set_option linter.unusedSectionVars false
variable [Inhabited Mk]
theorem Laid.later {a e:World} {L d:Nat} {c n:Int} {j:Value} {i:QL} {f:Option Addr} {k g:Nat} {lb:BL} (h:Laid a L d c n j i f k g lb) (b:Below a.heap.size a e):Laid e L d c n j i f k g lb :=
 ⟨h.box.later b,h.own.later b,h.len,h.offP,Nat.le_trans h.size b.size,h.gl⟩
theorem Qa {b:BL} {k:Nat} (a:k<b.length) (t:Int):xU (b.take (k+1)) t=xU (b.take k) t++(if yA (bk b k)<=t then [] else [bk b k]):=by
 have c:b.take (k+1)=b.take k++[bk b k]:=by
  rw [List.take_succ_eq_append_getElem a]
  congr 2
  unfold bk;simp [List.getD,a]
 rw [c];unfold xU;rw [List.filter_append]
 congr 1
 by_cases h:yA (bk b k)<=t
 ·rw [if_pos h,List.filter_cons,if_neg (by simp [h]),List.filter_nil]
 rw [if_neg h,List.filter_cons,if_pos (by simp [h]),List.filter_nil]
def Y3 (w w':World) (e:Ending) (c n:Int) (l:QL) (b:BL) (t:Int):Prop:=∃ c' n' ta' tn' tc' ba' bn' bc' i,e=.returned (.tuple #[.agg (zS c' n' ta' tn' tc' ba' bn' bc'),zI i,zI (we c n l b t)])/\X9 w' w.heap.size (we c n l b t) ⟨t,n,zi l,xU (zg b) t⟩ c' n' ta' tn' tc' ba' bn' bc'/\Below w.heap.size w w'
theorem Y3.wrong {w w':World} {c n:Int} {l:QL} {b:BL} {t a:Int} (d:we c n l b t=a) (e:a≠0) (f:Below w.heap.size w w'):Y3 w w' (.returned (.tuple #[.agg zZ,zI 0,zI a])) c n l b t:=by
 refine ⟨_,_,_,_,_,_,_,_,_,by rw [d],Or.inl ⟨by rw [d];exact e,rfl,rfl,rfl,rfl,rfl,rfl,rfl,rfl⟩,f⟩
theorem G0 (w:World) (c n:Int) (aF:Option Addr) (G aG:Nat) (l:QL) (aB:Option Addr) (F ao:Nat) (b:BL) (h:zY w aF G aG l aB F ao b) (E:zU c n l b=0) (t:Int) :
 zC 64 #[.agg (zS c n aF G aG aB F ao),zI t] w fun e w'=>Y3 w w' e c n l b t:=by
 have ak:=yZ E;have aO:=Yn h ak.clean;obtain ⟨S,cu⟩:=qA (w.heap.size);obtain ⟨bK,aM⟩:=qB ((w.alloc (.cells (zS c n aF G aG aB F ao) 40)).alloc (.cells zZ 40));obtain ⟨aR,bb,U,a7⟩:=ZK w _ _ _ _ aM;rw [cu] at aR bb a7;have bJ:=zh (Zm bK c n aF G aG l aB F ao b (h.later U) ak);have aU:=zh fun X=>zo t 0 48 X;obtain ⟨aw,c1,c2,c3⟩:=aR.cells;rw [aM] at aw c1 c2 c3;have bd:=zh aR;have aV:=zh bb;have bz:=zh U;have bH:=zh aM;have aq:=zh cu;have dm:=zh a7;by_cases aP:t<0\/48<t
 ·have ag:we c n l b t=3:=by unfold we;rw [if_pos E,if_pos aP]
  have aK:yW t 0 48=false:=by simp [yW];omega
  rw [aK] at aU;have aI:=zh ag;clear aM aR bb U h a7 E ak aO ag aP aK;go_enter Tryz.func64,Tryz.ntmps64;go_wp2_with fail
  rw [<-bH.o];refine bJ.o.mono ?_;rintro e ae ⟨rfl,ah⟩;have ar:=zh (aV.o.later ah);have aH:=zh (za bz.o ah);obtain ⟨dV,dW,dX,dY⟩:=ar.o.cells;have dZ:∀ k,ae.frozen? (zA (S+1) k)=false:=fun k=>frozen_of_row ae (S+1) k _ _ ar.o;clear ah aw c1 c2 c3;go_wp2_with fail
  refine (aU.o _).mono ?_;rintro e cY ⟨rfl,ay⟩;rw [ay];clear ay;go_wp2_with fail
  have al:=zk ae (S+1) 40 _ _ _ _ (zI 0) (zI 0) zN zN ar.o;have N:w.heap.size<=S+1:=by have:=aq.o;omega
  refine bodyPost_ret (v:=.tuple #[.agg zZ,zI 0,zI 3]) (zq Tryz.results64 _ _ (S+1) 40 zZ (0,0) _ rfl al.1 Tryz.underlying40 rfl (by kernel_rfl)) rfl (Y3.wrong aI.o (by decide) ?_);exact ((((aH.o.setCell (p:=(zA (S+1) 0)) N _).setCell (p:=(zA (S+1) 1)) N _).setCell (p:=(zA (S+1) 2)) N _).setCell (p:=(zA (S+1) 3)) N _)
 have aK:yW t 0 48=true:=by simp [yW];omega
 rw [aK] at aU;by_cases cJ:t<c
 ·have ag:we c n l b t=9:=by unfold we;rw [if_pos E,if_neg aP,if_pos cJ]
  have aI:=zh ag;clear aM aR bb U h a7 E ak aO ag aP aK;go_enter Tryz.func64,Tryz.ntmps64;go_wp2_with fail
  rw [<-bH.o];refine bJ.o.mono ?_;rintro e ae ⟨rfl,ah⟩;have ar:=zh (aV.o.later ah);have aH:=zh (za bz.o ah);obtain ⟨be,bf,bg,aW⟩:=(bd.o.later ah).cells;obtain ⟨dV,dW,dX,dY⟩:=ar.o.cells;have dZ:∀ k,ae.frozen? (zA (S+1) k)=false:=fun k=>frozen_of_row ae (S+1) k _ _ ar.o;clear ah aw c1 c2 c3;go_wp2_with fail
  refine (aU.o _).mono ?_;rintro e cY ⟨rfl,ay⟩;rw [ay];clear ay;go_wp2_with fail
  have al:=zk ae (S+1) 40 _ _ _ _ (zI 0) (zI 0) zN zN ar.o;have N:w.heap.size<=S+1:=by have:=aq.o;omega
  refine bodyPost_ret (v:=.tuple #[.agg zZ,zI 0,zI 9]) (zq Tryz.results64 _ _ (S+1) 40 zZ (0,0) _ rfl al.1 Tryz.underlying40 rfl (by kernel_rfl)) rfl (Y3.wrong aI.o (by decide) ?_);exact ((((aH.o.setCell (p:=(zA (S+1) 0)) N _).setCell (p:=(zA (S+1) 1)) N _).setCell (p:=(zA (S+1) 2)) N _).setCell (p:=(zA (S+1) 3)) N _)
 have ag:we c n l b t=0:=by unfold we;rw [if_pos E,if_neg aP,if_neg cJ]
 have aI:=zh ag;have de:=zh h;have d1:=zh ak;have ch:=zh aO;have bC:=zh h.2.len;have ei:=aO.b1;have eg:=h.2.capb;have eh:=h.2.le;have du:=zh fun X (aZ:Below w.heap.size w X)=>WK X c n aF G aG l aB F ao b (h.later aZ) aO;clear aM aR bb U h a7 E ak aO ag aP aK;go_enter Tryz.func64,Tryz.ntmps64;go_wp2_with fail
 rw [<-bH.o];refine bJ.o.mono ?_;rintro e ae ⟨rfl,ah⟩;have co:=zh (bd.o.later ah);have ar:=zh (aV.o.later ah);have aH:=zh (za bz.o ah);have ed:S+2<=ae.heap.size:=by have:=ah.size;have:=dm.o;omega
 obtain ⟨be,bf,bg,aW⟩:=co.o.cells;clear ah aw c1 c2 c3;go_wp2_with fail
 refine (aU.o _).mono ?_;rintro e cY ⟨rfl,ay⟩;rw [ay];clear ay;go_wp2_with fail
 refine (du.o ae aH.o).mono ?_;rintro e ba ⟨g,Z,az,bM,bW,d2,rfl,aX,cI,dL,cB,dO,a0⟩;obtain ⟨P,W⟩:=qA (ba.heap.size);obtain ⟨ai,aY⟩:=qB (ba.alloc (.cells (zS c n (some ⟨g,0,none⟩) G Z bM F bW) 40));have a1:Below ba.heap.size ba ai:=by rw [aY];exact zr _ _
 have cM:ai.heap.size=P+1:=by rw [aY,<-W];simp
 have bq:zj ai P (zI c) (zI n) (.slice (zO g 0) G Z) (.slice bM F bW):=by rw [aY,<-W];exact zj.new ba _ _ _ _
 obtain ⟨aj,aN⟩:=qB ((ai.setCell ⟨P,0,none⟩ (zI t)).setCell ⟨P,3,none⟩ zN);have bh:zj (ai.setCell (zA P 0) (zI t)) P (zI t) (zI n) (.slice (zO g 0) G Z) (.slice bM F bW):=by
  unfold zj;rw [heap_setCell_same ai P 0 _ _ _ bq];rfl
 have c0:zj aj P (zI t) (zI n) (.slice (zO g 0) G Z) zN:=by
  rw [aN];unfold zj;rw [heap_setCell_same _ P 3 _ _ _ bh];rfl
 have a4:∀ j,j≠P->aj.heap[j]?=ai.heap[j]?:=fun j ax=>by
  rw [aN,heap_setCell_other _ (zA P 3) j _ ax,heap_setCell_other ai (zA P 0) j _ ax]
 have cO:aj.heap.size=P+1:=by rw [aN];simp only [World.setCell,Array.size_modify];exact cM
 have ew:=a0.size;have ee:S+2<=P:=by omega
 have ex:ae.heap.size<=P:=by omega
 have cz:Below w.heap.size w aj:=by
  rw [aN];have cP:w.heap.size<=P:=by have:=aq.o;omega
  exact ((za (za aH.o a0) a1).setCell (p:=(zA P 0)) cP _).setCell (p:=(zA P 3)) cP _
 have b8:zj aj S (zI c) (zI n) (.slice aF G aG) (.slice aB F ao):=(a4 S (by omega)).trans ((co.o.later a0).later a1);have b9:zj aj (S+1) (zI 0) (zI 0) zN zN:=(a4 (S+1) (by omega)).trans ((ar.o.later a0).later a1);have cG:ae.heap.size<=g/\g<P:=by have:=aX.qs.row.lt g (xP.2 rfl);omega
 have cK:=aX.qs.later a1;have bV:∀ i,i<az.length->0<(qu az i).cn->∀ H M,(qu az i).ca=zO H M->ae.heap.size<=H/\H<P:=fun i D E H M e=>by
  have I:=aX.newC i D E H M e;have ab:=(aX.qs.caps i D).lt E e;omega
 have cL:OwnQs aj ae.heap.size (.slice (zO g 0) G Z) az:=cK.keep (fun j e=>a4 j (by have:=xP.1 e;omega)) (fun i D E j M e=>a4 j (by have:=bV i D E j M e;omega));have ds:=zh b8;have dt:=zh b9;have dj:=zh cL;have cf:=zh bV;have dc:=zh cG;have df:=zh cI;have c9:=zh cB;have c8:=zh cz;have dr:=zh c0;have dl:=zh cO;have dp:=zh aY;have cm:=zh aN;obtain ⟨bX,bY,bZ,b0⟩:=bq.cells;have cQ:∀ k,ai.frozen? (zA P k)=false:=fun k=>frozen_of_row ai P k _ _ bq;obtain ⟨aE,cR,cS,cT⟩:=bh.cells;have cU:∀ k,(ai.setCell (zA P 0) (zI t)).frozen? (zA P k)=false:=fun k=>frozen_of_row _ P k _ _ bh;rw [<-W] at cm bX bY bZ b0 cQ aE cR cS cT cU;have dh:=zh W;clear a0 aX cI dL cB dO W aY a1 cM bq aN bh c0 a4 cO cz b8 b9 cG cK bV cL be bf bg aW;go_upto_region 9 with fail
 rw [<-dp.o];go_wp2_with fail
 rw [<-cm.o,dh.o];clear bX bY bZ b0 cQ aE cR cS cT cU;obtain ⟨L,ct⟩:=qA (P+1);have aT:=zh ct;clear ct;go_loopg [9] F (fun dE (p:Value) wr=>∃ (k:Nat) (R:Option Addr) (m V:Nat) (lb:BL),p=zI k/\k<=F/\dE=F-k/\m<=k/\Laid wr L P t n (.slice (zO g 0) G Z) az R m V lb/\zg lb=zg (xU (b.take k) t)/\(∀ j,j<L->j≠P->wr.heap[j]?=aj.heap[j]?)/\Below S w wr)
 case atStart =>
  refine ⟨0,none,0,0,[],rfl,by omega,by omega,Nat.le_refl _,⟨dr.o,⟨World.ownsRow_nil _ _ _ _,fun i D=>absurd D (Nat.not_lt_zero i),fun i D=>absurd D (Nat.not_lt_zero i),fun i D=>absurd D (Nat.not_lt_zero i),fun i D=>absurd D (Nat.not_lt_zero i)⟩,rfl,fun i D=>absurd D (Nat.not_lt_zero i),by have:=aT.o;have:=dl.o;omega,by have:=aT.o;omega⟩,rfl,fun j _ _=>rfl,?_⟩;have:=c8.o;rw [aq.o] at this;exact this
 case round =>
  obtain ⟨k,R,m,V,lb,rfl,em,rfl,es,bi,aD,a2,bj⟩:=hrel;have bp:zj wr S (zI c) (zI n) (.slice aF G aG) (.slice aB F ao):=(a2 S (by have:=aT.o;omega) (by omega)).trans ds.o;have bU:Below w.heap.size w wr:=by rw [aq.o];exact bj
  have bA:=zh aD;have bB:=zh a2;have bD:=zh bj;have bE:=zh bi;have d0:=zh bp;obtain ⟨cV,cW,cX,b6⟩:=bp.cells;by_cases a3:k<F
  ·have ep:(k:Int)<F:=(by omega);have er:¬((k:Int)<0):=(by omega);have al:=de.o.later bU;obtain ⟨au,av,dN,cD⟩:=al.2.cells (by omega);subst dN;obtain ⟨X,aZ⟩:=qA (bk b k);obtain ⟨aw,c1,c2,c3,c4,c5,bN⟩:=cD k a3;have bm:=al.2.rqs k a3;have bl:=al.2.bites k a3;rw [aZ] at aw c1 c2 c3 c4 c5 bN bm bl;obtain ⟨am,a5⟩:=qA (yA X);obtain ⟨ap,cE⟩:∃ ap:Int,(if yd X.rq X.bs=true then (0:Int) else 1)=ap:=⟨_,rfl⟩;have cp:Zh (∀ aJ,Below wr.heap.size wr aJ->zC 98 #[.agg #[zI X.rq.queue,zI X.rq.fr,zI X.rq.un,zI X.rq.kind,.slice X.rq.pa X.rq.pn X.rq.pc],.slice X.ba X.bn X.bc] aJ fun e w'=>e=.returned (.tuple #[zI am,zI ap])/\Below aJ.heap.size aJ w'):=fun aJ cw=>by
    have:=SN aJ X.rq (bm.later cw) X.ba X.bn X.bc X.bs (bl.later cw);unfold yA at a5;rw [a5,cE] at this;exact this
   have cb:=zh aw;have br:=zh c1;have bt:=zh c2;have bu:=zh c3;have bv:=zh c4;have bw:=zh c5;have bx:=zh bN;have bI:=zh aZ;have ck:=zh bm;have cd:=zh bl;have cj:=zh a5;have bc:=zh b6;clear al cD bm bl aZ a5 cE aw c1 c2 c3 c4 c5 bN bp bU aD a2 bj bi;go_upto_region 14 with fail
   go_cut [10,11] (fun p q cZ=>∃ dw,dw=cZ/\p=zI am/\q=zI ap/\Below wr.heap.size wr cZ)
   case first =>
    refine zV ((Tryz.f64.body.bind fun c=>yi c 14).getD #[]) (by kernel_rfl) [zl (.pointer (zO S 3)),zl (.slice (zO au av) F ao),zl (zI k),zl (.pointer (zO au (av+k*7))),zl (.pointer (zO au (av+k*7+1))),zl (.agg #[zI X.rq.queue,zI X.rq.fr,zI X.rq.un,zI X.rq.kind,.slice X.rq.pa X.rq.pn X.rq.pc]),zl (.pointer (zO S 3)),zl (.slice (zO au av) F ao),zl (zI k),zl (.pointer (zO au (av+k*7))),zl (.pointer (zO au (av+k*7+6))),zl (.slice X.ba X.bn X.bc),zl (.tuple #[zI am,zI ap]),zl (.tuple #[zI am,zI ap]),zl (zI am),zl (zI ap),zl (zI am),zl (zI ap)] [] (by kernel_rfl) (by kernel_rfl) (by kernel_rfl) ?hg ?hstep ?hfin
    case hg =>
     intro g hg v w h;cases hg
    case hstep =>
     refine zc.cons 1 rfl ?_ ?_
     ·intro T w' f s r;have A:T.getD 2 undef=.pointer (zO S 0):=s 2;exact zs (by go_simp) rfl
     refine zc.cons 2 rfl ?_ ?_
     ·intro T w' f s r;have A:T.getD 40 undef=_:=r 0 40;have bO:=cell_later f bc.o;exact zs (by go_simp) rfl
     refine zc.cons 3 rfl ?_ ?_
     ·intro T w' f s r;have A:T.getD 9 undef=zI k:=s 9;exact zs (by go_simp) rfl
     refine zc.cons 4 rfl ?_ ?_
     ·intro T w' f s r;have A:T.getD 41 undef=_:=r 1 41;have I:T.getD 42 undef=_:=r 2 42;exact zs (by go_simp) rfl
     refine zc.cons 5 rfl ?_ ?_
     ·intro T w' f s r;have A:T.getD 43 undef=_:=r 3 43;exact zs (by go_simp) rfl
     refine zc.cons 6 rfl ?_ ?_
     ·intro T w' f s r;have A:T.getD 44 undef=_:=r 4 44;have b8:=cell_later f br.o;have eF:=cell_later f bt.o;have b9:=cell_later f bu.o;have eG:=cell_later f bv.o;have eH:=cell_later f bw.o;exact zs (by go_simp) rfl
     refine zc.cons 7 rfl ?_ ?_
     ·intro T w' f s r;have A:T.getD 2 undef=.pointer (zO S 0):=s 2;exact zs (by go_simp) rfl
     refine zc.cons 8 rfl ?_ ?_
     ·intro T w' f s r;have A:T.getD 46 undef=_:=r 6 46;have bO:=cell_later f bc.o;exact zs (by go_simp) rfl
     refine zc.cons 9 rfl ?_ ?_
     ·intro T w' f s r;have A:T.getD 9 undef=zI k:=s 9;exact zs (by go_simp) rfl
     refine zc.cons 10 rfl ?_ ?_
     ·intro T w' f s r;have A:T.getD 47 undef=_:=r 7 47;have I:T.getD 48 undef=_:=r 8 48;exact zs (by go_simp) rfl
     refine zc.cons 11 rfl ?_ ?_
     ·intro T w' f s r;have A:T.getD 49 undef=_:=r 9 49;exact zs (by go_simp) rfl
     refine zc.cons 12 rfl ?_ ?_
     ·intro T w' f s r;have A:T.getD 50 undef=_:=r 10 50;have eI:=cell_later f bx.o;exact zs (by go_simp) rfl
     refine zc.cons 13 rfl ?_ ?_
     ·intro T w' f s r;have A:T.getD 45 undef=_:=r 5 45;have I:T.getD 51 undef=_:=r 11 51;refine Or.inr ⟨98,#[.agg #[zI X.rq.queue,zI X.rq.fr,zI X.rq.un,zI X.rq.kind,.slice X.rq.pa X.rq.pn X.rq.pc],.slice X.ba X.bn X.bc],by go_simp,?_⟩;refine (cp.o w' f).mono ?_;rintro e b7 ⟨rfl,aD⟩;exact ⟨_,rfl,rfl,aD⟩
     refine zc.cons 14 rfl ?_ ?_
     ·intro T w' f s r;have A:T.getD 52 undef=_:=r 12 52;exact zs (by go_simp) rfl
     refine zc.cons 15 rfl ?_ ?_
     ·intro T w' f s r;have A:T.getD 39 undef=_:=r 13 39;exact zs (by go_simp) rfl
     refine zc.cons 16 rfl ?_ ?_
     ·intro T w' f s r;have A:T.getD 39 undef=_:=r 13 39;exact zs (by go_simp) rfl
     refine zc.cons 17 rfl ?_ ?_
     ·intro T w' f s r;have A:T.getD 53 undef=_:=r 14 53;exact zs (by go_simp) rfl
     refine zc.cons 18 rfl ?_ ?_
     ·intro T w' f s r;have A:T.getD 54 undef=_:=r 15 54;exact zs (by go_simp) rfl
     exact trivial
    case hfin =>
     intro T w' f ak s r;have ag:T.getD 10 undef=zI am:=r 16 10;have bP:T.getD 11 undef=zI ap:=r 17 11;rw [yb (tt 10 [false,false,true,true,true,true,true,true,true,true,true,true,true,true,true,true,true,true,true,true,true,true,true,true,true,true,true,true,true,false,false,false,false,false,false,false,false,false,false,false,false,false,false,false,false] 22) (by kernel_rfl) ak @s];obtain ⟨us,aQ⟩:∃ us:Nat->Value,(fun d=>T.getD d undef)=us:=⟨_,rfl⟩;rw [aQ];have dC:us 10=zI am:=(by rw [<-aQ];exact ag);have dD:us 11=zI ap:=(by rw [<-aQ];exact bP);apply_assumption;simp only [xj,tt,List.replicate,List.cons_append,List.nil_append];go_meet;exact ⟨_,rfl,dC,dD,f⟩
   obtain ⟨af,rfl,rfl,rfl,ad⟩:=hcut;have O:=bE.o.later ad;have ce:Zh (Below S w af):=bD.o.trans (ad.mono (by have:=bD.o.size;have:=aq.o;omega));have cc:Zh (∀ j,j<L->j≠P->af.heap[j]?=aj.heap[j]?):=fun j ax dR=>(ad.block j (by have:=bE.o.size;omega)).trans (bB.o j ax dR);by_cases a5:t<am
   ·have dx:=zh (cell_later ad cb.o);have bd:=zh (cell_later ad br.o);have dy:=zh (cell_later ad bt.o);have aV:=zh (cell_later ad bu.o);have dz:=zh (cell_later ad bv.o);have dA:=zh (cell_later ad bw.o);have dB:=zh (cell_later ad bx.o);have c7:=zh (cell_later ad bc.o);obtain ⟨be,bf,bg,aW⟩:=O.box.cells;have c6:=zh aW;obtain ⟨b2,b3⟩:=ch.o.ps k a3;obtain ⟨b4,b5⟩:=ch.o.bs k a3;rw [bI.o] at b2 b3 b4 b5;have cy:=zH.later ck.o ad;have cx:=cd.o.later ad;have dv:=zh fun cq (cv:Below af.heap.size af cq)=>Vd cq X (zH.later cy cv) (cx.later cv) b2 b3 b4 b5;have ci:=zh O.own;have cg:=zh O.len;have db:=zh O.offP;have dI:=O.size;have dJ:P<L:=O.gl;have cs:P<af.heap.size:=(by omega);have dF:S<=P:=(by omega);have dH:S<=af.heap.size:=(by omega);have dS:m<=12:=(by omega);have dG:S<=L:=(by omega);have bG:Zh (∀ H,(Value.slice R m V).ownBlock=some H->H≠P/\H<af.heap.size):=fun H e=>by have:=O.own.row.lt H e;omega
    have dq:Zh (zj af P (zI t) (zI n) (.slice (zO g 0) G Z) (.slice R m V)/\some P≠(Value.slice R m V).ownBlock):=⟨O.box,fun e=>(bG.o P e.symm).1 rfl⟩;have bF:Zh (∀ bL:Bk,bL.bare=X.bare->zg (lb++[bL])=zg (xU (b.take (k+1)) t)):=fun bL dK=>by
     have ag:=cj.o;rw [Qa (by have:=bC.o;omega),bI.o,if_neg (by omega)];have:=bA.o;unfold zg at this ⊢;rw [List.map_append,List.map_append,this];simp [dK]
    obtain ⟨eE,dU⟩:∃ x,wr=x:=⟨_,rfl⟩;clear cy cx b2 b3 b4 b5 O be bf bg aW ad cV cW cX b6 dU bc cb br bt bu bv bw bx ck cd cp;go_wp2_with fail
    refine Zl ((Tryz.f64.body.bind fun c=>yi c 16).getD #[]) (by kernel_rfl) [zl (.pointer (zO P 3)),zl (.slice R m V),zl (.pointer (zO S 3)),zl (.slice (zO au av) F ao),zl (zI k),zl (.pointer (zO au (av+k*7))),zl (.agg #[zI X.id,zI X.rq.queue,zI X.rq.fr,zI X.rq.un,zI X.rq.kind,.slice X.rq.pa X.rq.pn X.rq.pc,.slice X.ba X.bn X.bc]),⟨fun u an=>∃ z B y C,u=.agg #[zI X.id,zI X.rq.queue,zI X.rq.fr,zI X.rq.un,zI X.rq.kind,.slice (zO z 0) X.rq.pn B,.slice (zO y 0) X.bn C]/\RunsIn an (zO z 0) X.rq.pn B X.rq.ps/\RunsIn an (zO y 0) X.bn C X.bs/\af.heap.size<=z/\af.heap.size<=y,fun _ _ _ ⟨z,B,y,C,I,ab,aL,N,bQ⟩ f=>⟨z,B,y,C,I,ab.later f,aL.later f,N,bQ⟩⟩,⟨fun u an=>∃ z B y C aC,u=.slice (zO aC 0) 1 1/\an.heap[aC]?=some (.cells #[zI X.id,zI X.rq.queue,zI X.rq.fr,zI X.rq.un,zI X.rq.kind,.slice (zO z 0) X.rq.pn B,.slice (zO y 0) X.bn C] 60 (0,0))/\RunsIn an (zO z 0) X.rq.pn B X.rq.ps/\RunsIn an (zO y 0) X.bn C X.bs/\af.heap.size<=z/\af.heap.size<=y,fun _ _ _ ⟨z,B,y,C,aC,I,cr,ab,aL,N,bQ⟩ f=>⟨z,B,y,C,aC,I,(f.block _ (Array.getElem?_eq_some_iff.1 cr).1).trans cr,ab.later f,aL.later f,N,bQ⟩⟩,⟨fun u an=>∃ z B y C Y aa,u=.slice (zO Y 0) (m+1) aa/\Made an af L L P R m V lb ⟨X.id,⟨X.rq.queue,X.rq.fr,X.rq.un,X.rq.kind,zO z 0,X.rq.pn,B,X.rq.ps⟩,zO y 0,X.bn,C,X.bs⟩ Y aa,fun _ _ _ ⟨z,B,y,C,Y,aa,I,ab⟩ f=>⟨z,B,y,C,Y,aa,I,ab.later f⟩⟩,zl (.pointer (zO P 3)),⟨fun u an=>u=undef/\∃ z B y C Y aa,Put an af L P R m V lb ⟨X.id,⟨X.rq.queue,X.rq.fr,X.rq.un,X.rq.kind,zO z 0,X.rq.pn,B,X.rq.ps⟩,zO y 0,X.bn,C,X.bs⟩ Y aa t n (.slice (zO g 0) G Z),fun _ _ _ ⟨e,z,B,y,C,Y,aa,ab⟩ f=>⟨e,z,B,y,C,Y,aa,ab.later f⟩⟩] [] [(9,[7,8]),(11,[7,8,9])] S (dH) (by kernel_rfl) (by kernel_rfl) (by kernel_rfl) (by kernel_rfl) ?hg ?hstep ?hfin
    case hg =>
     intro g hg v w h;cases hg
    case hstep =>
     refine zc.cons 1 rfl ?_ ?_
     ·intro T w' J U s r;show zu Tryz.prog _ _ _ _;have f:=J (by kernel_rfl);have A:T.getD 8 undef=.pointer (zO P 0):=s 8;exact zs (by go_simp) rfl
     refine zc.cons 2 rfl ?_ ?_
     ·intro T w' J U s r;show zu Tryz.prog _ _ _ _;have f:=J (by kernel_rfl);have A:T.getD 58 undef=_:=r 0 58;have bO:=cell_later f c6.o;exact zs (by go_simp) rfl
     refine zc.cons 3 rfl ?_ ?_
     ·intro T w' J U s r;show zu Tryz.prog _ _ _ _;have f:=J (by kernel_rfl);have A:T.getD 2 undef=.pointer (zO S 0):=s 2;exact zs (by go_simp) rfl
     refine zc.cons 4 rfl ?_ ?_
     ·intro T w' J U s r;show zu Tryz.prog _ _ _ _;have f:=J (by kernel_rfl);have A:T.getD 60 undef=_:=r 2 60;have bO:=cell_later f c7.o;exact zs (by go_simp) rfl
     refine zc.cons 5 rfl ?_ ?_
     ·intro T w' J U s r;show zu Tryz.prog _ _ _ _;have f:=J (by kernel_rfl);have A:T.getD 9 undef=zI k:=s 9;exact zs (by go_simp) rfl
     refine zc.cons 6 rfl ?_ ?_
     ·intro T w' J U s r;show zu Tryz.prog _ _ _ _;have f:=J (by kernel_rfl);have A:T.getD 61 undef=_:=r 3 61;have I:T.getD 62 undef=_:=r 4 62;exact zs (by go_simp) rfl
     refine zc.cons 7 rfl ?_ ?_
     ·intro T w' J U s r;show zu Tryz.prog _ _ _ _;have f:=J (by kernel_rfl);have A:T.getD 63 undef=_:=r 5 63;have d3:=cell_later f dx.o;have d4:=cell_later f bd.o;have d5:=cell_later f dy.o;have d6:=cell_later f aV.o;have d7:=cell_later f dz.o;have d8:=cell_later f dA.o;have d9:=cell_later f dB.o;exact zs (by go_simp) rfl
     refine zc.cons 8 rfl ?_ ?_
     ·intro T w' J U s r;show zu Tryz.prog _ _ _ _;have f:=J (by kernel_rfl);have A:T.getD 64 undef=_:=r 6 64;refine Or.inr ⟨59,#[.agg #[zI X.id,zI X.rq.queue,zI X.rq.fr,zI X.rq.un,zI X.rq.kind,.slice X.rq.pa X.rq.pn X.rq.pc,.slice X.ba X.bn X.bc]],by go_simp,?_⟩;refine (dv.o w' f).mono ?_;rintro e b7 ⟨z,B,y,C,rfl,a8,a9,bn,bo,aD⟩;exact ⟨_,rfl,⟨z,B,y,C,rfl,a8,a9,Nat.le_trans f.size bn,Nat.le_trans f.size bo⟩,aD⟩
     refine zc.cons 9 rfl ?_ ?_
     ·intro T w' J U s r;show zu Tryz.prog _ _ _ _;have f:=J (by kernel_rfl);obtain ⟨z,B,y,C,I,a8,a9,bn,bo⟩:=r 7 65;have ea:T[65]?.getD undef=.agg #[zI X.id,zI X.rq.queue,zI X.rq.fr,zI X.rq.un,zI X.rq.kind,.slice (zO z 0) X.rq.pn B,.slice (zO y 0) X.bn C]:=(by rw [<-I];simp);exact Or.inl ⟨.slice (zO w'.heap.size 0) 1 1,w'.alloc (.cells #[zI X.id,zI X.rq.queue,zI X.rq.fr,zI X.rq.un,zI X.rq.kind,.slice (zO z 0) X.rq.pn B,.slice (zO y 0) X.bn C] 60),by go_simp,⟨z,B,y,C,w'.heap.size,rfl,heap_alloc_new w' _,a8.later (zr _ _),a9.later (zr _ _),bn,bo⟩,zr _ _⟩
     refine zc.cons 10 rfl ?_ ?_
     ·intro T w' J U s r;show Xd Tryz.prog _ _ _ _ _ _ _ _ _;have f:=J (by kernel_rfl);have A:T.getD 59 undef=_:=r 1 59;obtain ⟨z,B,y,C,aC,I,dQ,a8,a9,bn,bo⟩:=r 8 66;obtain ⟨Y,aa,b7,dT,bR,bT⟩:=PZ w' af L L P R m V lb ⟨X.id,⟨X.rq.queue,X.rq.fr,X.rq.un,X.rq.kind,zO z 0,X.rq.pn,B,X.rq.ps⟩,zO y 0,X.bn,C,X.bs⟩ aC 38 ci.o f dQ cg.o dS dI cs a8 db.o (Nat.le_refl _) (fun _ b M e=>by injection e with e;injection e with e;omega) bG.o (fun _ b M e=>by injection e with e;injection e with e;subst e;exact ⟨by omega,fun bP=>by have:=(bG.o y bP).2;omega⟩) a9;refine ⟨.slice (zO Y 0) (m+1) aa,b7,Or.inl (Ze (.tmp 59) (.tmp 66) 38 rfl (.slice R m V) (.slice (zO aC 0) 1 1) A I dT),(fun h=>by cases h),⟨z,B,y,C,Y,aa,rfl,bR⟩,bT.mono dG,?_⟩;intro i I ab aL u Q
      match i with
      | 0=>exact Q
      | 1=>exact Q
      | 2=>exact Q
      | 3=>exact Q
      | 4=>exact Q
      | 5=>exact Q
      | 6=>exact Q
      | 7=>exact absurd ab (by decide)
      | 8=>exact absurd ab (by decide)
      | 9=>exact absurd rfl I
      | 10=>exact Q
      | 11=>exact absurd (aL.symm.trans (by kernel_rfl:_=true)) (by decide)
      | n+12=>exact Q
     refine zc.cons 11 rfl ?_ ?_
     ·intro T w' J U s r;show zu Tryz.prog _ _ _ _;have A:T.getD 8 undef=.pointer (zO P 0):=s 8;exact zs (by go_simp) rfl
     refine zc.cons 12 rfl ?_ ?_
     ·intro T w' J U s r;show Xd Tryz.prog _ _ _ _ _ _ _ _ _;obtain ⟨z,B,y,C,Y,aa,A,bR⟩:=r 9 67;have I:T.getD 68 undef=_:=r 10 68;obtain ⟨W,ej,ek,bT⟩:=bR.put dq.o dF cs (U);refine ⟨undef,w'.setCell (zA P 3) (.slice (zO Y 0) (m+1) aa),Or.inr ⟨by go_simp,rfl⟩,fun _=>rfl,⟨rfl,z,B,y,C,Y,aa,W⟩,bT,?_⟩;intro i I ab aL u Q
      match i with
      | 0=>exact Q
      | 1=>exact Q
      | 2=>exact Q
      | 3=>exact Q
      | 4=>exact Q
      | 5=>exact Q
      | 6=>exact Q
      | 7=>exact absurd ab (by decide)
      | 8=>exact absurd ab (by decide)
      | 9=>exact absurd ab (by decide)
      | 10=>exact Q
      | 11=>exact absurd rfl I
      | n+12=>exact Q
     exact trivial
    case hfin =>
     intro T w' f ak s r cC;obtain ⟨_,z,B,y,C,Y,aa,W⟩:=cC 11 (by kernel_rfl) (by kernel_rfl) (by kernel_rfl);rw [yb (tt 58 [false,false,false,false,false,false,false,false,false,false,false] 8) (by kernel_rfl) ak @s];obtain ⟨us,aQ⟩:∃ us:Nat->Value,(fun d=>T.getD d undef)=us:=⟨_,rfl⟩;rw [aQ];have di:=zh W;have da:=zh f;clear W s r ak aQ f cC;simp only [xj,tt,List.replicate,List.cons_append,List.nil_append];go_wp2;go_roundg (F-(k+1))
     case measure=>omega
     have W:=di.o;have en:=cg.o;refine ⟨k+1,zO Y 0,m+1,aa,_,by go_num,by omega,by omega,by omega,⟨W.box,W.own,by simp;omega,fun i D=>⟨W.offP i D,W.offB i D⟩,by have:=W.size;omega,dJ⟩,bF.o _ rfl,fun j ax cH=>?_,ce.o.trans da.o⟩;rw [W.blk j (by omega) cH (fun e=>by have:=ci.o.row.lt j e.symm;omega)];exact cc.o j ax cH
   have bF:Zh (zg lb=zg (xU (b.take (k+1)) t)):=by
    have ag:=cj.o;show zg lb=zg (xU (b.take (k+1)) t);rw [Qa (by have:=bC.o;omega),bI.o,if_pos (by omega),List.append_nil];exact bA.o
   have dg:=zh O;clear O ad cV cW cX b6;go_wp2;go_roundg (F-(k+1))
   case measure=>omega
   case rel=>exact ⟨k+1,R,m,V,lb,by go_num,by omega,by omega,by omega,dg.o,bF.o,cc.o,ce.o⟩
  obtain rfl:F=k:=by omega
  have aE:zj wr (S+1) (zI 0) (zI 0) zN zN:=(a2 (S+1) (by have:=aT.o;omega) (by omega)).trans dt.o;obtain ⟨ez,eA,eB,eC⟩:=aE.cells;have eD:∀ m,wr.frozen? (zA (S+1) m)=false:=fun m=>frozen_of_row wr (S+1) m _ _ aE;obtain ⟨bX,bY,bZ,b0⟩:=bi.box.cells;have dk:=zh aE;have eu:S≠P:=by omega
  have ev:S+1≠P:=by omega
  have et:m<=12:=by omega
  have ey:IntKind.i64.wrap ((F:Int)-(m:Int))=(F:Int)-m:=by rw [IntKind.wrap_i64];omega
  clear bp aD a2 bj bU bi aE;go_wp2_with fail
  go_region
  have al:=zk wr (S+1) 40 _ _ _ _ (zI t) (zI n) (.slice (zO g 0) G Z) (.slice R m V) dk.o;have N:w.heap.size<=S+1:=by have:=aq.o;omega
  have cA:Below w.heap.size w wr:=by rw [aq.o];exact bD.o
  have cl:=zh al;have aS:=zh ((((cA.setCell (p:=(zA (S+1) 0)) N (zI t)).setCell (p:=(zA (S+1) 1)) N (zI n)).setCell (p:=(zA (S+1) 2)) N (.slice (zO g 0) G Z)).setCell (p:=(zA (S+1) 3)) N (.slice R m V));clear al cA N;go_wp2_with fail
  refine bodyPost_ret (v:=.tuple #[.agg (zS t n (zO g 0) G Z R m V),zI ((F:Int)-m),zI 0]) (zq Tryz.results64 _ _ (S+1) 40 (zS t n (zO g 0) G Z R m V) (0,0) _ rfl cl.o.1 Tryz.underlying40 rfl (by kernel_rfl)) rfl ?_;obtain ⟨aA,bS⟩:=qB (((((wr.setCell ⟨S+1,0,none⟩ (zI t)).setCell ⟨S+1,1,none⟩ (zI n)).setCell ⟨S+1,2,none⟩ (.slice (some ⟨g,0,none⟩) G Z)).setCell ⟨S+1,3,none⟩ (.slice R m V)).drew);have a6:∀ j,j≠S+1->aA.heap[j]?=wr.heap[j]?:=fun j ax=>by rw [bS];exact cl.o.2 j ax
  have dM:Below w.heap.size w aA:=by rw [bS];exact ⟨aS.o.os,aS.o.tape,aS.o.output,aS.o.size,aS.o.block⟩
  rw [<-bS];have O:=bE.o;have ec:=aT.o;have el:=dc.o;have eb:=df.o;have ef:=aq.o;have dP:OwnQs aA w.heap.size (.slice (zO g 0) G Z) az:=by
   have I:OwnQs aA ae.heap.size (.slice (zO g 0) G Z) az:=dj.o.keep (fun j e=>by
    have e:=xP.1 e;subst e;rw [a6 g (by omega),bB.o g (by omega) (by omega)]) (fun i D E j M e=>by
    have a:=cf.o i D E j M e;rw [a6 j (by omega),bB.o j (by omega) (by omega)])
   exact I.base (by omega)
  have cF:OwnBks aA L (.slice R m V) lb:=O.own.blocks (fun j e=>a6 j (by have:=O.own.row.lt j e;omega)) (fun i D E j M e=>a6 j (by have:=(O.offP i D).1 E j M e;omega)) (fun i D E j M e=>a6 j (by have:=(O.offP i D).2 E j M e;omega));have eo:=O.len;refine ⟨t,n,zO g 0,G,Z,R,m,V,_,by rw [aI.o],Or.inr ⟨aI.o,az,lb,⟨y6 dP,ym cF⟩,rfl,rfl,c9.o,?_,⟨fun _ H M e=>?_,fun i D E H M e=>?_,fun E H M e=>?_,fun i D E H M e=>?_,fun i D E H M e=>?_⟩⟩,dM⟩
  ·rw [bA.o,<-bC.o.symm,List.take_length];exact Xu b t
  ·have ag:g=H:=(by injection e with e;injection e with ag);omega
  ·have:=cf.o i (by omega) E H M e;omega
  ·have:=cF.row.lt H (by rw [e];rfl);omega
  ·have:=(O.offP i (by omega)).1 E H M e;omega
  have:=(O.offP i (by omega)).2 E H M e;omega
def Zv (v:Nat->Int) (u L:Nat) (n:Int) (t:Nat):Bool:=decide (t+L<=u)&&decide (n<=YT v t L)
theorem R6 {v:Nat->Int} {u L t:Nat} {n:Int} (g:0<L):Zv v u L n t=true↔t+L<=u/\∀ s,t<=s->s<t+L->n<=v s:=by
 rw [Zv,Bool.and_eq_true,decide_eq_true_iff,decide_eq_true_iff];obtain ⟨c,s,d,e,f⟩:=Y9 v t L g
 constructor
 ·rintro ⟨a,b⟩;exact ⟨a,fun s h i=>by have:=c s h i;omega⟩
 rintro ⟨a,b⟩;exact ⟨a,by rw [f];exact b s d e⟩
theorem LP (w:World) (v:Nat->Int) (t u L n:Int) (T b S:Nat) (k:t=T) (l:u=b) (j:L=S) (X:T<=200) (Y:b<=48) (V:1<=S) (W:S<=24) :
 zC 159 #[.agg (ya v),zI t,zI u,zI L,zI n] w fun e w'=>e=.returned (.bool (Zv v b S n T))/\Below w.heap.size w w':=by
 obtain ⟨a,m⟩:=qA (Zv v b S n T);rw [m];have h:=zh m;have g:=zh k;have P:=zh l;have y:=zh j;have b1:0<=t:=by omega
 have Q:t<=200:=by omega
 have R:1<=L:=by omega
 have U:L<=24:=by omega
 clear m;by_cases E:T+S<=b
 ·have N:¬u<t+L:=by omega
  clear k l j;go_enter Tryz.func159,Tryz.ntmps159;go_wp2_with fail
  obtain ⟨d,f⟩:=qB (w.alloc (.cells (ya v) 126));rw [<-f];have F:Zh (ZU d w.heap.size v):=by rw [f];exact ZU.new w v
  have A:Zh (zL w d):=by rw [f];exact zr _ _
  clear f;go_loop [11] (fun r=>∃ i:Nat,r=zI i/\T<=i/\i<=T+S/\∀ s,T<=s->s<i->n<=v s) (fun r=>T+S-(intOf r).toNat)
  case atStart=>exact ⟨T,by rw [g.o],Nat.le_refl _,by omega,fun s C H=>by omega⟩
  obtain ⟨i,rfl,C,H,D⟩:=hrel;have z:=zh D;clear D;by_cases J:i<T+S
  ·have M:(i:Int)<t+L:=(by have:=g.o;have:=y.o;omega);have Z:(i:Int)<48:=(by omega);have G:=F.o.cell (i:=i) (by omega);obtain ⟨x,p⟩:=qA (v i);rw [p] at G;have B:=zh p;clear p;by_cases aa:x<n
   ·have c:Zh (false=a):=by
     show false=a;rw [<-h.o];cases I:Zv v b S n T with
     | false=>rfl
     | true =>
      have:=((R6 (by omega)).1 I).2 i C J;rw [B.o] at this;omega
    go_wp2;go_ret;exact ⟨zm c.o,A.o⟩
   go_wp2;go_round
   case rel=>exact ⟨i+1,by go_num,by omega,by omega,fun s q O=>by
    by_cases e:s=i
    ·subst e;rw [B.o];omega
    exact z.o s q (by omega)⟩
   case measure=>simp [intOf];omega
  have M:¬(i:Int)<t+L:=by have:=g.o;have:=y.o;omega
  have c:Zh (true=a):=by
   show true=a;rw [<-h.o,(R6 (by omega)).2 ⟨E,fun s q O=>z.o s q (by omega)⟩]
  go_wp2;go_ret;exact ⟨zm c.o,A.o⟩
 ·have N:u<t+L:=by omega
  have c:Zh (false=a):=by show false=a;rw [<-h.o,Zv,decide_eq_false E,Bool.false_and]
  clear k l j;go_enter Tryz.func159,Tryz.ntmps159;go_wp2;go_ret;exact ⟨zm c.o,zr _ _⟩
def Te (v:Nat->Int) (F U L:Nat) (n:Int):Int×Bool:=match zw (Zv v U L n) F (U-F) with
 | some t=>((t:Int),true)
 | none=>(0,false)
theorem OP (w:World) (v:Nat->Int) (t u L n:Int) (T a S:Nat) (y:t=T) (z:u=a) (x:L=S) (M:T<=200) (N:a<=48) (I:1<=S) (J:S<=24) :
 zC 115 #[.agg (ya v),zI t,zI u,zI L,zI n] w fun e w'=>e=.returned (.tuple #[zI (Te v T a S n).1,.bool (Te v T a S n).2])/\Below w.heap.size w w':=by
 obtain ⟨c,m⟩:=qA (Te v T a S n);rw [m];have q:Zh (∀ k,zw (Zv v a S n) T (a-T)=zw (Zv v a S n) k (a-k)->(a<=k->c=(0,false))/\(k<a->Zv v a S n k=true->c=((k:Int),true))):=by
  intro k O;rw [<-m,Te,O];exact ⟨fun h=>by rw [show a-k=0 from by omega];rfl,fun R l=>by rw [Zn (by omega) l]⟩
 have F:=zh y;have f:=zh z;have E:=zh x;clear m y z x;go_enter Tryz.func115,Tryz.ntmps115;go_wp2_with fail
 obtain ⟨b,d⟩:=qB (w.alloc (.cells (ya v) 126));rw [<-d];have H:Zh (ZU b w.heap.size v):=by rw [d];exact ZU.new w v
 have s:Zh (zL w b):=by rw [d];exact zr _ _
 clear d;go_loopw [12] (fun p wr=>∃ k:Nat,p=zI k/\k<=200/\zw (Zv v a S n) T (a-T)=zw (Zv v a S n) k (a-k)/\zL b wr) (fun p _=>a-(intOf p).toNat)
 case atStart=>exact ⟨T,by rw [F.o],M,rfl,Below.refl _ _⟩
 case round =>
  obtain ⟨k,rfl,l,A,B⟩:=hrel;have g:=zh A;have i:=zh B;clear A B;have G:Zh (ZU wr w.heap.size v):=H.o.later i.o;by_cases P:k<a
  ·have Q:(k:Int)<u:=(by have:=f.o;omega);go_wp2_with (refine wpList_load_row rfl 126 (.tmp 5) rfl w.heap.size rfl 126 (ya v) (0,0) _ G.o Tryz.underlying126 rfl (size61 _) ?_)
   refine (LP wr v k u L n k a S rfl f.o E.o l N I J).mono ?_;rintro e U ⟨rfl,C⟩;have r:=zh (za i.o C);clear C;cases D:Zv v a S n k with
   | true =>
    have j:=zh ((q.o k g.o).2 P D);go_wp2;go_ret2
    exact ⟨by rw [j.o];rfl,za s.o r.o⟩
   | false =>
    go_wp2;go_roundw
    case rel=>exact ⟨k+1,by go_num,by omega,by rw [g.o,wQ (by omega) D];rfl,r.o⟩
    case measure=>simp [intOf];omega
  have Q:¬(k:Int)<u:=by have:=f.o;omega
  have j:=zh ((q.o k g.o).1 (by omega));go_wp2;go_ret2
  exact ⟨by rw [j.o];rfl,za s.o i.o⟩
end Go.Proofs.YtckpdfkobdgjeaaGreatDoor
