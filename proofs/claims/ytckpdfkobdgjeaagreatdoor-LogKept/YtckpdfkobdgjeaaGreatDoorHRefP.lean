/- The reference's TickOf at a right state. -/
import Derived.Test.YtckpdfkobdgjeaaGreatDoorHRefO
namespace Go.Proofs.YtckpdfkobdgjeaaGreatDoor
set_option maxRecDepth 100000
set_option maxHeartbeats 8000000
open Go.RowKit
theorem Laid.later {a e:World} {L d:Nat} {c n:Int} {j:Value} {i:QL} {f:Option Addr} {k g:Nat} {lb:BL} (h:Laid a L d c n j i f k g lb) (b:Below a.heap.size a e):Laid e L d c n j i f k g lb :=
 ⟨h.box.later b,h.own.later b,h.len,h.offP,Nat.le_trans h.size b.size,h.gl⟩
theorem Qa {b:BL} {k:Nat} (a:k<b.length) (t:Int):xU (b.take (k+1)) t=xU (b.take k) t++(if yA (bk b k)<=t then [] else [bk b k]):=by
 have c:b.take (k+1)=b.take k++[bk b k]:=by
  rw [List.take_succ_eq_append_getElem a]
  congr 2
  unfold bk;simp [List.getD,a]
 rw [c];unfold xU;rw [List.filter_append]
 congr 1
 by_cases h:yA (bk b k)<=t
 ·rw [if_pos h,List.filter_cons,if_neg (by simp [h]),List.filter_nil]
 rw [if_neg h,List.filter_cons,if_pos (by simp [h]),List.filter_nil]
def Y3 (w w':World) (e:Ending) (c n:Int) (l:QL) (b:BL) (t:Int):Prop:=∃ c' n' ta' tn' tc' ba' bn' bc' i,e=.returned (.tuple #[.agg (zS c' n' ta' tn' tc' ba' bn' bc'),zI i,zI (we c n l b t)])/\X9 w' w.heap.size (we c n l b t) ⟨t,n,zi l,xU (zg b) t⟩ c' n' ta' tn' tc' ba' bn' bc'/\Below w.heap.size w w'
theorem Y3.wrong {w w':World} {c n:Int} {l:QL} {b:BL} {t a:Int} (d:we c n l b t=a) (e:a≠0) (f:Below w.heap.size w w'):Y3 w w' (.returned (.tuple #[.agg zZ,zI 0,zI a])) c n l b t:=by
 refine ⟨_,_,_,_,_,_,_,_,_,by rw [d],Or.inl ⟨by rw [d];exact e,rfl,rfl,rfl,rfl,rfl,rfl,rfl,rfl⟩,f⟩
theorem G0 (w:World) (c n:Int) (aC:Option Addr) (E aD:Nat) (l:QL) (ba:Option Addr) (bn bc:Nat) (b:BL) (h:zY w aC E aD l ba bn bc b) (D:zU c n l b=0) (t:Int) :
 zC 64 #[.agg (zS c n aC E aD ba bn bc),zI t] w fun e w'=>Y3 w w' e c n l b t:=by
 have ai:=yZ D;have aL:=Yn h ai.clean;obtain ⟨S,cu⟩:=qA (w.heap.size);obtain ⟨bK,aJ⟩:=qB ((w.alloc (.cells (zS c n aC E aD ba bn bc) 40)).alloc (.cells zZ 40));obtain ⟨aO,a8,Q,a4⟩:=ZK w _ _ _ _ aJ;rw [cu] at aO a8 a4;have bJ:=zh (Zm bK c n aC E aD l ba bn bc b (h.later Q) ai);have aR:=zh fun X=>zo t 0 48 X;obtain ⟨au,c1,c2,c3⟩:=aO.cells;rw [aJ] at au c1 c2 c3;have bb:=zh aO;have aS:=zh a8;have bz:=zh Q;have bH:=zh aJ;have an:=zh cu;have dm:=zh a4;by_cases aM:t<0\/48<t
 ·have ae:we c n l b t=3:=by unfold we;rw [if_pos D,if_pos aM]
  have aH:yW t 0 48=false:=by simp [yW];omega
  rw [aH] at aR;have aF:=zh ae;clear aJ aO a8 Q h a4 D ai aL ae aM aH;go_enter Tryz.func64,Tryz.ntmps64;go_wp2_with fail
  rw [<-bH.o];refine bJ.o.mono ?_;rintro e ab ⟨rfl,af⟩;have ao:=zh (aS.o.later af);have aE:=zh (za bz.o af);obtain ⟨dV,dW,dX,dY⟩:=ao.o.cells;have dZ:∀ k,ab.frozen? (zA (S+1) k)=false:=fun k=>frozen_of_row ab (S+1) k _ _ ao.o;clear af au c1 c2 c3;go_wp2_with fail
  refine (aR.o _).mono ?_;rintro e cY ⟨rfl,aw⟩;rw [aw];clear aw;go_wp2_with fail
  have aj:=zk ab (S+1) 40 _ _ _ _ (zI 0) (zI 0) zN zN ao.o;have J:w.heap.size<=S+1:=by have:=an.o;omega
  refine bodyPost_ret (v:=.tuple #[.agg zZ,zI 0,zI 3]) (zq Tryz.results64 _ _ (S+1) 40 zZ (0,0) _ rfl aj.1 Tryz.underlying40 rfl (by kernel_rfl)) rfl (Y3.wrong aF.o (by decide) ?_);exact ((((aE.o.setCell (p:=(zA (S+1) 0)) J _).setCell (p:=(zA (S+1) 1)) J _).setCell (p:=(zA (S+1) 2)) J _).setCell (p:=(zA (S+1) 3)) J _)
 have aH:yW t 0 48=true:=by simp [yW];omega
 rw [aH] at aR;by_cases cJ:t<c
 ·have ae:we c n l b t=9:=by unfold we;rw [if_pos D,if_neg aM,if_pos cJ]
  have aF:=zh ae;clear aJ aO a8 Q h a4 D ai aL ae aM aH;go_enter Tryz.func64,Tryz.ntmps64;go_wp2_with fail
  rw [<-bH.o];refine bJ.o.mono ?_;rintro e ab ⟨rfl,af⟩;have ao:=zh (aS.o.later af);have aE:=zh (za bz.o af);obtain ⟨bd,be,bf,aT⟩:=(bb.o.later af).cells;obtain ⟨dV,dW,dX,dY⟩:=ao.o.cells;have dZ:∀ k,ab.frozen? (zA (S+1) k)=false:=fun k=>frozen_of_row ab (S+1) k _ _ ao.o;clear af au c1 c2 c3;go_wp2_with fail
  refine (aR.o _).mono ?_;rintro e cY ⟨rfl,aw⟩;rw [aw];clear aw;go_wp2_with fail
  have aj:=zk ab (S+1) 40 _ _ _ _ (zI 0) (zI 0) zN zN ao.o;have J:w.heap.size<=S+1:=by have:=an.o;omega
  refine bodyPost_ret (v:=.tuple #[.agg zZ,zI 0,zI 9]) (zq Tryz.results64 _ _ (S+1) 40 zZ (0,0) _ rfl aj.1 Tryz.underlying40 rfl (by kernel_rfl)) rfl (Y3.wrong aF.o (by decide) ?_);exact ((((aE.o.setCell (p:=(zA (S+1) 0)) J _).setCell (p:=(zA (S+1) 1)) J _).setCell (p:=(zA (S+1) 2)) J _).setCell (p:=(zA (S+1) 3)) J _)
 have ae:we c n l b t=0:=by unfold we;rw [if_pos D,if_neg aM,if_neg cJ]
 have aF:=zh ae;have de:=zh h;have d1:=zh ai;have ch:=zh aL;have bC:=zh h.2.len;have ei:=aL.b1;have eg:=h.2.capb;have eh:=h.2.le;have du:=zh fun X (aW:Below w.heap.size w X)=>WK X c n aC E aD l ba bn bc b (h.later aW) aL;clear aJ aO a8 Q h a4 D ai aL ae aM aH;go_enter Tryz.func64,Tryz.ntmps64;go_wp2_with fail
 rw [<-bH.o];refine bJ.o.mono ?_;rintro e ab ⟨rfl,af⟩;have co:=zh (bb.o.later af);have ao:=zh (aS.o.later af);have aE:=zh (za bz.o af);have ed:S+2<=ab.heap.size:=by have:=af.size;have:=dm.o;omega
 obtain ⟨bd,be,bf,aT⟩:=co.o.cells;clear af au c1 c2 c3;go_wp2_with fail
 refine (aR.o _).mono ?_;rintro e cY ⟨rfl,aw⟩;rw [aw];clear aw;go_wp2_with fail
 refine (du.o ab aE.o).mono ?_;rintro e a7 ⟨g,W,ax,bM,bW,d2,rfl,aU,cI,dL,cB,dO,aX⟩;obtain ⟨P,U⟩:=qA (a7.heap.size);obtain ⟨ag,aV⟩:=qB (a7.alloc (.cells (zS c n (some ⟨g,0,none⟩) E W bM bn bW) 40));have aY:Below a7.heap.size a7 ag:=by rw [aV];exact zr _ _
 have cM:ag.heap.size=P+1:=by rw [aV,<-U];simp
 have bq:zj ag P (zI c) (zI n) (.slice (zO g 0) E W) (.slice bM bn bW):=by rw [aV,<-U];exact zj.new a7 _ _ _ _
 obtain ⟨ah,aK⟩:=qB ((ag.setCell ⟨P,0,none⟩ (zI t)).setCell ⟨P,3,none⟩ zN);have bg:zj (ag.setCell (zA P 0) (zI t)) P (zI t) (zI n) (.slice (zO g 0) E W) (.slice bM bn bW):=by
  unfold zj;rw [heap_setCell_same ag P 0 _ _ _ bq];rfl
 have c0:zj ah P (zI t) (zI n) (.slice (zO g 0) E W) zN:=by
  rw [aK];unfold zj;rw [heap_setCell_same _ P 3 _ _ _ bg];rfl
 have a1:∀ j,j≠P->ah.heap[j]?=ag.heap[j]?:=fun j av=>by
  rw [aK,heap_setCell_other _ (zA P 3) j _ av,heap_setCell_other ag (zA P 0) j _ av]
 have cO:ah.heap.size=P+1:=by rw [aK];simp only [World.setCell,Array.size_modify];exact cM
 have ew:=aX.size;have ee:S+2<=P:=by omega
 have ex:ab.heap.size<=P:=by omega
 have cz:Below w.heap.size w ah:=by
  rw [aK];have cP:w.heap.size<=P:=by have:=an.o;omega
  exact ((za (za aE.o aX) aY).setCell (p:=(zA P 0)) cP _).setCell (p:=(zA P 3)) cP _
 have b8:zj ah S (zI c) (zI n) (.slice aC E aD) (.slice ba bn bc):=(a1 S (by omega)).trans ((co.o.later aX).later aY);have b9:zj ah (S+1) (zI 0) (zI 0) zN zN:=(a1 (S+1) (by omega)).trans ((ao.o.later aX).later aY);have cG:ab.heap.size<=g/\g<P:=by have:=aU.qs.row.lt g (xP.2 rfl);omega
 have cK:=aU.qs.later aY;have bV:∀ i,i<ax.length->0<(qu ax i).cn->∀ F I,(qu ax i).ca=zO F I->ab.heap.size<=F/\F<P:=fun i C D F I e=>by
  have G:=aU.newC i C D F I e;have Z:=(aU.qs.caps i C).lt D e;omega
 have cL:OwnQs ah ab.heap.size (.slice (zO g 0) E W) ax:=cK.keep (fun j e=>a1 j (by have:=xP.1 e;omega)) (fun i C D j I e=>a1 j (by have:=bV i C D j I e;omega));have ds:=zh b8;have dt:=zh b9;have dj:=zh cL;have cf:=zh bV;have dc:=zh cG;have df:=zh cI;have c9:=zh cB;have c8:=zh cz;have dr:=zh c0;have dl:=zh cO;have dp:=zh aV;have cm:=zh aK;obtain ⟨bX,bY,bZ,b0⟩:=bq.cells;have cQ:∀ k,ag.frozen? (zA P k)=false:=fun k=>frozen_of_row ag P k _ _ bq;obtain ⟨aB,cR,cS,cT⟩:=bg.cells;have cU:∀ k,(ag.setCell (zA P 0) (zI t)).frozen? (zA P k)=false:=fun k=>frozen_of_row _ P k _ _ bg;rw [<-U] at cm bX bY bZ b0 cQ aB cR cS cT cU;have dh:=zh U;clear aX aU cI dL cB dO U aV aY cM bq aK bg c0 a1 cO cz b8 b9 cG cK bV cL bd be bf aT;go_upto_region 9 with fail
 rw [<-dp.o];go_wp2_with fail
 rw [<-cm.o,dh.o];clear bX bY bZ b0 cQ aB cR cS cT cU;obtain ⟨L,ct⟩:=qA (P+1);have aQ:=zh ct;clear ct;go_loopg [9] bn (fun dE (p:Value) wr=>∃ (k:Nat) (O:Option Addr) (m R:Nat) (lb:BL),p=zI k/\k<=bn/\dE=bn-k/\m<=k/\Laid wr L P t n (.slice (zO g 0) E W) ax O m R lb/\zg lb=zg (xU (b.take k) t)/\(∀ j,j<L->j≠P->wr.heap[j]?=ah.heap[j]?)/\Below S w wr)
 case atStart =>
  refine ⟨0,none,0,0,[],rfl,by omega,by omega,Nat.le_refl _,⟨dr.o,⟨World.ownsRow_nil _ _ _ _,fun i C=>absurd C (Nat.not_lt_zero i),fun i C=>absurd C (Nat.not_lt_zero i),fun i C=>absurd C (Nat.not_lt_zero i),fun i C=>absurd C (Nat.not_lt_zero i)⟩,rfl,fun i C=>absurd C (Nat.not_lt_zero i),by have:=aQ.o;have:=dl.o;omega,by have:=aQ.o;omega⟩,rfl,fun j _ _=>rfl,?_⟩;have:=c8.o;rw [an.o] at this;exact this
 case round =>
  obtain ⟨k,O,m,R,lb,rfl,em,rfl,es,bh,aA,aZ,bi⟩:=hrel;have bp:zj wr S (zI c) (zI n) (.slice aC E aD) (.slice ba bn bc):=(aZ S (by have:=aQ.o;omega) (by omega)).trans ds.o;have bU:Below w.heap.size w wr:=by rw [an.o];exact bi
  have bA:=zh aA;have bB:=zh aZ;have bD:=zh bi;have bE:=zh bh;have d0:=zh bp;obtain ⟨cV,cW,cX,b6⟩:=bp.cells;by_cases a0:k<bn
  ·have ep:(k:Int)<bn:=(by omega);have er:¬((k:Int)<0):=(by omega);have aj:=de.o.later bU;obtain ⟨aq,ar,dN,cD⟩:=aj.2.cells (by omega);subst dN;obtain ⟨X,aW⟩:=qA (bk b k);obtain ⟨au,c1,c2,c3,c4,c5,bN⟩:=cD k a0;have bl:=aj.2.rqs k a0;have bj:=aj.2.bites k a0;rw [aW] at au c1 c2 c3 c4 c5 bN bl bj;obtain ⟨ak,a2⟩:=qA (yA X);obtain ⟨am,cE⟩:∃ am:Int,(if yd X.rq X.bs=true then (0:Int) else 1)=am:=⟨_,rfl⟩;have cp:Zh (∀ aG,Below wr.heap.size wr aG->zC 98 #[.agg #[zI X.rq.queue,zI X.rq.fr,zI X.rq.un,zI X.rq.kind,.slice X.rq.pa X.rq.pn X.rq.pc],.slice X.ba X.bn X.bc] aG fun e w'=>e=.returned (.tuple #[zI ak,zI am])/\Below aG.heap.size aG w'):=fun aG cw=>by
    have:=SN aG X.rq (bl.later cw) X.ba X.bn X.bc X.bs (bj.later cw);unfold yA at a2;rw [a2,cE] at this;exact this
   have cb:=zh au;have br:=zh c1;have bt:=zh c2;have bu:=zh c3;have bv:=zh c4;have bw:=zh c5;have bx:=zh bN;have bI:=zh aW;have ck:=zh bl;have cd:=zh bj;have cj:=zh a2;have a9:=zh b6;clear aj cD bl bj aW a2 cE au c1 c2 c3 c4 c5 bN bp bU aA aZ bi bh;go_upto_region 14 with fail
   go_cut [10,11] (fun p q cZ=>∃ dw,dw=cZ/\p=zI ak/\q=zI am/\Below wr.heap.size wr cZ)
   case first =>
    refine zV ((Tryz.f64.body.bind fun c=>yi c 14).getD #[]) (by kernel_rfl) [zl (.pointer (zO S 3)),zl (.slice (zO aq ar) bn bc),zl (zI k),zl (.pointer (zO aq (ar+k*7))),zl (.pointer (zO aq (ar+k*7+1))),zl (.agg #[zI X.rq.queue,zI X.rq.fr,zI X.rq.un,zI X.rq.kind,.slice X.rq.pa X.rq.pn X.rq.pc]),zl (.pointer (zO S 3)),zl (.slice (zO aq ar) bn bc),zl (zI k),zl (.pointer (zO aq (ar+k*7))),zl (.pointer (zO aq (ar+k*7+6))),zl (.slice X.ba X.bn X.bc),zl (.tuple #[zI ak,zI am]),zl (.tuple #[zI ak,zI am]),zl (zI ak),zl (zI am),zl (zI ak),zl (zI am)] [] (by kernel_rfl) (by kernel_rfl) (by kernel_rfl) ?hg ?hstep ?hfin
    case hg =>
     intro g hg v w h;cases hg
    case hstep =>
     refine zc.cons 1 rfl ?_ ?_
     ·intro T w' f s r;have z:T.getD 2 undef=.pointer (zO S 0):=s 2;exact zs (by go_simp) rfl
     refine zc.cons 2 rfl ?_ ?_
     ·intro T w' f s r;have z:T.getD 40 undef=_:=r 0 40;have bO:=cell_later f a9.o;exact zs (by go_simp) rfl
     refine zc.cons 3 rfl ?_ ?_
     ·intro T w' f s r;have z:T.getD 9 undef=zI k:=s 9;exact zs (by go_simp) rfl
     refine zc.cons 4 rfl ?_ ?_
     ·intro T w' f s r;have z:T.getD 41 undef=_:=r 1 41;have G:T.getD 42 undef=_:=r 2 42;exact zs (by go_simp) rfl
     refine zc.cons 5 rfl ?_ ?_
     ·intro T w' f s r;have z:T.getD 43 undef=_:=r 3 43;exact zs (by go_simp) rfl
     refine zc.cons 6 rfl ?_ ?_
     ·intro T w' f s r;have z:T.getD 44 undef=_:=r 4 44;have b8:=cell_later f br.o;have eF:=cell_later f bt.o;have b9:=cell_later f bu.o;have eG:=cell_later f bv.o;have eH:=cell_later f bw.o;exact zs (by go_simp) rfl
     refine zc.cons 7 rfl ?_ ?_
     ·intro T w' f s r;have z:T.getD 2 undef=.pointer (zO S 0):=s 2;exact zs (by go_simp) rfl
     refine zc.cons 8 rfl ?_ ?_
     ·intro T w' f s r;have z:T.getD 46 undef=_:=r 6 46;have bO:=cell_later f a9.o;exact zs (by go_simp) rfl
     refine zc.cons 9 rfl ?_ ?_
     ·intro T w' f s r;have z:T.getD 9 undef=zI k:=s 9;exact zs (by go_simp) rfl
     refine zc.cons 10 rfl ?_ ?_
     ·intro T w' f s r;have z:T.getD 47 undef=_:=r 7 47;have G:T.getD 48 undef=_:=r 8 48;exact zs (by go_simp) rfl
     refine zc.cons 11 rfl ?_ ?_
     ·intro T w' f s r;have z:T.getD 49 undef=_:=r 9 49;exact zs (by go_simp) rfl
     refine zc.cons 12 rfl ?_ ?_
     ·intro T w' f s r;have z:T.getD 50 undef=_:=r 10 50;have eI:=cell_later f bx.o;exact zs (by go_simp) rfl
     refine zc.cons 13 rfl ?_ ?_
     ·intro T w' f s r;have z:T.getD 45 undef=_:=r 5 45;have G:T.getD 51 undef=_:=r 11 51;refine Or.inr ⟨98,#[.agg #[zI X.rq.queue,zI X.rq.fr,zI X.rq.un,zI X.rq.kind,.slice X.rq.pa X.rq.pn X.rq.pc],.slice X.ba X.bn X.bc],by go_simp,?_⟩;refine (cp.o w' f).mono ?_;rintro e b7 ⟨rfl,aA⟩;exact ⟨_,rfl,rfl,aA⟩
     refine zc.cons 14 rfl ?_ ?_
     ·intro T w' f s r;have z:T.getD 52 undef=_:=r 12 52;exact zs (by go_simp) rfl
     refine zc.cons 15 rfl ?_ ?_
     ·intro T w' f s r;have z:T.getD 39 undef=_:=r 13 39;exact zs (by go_simp) rfl
     refine zc.cons 16 rfl ?_ ?_
     ·intro T w' f s r;have z:T.getD 39 undef=_:=r 13 39;exact zs (by go_simp) rfl
     refine zc.cons 17 rfl ?_ ?_
     ·intro T w' f s r;have z:T.getD 53 undef=_:=r 14 53;exact zs (by go_simp) rfl
     refine zc.cons 18 rfl ?_ ?_
     ·intro T w' f s r;have z:T.getD 54 undef=_:=r 15 54;exact zs (by go_simp) rfl
     exact trivial
    case hfin =>
     intro T w' f ai s r;have ae:T.getD 10 undef=zI ak:=r 16 10;have bP:T.getD 11 undef=zI am:=r 17 11;rw [yb (tt 10 [false,false,true,true,true,true,true,true,true,true,true,true,true,true,true,true,true,true,true,true,true,true,true,true,true,true,true,true,true,false,false,false,false,false,false,false,false,false,false,false,false,false,false,false,false] 22) (by kernel_rfl) ai @s];obtain ⟨us,aN⟩:∃ us:Nat->Value,(fun d=>T.getD d undef)=us:=⟨_,rfl⟩;rw [aN];have dC:us 10=zI ak:=(by rw [<-aN];exact ae);have dD:us 11=zI am:=(by rw [<-aN];exact bP);apply_assumption;simp only [xj,tt,List.replicate,List.cons_append,List.nil_append];go_meet;exact ⟨_,rfl,dC,dD,f⟩
   obtain ⟨ad,rfl,rfl,rfl,aa⟩:=hcut;have M:=bE.o.later aa;have ce:Zh (Below S w ad):=bD.o.trans (aa.mono (by have:=bD.o.size;have:=an.o;omega));have cc:Zh (∀ j,j<L->j≠P->ad.heap[j]?=ah.heap[j]?):=fun j av dR=>(aa.block j (by have:=bE.o.size;omega)).trans (bB.o j av dR);by_cases a2:t<ak
   ·have dx:=zh (cell_later aa cb.o);have bb:=zh (cell_later aa br.o);have dy:=zh (cell_later aa bt.o);have aS:=zh (cell_later aa bu.o);have dz:=zh (cell_later aa bv.o);have dA:=zh (cell_later aa bw.o);have dB:=zh (cell_later aa bx.o);have c7:=zh (cell_later aa a9.o);obtain ⟨bd,be,bf,aT⟩:=M.box.cells;have c6:=zh aT;obtain ⟨b2,b3⟩:=ch.o.ps k a0;obtain ⟨b4,b5⟩:=ch.o.bs k a0;rw [bI.o] at b2 b3 b4 b5;have cy:=zH.later ck.o aa;have cx:=cd.o.later aa;have dv:=zh fun cq (cv:Below ad.heap.size ad cq)=>Vd cq X (zH.later cy cv) (cx.later cv) b2 b3 b4 b5;have ci:=zh M.own;have cg:=zh M.len;have db:=zh M.offP;have dI:=M.size;have dJ:P<L:=M.gl;have cs:P<ad.heap.size:=(by omega);have dF:S<=P:=(by omega);have dH:S<=ad.heap.size:=(by omega);have dS:m<=12:=(by omega);have dG:S<=L:=(by omega);have bG:Zh (∀ F,(Value.slice O m R).ownBlock=some F->F≠P/\F<ad.heap.size):=fun F e=>by have:=M.own.row.lt F e;omega
    have dq:Zh (zj ad P (zI t) (zI n) (.slice (zO g 0) E W) (.slice O m R)/\some P≠(Value.slice O m R).ownBlock):=⟨M.box,fun e=>(bG.o P e.symm).1 rfl⟩;have bF:Zh (∀ bL:Bk,bL.bare=X.bare->zg (lb++[bL])=zg (xU (b.take (k+1)) t)):=fun bL dK=>by
     have ae:=cj.o;rw [Qa (by have:=bC.o;omega),bI.o,if_neg (by omega)];have:=bA.o;unfold zg at this ⊢;rw [List.map_append,List.map_append,this];simp [dK]
    obtain ⟨eE,dU⟩:∃ x,wr=x:=⟨_,rfl⟩;clear cy cx b2 b3 b4 b5 M bd be bf aT aa cV cW cX b6 dU a9 cb br bt bu bv bw bx ck cd cp;go_wp2_with fail
    refine Zl ((Tryz.f64.body.bind fun c=>yi c 16).getD #[]) (by kernel_rfl) [zl (.pointer (zO P 3)),zl (.slice O m R),zl (.pointer (zO S 3)),zl (.slice (zO aq ar) bn bc),zl (zI k),zl (.pointer (zO aq (ar+k*7))),zl (.agg #[zI X.id,zI X.rq.queue,zI X.rq.fr,zI X.rq.un,zI X.rq.kind,.slice X.rq.pa X.rq.pn X.rq.pc,.slice X.ba X.bn X.bc]),⟨fun ap al=>∃ y A u B,ap=.agg #[zI X.id,zI X.rq.queue,zI X.rq.fr,zI X.rq.un,zI X.rq.kind,.slice (zO y 0) X.rq.pn A,.slice (zO u 0) X.bn B]/\RunsIn al (zO y 0) X.rq.pn A X.rq.ps/\RunsIn al (zO u 0) X.bn B X.bs/\ad.heap.size<=y/\ad.heap.size<=u,fun _ _ _ ⟨y,A,u,B,G,Z,aI,J,bQ⟩ f=>⟨y,A,u,B,G,Z.later f,aI.later f,J,bQ⟩⟩,⟨fun ap al=>∃ y A u B az,ap=.slice (zO az 0) 1 1/\al.heap[az]?=some (.cells #[zI X.id,zI X.rq.queue,zI X.rq.fr,zI X.rq.un,zI X.rq.kind,.slice (zO y 0) X.rq.pn A,.slice (zO u 0) X.bn B] 60 (0,0))/\RunsIn al (zO y 0) X.rq.pn A X.rq.ps/\RunsIn al (zO u 0) X.bn B X.bs/\ad.heap.size<=y/\ad.heap.size<=u,fun _ _ _ ⟨y,A,u,B,az,G,cr,Z,aI,J,bQ⟩ f=>⟨y,A,u,B,az,G,(f.block _ (Array.getElem?_eq_some_iff.1 cr).1).trans cr,Z.later f,aI.later f,J,bQ⟩⟩,⟨fun ap al=>∃ y A u B V Y,ap=.slice (zO V 0) (m+1) Y/\Made al ad L L P O m R lb ⟨X.id,⟨X.rq.queue,X.rq.fr,X.rq.un,X.rq.kind,zO y 0,X.rq.pn,A,X.rq.ps⟩,zO u 0,X.bn,B,X.bs⟩ V Y,fun _ _ _ ⟨y,A,u,B,V,Y,G,Z⟩ f=>⟨y,A,u,B,V,Y,G,Z.later f⟩⟩,zl (.pointer (zO P 3)),⟨fun ap al=>ap=undef/\∃ y A u B V Y,Put al ad L P O m R lb ⟨X.id,⟨X.rq.queue,X.rq.fr,X.rq.un,X.rq.kind,zO y 0,X.rq.pn,A,X.rq.ps⟩,zO u 0,X.bn,B,X.bs⟩ V Y t n (.slice (zO g 0) E W),fun _ _ _ ⟨e,y,A,u,B,V,Y,Z⟩ f=>⟨e,y,A,u,B,V,Y,Z.later f⟩⟩] [] [(9,[7,8]),(11,[7,8,9])] S (dH) (by kernel_rfl) (by kernel_rfl) (by kernel_rfl) (by kernel_rfl) ?hg ?hstep ?hfin
    case hg =>
     intro g hg v w h;cases hg
    case hstep =>
     refine zc.cons 1 rfl ?_ ?_
     ·intro T w' H Q s r;show zu Tryz.prog _ _ _ _;have f:=H (by kernel_rfl);have z:T.getD 8 undef=.pointer (zO P 0):=s 8;exact zs (by go_simp) rfl
     refine zc.cons 2 rfl ?_ ?_
     ·intro T w' H Q s r;show zu Tryz.prog _ _ _ _;have f:=H (by kernel_rfl);have z:T.getD 58 undef=_:=r 0 58;have bO:=cell_later f c6.o;exact zs (by go_simp) rfl
     refine zc.cons 3 rfl ?_ ?_
     ·intro T w' H Q s r;show zu Tryz.prog _ _ _ _;have f:=H (by kernel_rfl);have z:T.getD 2 undef=.pointer (zO S 0):=s 2;exact zs (by go_simp) rfl
     refine zc.cons 4 rfl ?_ ?_
     ·intro T w' H Q s r;show zu Tryz.prog _ _ _ _;have f:=H (by kernel_rfl);have z:T.getD 60 undef=_:=r 2 60;have bO:=cell_later f c7.o;exact zs (by go_simp) rfl
     refine zc.cons 5 rfl ?_ ?_
     ·intro T w' H Q s r;show zu Tryz.prog _ _ _ _;have f:=H (by kernel_rfl);have z:T.getD 9 undef=zI k:=s 9;exact zs (by go_simp) rfl
     refine zc.cons 6 rfl ?_ ?_
     ·intro T w' H Q s r;show zu Tryz.prog _ _ _ _;have f:=H (by kernel_rfl);have z:T.getD 61 undef=_:=r 3 61;have G:T.getD 62 undef=_:=r 4 62;exact zs (by go_simp) rfl
     refine zc.cons 7 rfl ?_ ?_
     ·intro T w' H Q s r;show zu Tryz.prog _ _ _ _;have f:=H (by kernel_rfl);have z:T.getD 63 undef=_:=r 5 63;have d3:=cell_later f dx.o;have d4:=cell_later f bb.o;have d5:=cell_later f dy.o;have d6:=cell_later f aS.o;have d7:=cell_later f dz.o;have d8:=cell_later f dA.o;have d9:=cell_later f dB.o;exact zs (by go_simp) rfl
     refine zc.cons 8 rfl ?_ ?_
     ·intro T w' H Q s r;show zu Tryz.prog _ _ _ _;have f:=H (by kernel_rfl);have z:T.getD 64 undef=_:=r 6 64;refine Or.inr ⟨59,#[.agg #[zI X.id,zI X.rq.queue,zI X.rq.fr,zI X.rq.un,zI X.rq.kind,.slice X.rq.pa X.rq.pn X.rq.pc,.slice X.ba X.bn X.bc]],by go_simp,?_⟩;refine (dv.o w' f).mono ?_;rintro e b7 ⟨y,A,u,B,rfl,a5,a6,bm,bo,aA⟩;exact ⟨_,rfl,⟨y,A,u,B,rfl,a5,a6,Nat.le_trans f.size bm,Nat.le_trans f.size bo⟩,aA⟩
     refine zc.cons 9 rfl ?_ ?_
     ·intro T w' H Q s r;show zu Tryz.prog _ _ _ _;have f:=H (by kernel_rfl);obtain ⟨y,A,u,B,G,a5,a6,bm,bo⟩:=r 7 65;have ea:T[65]?.getD undef=.agg #[zI X.id,zI X.rq.queue,zI X.rq.fr,zI X.rq.un,zI X.rq.kind,.slice (zO y 0) X.rq.pn A,.slice (zO u 0) X.bn B]:=(by rw [<-G];simp);exact Or.inl ⟨.slice (zO w'.heap.size 0) 1 1,w'.alloc (.cells #[zI X.id,zI X.rq.queue,zI X.rq.fr,zI X.rq.un,zI X.rq.kind,.slice (zO y 0) X.rq.pn A,.slice (zO u 0) X.bn B] 60),by go_simp,⟨y,A,u,B,w'.heap.size,rfl,heap_alloc_new w' _,a5.later (zr _ _),a6.later (zr _ _),bm,bo⟩,zr _ _⟩
     refine zc.cons 10 rfl ?_ ?_
     ·intro T w' H Q s r;show Xd Tryz.prog _ _ _ _ _ _ _ _ _;have f:=H (by kernel_rfl);have z:T.getD 59 undef=_:=r 1 59;obtain ⟨y,A,u,B,az,G,dQ,a5,a6,bm,bo⟩:=r 8 66;obtain ⟨V,Y,b7,dT,bR,bT⟩:=PZ w' ad L L P O m R lb ⟨X.id,⟨X.rq.queue,X.rq.fr,X.rq.un,X.rq.kind,zO y 0,X.rq.pn,A,X.rq.ps⟩,zO u 0,X.bn,B,X.bs⟩ az 38 ci.o f dQ cg.o dS dI cs a5 db.o (Nat.le_refl _) (fun _ b I e=>by injection e with e;injection e with e;omega) bG.o (fun _ b I e=>by injection e with e;injection e with e;subst e;exact ⟨by omega,fun bP=>by have:=(bG.o u bP).2;omega⟩) a6;refine ⟨.slice (zO V 0) (m+1) Y,b7,Or.inl (Ze (.tmp 59) (.tmp 66) 38 rfl (.slice O m R) (.slice (zO az 0) 1 1) z G dT),(fun h=>by cases h),⟨y,A,u,B,V,Y,rfl,bR⟩,bT.mono dG,?_⟩;intro i G Z aI ap N
      match i with
      | 0=>exact N
      | 1=>exact N
      | 2=>exact N
      | 3=>exact N
      | 4=>exact N
      | 5=>exact N
      | 6=>exact N
      | 7=>exact absurd Z (by decide)
      | 8=>exact absurd Z (by decide)
      | 9=>exact absurd rfl G
      | 10=>exact N
      | 11=>exact absurd (aI.symm.trans (by kernel_rfl:_=true)) (by decide)
      | n+12=>exact N
     refine zc.cons 11 rfl ?_ ?_
     ·intro T w' H Q s r;show zu Tryz.prog _ _ _ _;have z:T.getD 8 undef=.pointer (zO P 0):=s 8;exact zs (by go_simp) rfl
     refine zc.cons 12 rfl ?_ ?_
     ·intro T w' H Q s r;show Xd Tryz.prog _ _ _ _ _ _ _ _ _;obtain ⟨y,A,u,B,V,Y,z,bR⟩:=r 9 67;have G:T.getD 68 undef=_:=r 10 68;obtain ⟨U,ej,ek,bT⟩:=bR.put dq.o dF cs (Q);refine ⟨undef,w'.setCell (zA P 3) (.slice (zO V 0) (m+1) Y),Or.inr ⟨by go_simp,rfl⟩,fun _=>rfl,⟨rfl,y,A,u,B,V,Y,U⟩,bT,?_⟩;intro i G Z aI ap N
      match i with
      | 0=>exact N
      | 1=>exact N
      | 2=>exact N
      | 3=>exact N
      | 4=>exact N
      | 5=>exact N
      | 6=>exact N
      | 7=>exact absurd Z (by decide)
      | 8=>exact absurd Z (by decide)
      | 9=>exact absurd Z (by decide)
      | 10=>exact N
      | 11=>exact absurd rfl G
      | n+12=>exact N
     exact trivial
    case hfin =>
     intro T w' f ai s r cC;obtain ⟨_,y,A,u,B,V,Y,U⟩:=cC 11 (by kernel_rfl) (by kernel_rfl) (by kernel_rfl);rw [yb (tt 58 [false,false,false,false,false,false,false,false,false,false,false] 8) (by kernel_rfl) ai @s];obtain ⟨us,aN⟩:∃ us:Nat->Value,(fun d=>T.getD d undef)=us:=⟨_,rfl⟩;rw [aN];have di:=zh U;have da:=zh f;clear U s r ai aN f cC;simp only [xj,tt,List.replicate,List.cons_append,List.nil_append];go_wp2;go_roundg (bn-(k+1))
     case measure=>omega
     have U:=di.o;have en:=cg.o;refine ⟨k+1,zO V 0,m+1,Y,_,by go_num,by omega,by omega,by omega,⟨U.box,U.own,by simp;omega,fun i C=>⟨U.offP i C,U.offB i C⟩,by have:=U.size;omega,dJ⟩,bF.o _ rfl,fun j av cH=>?_,ce.o.trans da.o⟩;rw [U.blk j (by omega) cH (fun e=>by have:=ci.o.row.lt j e.symm;omega)];exact cc.o j av cH
   have bF:Zh (zg lb=zg (xU (b.take (k+1)) t)):=by
    have ae:=cj.o;show zg lb=zg (xU (b.take (k+1)) t);rw [Qa (by have:=bC.o;omega),bI.o,if_pos (by omega),List.append_nil];exact bA.o
   have dg:=zh M;clear M aa cV cW cX b6;go_wp2;go_roundg (bn-(k+1))
   case measure=>omega
   case rel=>exact ⟨k+1,O,m,R,lb,by go_num,by omega,by omega,by omega,dg.o,bF.o,cc.o,ce.o⟩
  obtain rfl:bn=k:=by omega
  have aB:zj wr (S+1) (zI 0) (zI 0) zN zN:=(aZ (S+1) (by have:=aQ.o;omega) (by omega)).trans dt.o;obtain ⟨ez,eA,eB,eC⟩:=aB.cells;have eD:∀ m,wr.frozen? (zA (S+1) m)=false:=fun m=>frozen_of_row wr (S+1) m _ _ aB;obtain ⟨bX,bY,bZ,b0⟩:=bh.box.cells;have dk:=zh aB;have eu:S≠P:=by omega
  have ev:S+1≠P:=by omega
  have et:m<=12:=by omega
  have ey:IntKind.i64.wrap ((bn:Int)-(m:Int))=(bn:Int)-m:=by rw [IntKind.wrap_i64];omega
  clear bp aA aZ bi bU bh aB;go_wp2_with fail
  go_region
  have aj:=zk wr (S+1) 40 _ _ _ _ (zI t) (zI n) (.slice (zO g 0) E W) (.slice O m R) dk.o;have J:w.heap.size<=S+1:=by have:=an.o;omega
  have cA:Below w.heap.size w wr:=by rw [an.o];exact bD.o
  have cl:=zh aj;have aP:=zh ((((cA.setCell (p:=(zA (S+1) 0)) J (zI t)).setCell (p:=(zA (S+1) 1)) J (zI n)).setCell (p:=(zA (S+1) 2)) J (.slice (zO g 0) E W)).setCell (p:=(zA (S+1) 3)) J (.slice O m R));clear aj cA J;go_wp2_with fail
  refine bodyPost_ret (v:=.tuple #[.agg (zS t n (zO g 0) E W O m R),zI ((bn:Int)-m),zI 0]) (zq Tryz.results64 _ _ (S+1) 40 (zS t n (zO g 0) E W O m R) (0,0) _ rfl cl.o.1 Tryz.underlying40 rfl (by kernel_rfl)) rfl ?_;obtain ⟨ay,bS⟩:=qB (((((wr.setCell ⟨S+1,0,none⟩ (zI t)).setCell ⟨S+1,1,none⟩ (zI n)).setCell ⟨S+1,2,none⟩ (.slice (some ⟨g,0,none⟩) E W)).setCell ⟨S+1,3,none⟩ (.slice O m R)).drew);have a3:∀ j,j≠S+1->ay.heap[j]?=wr.heap[j]?:=fun j av=>by rw [bS];exact cl.o.2 j av
  have dM:Below w.heap.size w ay:=by rw [bS];exact ⟨aP.o.os,aP.o.tape,aP.o.output,aP.o.size,aP.o.block⟩
  rw [<-bS];have M:=bE.o;have ec:=aQ.o;have el:=dc.o;have eb:=df.o;have ef:=an.o;have dP:OwnQs ay w.heap.size (.slice (zO g 0) E W) ax:=by
   have G:OwnQs ay ab.heap.size (.slice (zO g 0) E W) ax:=dj.o.keep (fun j e=>by
    have e:=xP.1 e;subst e;rw [a3 g (by omega),bB.o g (by omega) (by omega)]) (fun i C D j I e=>by
    have a:=cf.o i C D j I e;rw [a3 j (by omega),bB.o j (by omega) (by omega)])
   exact G.base (by omega)
  have cF:OwnBks ay L (.slice O m R) lb:=M.own.blocks (fun j e=>a3 j (by have:=M.own.row.lt j e;omega)) (fun i C D j I e=>a3 j (by have:=(M.offP i C).1 D j I e;omega)) (fun i C D j I e=>a3 j (by have:=(M.offP i C).2 D j I e;omega));have eo:=M.len;refine ⟨t,n,zO g 0,E,W,O,m,R,_,by rw [aF.o],Or.inr ⟨aF.o,ax,lb,⟨y6 dP,ym cF⟩,rfl,rfl,c9.o,?_,⟨fun _ F I e=>?_,fun i C D F I e=>?_,fun D F I e=>?_,fun i C D F I e=>?_,fun i C D F I e=>?_⟩⟩,dM⟩
  ·rw [bA.o,<-bC.o.symm,List.take_length];exact Xu b t
  ·have ae:g=F:=(by injection e with e;injection e with ae);omega
  ·have:=cf.o i (by omega) D F I e;omega
  ·have:=cF.row.lt F (by rw [e];rfl);omega
  ·have:=(M.offP i (by omega)).1 D F I e;omega
  have:=(M.offP i (by omega)).2 D F I e;omega
end Go.Proofs.YtckpdfkobdgjeaaGreatDoor
