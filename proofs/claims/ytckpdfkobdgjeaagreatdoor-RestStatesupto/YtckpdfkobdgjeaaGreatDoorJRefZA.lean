/- The reference's ChangeOf: its walk. -/
import Derived.Test.YtckpdfkobdgjeaaGreatDoorJAll28
import Derived.Deep.RegionWith
namespace Go.Proofs.YtckpdfkobdgjeaaGreatDoor
set_option maxRecDepth 100000
set_option maxHeartbeats 16000000
open Go.RowKit
set_option linter.unusedSectionVars false
variable [Inhabited Mk]
theorem GR (w:World) (c n:Int) (es:Option Addr) (W et:Nat) (l:QL) (dI:Option Addr) (bt dK:Nat) (b:BL) (h:zY w es W et l dI bt dK b) (e1:zU c n l b=0) (J:Nat) (k7:J<W) (im:Option Addr) (aO co:Nat) (rs:zd) (af:RunsIn w im aO co rs) (ch:yR rs=true) :
 zC 65 #[.agg (zS c n es W et dI bt dK),zI J,.slice im aO co] w fun e w'=>Xc w w' e c n l b (J:Int) rs:=by
 have ax:=yZ e1;have ie:=h.1.len;have lw:W<=5:=by have:=(yY ax.clean.tree).five;omega
 have h1:=Yn h ax.clean;have eV:z9 (yP l J rs)=0:=by rw [O7 ax.clean.tree (by omega),ch];rfl
 have f0:=Ir (by omega) eV;have h7:0<aO:=by have:=f0.1.1;have:=af.len;omega
 have jW:aO<=1000:=by have:=f0.1.short;have:=af.len;omega
 obtain ⟨cQ,cR,jV,_⟩:=af.cells h7;subst jV;obtain ⟨S,hr⟩:=qA (w.heap.size);obtain ⟨fD,eQ⟩:=qB ((w.alloc (.cells (zS c n es W et dI bt dK) 40)).alloc (.cells zZ 40));obtain ⟨aB,aQ,ak,gc⟩:=ZK w _ _ _ _ eQ;rw [hr] at aB aQ gc;have jk:=zh (Zm fD c n es W et l dI bt dK b (h.later ak) ax);have b2:ZG c n l b (J:Int) rs=0:=by unfold ZG;rw [if_pos e1,if_pos (by omega),Int.toNat_natCast,eV]
 have ly:IntKind.i64.wrap ((W:Int)-1)=(W:Int)-1:=by rw [IntKind.wrap_i64];omega
 have bN:yW (J:Int) 0 ((W:Int)-1)=true:=by simp [yW];omega
 have gX:=zh fun X=>zo (J:Int) 0 ((W:Int)-1) X;rw [bN] at gX;have gW:=zh fun X (bi:Below w.heap.size w X)=>Xx X (zO cQ cR) aO co rs (af.later bi);rw [ch] at gW;have jl:=zh fun X (bi:Below w.heap.size w X)=>Uj X c n es W et l dI bt dK b (h.later bi) h1;obtain ⟨b1,c1,c2,c3⟩:=aB.cells;rw [eQ] at b1 c1 c2 c3;have jo:=zh aB;have jp:=zh aQ;have iu:=zh ak;have i0:=zh eQ;have eM:=zh hr;have gM:=zh b2;have iY:=zh gc;have iP:=zh af;have bJ:=zh ax;have iO:=zh e1;have iA:=zh eV;have kY:=zh ie;clear eQ aB aQ ak h gc e1 ax b2 bN ie af ch h1 eV f0;go_enter Tryz.func65,Tryz.ntmps65;go_wp2_with fail
 rw [<-i0.o];refine jk.o.mono ?_;rintro e gv ⟨rfl,dW⟩;have gU:=zh (jo.o.later dW);have i7:=zh (jp.o.later dW);have gG:=zh (za iu.o dW);have jh:Zh (S+2<=gv.heap.size):=by have:=dW.size;have:=iY.o;show S+2<=gv.heap.size;omega
 obtain ⟨bL,bM,bu,bv⟩:=gU.o.cells;clear dW b1 c1 c2 c3;go_wp2_with fail
 refine (gX.o _).mono ?_;rintro e lN ⟨rfl,aM⟩;rw [aM];clear aM;go_wp2_with fail
 refine (gW.o gv gG.o).mono ?_;rintro e e9 ⟨rfl,b4⟩;have jd:=zh (gU.o.later b4);have je:=zh (i7.o.later b4);have fe:=zh (za gG.o b4);have ji:Zh (S+2<=e9.heap.size):=by have:=b4.size;have:=jh.o;show S+2<=e9.heap.size;omega
 clear b4 bL bM bu bv;obtain ⟨bL,bM,bu,bv⟩:=jd.o.cells;go_wp2_with fail
 refine (jl.o e9 fe.o).mono ?_;rintro e eA ⟨L,g,dj,bR,dH,ah,lb,rfl,hU,lj,dR,eX,hH,b6,dQ,hF,cg,f8,bQ⟩;obtain ⟨M,hj⟩:=qA (e9.heap.size);rw [hj] at hU dR b6;obtain ⟨P,fO⟩:=qA (eA.heap.size);obtain ⟨wr,d5⟩:=qB (eA.alloc (.cells (zS c n (some ⟨g,0,none⟩) W dj dH bt ah) 40));have de:Below eA.heap.size eA wr:=by rw [d5];exact zr _ _
 have gx:zj wr P (zI c) (zI n) (.slice (zO g 0) W dj) (.slice dH bt ah):=by rw [d5,<-fO];exact zj.new eA _ _ _ _
 have jZ:=bQ.size;have jz:M<=P:=by omega
 have jB:S+2<=M:=by have:=ji.o;omega
 have lk:M<=g/\g<P:=by have:=dR.row.lt g (xP.2 rfl);omega
 have dh:=dR.later de;have hY:=dQ.later de;have h8:RunsIn wr (zO cQ cR) aO co rs:=iP.o.later (za (za fe.o bQ) de);have k9:J<bR.length:=by omega
 have eD:=zh gx.cells.2.2.1;have iQ:=zh h8;have iq:Zh (wr.cell? (zA g (J*3+2))=some (.slice (qu bR J).ca (qu bR J).cn (qu bR J).cc)):=by
  show wr.cell? (zA g (J*3+2))=_;have bD:=dh.row;rw [<-eX] at bD;rw [bD.cellAt (J*3+2) (by omega),Ys bR J 2 (by omega) (by omega)];rfl
 have ir:Zh (∀ w',Below wr.heap.size wr w'->w'.frozen? (zA g (J*3+2))=false):=fun w' E=>by
  have bD:=(dh.later E).row;rw [<-eX] at bD;exact bD.frozenAt _
 have la:(J:Int)<W:=by omega
 have k8:¬((J:Int)<0):=by omega
 have lr:=(y6 dh).le;have ls:=(y6 dh).capb;have iN:=zh dh;have iM:=zh hY;have iD:Zh (∀ i,i<W->0<(qu bR i).cn->∀ B A,(qu bR i).ca=zO B A->M<=B/\B<P/\B<L):=fun i aI s B A e=>by
  have H:=b6 i aI s B A e;have Y:=(dR.caps i (by omega)).lt s e;omega
 have gN:Zh (∀ dN,(Value.slice dH bt ah).ownBlock=some dN->L<=dN/\dN<P):=fun dN e=>by have:=dQ.row.lt dN e;omega
 have eK:Zh (∀ i,i<lb.length->(0<(bk lb i).rq.pn->∀ B A,(bk lb i).rq.pa=zO B A->L<=B/\B<P)/\(0<(bk lb i).bn->∀ B A,(bk lb i).ba=zO B A->L<=B/\B<P)):=fun i aI=>⟨fun s B A e=>⟨(f8 i (by omega)).1 s B A e,by have:=RunsIn.lt (dQ.rqs i aI) s e;omega⟩,fun s B A e=>⟨(f8 i (by omega)).2 s B A e,by have:=(dQ.bites i aI).lt s e;omega⟩⟩;have gP:=zh eX;have iz:=zh hF;have a9:=zh hH;have gH:=zh cg;have gV:=zh gx;have jj:=zh ((je.o.later bQ).later de);have ff:=zh (za (za fe.o bQ) de);have i5:=zh d5;have kZ:=zh fO;have iZ:Zh (wr.heap.size=P+1):=by show wr.heap.size=P+1;rw [d5,<-fO];simp
 clear dR dQ b6 f8 hU eX hF hH cg bQ de gx jZ dh hY h8 hj d5 bL bM bu bv;go_upto_region 9 with fail
 rw [<-i5.o];go_cut [56] (fun p aA=>∃ aK:World,aK=aA/\∃ (aL a0:Nat) (w':World),Below wr.heap.size wr w'/\RunsIn w' (zO aL 0) aO a0 rs/\wr.heap.size<=aL/\aA=w'.setCell (zA g (J*3+2)) (.slice (zO aL 0) aO a0))
 case first =>
  refine wN ((Tryz.f65.body.bind fun c=>yi c 9).getD #[]) (by kernel_rfl) [zl (.pointer (zO P 2)),zl (.slice (zO g 0) W dj),zl (zI J),⟨fun u _=>∃ fH,u=.slice (zO fH 0) 0 0,fun _ _ _ h _=>h⟩,zl (.slice (zO cQ cR) aO co),⟨fun u jq=>∃ aL a0,u=.slice (zO aL 0) aO a0/\RunsIn jq (zO aL 0) aO a0 rs/\wr.heap.size<=aL,fun _ _ _ ⟨aL,a0,H,Y,bO⟩ E=>⟨aL,a0,H,Y.later E,bO⟩⟩,zl (.pointer (zO g (J*3))),zl (.pointer (zO g (J*3+2))),zl undef] 8 (by kernel_rfl) (by kernel_rfl) (by kernel_rfl) ?hstep
  case hstep =>
   refine zc.cons 1 rfl ?_ ?_
   ·intro T w' E ax U I;rw [if_neg (by decide)];have s:T.getD 11 undef=.pointer (zO P 0):=U 11 (by as_aux_lemma=>kernel_rfl);exact zs (by go_simp) rfl
   refine zc.cons 2 rfl ?_ ?_
   ·intro T w' E ax U I;rw [if_neg (by decide)];have s:T.getD 49 undef=.pointer (zO P 2):=I 0 49 (by as_aux_lemma=>kernel_rfl);have eO:=cell_later E eD.o;exact zs (by go_simp) rfl
   refine zc.cons 3 rfl ?_ ?_
   ·intro T w' E ax U I;rw [if_neg (by decide)];have s:T.getD 1 undef=zI J:=U 1 (by as_aux_lemma=>kernel_rfl);exact zs (by go_simp) rfl
   refine zc.cons 4 rfl ?_ ?_
   ·intro T w' E ax U I;rw [if_neg (by decide)];exact Or.inl ⟨.slice (zO w'.heap.size 0) 0 0,w'.alloc (.cells #[] 55),by go_simp,⟨_,rfl⟩,zr _ _⟩
   refine zc.cons 5 rfl ?_ ?_
   ·intro T w' E ax U I;rw [if_neg (by decide)];have s:T.getD 2 undef=.slice (zO cQ cR) aO co:=U 2 (by as_aux_lemma=>kernel_rfl);exact zs (by go_simp) rfl
   refine zc.cons 6 rfl ?_ ?_
   ·intro T w' E ax U I;rw [if_neg (by decide)];obtain ⟨fH,s⟩:=I 3 52 (by as_aux_lemma=>kernel_rfl);have H:T.getD 53 undef=.slice (zO cQ cR) aO co:=I 4 53 (by as_aux_lemma=>kernel_rfl);obtain ⟨aL,a0,gu,ap,af,hg,cg,lx⟩:=O0 w' (zA cQ cR) aO co rs (iQ.o.later E) h7 jW;exact Or.inl ⟨.slice (zO aL 0) aO a0,gu,Ze (.tmp 52) (.tmp 53) 25 rfl _ _ s H (ap _ _),⟨aL,a0,rfl,af,Nat.le_trans E.size hg⟩,cg⟩
   refine zc.cons 7 rfl ?_ ?_
   ·intro T w' E ax U I;rw [if_neg (by decide)];have s:T.getD 50 undef=.slice (zO g 0) W dj:=I 1 50 (by as_aux_lemma=>kernel_rfl);have H:T.getD 51 undef=zI J:=I 2 51 (by as_aux_lemma=>kernel_rfl);exact zs (by go_simp) rfl
   refine zc.cons 8 rfl ?_ ?_
   ·intro T w' E ax U I;rw [if_neg (by decide)];have s:T.getD 55 undef=.pointer (zO g (J*3)):=I 6 55 (by as_aux_lemma=>kernel_rfl);exact zs (by go_simp) rfl
   refine zc.cons 9 rfl ?_ ?_
   ·intro T w' E ax U I;rw [if_pos rfl]
    replace ax:=ax.resolve_right (fun h=>h rfl)
    obtain ⟨aL,a0,s,c9,f4⟩:=I 5 54 (by as_aux_lemma=>kernel_rfl);have H:T.getD 56 undef=.pointer (zO g (J*3+2)):=I 7 56 (by as_aux_lemma=>kernel_rfl);have eO:=cell_later E iq.o;have k3:w'.frozen? (zA g (J*3+2))=false:=ir.o w' E;refine ⟨w'.setCell (zA g (J*3+2)) (.slice (zO aL 0) aO a0),by go_simp,?_⟩;show _;rw [yb (tt 49 [false,false,false,false,false,false,false,false] 166) (by kernel_rfl) ax @U];obtain ⟨us,di⟩:∃ us:Nat->Value,(fun d=>T.getD d undef)=us:=⟨_,rfl⟩;rw [di];clear di U ax I;apply_assumption;simp only [xj,tt,List.replicate,List.cons_append,List.nil_append];go_meet;exact ⟨_,rfl,aL,a0,w',E,c9,f4,rfl⟩
   exact trivial
 case rest =>
  obtain ⟨eN,rfl,aL,a0,aq,a6,hp,f4,eR⟩:=hcut;have j3:=iZ.o;have dg:∀ k,k≠g->eN.heap[k]?=aq.heap[k]?:=fun k cj=>by rw [eR];exact heap_setCell_other aq (zA g (J*3+2)) k _ cj
  have e2:=(iN.o.later a6).store gP.o (j:=J) (by omega) hp (fun _ b A e=>by injection e with e;injection e with e;omega);rw [<-eR] at e2;have jN:=gP.o;have jO:=iz.o;have jR:M<=L:=by omega
  obtain ⟨dl,eY⟩:=qB (bR.set J ⟨(qu bR J).name,(qu bR J).parent,some ⟨aL,0,none⟩,aO,a0,rs⟩);rw [<-eY] at e2;have hB:zi dl=zi (yP l J rs):=by rw [eY];exact U9 a9.o J _ _ _ rs
  have hZ:=(iM.o.later a6).blocks (w':=eN) (fun j e=>dg j (by have:=gN.o j e;omega)) (fun i aI s j A e=>dg j (by have:=(eK.o i aI).1 s j A e;omega)) (fun i aI s j A e=>dg j (by have:=(eK.o i aI).2 s j A e;omega));have j9:=a6.size;have hx:Below S w eN:=by
   rw [eR,<-eM.o];exact (za ff.o a6).setCell (p:=(zA g (J*3+2))) (by show w.heap.size<=g;have:=eM.o;omega) _
  have hN:∀ i,i<W->0<(qu dl i).cn->∀ B A,(qu dl i).ca=zO B A->M<=B/\B≠P:=fun i aI s B A e=>by
   rw [eY,Vg _ (by omega)] at s e;by_cases g5:i=J
   ·rw [if_pos g5] at s e;simp only at e;injection e with e;injection e with e;omega
   rw [if_neg g5] at s e;have:=iD.o i aI s B A e;omega
  have hd:CI w eN S M P c n W (zi (yP l J rs)) g dj dl dH bt ah lb:=by
   refine ⟨(dg P (by omega)).trans (gV.o.later a6),(dg (S+1) (by omega)).trans (jj.o.later a6),⟨y6 e2,ym hZ⟩,⟨fun _ B A e=>?_,hN,fun s B A e=>?_,fun i aI s B A e=>?_,fun i aI s B A e=>?_⟩,hB,hx,jB,jz⟩
   ·have b2:g=B:=(by injection e with e;injection e with b2);omega
   ·have:=gN.o B (by rw [e];rfl);omega
   ·have:=(eK.o i (by omega)).1 s B A e;omega
   have:=(eK.o i (by omega)).2 s B A e;omega
  have hc:Clean (zi (yP l J rs)) (zg b):=by
   refine Yh (l:=zi l) (b:=zg b) ?_ (by rw [xi];exact iA.o) (by rw [yv,yv,Zd]);have:=bJ.o.clean;exact ⟨by rw [xi];exact this.tree,by rw [zF];exact this.few,fun i aI=>by rw [xp,Y7];exact this.each i (by rw [zF] at aI;exact aI)⟩
  obtain ⟨C,hb⟩:∃ C:Nat,c=C:=⟨c.toNat,by have:=bJ.o.c0;omega⟩;have jy:C<=48:=by have:=bJ.o.c48;omega
  have iC:=zh hd;have bI:=zh hc;have kW:=gH;have fj:=zh hb;clear a6 hp f4 eR j3 dg e2 jN jO jR eY hB hZ j9 hx hN hd hc hb;go_wp2_with fail
  go_loopg [12] bt (fun cy (p:Value) bW=>∃ (B a8:Nat) (aN:QL) (dG:Option Addr) (bH dk:Nat) (a2:BL) (eB:Option Addr) (ab eC:Nat) (aj:BL),p=.slice eB ab eC/\bH=cy/\CI w bW S M P c n W (zi (yP l J rs)) B a8 aN dG bH dk a2/\AI bW M P eB ab eC aj/\Lit c (zi (yP l J rs)) (zg b) (zg a2) (zg aj))
  case atStart =>
   refine ⟨g,dj,_,dH,bt,ah,lb,none,0,0,[],rfl,rfl,iC.o,AI.none _ _ _,?_⟩;rw [gH.o];exact Lit.start
  obtain ⟨B,a8,aN,dG,bH,dk,a2,eB,ab,eC,aj,rfl,rfl,bg,cZ,fN⟩:=hrel;have f1:Clean aN a2:=by
   have:=(fN.clean bI.o bJ.o.c0).1;rw [<-bg.says] at this;exact O9 this
  have jn:=zh (J4 wr (zO B 0) W a8 aN dG bH dk a2 bg.st f1 C jy);have bY:=zh bg;have bX:=zh cZ;have cs:=zh fN;have eE:=zh f1;obtain ⟨cO,dm,dp,dq⟩:=bg.box.cells;rw [fj.o] at cO;clear bg cZ fN f1;go_wp2_with fail
  refine jn.o.mono ?_;rintro e w6 ⟨t,q,f,rfl,hw,fV⟩;have eI:=zh (bY.o.later fV);have gD:=zh (bX.o.later fV);have gE:=zh hw;clear hw fV cO dm dp dq;cases f with
  | false =>
   have h2:=Gv fj.o bY.o.says eE.o gE.o;have gR:=zh h2;have iE:=zh (DI.start eI.o gD.o);have lC:ab<=12:=by
    have H:=(cs.o.clean bI.o bJ.o.c0).2.2.2;have Y:=bI.o.few;rw [zF,zF] at H;have bO:=bX.o.inn.len;omega
   have hs:=yZ (c:=c) (n:=n) (l:=zi l) (b:=zg b) (by rw [xQ];exact iO.o);have iX:=zh hs;have ay:=zh bX.o.inn.len;have lz:=bX.o.inn.le;have lA:=bX.o.inn.capb;clear h2 hs;go_wp2_with fail
   go_loopg [20,21,22] ab (fun cy (kR kS kT:Value) bW=>∃ (j:Nat) (aS:Option Addr) (N ah:Nat) (D:BL) (bS:Option Addr) (mk:Nat) (a3:Option Addr) (a4:Nat) (mv dr:List Int),kR=.slice bS (List.length mv) mk/\kS=.slice a3 (List.length dr) a4/\kT=zI j/\j<=ab/\cy=ab-j/\DI w bW S M P c n W (zi (yP l J rs)) B a8 aN aS N ah D eB ab eC aj (.slice bS mv.length mk) (.slice a3 dr.length a4) mv dr/\Stl c (zi (yP l J rs)) (zg a2) (zg aj) j (zg D) mv dr)
   case atStart=>exact ⟨0,dG,bH,dk,a2,none,0,none,0,[],[],rfl,rfl,rfl,Nat.zero_le _,by simp,iE.o,Stl.start⟩
   obtain ⟨j,aS,N,ah,D,bS,mk,a3,a4,mv,dr,rfl,rfl,rfl,bc,rfl,bP,dS⟩:=hrel;obtain ⟨cU,cV,cW,cX⟩:=dS.few;have e6:=JA iX.o bI.o cs.o gR.o dS;have f2:Clean aN D:=by
    have:=e6.clean;rw [<-bP.ci.says] at this;exact O9 this
   have gd:Up D:=(Ou D).1 (X8 e6).1;have aE:=zh bP;have dC:=zh dS;have ds:=zh f2;have fv:=zh gd;by_cases aY:j<ab
   ·have lq:(j:Int)<ab:=(by omega);have lm:¬((j:Int)<0):=(by omega);obtain ⟨X,bi⟩:=qA (bk aj j);obtain ⟨k5,lE,j8,b6⟩:=bP.ai.inn.cells (by omega);subst j8;obtain ⟨cS,b2,R,cT,g2,g3,g4⟩:=b6 j aY;have fS:=bP.ai.inn.rqs j aY;have eS:=bP.ai.inn.bites j aY;rw [bi] at cS b2 R cT g2 g3 g4 fS eS;obtain ⟨Q,fJ⟩:=qA (wr.heap.size);obtain ⟨bZ,dT⟩:=qB (wr.alloc (.cells #[zI X.id,zI X.rq.queue,zI X.rq.fr,zI X.rq.un,zI X.rq.kind,.slice X.rq.pa X.rq.pn X.rq.pc,.slice X.ba X.bn X.bc] 60));have b4:Below wr.heap.size wr bZ:=(by rw [dT];exact zr _ _);have fZ:ww bZ Q X:=(by rw [dT,<-fJ];exact heap_alloc_new wr _);have gb:bZ.heap.size=Q+1:=(by rw [dT,<-fJ];simp);obtain ⟨b0,dU⟩:=qB (bZ.alloc (.cells #[zI X.rq.queue,zI X.rq.fr,zI X.rq.un,zI X.rq.kind,.slice X.rq.pa X.rq.pn X.rq.pc] 24));have bQ:Below bZ.heap.size bZ b0:=(by rw [dU];exact zr _ _);have e4:Ww b0 (Q+1) X.rq:=(by rw [dU,<-gb];exact heap_alloc_new bZ _);obtain ⟨cu,db⟩:=qB (b0.setCell ⟨Q+1,1,none⟩ (zI (max X.rq.fr c)));have h9:Ww cu (Q+1) (X.rq.from c):=(by rw [db];exact heap_setCell_same b0 (Q+1) 1 _ _ _ e4);have hL:ww cu Q X:=(by rw [db];exact (heap_setCell_other b0 (zA (Q+1) 1) Q _ (by show Q≠Q+1;omega)).trans (fZ.later bQ));have eT:Below wr.heap.size wr cu:=(by rw [db];exact (za b4 bQ).setCell (p:=(zA (Q+1) 1)) (by show wr.heap.size<=Q+1;omega) _);have e5:cu.heap.size=Q+2:=(by rw [db];simp [World.setCell];rw [dU];simp;omega);have he:=bP.later b4;have hf:=he.later bQ;have hh:=bP.later eT;have hv:=cs.o.clean bI.o bJ.o.c0;have hO:ZZ aN X=0:=by
     have ge:=ay.o;have H:X.bare∈zg aj:=(by rw [<-bi,<-xp];exact yx (by rw [zF];omega));obtain ⟨q,aM,e⟩:=yT (hv.2.2.1 _ H);have Y:=bI.o.each q aM;rw [e,<-bP.ci.says,Y7] at Y;exact Y
    have jm:=zh (Hw cu X (eS.later eT) c);have jb:=zh fS;have gV:=zh eS;have aF:=zh bi;have eG:=zh fJ;have iB:=zh hO;have gK:=zh hh;have gI:=zh hL;have iR:=zh h9;have ff:=zh eT;have iU:=zh e5;have i1:=zh dT;have i2:=zh dU;have i3:=zh db;obtain ⟨gn,go,gp,gq,gr,gs,gt⟩:=fZ.cells;obtain ⟨cK,bT,b8,cL,cM⟩:=e4.cells;have b1:=hf.ci.box.cells.1;have kQ:∀ k,b0.frozen? (zA (Q+1) k)=false:=fun k=>frozen_of_row b0 (Q+1) k _ _ e4;have iT:=zh gb;clear bP dS e6 f2 gd b6 fS eS bi b4 bQ fZ e4 h9 hL eT e5 he hf hh hv hO dT dU db gb;go_upto_region 27 with fail
    rw [<-i1.o]
    try rw [eG.o]
    clear cS b2 R cT g2 g3 g4;go_upto_region 28 with fail
    rw [<-i2.o]
    try rw [iT.o]
    clear gn go gp gq gr gs gt;go_upto_region 31 with fail
    rw [<-i3.o];clear cK bT b8 cL cM kQ b1;obtain ⟨gn,go,gp,gq,gr,gs,gt⟩:=gI.o.cells;have b1:=gK.o.ci.box.cells.1;go_wp2_with fail
    refine jm.o.mono ?_;rintro e aq ⟨rfl,a6⟩;have cP:=zh (gK.o.later a6);have fh:=zh (gI.o.later a6);have iS:=zh (iR.o.later a6);have iw:=zh (za ff.o a6);have iV:Zh (Q+2<=aq.heap.size):=(by have:=a6.size;have:=iU.o;show Q+2<=aq.heap.size;omega);clear a6 gn go gp gq gr gs gt b1;obtain ⟨cK,bT,b8,cL,cM⟩:=iS.o.cells;cases dX:ZD X c with
    | true =>
     have dz:Zh ((y9 c aN D X).2=false):=zh (Pv (Or.inl dX));clear dX cK bT b8 cL cM;obtain ⟨aP,bF⟩:=qB (aq);rw [<-bF];have cb:=cP;have b9:=fh;rw [<-bF] at cb b9;clear bF;obtain ⟨bU,_,_,_,_,_,_⟩:=b9.o.cells;obtain ⟨bo,aD⟩:=qB (aP.alloc (.cells #[zI X.id] 3));have aX:Below aP.heap.size aP bo:=(by rw [aD];exact zr _ _);have ao:=cb.o.later aX;obtain ⟨dO,kd,aA,ap,bB,a7,bj⟩:=ZC bo M (.slice a3 dr.length a4) dr X.id ao.drow aP.heap.size (by rw [aD];exact heap_alloc_new aP _) (by omega) (by have:=ao.ci.size;have:=ao.ci.ord;omega);have dw:=zh (ao.swap.more bB a7 bj).swap;have bE:=Vo dC.o aE.o.ci.says (by have:=ay.o;omega) (by rw [aF.o];exact dz.o);rw [aF.o] at bE;have dB:=zh bE;rw [aD] at ap;clear aD aX ao bB a7 bj bE;go_wp2_with (at_builtin;refine Lib.wpList_append_run _ rfl _ _ _ _ rfl _ _ rfl rfl _ _ ap ?_)
     go_roundg (ab-(j+1))
     case measure=>omega
     case rel=>exact ⟨j+1,aS,N,ah,D,bS,mk,zO dO 0,kd,mv,dr++[X.id],rfl,by simp,by go_num,by omega,by omega,by simpa using dw.o,dB.o⟩
    | false =>
     by_cases eW:max X.rq.fr c<X.rq.un
     case neg =>
      have dz:Zh ((y9 c aN D X).2=false):=zh (Pv (Or.inr eW));have gl:aq.cell? (zA (Q+1) 1)=some (zI (max X.rq.fr c)):=bT;have gm:aq.cell? (zA (Q+1) 2)=some (zI X.rq.un):=b8;have il:decide (max X.rq.fr c<X.rq.un)=false:=decide_eq_false eW;clear dX cK bT b8 cL cM;obtain ⟨aP,bF⟩:=qB (aq);rw [<-bF] at gl gm ⊢;have cb:=cP;have b9:=fh;rw [<-bF] at cb b9;clear bF;obtain ⟨bU,_,_,_,_,_,_⟩:=b9.o.cells;obtain ⟨bo,aD⟩:=qB (aP.alloc (.cells #[zI X.id] 3));have aX:Below aP.heap.size aP bo:=(by rw [aD];exact zr _ _);have ao:=cb.o.later aX;obtain ⟨dO,kd,aA,ap,bB,a7,bj⟩:=ZC bo M (.slice a3 dr.length a4) dr X.id ao.drow aP.heap.size (by rw [aD];exact heap_alloc_new aP _) (by omega) (by have:=ao.ci.size;have:=ao.ci.ord;omega);have dw:=zh (ao.swap.more bB a7 bj).swap;have bE:=Vo dC.o aE.o.ci.says (by have:=ay.o;omega) (by rw [aF.o];exact dz.o);rw [aF.o] at bE;have dB:=zh bE;rw [aD] at ap;clear aD aX ao bB a7 bj bE;go_wp2_with (at_builtin;refine Lib.wpList_append_run _ rfl _ _ _ _ rfl _ _ rfl rfl _ _ ap ?_)
      go_roundg (ab-(j+1))
      case measure=>omega
      case rel=>exact ⟨j+1,aS,N,ah,D,bS,mk,zO dO 0,kd,mv,dr++[X.id],rfl,by simp,by go_num,by omega,by omega,by simpa using dw.o,dB.o⟩
     obtain ⟨h6,hP,h3,h4⟩:=Jq ds.o (zzIOx iB.o) dX eW;obtain ⟨f,ch⟩:=qA (xH aN D X.rq.queue);obtain ⟨r,af⟩:=qA (X.rq.from c);have cH:r.queue=X.rq.queue:=(by rw [<-af];rfl);have hT:zW f:=(by rw [<-ch];exact XZ ds.o h4);have fz:=zh fun au (aC:Below aq.heap.size aq au)=>J5 au (zO B 0) W a8 aN aS N ah D (cP.o.ci.st.later aC) ds.o X.rq.queue.toNat (by have:=cP.o.ci.st.1.len;omega);rw [NS ds.o (by omega),Int.toNat_of_nonneg h3,ch,<-cH] at fz;have fy:=zh fun au (aC:Below aq.heap.size aq au)=>Nf au f hT r (by rw [<-af];exact zH.later jb.o (za iw.o aC)) (by rw [<-af];exact hP);obtain ⟨am,cZ⟩:=qA (Zf r f);rw [cZ] at fy;have gT:Zh (y9 c aN D X=am):=zh (by rw [h6,af,ch,cZ]);have fC:=zh bT;have gl:aq.cell? (zA (Q+1) 1)=some (zI (max X.rq.fr c)):=bT;have gm:aq.cell? (zA (Q+1) 2)=some (zI X.rq.un):=b8;have il:decide (max X.rq.fr c<X.rq.un)=true:=decide_eq_true eW;rw [af] at cK bT b8 cL cM;obtain ⟨bL,bM,bu,bv⟩:=cP.o.ci.box.cells;have eD:=zh bu;have gC:=zh bv;have fB:=zh cK;have fC:=zh bT;have gY:=zh b8;have gZ:=zh cL;have ag:=zh cM;clear h6 hP h3 h4 ch af cH hT cZ dX cK bT b8 cL cM bL bM bu bv;go_upto_region 32 with fail
     clear gl gm il;go_cut [25,26] (fun p q aA=>∃ (aK:World) (fa:Option Addr) (fm fc:Nat),aK=aA/\p=.slice fa fm fc/\q=.bool am.2/\(am.2=true->wk aq.heap.size aA fa fm fc am.1)/\Below aq.heap.size aq aA)
     case first =>
      refine zV ((Tryz.f65.body.bind fun c=>yi c 32).getD #[]) (by kernel_rfl) [zl (.pointer (zO P 2)),zl ((.slice (zO B 0) W a8)),zl (.pointer (zO P 3)),zl ((.slice aS N ah)),zl (.pointer (zO (Q+1) 0)),zl (zI r.queue),zl (.agg (ya (zn f))),zl (.agg #[zI r.queue,zI r.fr,zI r.un,zI r.kind,.slice r.pa r.pn r.pc]),⟨fun v X=>∃ a n O,v=.tuple #[.slice a n O,.bool am.2]/\(am.2=true->wk aq.heap.size X a n O am.1),fun _ X z ⟨a,n,O,H,Y⟩ E=>⟨a,n,O,H,fun e=>(Y e).later E⟩⟩,⟨fun v X=>∃ a n O,v=.tuple #[.slice a n O,.bool am.2]/\(am.2=true->wk aq.heap.size X a n O am.1),fun _ X z ⟨a,n,O,H,Y⟩ E=>⟨a,n,O,H,fun e=>(Y e).later E⟩⟩,⟨fun v X=>∃ a n O,v=.slice a n O/\(am.2=true->wk aq.heap.size X a n O am.1),fun _ X z ⟨a,n,O,H,Y⟩ E=>⟨a,n,O,H,fun e=>(Y e).later E⟩⟩,zl (.bool am.2),⟨fun v X=>∃ a n O,v=.slice a n O/\(am.2=true->wk aq.heap.size X a n O am.1),fun _ X z ⟨a,n,O,H,Y⟩ E=>⟨a,n,O,H,fun e=>(Y e).later E⟩⟩,zl (.bool am.2)] [] (by kernel_rfl) (by kernel_rfl) (by kernel_rfl) ?hg ?hstep ?hfin
      case hg =>
       intro g hg v w h;cases hg
      case hstep =>
       refine zc.cons 1 rfl ?_ ?_
       ·intro T w' E U I;have s:T.getD 11 undef=.pointer (zO P 0):=U 11 (by as_aux_lemma=>kernel_rfl);exact zs (by go_simp) rfl
       refine zc.cons 2 rfl ?_ ?_
       ·intro T w' E U I;have s:T.getD 155 undef=.pointer (zO P 2):=I 0 155 (by as_aux_lemma=>kernel_rfl);have eO:=cell_later E eD.o;exact zs (by go_simp) rfl
       refine zc.cons 3 rfl ?_ ?_
       ·intro T w' E U I;have s:T.getD 11 undef=.pointer (zO P 0):=U 11 (by as_aux_lemma=>kernel_rfl);exact zs (by go_simp) rfl
       refine zc.cons 4 rfl ?_ ?_
       ·intro T w' E U I;have s:T.getD 157 undef=.pointer (zO P 3):=I 2 157 (by as_aux_lemma=>kernel_rfl);have eO:=cell_later E gC.o;exact zs (by go_simp) rfl
       refine zc.cons 5 rfl ?_ ?_
       ·intro T w' E U I;have s:T.getD 24 undef=.pointer (zO (Q+1) 0):=U 24 (by as_aux_lemma=>kernel_rfl);exact zs (by go_simp) rfl
       refine zc.cons 6 rfl ?_ ?_
       ·intro T w' E U I;have s:T.getD 159 undef=.pointer (zO (Q+1) 0):=I 4 159 (by as_aux_lemma=>kernel_rfl);have eO:=cell_later E fB.o;exact zs (by go_simp) rfl
       refine zc.cons 7 rfl ?_ ?_
       ·intro T w' E U I;have s:T.getD 156 undef=(.slice (zO B 0) W a8):=I 1 156 (by as_aux_lemma=>kernel_rfl);have H:T.getD 158 undef=(.slice aS N ah):=I 3 158 (by as_aux_lemma=>kernel_rfl);have Y:T.getD 160 undef=zI r.queue:=I 5 160 (by as_aux_lemma=>kernel_rfl);refine Or.inr ⟨107,#[(.slice (zO B 0) W a8),(.slice aS N ah),zI r.queue],by go_simp,?_⟩;refine (fz.o w' E).mono ?_;rintro e gu ⟨rfl,cg⟩;exact ⟨_,rfl,rfl,cg⟩
       refine zc.cons 8 rfl ?_ ?_
       ·intro T w' E U I;have s:T.getD 24 undef=.pointer (zO (Q+1) 0):=U 24 (by as_aux_lemma=>kernel_rfl);have gy:=cell_later E fB.o;have gz:=cell_later E fC.o;have gA:=cell_later E gY.o;have gB:=cell_later E gZ.o;have lP:=cell_later E ag.o;exact zs (by go_simp) rfl
       refine zc.cons 9 rfl ?_ ?_
       ·intro T w' E U I;have s:T.getD 161 undef=.agg (ya (zn f)):=I 6 161 (by as_aux_lemma=>kernel_rfl);have H:T.getD 162 undef=.agg #[zI r.queue,zI r.fr,zI r.un,zI r.kind,.slice r.pa r.pn r.pc]:=I 7 162 (by as_aux_lemma=>kernel_rfl);refine Or.inr ⟨70,#[.agg (ya (zn f)),.agg #[zI r.queue,zI r.fr,zI r.un,zI r.kind,.slice r.pa r.pn r.pc]],by go_simp,?_⟩;refine (fy.o w' E).mono ?_;rintro e gu ⟨a,n,O,rfl,af,cg⟩;exact ⟨_,rfl,⟨a,n,O,rfl,fun e=>(af e).mono E.size⟩,cg⟩
       refine zc.cons 10 rfl ?_ ?_
       ·intro T w' E U I;obtain ⟨a,n,O,s,af⟩:=I 8 163 (by as_aux_lemma=>kernel_rfl);exact Or.inl ⟨.tuple #[.slice a n O,.bool am.2],w',by go_simp,⟨a,n,O,rfl,af⟩,Below.refl _ _⟩
       refine zc.cons 11 rfl ?_ ?_
       ·intro T w' E U I;obtain ⟨a,n,O,s,af⟩:=I 9 154 (by as_aux_lemma=>kernel_rfl);exact Or.inl ⟨.slice a n O,w',by go_simp,⟨a,n,O,rfl,af⟩,Below.refl _ _⟩
       refine zc.cons 12 rfl ?_ ?_
       ·intro T w' E U I;obtain ⟨a,n,O,s,af⟩:=I 9 154 (by as_aux_lemma=>kernel_rfl);exact zs (by go_simp) rfl
       refine zc.cons 13 rfl ?_ ?_
       ·intro T w' E U I;obtain ⟨a,n,O,s,af⟩:=I 10 164 (by as_aux_lemma=>kernel_rfl);exact Or.inl ⟨.slice a n O,w',by go_simp,⟨a,n,O,rfl,af⟩,Below.refl _ _⟩
       refine zc.cons 14 rfl ?_ ?_
       ·intro T w' E U I;have s:T.getD 165 undef=.bool am.2:=I 11 165 (by as_aux_lemma=>kernel_rfl);exact zs (by go_simp) rfl
       exact trivial
      case hfin =>
       intro T w' E ax U I;obtain ⟨a,m,O,av,af⟩:=I 12 25 (by as_aux_lemma=>kernel_rfl);have jt:T.getD 26 undef=.bool am.2:=I 13 26 (by as_aux_lemma=>kernel_rfl);rw [yb (tt 25 [false,false,true,true,true,true,true,true,true,true,true,true,true,true,true,true,true,true,true,true,true,true,true,true,true,true,true,true,true,true,true,true,true,true,true,true,true,true,true,true,true,true,true,true,true,true,true,true,true,true,true,true,true,true,true,true,true,true,true,true,true,true,true,true,true,true,true,true,true,true,true,true,true,true,true,true,true,true,true,true,true,true,true,true,true,true,true,true,true,true,true,true,true,true,true,true,true,true,true,true,true,true,true,true,true,true,true,true,true,true,true,true,true,true,true,true,true,true,true,true,true,true,true,true,true,true,true,true,true,false,false,false,false,false,false,false,false,false,false,false,false] 57) (by kernel_rfl) ax @U];obtain ⟨us,di⟩:∃ us:Nat->Value,(fun d=>T.getD d undef)=us:=⟨_,rfl⟩;rw [di];have jw:us 25=.slice a m O:=(by rw [<-di];exact av);have ju:us 26=.bool am.2:=(by rw [<-di];exact jt);apply_assumption;simp only [xj,tt,List.replicate,List.cons_append,List.nil_append];go_meet;exact ⟨_,a,m,O,rfl,jw,ju,af,E⟩
     obtain ⟨bV,fa,fm,fc,rfl,rfl,rfl,cD,eU⟩:=hcut;obtain ⟨fb,ip⟩:=am;have gL:=zh (cP.o.later eU);have fi:=zh (fh.o.later eU);have iW:Zh (aq.heap.size<=bV.heap.size):=zh eU.size;have a1:=zh cD;clear cD eU fz fy eD gC fB fC gY gZ ag;cases ip with
     | false =>
      have dz:Zh ((y9 c aN D X).2=false):=zh (by rw [gT.o]);obtain ⟨aP,bF⟩:=qB (bV);rw [<-bF];have cb:=gL;have b9:=fi;rw [<-bF] at cb b9;clear bF;obtain ⟨bU,_,_,_,_,_,_⟩:=b9.o.cells;obtain ⟨bo,aD⟩:=qB (aP.alloc (.cells #[zI X.id] 3));have aX:Below aP.heap.size aP bo:=(by rw [aD];exact zr _ _);have ao:=cb.o.later aX;obtain ⟨dO,kd,aA,ap,bB,a7,bj⟩:=ZC bo M (.slice a3 dr.length a4) dr X.id ao.drow aP.heap.size (by rw [aD];exact heap_alloc_new aP _) (by omega) (by have:=ao.ci.size;have:=ao.ci.ord;omega);have dw:=zh (ao.swap.more bB a7 bj).swap;have bE:=Vo dC.o aE.o.ci.says (by have:=ay.o;omega) (by rw [aF.o];exact dz.o);rw [aF.o] at bE;have dB:=zh bE;rw [aD] at ap;clear aD aX ao bB a7 bj bE;go_wp2_with (at_builtin;refine Lib.wpList_append_run _ rfl _ _ _ _ rfl _ _ rfl rfl _ _ ap ?_)
      go_roundg (ab-(j+1))
      case measure=>omega
      case rel=>exact ⟨j+1,aS,N,ah,D,bS,mk,zO dO 0,kd,mv,dr++[X.id],rfl,by simp,by go_num,by omega,by omega,by simpa using dw.o,dB.o⟩
     | true =>
      have fP:=gT.o;obtain ⟨e3,f7⟩:=a1.o rfl;obtain ⟨bU,_,_,_,_,_,_⟩:=fi.o.cells;obtain ⟨bo,aD⟩:=qB (bV.alloc (.cells #[zI X.id] 3));have aX:Below bV.heap.size bV bo:=(by rw [aD];exact zr _ _);have j4:bV.heap.size<=bo.heap.size:=aX.size;have ao:=gL.o.later aX;obtain ⟨cY,en,ae,ap,bB,a7,bj⟩:=ZC bo M (.slice bS mv.length mk) mv X.id ao.mrow bV.heap.size (by rw [aD];exact heap_alloc_new bV _) (by omega) (by have:=ao.ci.size;have:=ao.ci.ord;omega);have ar:=zh (ao.more bB a7 bj);have e0:∀ k,(Value.slice bS mv.length mk).ownBlock=some k->k<Q:=fun k e=>by have:=(aE.o.mrow.lt k e).2;have:=eG.o;omega
      have hQ:∀ k,(Value.slice a3 dr.length a4).ownBlock=some k->k<Q:=fun k e=>by have:=(aE.o.drow.lt k e).2;have:=eG.o;omega
      have ho:P<Q:=(by have:=aE.o.ci.size;have:=eG.o;omega);have j0:=iV.o;have j1:=iW.o;have f3:RunsIn ae fa fm fc fb:=(e3.later aX).of_away fun s G A e=>a7.block G ((e3.later aX).lt s e) (fun R=>by have:=e0 G R.symm;have:=(f7 G A e).1;omega);have hS:0<fm->∀ G A,fa=zO G A->(M<=G/\G≠P)/\(Value.slice (zO cY 0) (mv.length+1) en).ownBlock≠some G/\(Value.slice a3 dr.length a4).ownBlock≠some G:=fun s G A e=>by
       have H:=(f7 G A e).1;have Y:=e3.lt s e;have bO:=aE.o.ci.ord;refine ⟨⟨by omega,by omega⟩,xc.2 (fun R=>?_),fun R=>?_⟩
       ·subst R;rcases bj with cz | cz
        ·have:=e0 cY cz;omega
        omega
       have:=hQ G R;omega
      have hM:ww ae Q X:=(a7.block Q (by omega) (fun e=>by have:=e0 Q e.symm;omega)).trans (fi.o.later aX);obtain ⟨X',dV⟩:∃ X':Bk,X'=⟨X.id,X.rq,fa,fm,fc,fb⟩:=⟨_,rfl⟩;obtain ⟨ag,da⟩:=qA (ae.heap.size);have jE:=ay.o;have fR:zH ae X'.rq:=(by rw [dV];show zH ae X.rq;rw [<-aF.o];exact ar.o.ai.inn.rqs j aY);have hu:0<X'.rq.pn->∀ G A,X'.rq.pa=zO G A->G<ag:=fun s G A e=>by rw [<-da];exact RunsIn.lt fR s e
      have ht:0<X'.bn->∀ G A,X'.ba=zO G A->G<ag:=fun s G A e=>by rw [dV] at s e;rw [<-da];exact f3.lt s e
      have aZ:=Jz dC.o aE.o.ci.says (show j<aj.length by omega) (by rw [aF.o,fP]) fa fm fc;rw [aF.o,fP] at aZ;have fu:Zh (Stl c (zi (yP l J rs)) (zg a2) (zg aj) (j+1) (zg (Zj D X')) (mv++[X.id]) dr):=(by rw [dV];exact zh aZ);have cf:=ar.o.ci.st.2.len;have lc:N<=12:=(by have:=ds.o.few;omega);have ld:=ar.o.ci.st.2.capb;have lf:=ar.o.ci.st.2.le;have iF:=zh f3;have fl:=zh hS;have gJ:=zh hM;have i6:=zh dV;have br:=zh da;have jc:=zh fR;have ja:=zh hu;have i9:=zh ht;have fq:=zh ho;have fn:Zh (∀ k,(Value.slice (zO cY 0) (mv.length+1) en).ownBlock=some k->k<ag):=zh fun k e=>by rw [<-da];exact (ar.o.mrow.lt k e).2
      have fk:Zh (∀ k,(Value.slice a3 dr.length a4).ownBlock=some k->k<ag):=zh fun k e=>by rw [<-da];exact (ar.o.drow.lt k e).2
      have ft:Zh (Q+2<=ag):=zh (by have:=a7.size;omega);rw [aD] at ap;clear fP e3 f7 aD aX j4 ao bB a7 bj e0 hQ ho j0 j1 f3 hS hM dV da jE fR hu ht aZ cf;go_wp2_with (at_builtin;refine Lib.wpList_append_run _ rfl _ _ _ _ rfl _ _ rfl rfl _ _ ap ?_)
      clear ap bU;go_wp2_with fail
      go_loopg [27,28] N (fun cy (kU kV:Value) bW=>∃ (i:Nat) (eo:Option Addr) (ep:Nat),kU=.slice eo i ep/\kV=zI i/\i<=N/\cy=N-i/\OwnBks bW ag (.slice eo i ep) (D.take i)/\(∀ q,q<i->(bk D q).id<X.id)/\Below ag ae bW)
      case atStart=>exact ⟨0,none,0,rfl,rfl,Nat.zero_le _,by simp,Gx _ _,fun q aM=>absurd aM (Nat.not_lt_zero _),Below.refl _ _⟩
      obtain ⟨i,eo,ep,rfl,rfl,aI,rfl,a5,bd,aW⟩:=hrel;have cC:Below ae.heap.size ae wr:=(by rw [br.o];exact aW);have bw:=ar.o.later cC;have cE:=gJ.o.later cC;have dx:=zh a5;have ct:=zh bd;have cr:=zh aW;have eF:=zh bw;have kX:=zh cE;obtain ⟨bL,bM,bu,bv⟩:=bw.ci.box.cells;obtain ⟨bU,eu,ev,ew,ex,ey,ez⟩:=cE.cells;have cf:=bw.ci.st.2.len;have df:i<=D.length:=(by omega);have c8:i=(D.take i).length:=(by simp;omega);have cq:=zh cf;have dy:=zh c8;have dE:Zh (ag<=wr.heap.size):=zh (by have:=aW.size;have:=br.o;omega);obtain ⟨aU,dP⟩:=qA (decide (i<N/\(bk D i).id<X.id));have a9:=zh dP;clear dP;go_upto_region 38 with fail
      go_cut [193] (fun p aA=>∃ aK:World,aK=aA/\p=.bool aU/\Below wr.heap.size wr aA)
      case first =>
       by_cases bl:i<N
       ·have gi:decide (i<N)=true:=decide_eq_true bl;have er:(i:Int)<N:=(by omega);have gj:¬((i:Int)<0):=(by omega);obtain ⟨dJ,dL,av,al⟩:=bw.ci.st.2.cells (by omega);subst av;obtain ⟨cJ,_,_,_,_,_,_⟩:=al i bl;obtain ⟨y,bG⟩:=qA ((bk D i).id);rw [bG] at cJ;by_cases az:y<X.id
        ·have gk:decide (y<X.id)=true:=decide_eq_true az;have a1:Zh (aU=true):=zh (by rw [<-a9.o];exact decide_eq_true ⟨bl,by rw [bG];exact az⟩);clear az bG al a5 bd aW cC bw cE cf c8;go_quiet (fail)
         all_goals (go_wp2_with fail)
         all_goals go_meet
         all_goals exact ⟨_,rfl,by rw [a1.o],_root_.Go.below_drewN (Below.refl _ _) _⟩
        have gk:decide (y<X.id)=false:=decide_eq_false az;have a1:Zh (aU=false):=zh (by rw [<-a9.o];exact decide_eq_false fun h=>az (by rw [<-bG];exact h.2));clear az bG al a5 bd aW cC bw cE cf c8;go_quiet (fail)
        all_goals (go_wp2_with fail)
        all_goals go_meet
        all_goals exact ⟨_,rfl,by rw [a1.o],_root_.Go.below_drewN (Below.refl _ _) _⟩
       have gi:decide (i<N)=false:=decide_eq_false bl;have er:¬((i:Int)<N):=(by omega);have a1:Zh (aU=false):=zh (by rw [<-a9.o];exact decide_eq_false fun h=>bl h.1);clear a5 bd aW cC bw cE cf c8;go_quiet (fail)
       all_goals (go_wp2_with fail)
       all_goals go_meet
       all_goals exact ⟨_,rfl,by rw [a1.o],_root_.Go.below_drewN (Below.refl _ _) _⟩
      obtain ⟨W0,rfl,rfl,ak⟩:=hcut;cases aU with
      | true =>
       obtain ⟨bl,az⟩:=of_decide_eq_true a9.o;obtain ⟨z,ce⟩:=qA (bk D i);rw [ce] at az;have fx:=zh az;have bK:=zh ce;have fU:=bw.ci.st.2.rqs i bl;have fT:=bw.ci.st.2.bites i bl;rw [ce] at fU fT;have jg:=zh fU;have jf:=zh fT;have er:(i:Int)<N:=(by omega);have gj:¬((i:Int)<0):=(by omega);clear az ce a5 bd aW cC bw cE cf c8 fU fT bL bM bu bv bU eu ev ew ex ey ez;obtain ⟨bL,bM,bu,bv⟩:=(eF.o.later ak).ci.box.cells;obtain ⟨k1,k2,av,al⟩:=(eF.o.later ak).ci.st.2.cells (by omega);subst av;obtain ⟨cJ,ef,eg,eh,ei,ej,ek⟩:=al i bl;rw [bK.o] at cJ ef eg eh ei ej ek;obtain ⟨au,aC⟩:=qB (W0.alloc (.cells #[zI z.id,zI z.rq.queue,zI z.rq.fr,zI z.rq.un,zI z.rq.kind,.slice z.rq.pa z.rq.pn z.rq.pc,.slice z.ba z.bn z.bc] 60));have bb:Below W0.heap.size W0 au:=(by rw [aC];exact zr _ _);have bm:=P6 W0 z (zH.later jg.o ak) (jf.o.later ak);rw [<-aC] at bm;have b3:=(dx.o.later ak).later bb;have f9:(0<z.rq.pn->∀ G A,z.rq.pa=zO G A->G<ag)/\(0<z.bn->∀ G A,z.ba=zO G A->G<ag):=by
        have H:=ar.o.ci.st.blkLt;rw [br.o] at H;refine ⟨fun s G A e=>H.ps i bl (by rw [bK.o];exact s) G A (by rw [bK.o];exact e),fun s G A e=>H.bs i bl (by rw [bK.o];exact s) G A (by rw [bK.o];exact e)⟩
       obtain ⟨fF,em,be,ap,aw,cF,cI,cG,bz⟩:=Y5 au ag eo i ep (D.take i) b3 dy.o (zO W0.heap.size 0) 1 1 [z] (ym bm) 38 (by omega) (by have:=dE.o;have:=ak.size;have:=bb.size;omega) (fun q aM=>by
        obtain rfl:q=0:=(by simp at aM;omega);refine ⟨fun s G A e R=>?_,fun s G A e R=>?_⟩
        ·have H:=f9.1 s G A e;have Y:=(b3.row.lt G R).1;omega
        have H:=f9.2 s G A e;have Y:=(b3.row.lt G R).1;omega)
       have ic:D.take i++[z]=D.take (i+1):=(by rw [List.take_succ_eq_append_getElem (show i<D.length by have:=cq.o;omega),<-bK.o,wI]);rw [ic] at aw;have iL:=zh aw;have iv:Zh (Below ag ae be):=zh (((cr.o.trans (ak.mono dE.o)).trans (bb.mono (by have:=dE.o;have:=ak.size;omega))).trans bz);rw [aC] at ap;clear al aC bb bm b3 f9 aw cF cI cG bz ic ak;go_wp2_with (at_builtin;refine Lib.wpList_append_run _ rfl _ _ _ _ rfl _ _ rfl rfl _ _ ap ?_)
       clear ap;go_wp2_with fail
       go_roundg (N-(i+1))
       case measure=>omega
       refine ⟨i+1,fF,em,rfl,by go_num,by omega,by omega,iL.o,fun q aM=>?_,iv.o⟩;by_cases e:q<i
       ·exact ct.o q e
       obtain rfl:q=i:=(by omega);rw [bK.o];exact fx.o
      | false =>
       have dY:=of_decide_eq_false a9.o;have du:Zh (i=D.length\/¬(bk D i).id<X.id):=zh (by
        by_cases H:i<N
        ·exact Or.inr fun Y=>dY ⟨H,Y⟩
        exact Or.inl (by omega))
       clear dY a5 bd aW cC bw cE cf c8;clear bL bM bu bv bU eu ev ew ex ey ez;have b5:Below ae.heap.size ae W0:=(by rw [br.o];exact cr.o.trans (ak.mono dE.o));obtain ⟨bU,eu,ev,ew,ex,ey,ez⟩:=(gJ.o.later b5).cells;have jF:X'.id=X.id/\X'.rq=X.rq/\X'.ba=fa/\X'.bn=fm/\X'.bc=fc/\X'.bs=fb:=(by rw [i6.o];exact ⟨rfl,rfl,rfl,rfl,rfl,rfl⟩);obtain ⟨aB,bp,aQ,bf,gw,io⟩:=jF;obtain ⟨au,aC⟩:=qB (W0.alloc (.cells #[zI X'.id,zI X'.rq.queue,zI X'.rq.fr,zI X'.rq.un,zI X'.rq.kind,.slice X'.rq.pa X'.rq.pn X'.rq.pc,.slice X'.ba X'.bn X'.bc] 60));have bb:Below W0.heap.size W0 au:=(by rw [aC];exact zr _ _);have bm:=P6 W0 X' (zH.later jc.o b5) (by rw [aQ,bf,gw,io];exact iF.o.later b5);rw [<-aC] at bm;have b3:=(dx.o.later ak).later bb;have hs0:=ak.size;have j2:=bb.size;have e5:=dE.o;obtain ⟨fE,e7,cp,ga,aG,jS,j5,jX,hC⟩:=Y5 au ag eo i ep (D.take i) b3 dy.o (zO W0.heap.size 0) 1 1 [X'] (ym bm) 38 (by omega) (by omega) (fun q aM=>by
        obtain rfl:q=0:=(by simp at aM;omega);refine ⟨fun s G A e R=>?_,fun s G A e R=>?_⟩
        ·have H:=ja.o s G A e;have Y:=(b3.row.lt G R).1;omega
        have H:=i9.o s G A e;have Y:=(b3.row.lt G R).1;omega)
       have aH:Below ae.heap.size ae cp:=(by rw [br.o] at b5 ⊢;exact (b5.trans (bb.mono (by omega))).trans hC);have c3:=(ar.o.later aH).ci.box.cells.2.2.2;have lo:i+1<=e7:=(ym aG).le;have fo:=zh aG;have fg:=zh aH;have fs:Zh (ag<=cp.heap.size):=zh (by omega);have fw:=zh (And.intro aB (And.intro bp (And.intro aQ bf)));rw [aC,aB,bp,aQ,bf,gw] at ga;clear b5 aB bp aQ bf gw io aC bb bm b3 hs0 j2 e5 aG jS j5 jX hC aH ak;go_upto_region 42 with (at_builtin;refine Lib.wpList_append_run _ rfl _ _ _ _ rfl _ _ rfl rfl _ _ ga ?_)
       clear ga bU eu ev ew ex ey ez;cases aS with
       | none =>
        have ii:¬0<N:=fun ii=>by
         obtain ⟨_,_,e,_⟩:=eF.o.ci.st.2.cells ii;cases e
        have dA:Zh (∀ V,Below ae.heap.size ae V->BksIn V none (N-i) (ah-i) (D.drop i)):=zh fun V _=>by
         rw [show N-i=0 by omega,show D.drop i=[] from List.drop_eq_nil_of_le (by have:=cq.o;omega)];exact RE V _ (by omega)
        have aG:=fo.o;have aH:=fg.o;have d3:=fs.o;obtain ⟨aB,bp,aQ,bf⟩:=fw.o;have cm:=dA.o cp aH;obtain ⟨dF,el,be,d2,aw,cF,cI,cG,bz⟩:=Y5 cp ag fE (i+1) e7 (D.take i++[X']) aG (by rw [List.length_append];have:=dy.o;simp;omega) none (N-i) (ah-i) (D.drop i) cm 38 (by omega) (by omega) (fun q aM=>by
         have H:=ar.o.ci.st.blkLt;rw [br.o] at H;have hE:=cq.o;have d1:bk (D.drop i) q=bk D (i+q):=(by unfold bk;simp only [List.getD,List.getElem?_drop]);have cl:i+q<N:=(by rw [List.length_drop] at aM;omega);rw [d1];refine ⟨fun s G A e R=>?_,fun s G A e R=>?_⟩
         ·have bO:=H.ps (i+q) cl s G A e;have Y:=(aG.row.lt G R).1;omega
         have bO:=H.bs (i+q) cl s G A e;have Y:=(aG.row.lt G R).1;omega)
        have bx:Below ae.heap.size ae be:=(by rw [br.o] at aH ⊢;exact aH.trans bz);rw [show D.take i++[X']++D.drop i=yL D i X' from by unfold yL;simp] at aw;obtain ⟨aa,rfl⟩:∃ aa,dF=some ⟨aa,0,none⟩:=by
         rcases aw.row.2 with ⟨_,s⟩ | ⟨aa,O,fG,e,_⟩
         ·rw [YH X' df] at s;omega
         simp only [Value.slice.injEq] at e;exact ⟨aa,e.1⟩
        have dZ:ag<=aa:=(aw.row.lt aa (xP.2 rfl)).1;have d0:=fq.o;have d4:=ft.o;have ck:=ar.o.ci.ord;have cd:=(ar.o.later bx).ins aY (X':=X') (by rw [bp,aF.o]) (by rw [aQ,bf];exact fl.o) aw ⟨⟨by omega,by omega⟩,fun e=>by have:=fn.o aa e;omega,fun e=>by have:=fk.o aa e;omega⟩;have bC:yL D i X'=Zj D X':=(Oc fv.o df (by rw [aB];exact ct.o) (by rw [aB];rcases du.o with h | h;exact Or.inl h;exact Or.inr (by omega))).symm;have aZ:=fu.o;rw [<-bC] at aZ;have dD:=zh aZ;have dt:=zh cd;have bA:=(ar.o.later bx).ci.box;have g0:=bA.cells.2.2.2;have g6:∀ k,be.frozen? (zA P k)=false:=fun k=>frozen_of_row be P k _ _ bA;clear aB bp aQ bf aG d3 aH cm aw cF cI cG bz bx dZ d0 d4 ck cd bC aZ bA;go_wp2_with (at_builtin;refine Lib.wpList_append_run _ rfl _ _ _ _ rfl _ _ rfl rfl _ _ d2 ?_)
        go_roundg (ab-(j+1))
        case measure=>omega
        case rel=>exact ⟨j+1,zO aa 0,i+1+(N-i),el,yL D i X',zO cY 0,en,a3,a4,mv++[X.id],dr,by simp,rfl,by go_num,by omega,by omega,by simpa using dt.o,dD.o⟩
       | some ad =>
        obtain ⟨dJ,dL,e8⟩:=ad;by_cases cj:ah=i
        ·have jL:i=ah:=cj.symm;clear cj;subst jL;have dA:Zh (∀ V,Below ae.heap.size ae V->BksIn V (some ⟨dJ,dL,e8⟩) 0 0 (D.drop i)):=zh fun V _=>by
          rw [show D.drop i=[] from List.drop_eq_nil_of_le (by have:=cq.o;omega)];exact RE V _ (by omega)
         have aG:=fo.o;have aH:=fg.o;have d3:=fs.o;obtain ⟨aB,bp,aQ,bf⟩:=fw.o;have cm:=dA.o cp aH;obtain ⟨dF,el,be,d2,aw,cF,cI,cG,bz⟩:=Y5 cp ag fE (i+1) e7 (D.take i++[X']) aG (by rw [List.length_append];have:=dy.o;simp;omega) (some ⟨dJ,dL,e8⟩) 0 0 (D.drop i) cm 38 (by omega) (by omega) (fun q aM=>by
          have H:=ar.o.ci.st.blkLt;rw [br.o] at H;have hE:=cq.o;have d1:bk (D.drop i) q=bk D (i+q):=(by unfold bk;simp only [List.getD,List.getElem?_drop]);have cl:i+q<N:=(by rw [List.length_drop] at aM;omega);rw [d1];refine ⟨fun s G A e R=>?_,fun s G A e R=>?_⟩
          ·have bO:=H.ps (i+q) cl s G A e;have Y:=(aG.row.lt G R).1;omega
          have bO:=H.bs (i+q) cl s G A e;have Y:=(aG.row.lt G R).1;omega)
         have bx:Below ae.heap.size ae be:=(by rw [br.o] at aH ⊢;exact aH.trans bz);rw [show D.take i++[X']++D.drop i=yL D i X' from by unfold yL;simp] at aw;obtain ⟨aa,rfl⟩:∃ aa,dF=some ⟨aa,0,none⟩:=by
          rcases aw.row.2 with ⟨_,s⟩ | ⟨aa,O,fG,e,_⟩
          ·rw [YH X' df] at s;omega
          simp only [Value.slice.injEq] at e;exact ⟨aa,e.1⟩
         have dZ:ag<=aa:=(aw.row.lt aa (xP.2 rfl)).1;have d0:=fq.o;have d4:=ft.o;have ck:=ar.o.ci.ord;have cd:=(ar.o.later bx).ins aY (X':=X') (by rw [bp,aF.o]) (by rw [aQ,bf];exact fl.o) aw ⟨⟨by omega,by omega⟩,fun e=>by have:=fn.o aa e;omega,fun e=>by have:=fk.o aa e;omega⟩;have bC:yL D i X'=Zj D X':=(Oc fv.o df (by rw [aB];exact ct.o) (by rw [aB];rcases du.o with h | h;exact Or.inl h;exact Or.inr (by omega))).symm;have aZ:=fu.o;rw [<-bC] at aZ;have dD:=zh aZ;have dt:=zh cd;have bA:=(ar.o.later bx).ci.box;have g0:=bA.cells.2.2.2;have g6:∀ k,be.frozen? (zA P k)=false:=fun k=>frozen_of_row be P k _ _ bA;clear aB bp aQ bf aG d3 aH cm aw cF cI cG bz bx dZ d0 d4 ck cd bC aZ bA;go_wp2_with (at_builtin;refine Lib.wpList_append_run _ rfl _ _ _ _ rfl _ _ rfl rfl _ _ d2 ?_)
         go_roundg (ab-(j+1))
         case measure=>omega
         case rel=>exact ⟨j+1,zO aa 0,i+1+0,el,yL D i X',zO cY 0,en,a3,a4,mv++[X.id],dr,by simp,rfl,by go_num,by omega,by omega,by simpa using dt.o,dD.o⟩
        have dA:Zh (∀ V,Below ae.heap.size ae V->BksIn V (some (Addr.add ⟨dJ,dL,e8⟩ (i*7))) (N-i) (ah-i) (D.drop i)):=zh fun V jD=>by
         by_cases bl:i<N
         ·obtain ⟨fH,lD,cS,_⟩:=eF.o.ci.st.2.cells (show 0<N by omega);injection cS with cS;injection cS with b2 R cT;subst b2;subst R;subst cT;rw [Addr.add_lit];exact (ar.o.later jD).ci.st.2.drop (by omega)
         rw [show N-i=0 by omega,show D.drop i=[] from List.drop_eq_nil_of_le (by have:=cq.o;omega)];exact RE V _ (by omega)
        have aG:=fo.o;have aH:=fg.o;have d3:=fs.o;obtain ⟨aB,bp,aQ,bf⟩:=fw.o;have cm:=dA.o cp aH;obtain ⟨dF,el,be,d2,aw,cF,cI,cG,bz⟩:=Y5 cp ag fE (i+1) e7 (D.take i++[X']) aG (by rw [List.length_append];have:=dy.o;simp;omega) (some (Addr.add ⟨dJ,dL,e8⟩ (i*7))) (N-i) (ah-i) (D.drop i) cm 38 (by omega) (by omega) (fun q aM=>by
         have H:=ar.o.ci.st.blkLt;rw [br.o] at H;have hE:=cq.o;have d1:bk (D.drop i) q=bk D (i+q):=(by unfold bk;simp only [List.getD,List.getElem?_drop]);have cl:i+q<N:=(by rw [List.length_drop] at aM;omega);rw [d1];refine ⟨fun s G A e R=>?_,fun s G A e R=>?_⟩
         ·have bO:=H.ps (i+q) cl s G A e;have Y:=(aG.row.lt G R).1;omega
         have bO:=H.bs (i+q) cl s G A e;have Y:=(aG.row.lt G R).1;omega)
        have bx:Below ae.heap.size ae be:=(by rw [br.o] at aH ⊢;exact aH.trans bz);rw [show D.take i++[X']++D.drop i=yL D i X' from by unfold yL;simp] at aw;obtain ⟨aa,rfl⟩:∃ aa,dF=some ⟨aa,0,none⟩:=by
         rcases aw.row.2 with ⟨_,s⟩ | ⟨aa,O,fG,e,_⟩
         ·rw [YH X' df] at s;omega
         simp only [Value.slice.injEq] at e;exact ⟨aa,e.1⟩
        have dZ:ag<=aa:=(aw.row.lt aa (xP.2 rfl)).1;have d0:=fq.o;have d4:=ft.o;have ck:=ar.o.ci.ord;have cd:=(ar.o.later bx).ins aY (X':=X') (by rw [bp,aF.o]) (by rw [aQ,bf];exact fl.o) aw ⟨⟨by omega,by omega⟩,fun e=>by have:=fn.o aa e;omega,fun e=>by have:=fk.o aa e;omega⟩;have bC:yL D i X'=Zj D X':=(Oc fv.o df (by rw [aB];exact ct.o) (by rw [aB];rcases du.o with h | h;exact Or.inl h;exact Or.inr (by omega))).symm;have aZ:=fu.o;rw [<-bC] at aZ;have dD:=zh aZ;have dt:=zh cd;have bA:=(ar.o.later bx).ci.box;have g0:=bA.cells.2.2.2;have g6:∀ k,be.frozen? (zA P k)=false:=fun k=>frozen_of_row be P k _ _ bA;clear aB bp aQ bf aG d3 aH cm aw cF cI cG bz bx dZ d0 d4 ck cd bC aZ bA;go_wp2_with (at_builtin;refine Lib.wpList_append_run _ rfl _ _ _ _ rfl _ _ rfl rfl _ _ d2 ?_)
        go_roundg (ab-(j+1))
        case measure=>omega
        case rel=>exact ⟨j+1,zO aa 0,i+1+(N-i),el,yL D i X',zO cY 0,en,a3,a4,mv++[X.id],dr,by simp,rfl,by go_num,by omega,by omega,by simpa using dt.o,dD.o⟩
   obtain rfl:j=ab:=(by omega);obtain ⟨bL,bM,bu,bv⟩:=aE.o.ci.box.cells;obtain ⟨cO,dm,dp,dq⟩:=aE.o.ci.res.cells;have lO:∀ k,wr.frozen? (zA (S+1) k)=false:=fun k=>frozen_of_row wr (S+1) k _ _ aE.o.ci.res;clear bP dS e6 f2 gd;go_wp2_with fail
   have ia:=zk wr (S+1) 40 _ _ _ _ (zI c) (zI n) (.slice (zO B 0) W a8) (.slice aS N ah) aE.o.ci.res;have ck:=aE.o.ci.ord;have hcut:=Uw bI.o bJ.o.c0 cs.o gR.o (b:=zg D) (mv:=mv) (dr:=dr) (by rw [zF,<-ay.o];exact dC.o);rw [PR,MF,MF] at hcut;have cz:S<=S+1:=(by omega);refine bodyPost_ret (v:=.tuple #[.agg (zS c n (zO B 0) W a8 aS N ah),.slice bS mv.length mk,.slice a3 dr.length a4,zI 0]) (yF Tryz.results65 _ _ (S+1) 40 (zS c n (zO B 0) W a8 aS N ah) (0,0) _ rfl ia.1 Tryz.underlying40 rfl (by kernel_rfl)) rfl ?_;refine ⟨c,n,zO B 0,W,a8,aS,N,ah,bS,mv.length,mk,a3,dr.length,a4,by rw [gM.o],Or.inr ⟨gM.o,aN,D,aE.o.ci.st.stand aE.o.ci.blk (fun k cj=>ia.2 k (by omega)),rfl,rfl,?_,?_,aE.o.ci.blk.new (fun k cj=>by have:=eM.o;omega)⟩,?_⟩
   ·rw [Int.toNat_natCast];exact aE.o.ci.says
   ·rw [Int.toNat_natCast,hcut]
   rw [eM.o];exact ((((aE.o.ci.below.setCell (p:=(zA (S+1) 0)) cz _).setCell (p:=(zA (S+1) 1)) cz _).setCell (p:=(zA (S+1) 2)) cz _).setCell (p:=(zA (S+1) 3)) cz _)
  | true =>
   obtain ⟨T,k,rfl,rfl,jC,cj,jU,aY,f6⟩:=II fj.o cs.o bY.o.says eE.o gE.o;have fY:=bY.o.st.2.len;have jQ:=bY.o.st.1.len;obtain ⟨ba,fK⟩:=qA (wC aN a2 (T:Int) (k:Int) a2.length);have fA:=J6 w6 c n (zO B 0) W a8 aN dG bH dk a2 eI.o.st eE.o (by omega) T k (by omega);rw [fY,fK,<-fY] at fA;rw [fK] at aY f6;have iH:=zh fA;have iK:=zh f6;have c6:ba<bH:=(by omega);obtain ⟨cO,dm,dp,dq⟩:=eI.o.box.cells;clear f6 fA fK jU aY fY jQ jC cj;go_wp2_with fail
   refine iH.o.mono ?_;rintro e bn ⟨rfl,fW⟩;have cc:=zh (eI.o.later fW);have fd:=zh (gD.o.later fW);clear fW cO dm dp dq;obtain ⟨cO,dm,dp,dq⟩:=cc.o.box.cells;obtain ⟨jr,js,jH,b6⟩:=cc.o.st.2.cells (by omega);subst jH;obtain ⟨X,bi⟩:=qA (bk a2 ba);obtain ⟨b1,c1,c2,c3,c4,c5,g1⟩:=b6 ba c6;have cH:=cc.o.st.2.rqs ba c6;have cD:=cc.o.st.2.bites ba c6;rw [bi] at b1 c1 c2 c3 c4 c5 g1 cH cD;obtain ⟨au,aC⟩:=qB (bn.alloc (.cells #[zI X.id,zI X.rq.queue,zI X.rq.fr,zI X.rq.un,zI X.rq.kind,.slice X.rq.pa X.rq.pn X.rq.pc,.slice X.ba X.bn X.bc] 60));have bb:Below bn.heap.size bn au:=(by rw [aC];exact zr _ _);have bm:=P6 bn X cH cD;rw [<-aC] at bm;obtain ⟨aR,c9⟩:=qA (bn.heap.size);rw [c9] at bm;have g8:=fd.o.later bb;have lB:ab<=12:=by
    have H:=(cs.o.clean bI.o bJ.o.c0).2.2.2;have Y:=bI.o.few;rw [zF,zF] at H;have bO:=bX.o.inn.len;omega
   have ka:au.heap.size=aR+1:=(by rw [aC,<-c9];simp);obtain ⟨fF,em,bV,ap,cB,jT,j7,jY,hD⟩:=Y5 au aR (zO aR 0) 1 1 [X] bm rfl eB ab eC aj g8.inn 38 (by omega) (by omega) (fun i aI=>by
    have U:=bX.o.inn.len;refine ⟨fun s g A e R=>?_,fun s g A e R=>?_⟩
    ·have cT:aR=g:=xP.1 R;have:=RunsIn.lt (fd.o.inn.rqs i (by omega)) s e;omega
    have cT:aR=g:=xP.1 R;have:=(fd.o.inn.bites i (by omega)).lt s e;omega)
   have k6:(ba:Int)<bH:=(by omega);have c0:¬((ba:Int)<0):=(by omega);have lu:=cc.o.st.2.le;have lv:=cc.o.st.2.capb;rw [aC] at ap;obtain ⟨an,rfl⟩:∃ an,fF=some ⟨an,0,none⟩:=by
    rcases cB.row.2 with ⟨_,s⟩ | ⟨an,O,fG,e,_⟩
    ·simp at s
    simp only [Value.slice.injEq] at e;exact ⟨an,e.1⟩
   have jI:aR<=an:=(cB.row.lt an (xP.2 rfl)).1;have hz:Below aR bn bV:=by
    have H:=bb.trans (hD.mono (show bn.heap.size<=aR by omega));rw [c9] at H;exact H
   have hW:yL aj 0 X=[X]++aj:=(by rw [ID];rfl);rw [<-hW] at cB;have ge:=bX.o.inn.len;have gS:=zh cB;have ix:=zh hz;have aF:=zh bi;have eL:=zh c9;have k0:=zh cH;have a1:=zh cD;have ay:=zh ge;have jM:=(ym cB).le;have lp:=(ym cB).capb;obtain ⟨aJ,fM⟩:=qA (1+ab);rw [fM] at ap gS jM;have bq:=zh fM;clear bm g8 cB jT j7 jY hD hz hW bi b6 cH cD bb ka aC ge fM;go_wp2_with (at_builtin;refine Lib.wpList_append_run _ rfl _ _ _ _ rfl _ _ rfl rfl _ _ ap ?_)
   clear ap cO dm dp dq b1 c1 c2 c3 c4 c5 g1;go_wp2_with fail
   go_loopg [17] ab (fun cy (p:Value) bW=>∃ i:Nat,p=zI i/\i<=ab/\cy=ab-i/\OwnBks bW aR (.slice (zO an 0) aJ em) (yL aj i X)/\(∀ j,j<i->(bk aj j).id<X.id)/\Below aR bn bW)
   case atStart=>exact ⟨0,rfl,Nat.zero_le _,by simp,gS.o,fun j bc=>absurd bc (Nat.not_lt_zero _),ix.o⟩
   obtain ⟨i,rfl,aI,rfl,a5,bd,aW⟩:=hrel;have dx:=zh a5;have ct:=zh bd;have cr:=zh aW;have cA:aJ=1+ab:=bq.o.symm;have jP:(yL aj i X).length=aJ:=(by rw [YH X (by have:=ay.o;omega)];have:=ay.o;omega);obtain ⟨j,bc⟩:=qA (i+1);have ln:IntKind.i64.wrap ((i:Int)+1)=(j:Int):=(by rw [IntKind.wrap_i64];omega);have bg:=ym a5;obtain ⟨fI,gh,av,al⟩:=bg.cells (by omega);injection av with av;injection av with cw cx _;subst cw;subst cx;obtain ⟨aU,dP⟩:=qA (decide (i<ab/\(bk aj i).id<X.id));have a9:=zh dP;have dv:=zh bc;clear dP bc jP cA;go_upto_region 16 with fail
   go_cut [100] (fun p aA=>∃ aK:World,aK=aA/\p=.bool aU/\Below wr.heap.size wr aA)
   case first =>
    have bc:=dv.o;have cA:=bq.o;by_cases aY:i<ab
    ·have ig:=(al i (by omega)).1;have d7:=(al j (by omega)).1;rw [Ro (by have:=ay.o;omega),Nat.zero_add] at ig;rw [<-bc,Rp (by have:=ay.o;omega),Nat.zero_add,bc] at d7;have gi:decide (j<aJ)=true:=decide_eq_true (by omega);have er:(j:Int)<aJ:=(by omega);have kO:(i:Int)<aJ:=(by omega);have gj:¬((i:Int)<0):=(by omega);have kP:¬((j:Int)<0):=(by omega);obtain ⟨x,d6⟩:=qA (X.id);obtain ⟨y,bG⟩:=qA ((bk aj i).id);rw [d6] at ig;rw [bG] at d7;by_cases az:y<x
     ·have gk:decide (y<x)=true:=decide_eq_true az;have a1:Zh (aU=true):=zh (by rw [<-a9.o];exact decide_eq_true ⟨aY,by rw [bG,d6];exact az⟩);clear a5 bd aW bg al bc d6 bG cA az;go_quiet (fail)
      all_goals (go_wp2_with fail)
      all_goals go_meet
      all_goals exact ⟨_,rfl,by rw [a1.o],_root_.Go.below_drewN (Below.refl _ _) _⟩
     have gk:decide (y<x)=false:=decide_eq_false az;have a1:Zh (aU=false):=zh (by rw [<-a9.o];exact decide_eq_false fun h=>az (by rw [<-bG,<-d6];exact h.2));clear a5 bd aW bg al bc d6 bG cA az;go_quiet (fail)
     all_goals (go_wp2_with fail)
     all_goals go_meet
     all_goals exact ⟨_,rfl,by rw [a1.o],_root_.Go.below_drewN (Below.refl _ _) _⟩
    have gi:decide (j<aJ)=false:=decide_eq_false (by omega);have er:¬((j:Int)<aJ):=(by omega);have a1:Zh (aU=false):=zh (by rw [<-a9.o];exact decide_eq_false fun h=>aY h.1);clear a5 bd aW bg al bc cA aY;go_quiet (fail)
    all_goals (go_wp2_with fail)
    all_goals go_meet
    all_goals exact ⟨_,rfl,by rw [a1.o],_root_.Go.below_drewN (Below.refl _ _) _⟩
   obtain ⟨W0,rfl,rfl,ak⟩:=hcut;cases aU with
   | true =>
    obtain ⟨aY,az⟩:=of_decide_eq_true a9.o;have fx:=zh az;have bc:=dv.o;have cA:=bq.o;have er:(j:Int)<aJ:=(by omega);have kO:(i:Int)<aJ:=(by omega);have gj:¬((i:Int)<0):=(by omega);have kP:¬((j:Int)<0):=(by omega);clear a5 bd aW bg al bc cA az;have c7:=dx.o.later ak;have g9:=ym c7;obtain ⟨z,ce⟩:=qA (bk aj i);obtain ⟨fI,gh,av,al⟩:=g9.cells (by have:=bq.o;omega);injection av with av;injection av with cw cx _;subst cw;subst cx;have b7:=dv.o;obtain ⟨d8,d9,ea,eb,ec,ed,ee⟩:=al i (by have:=bq.o;omega);obtain ⟨cJ,ef,eg,eh,ei,ej,ek⟩:=al j (by have:=bq.o;omega);rw [Ro (by have:=ay.o;omega),Nat.zero_add] at d8 d9 ea eb ec ed ee;rw [<-b7,Rp (by have:=ay.o;omega),Nat.zero_add,ce,b7] at cJ ef eg eh ei ej ek;have eJ:=zh c7;have gF:=zh ak;have bK:=zh ce;clear ak c7 g9 al ce b7;have aT:∀ F:Obj,Below W0.heap.size W0 (W0.alloc F):=fun F=>zr _ _;have aV:∀ F Z:Obj,Below W0.heap.size W0 ((W0.alloc F).alloc Z):=fun F Z=>(aT F).alloc (by simp) _;have kb:=fun F=>cell_later (aT F) d8;have kc:=fun F Z=>cell_later (aV F Z) d8;have ke:=fun F=>cell_later (aT F) d9;have kf:=fun F Z=>cell_later (aV F Z) d9;have kg:=fun F=>cell_later (aT F) ea;have kh:=fun F Z=>cell_later (aV F Z) ea;have ki:=fun F=>cell_later (aT F) eb;have kj:=fun F Z=>cell_later (aV F Z) eb;have kk:=fun F=>cell_later (aT F) ec;have kl:=fun F Z=>cell_later (aV F Z) ec;have km:=fun F=>cell_later (aT F) ed;have kn:=fun F Z=>cell_later (aV F Z) ed;have ko:=fun F=>cell_later (aT F) ee;have kp:=fun F Z=>cell_later (aV F Z) ee;have kq:=fun F=>cell_later (aT F) cJ;have kr:=fun F Z=>cell_later (aV F Z) cJ;have ks:=fun F=>cell_later (aT F) ef;have kt:=fun F Z=>cell_later (aV F Z) ef;have ku:=fun F=>cell_later (aT F) eg;have kv:=fun F Z=>cell_later (aV F Z) eg;have kw:=fun F=>cell_later (aT F) eh;have kx:=fun F Z=>cell_later (aV F Z) eh;have ky:=fun F=>cell_later (aT F) ei;have kz:=fun F Z=>cell_later (aV F Z) ei;have kA:=fun F=>cell_later (aT F) ej;have kB:=fun F Z=>cell_later (aV F Z) ej;have kC:=fun F=>cell_later (aT F) ek;have kD:=fun F Z=>cell_later (aV F Z) ek;clear aT aV;go_upto_region 18 with fail
    go_cut [18,19] (fun p q aA=>∃ (aK:World) (bN dM:Nat),aK=aA/\p=.pointer (zO bN 0)/\q=.pointer (zO dM 0)/\aA.heap[bN]?=some (.cells #[zI X.id,zI X.rq.queue,zI X.rq.fr,zI X.rq.un,zI X.rq.kind,.slice X.rq.pa X.rq.pn X.rq.pc,.slice X.ba X.bn X.bc] 60 (0,0))/\aA.heap[dM]?=some (.cells #[zI z.id,zI z.rq.queue,zI z.rq.fr,zI z.rq.un,zI z.rq.kind,.slice z.rq.pa z.rq.pn z.rq.pc,.slice z.ba z.bn z.bc] 60 (0,0))/\W0.heap.size<=bN/\W0.heap.size<=dM/\Below W0.heap.size W0 aA)
    case first =>
     go_region
     all_goals (go_wp2_with fail)
     all_goals go_meet
     ·refine ⟨_,W0.heap.size,W0.heap.size+1,rfl,rfl,rfl,(Below.heap_alloc (W0.alloc (.cells #[zI X.id,zI X.rq.queue,zI X.rq.fr,zI X.rq.un,zI X.rq.kind,.slice X.rq.pa X.rq.pn X.rq.pc,.slice X.ba X.bn X.bc] 60)) _ _ (by simp)).trans (heap_alloc_new W0 _),?_,Nat.le_refl _,by omega,?_⟩
      ·have:=heap_alloc_new (W0.alloc (.cells #[zI X.id,zI X.rq.queue,zI X.rq.fr,zI X.rq.un,zI X.rq.kind,.slice X.rq.pa X.rq.pn X.rq.pc,.slice X.ba X.bn X.bc] 60)) (.cells #[zI z.id,zI z.rq.queue,zI z.rq.fr,zI z.rq.un,zI z.rq.kind,.slice z.rq.pa z.rq.pn z.rq.pc,.slice z.ba z.bn z.bc] 60);rw [World.size_alloc] at this;exact this
      have E:=((Below.refl W0.heap.size W0).alloc (Nat.le_refl _) (.cells #[zI X.id,zI X.rq.queue,zI X.rq.fr,zI X.rq.un,zI X.rq.kind,.slice X.rq.pa X.rq.pn X.rq.pc,.slice X.ba X.bn X.bc] 60)).alloc (by simp) (.cells #[zI z.id,zI z.rq.queue,zI z.rq.fr,zI z.rq.un,zI z.rq.kind,.slice z.rq.pa z.rq.pn z.rq.pc,.slice z.ba z.bn z.bc] 60);exact ⟨E.os,E.tape,E.output,E.size,E.block⟩
     refine ⟨_,W0.heap.size+1,W0.heap.size,rfl,rfl,rfl,?_,(Below.heap_alloc (W0.alloc (.cells #[zI z.id,zI z.rq.queue,zI z.rq.fr,zI z.rq.un,zI z.rq.kind,.slice z.rq.pa z.rq.pn z.rq.pc,.slice z.ba z.bn z.bc] 60)) _ _ (by simp)).trans (heap_alloc_new W0 _),by omega,Nat.le_refl _,?_⟩
     ·have:=heap_alloc_new (W0.alloc (.cells #[zI z.id,zI z.rq.queue,zI z.rq.fr,zI z.rq.un,zI z.rq.kind,.slice z.rq.pa z.rq.pn z.rq.pc,.slice z.ba z.bn z.bc] 60)) (.cells #[zI X.id,zI X.rq.queue,zI X.rq.fr,zI X.rq.un,zI X.rq.kind,.slice X.rq.pa X.rq.pn X.rq.pc,.slice X.ba X.bn X.bc] 60);rw [World.size_alloc] at this;exact this
     have E:=((Below.refl W0.heap.size W0).alloc (Nat.le_refl _) (.cells #[zI z.id,zI z.rq.queue,zI z.rq.fr,zI z.rq.un,zI z.rq.kind,.slice z.rq.pa z.rq.pn z.rq.pc,.slice z.ba z.bn z.bc] 60)).alloc (by simp) (.cells #[zI X.id,zI X.rq.queue,zI X.rq.fr,zI X.rq.un,zI X.rq.kind,.slice X.rq.pa X.rq.pn X.rq.pc,.slice X.ba X.bn X.bc] 60);exact ⟨E.os,E.tape,E.output,E.size,E.block⟩
    obtain ⟨aK,bN,dM,rfl,rfl,rfl,d7,ih,lg,lh,hG⟩:=hcut;have bh:=eJ.o.later hG;have ha:=ym bh;have li:an<W0.heap.size:=(eJ.o.row.lt an (xP.2 rfl)).2;obtain ⟨fI,gh,av,al⟩:=ha.cells (by have:=bq.o;omega);injection av with av;injection av with cw cx _;subst cw;subst cx;have b7:=dv.o;obtain ⟨d8,d9,ea,eb,ec,ed,ee⟩:=al i (by have:=bq.o;omega);rw [Nat.zero_add] at d8 d9 ea eb ec ed ee;have hK:ww aK dM z:=ih;have hI:ww aK bN X:=d7;obtain ⟨bU,eu,ev,ew,ex,ey,ez⟩:=hK.cells;obtain ⟨cv,dc⟩:=qB (Nt aK an (i*7) z);have hq:aR<=an:=jI;have eZ:aJ=(yL aj i X).length:=(by rw [YH X (by have:=ay.o;omega)];have:=ay.o;have:=bq.o;omega);have gf:∀ k,aK.frozen? (zA an k)=false:=fun k=>by
     have bD:=bh.row;rw [<-eZ] at bD;exact bD.frozenAt k
    have hX:bk (yL aj i X) j=z:=(by rw [<-b7,Rp (by have:=ay.o;omega)];exact bK.o);have hV:bk (yL aj i X) i=X:=Ro (by have:=ay.o;omega);have jJ:i<aJ:=(by have:=bq.o;omega);have jK:j<aJ:=(by have:=bq.o;omega);have hm:OwnBks cv aR (.slice (zO an 0) aJ em) ((yL aj i X).set i z):=by
     rw [dc];have cU:=bh.rqs j (by omega);have cV:=bh.bites j (by omega);have cW:=bh.farP j (by omega);have cX:=bh.farB j (by omega);rw [hX] at cU cV cW cX;exact LX bh eZ jJ cU cV (fun s B A e=>(xc.1 (cW s B A e)).symm) (fun s B A e=>(xc.1 (cX s B A e)).symm)
    have hA:Below aR bn cv:=(by rw [dc];exact Rx ((cr.o.trans (gF.o.mono (by have:=cr.o.size;have:=eL.o;omega))).trans (hG.mono (by have:=cr.o.size;have:=gF.o.size;have:=eL.o;omega))) hq _ _);have hJ:ww cv bN X:=(by rw [dc];exact (Wj aK an (i*7) z bN (by omega)).trans hI);have hR:zH cv X.rq/\RunsIn cv X.ba X.bn X.bc X.bs/\(0<X.rq.pn->∀ B A,X.rq.pa=zO B A->B≠an)/\(0<X.bn->∀ B A,X.ba=zO B A->B≠an):=by
     have cU:=bh.rqs i (by omega);have cV:=bh.bites i (by omega);have cW:=bh.farP i (by omega);have cX:=bh.farB i (by omega);rw [hV] at cU cV cW cX;have ij:0<X.rq.pn->∀ B A,X.rq.pa=zO B A->B≠an:=fun s B A e=>(xc.1 (cW s B A e)).symm;have ik:0<X.bn->∀ B A,X.ba=zO B A->B≠an:=fun s B A e=>(xc.1 (cX s B A e)).symm;rw [dc];exact ⟨RunsIn.of_away cU (fun s B A e=>Wj aK an (i*7) z B (ij s B A e)),cV.of_away (fun s B A e=>Wj aK an (i*7) z B (ik s B A e)),ij,ik⟩
    have fp:=zh hm;have iy:=zh hA;have i8:=zh hJ;have eH:=zh hR;have gQ:=zh eZ;have fQ:=dc;unfold Nt at fQ;have i4:=zh fQ;clear bh ha al b7 hK hI dc fQ hm hA hJ hR eZ hX hV d7 ih kb kc ke kf kg kh ki kj kk kl km kn ko kp kq kr ks kt ku kv kw kx ky kz kA kB kC kD;go_upto_region 20 with fail
    rw [<-i4.o];obtain ⟨lG,lH,lI,lJ,lK,lL,lM⟩:=i8.o.cells;have k4:∀ k,cv.frozen? (zA an k)=false:=fun k=>by
     have bD:=fp.o.row;rw [List.length_set,<-gQ.o] at bD;exact bD.frozenAt k
    obtain ⟨fI,gh,av,al⟩:=(ym fp.o).cells (by omega);injection av with av;injection av with cw cx _;subst cw;subst cx;obtain ⟨kH,kI,kJ,kK,kL,kM,kN⟩:=al j (by omega);rw [Nat.zero_add] at kH kI kJ kK kL kM kN;clear al;go_wp2_with fail
    have b7:=dv.o;have hl:=LX fp.o (by rw [List.length_set];exact gQ.o) jK eH.o.1 eH.o.2.1 eH.o.2.2.1 eH.o.2.2.2;rw [<-b7,<-bK.o,IC (by have:=ay.o;omega),b7] at hl;have jG:Below aR bn (Nt cv an (j*7) X):=Rx iy.o hq _ _;go_roundg (ab-j)
    case measure=>omega
    refine ⟨j,rfl,by omega,by omega,hl,fun gg ll=>?_,jG⟩;by_cases e:gg<i
    ·exact ct.o gg e
    obtain rfl:gg=i:=(by omega);exact fx.o
   | false =>
    have dY:=of_decide_eq_false a9.o;have du:Zh (i=ab\/¬(bk aj i).id<X.id):=zh (by
     by_cases H:i<ab
     ·exact Or.inr fun Y=>dY ⟨H,Y⟩
     exact Or.inl (by omega))
    clear dY a5 bd aW bg al;have hy:Below bn.heap.size bn wr:=(by rw [eL.o];exact cr.o);have c0:=(cc.o.later hy).later ak;have c7:=dx.o.later ak;have iI:=zh (QO W0 c n (zO B 0) W a8 aN (zO jr js) bH dk a2 c0.st (Yn c0.st eE.o) ba c6);obtain ⟨gy,gz,gA,gB⟩:=c0.box.cells;have gO:=zh c0;have eJ:=zh c7;clear ak hy c0 c7;go_wp2_with fail
    refine iI.o.mono ?_;rintro e ae ⟨v,rfl,jx,kE,kG,aS,kF,D,rfl,ib,h5,b5,fX,hk⟩;have eP:=gO.o.later fX;obtain ⟨hi,h0⟩:=eP.store ib (hk.mono gO.o.size) (h5.trans bY.o.says);have j6:=cc.o.size;have ck:=bY.o.ord;have jA:=eL.o;have g7:=((Fe bX.o (X:=X) (fun s g A e=>bY.o.blk.ps ba c6 (by rw [aF.o];exact s) g A (by rw [aF.o];exact e)) (fun s g A e=>bY.o.blk.bs ba c6 (by rw [aF.o];exact s) g A (by rw [aF.o];exact e)) (i:=i) eJ.o ⟨by omega,by omega⟩).later fX).keep h0;have bC:=Gi cs.o bI.o bJ.o.c0 ((Ou b).2 (X8 bJ.o).1) (i:=i) (X:=X) (by have:=ay.o;omega) ct.o (by have:=ay.o;rcases du.o with h | h;exact Or.inl (by omega);exact Or.inr (by omega));have f5:=iK.o;rw [aF.o,<-bC,show zg (wU a2 ba)=zg D from b5.symm] at f5;have lF:∀ k,ae.frozen? (zA P k)=false:=fun k=>frozen_of_row ae P k _ _ eP.box;clear gy gz gA gB;obtain ⟨gy,gz,gA,gB⟩:=eP.box.cells;have iG:=zh hi;have it:=zh g7;have iJ:=zh f5;clear ib h5 b5 fX hk eP hi h0 g7 bC f5 j6 ck jA;go_wp2_with fail
    go_roundg (bH-1)
    case measure=>omega
    case rel=>exact ⟨jx,kE,kG,aS,bH-1,kF,D,zO an 0,aJ,em,yL aj i X,rfl,rfl,iG.o,it.o,iJ.o⟩
theorem OO:Vv:=by
 intro w c n p d r l f i g b h j q k o m rs t;by_cases u:0<=q/\q<d
 ·obtain ⟨a,rfl⟩:∃ a:Nat,q=a:=⟨q.toNat,by omega⟩;cases s:yR rs with
  | false=>exact (JP w c n p d r l f i g b h j a (by omega) k o m rs t s).mono fun e w' h=>h
  | true=>exact (GR w c n p d r l f i g b h j a (by omega) k o m rs t s).mono fun e w' h=>h
 exact (JQ w c n p d r l f i g b h j q k o m rs u).mono fun e w' h=>h
end Go.Proofs.YtckpdfkobdgjeaaGreatDoor
