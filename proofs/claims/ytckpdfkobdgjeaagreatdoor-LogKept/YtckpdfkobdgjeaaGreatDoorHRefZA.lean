/- The reference's ChangeOf: its walk. -/
import Derived.Deep.RegionWith
import Derived.Test.YtckpdfkobdgjeaaGreatDoorHAll29
namespace Go.Proofs.YtckpdfkobdgjeaaGreatDoor
set_option maxRecDepth 100000
set_option maxHeartbeats 16000000
open Go.RowKit
theorem GR (w:World) (c n:Int) (ep:Option Addr) (U er:Nat) (l:QL) (ba:Option Addr) (bn bc:Nat) (b:BL) (h:zY w ep U er l ba bn bc b) (eZ:zU c n l b=0) (I:Nat) (k6:I<U) (il:Option Addr) (aM co:Nat) (rs:zd) (ab:RunsIn w il aM co rs) (ch:yR rs=true) :
 zC 65 #[.agg (zS c n ep U er ba bn bc),zI I,.slice il aM co] w fun e w'=>Xc w w' e c n l b (I:Int) rs:=by
 have av:=yZ eZ;have ic:=h.1.len;have lv:U<=5:=by have:=(yY av.clean.tree).five;omega
 have h0:=Yn h av.clean;have eT:z9 (yP l I rs)=0:=by rw [O7 av.clean.tree (by omega),ch];rfl
 have fY:=Ir (by omega) eT;have h6:0<aM:=by have:=fY.1.1;have:=ab.len;omega
 have jV:aM<=1000:=by have:=fY.1.short;have:=ab.len;omega
 obtain ⟨cQ,cR,jU,_⟩:=ab.cells h6;subst jU;obtain ⟨S,hq⟩:=qA (w.heap.size);obtain ⟨fB,eO⟩:=qB ((w.alloc (.cells (zS c n ep U er ba bn bc) 40)).alloc (.cells zZ 40));obtain ⟨az,aO,ah,ga⟩:=ZK w _ _ _ _ eO;rw [hq] at az aO ga;have jj:=zh (Zm fB c n ep U er l ba bn bc b (h.later ah) av);have b2:ZG c n l b (I:Int) rs=0:=by unfold ZG;rw [if_pos eZ,if_pos (by omega),Int.toNat_natCast,eT]
 have lx:IntKind.i64.wrap ((U:Int)-1)=(U:Int)-1:=by rw [IntKind.wrap_i64];omega
 have bN:yW (I:Int) 0 ((U:Int)-1)=true:=by simp [yW];omega
 have gW:=zh fun X=>zo (I:Int) 0 ((U:Int)-1) X;rw [bN] at gW;have gV:=zh fun X (bi:Below w.heap.size w X)=>Xx X (zO cQ cR) aM co rs (ab.later bi);rw [ch] at gV;have jk:=zh fun X (bi:Below w.heap.size w X)=>Uj X c n ep U er l ba bn bc b (h.later bi) h0;obtain ⟨b1,c1,c2,c3⟩:=az.cells;rw [eO] at b1 c1 c2 c3;have jn:=zh az;have jo:=zh aO;have it:=zh ah;have iZ:=zh eO;have eK:=zh hq;have gL:=zh b2;have iX:=zh ga;have iO:=zh ab;have bJ:=zh av;have iN:=zh eZ;have iz:=zh eT;have kX:=zh ic;clear eO az aO ah h ga eZ av b2 bN ic ab ch h0 eT fY;go_enter Tryz.func65,Tryz.ntmps65;go_wp2_with fail
 rw [<-iZ.o];refine jj.o.mono ?_;rintro e gu ⟨rfl,dU⟩;have gT:=zh (jn.o.later dU);have i6:=zh (jo.o.later dU);have gF:=zh (za it.o dU);have jg:Zh (S+2<=gu.heap.size):=by have:=dU.size;have:=iX.o;show S+2<=gu.heap.size;omega
 obtain ⟨bL,bM,bu,bv⟩:=gT.o.cells;clear dU b1 c1 c2 c3;go_wp2_with fail
 refine (gW.o _).mono ?_;rintro e lM ⟨rfl,aK⟩;rw [aK];clear aK;go_wp2_with fail
 refine (gV.o gu gF.o).mono ?_;rintro e e7 ⟨rfl,b4⟩;have jc:=zh (gT.o.later b4);have jd:=zh (i6.o.later b4);have fb:=zh (za gF.o b4);have jh:Zh (S+2<=e7.heap.size):=by have:=b4.size;have:=jg.o;show S+2<=e7.heap.size;omega
 clear b4 bL bM bu bv;obtain ⟨bL,bM,bu,bv⟩:=jc.o.cells;go_wp2_with fail
 refine (jk.o e7 fb.o).mono ?_;rintro e ey ⟨L,g,dj,bR,dH,af,lb,rfl,hT,li,dP,eV,hG,b6,dO,hE,cg,f6,bQ⟩;obtain ⟨M,hi⟩:=qA (e7.heap.size);rw [hi] at hT dP b6;obtain ⟨P,fM⟩:=qA (ey.heap.size);obtain ⟨wr,d3⟩:=qB (ey.alloc (.cells (zS c n (some ⟨g,0,none⟩) U dj dH bn af) 40));have de:Below ey.heap.size ey wr:=by rw [d3];exact zr _ _
 have gw:zj wr P (zI c) (zI n) (.slice (zO g 0) U dj) (.slice dH bn af):=by rw [d3,<-fM];exact zj.new ey _ _ _ _
 have jY:=bQ.size;have jy:M<=P:=by omega
 have jA:S+2<=M:=by have:=jh.o;omega
 have lj:M<=g/\g<P:=by have:=dP.row.lt g (xP.2 rfl);omega
 have dh:=dP.later de;have hX:=dO.later de;have h7:RunsIn wr (zO cQ cR) aM co rs:=iO.o.later (za (za fb.o bQ) de);have k8:I<bR.length:=by omega
 have eB:=zh gw.cells.2.2.1;have iP:=zh h7;have ip:Zh (wr.cell? (zA g (I*3+2))=some (.slice (qu bR I).ca (qu bR I).cn (qu bR I).cc)):=by
  show wr.cell? (zA g (I*3+2))=_;have bD:=dh.row;rw [<-eV] at bD;rw [bD.cellAt (I*3+2) (by omega),Ys bR I 2 (by omega) (by omega)];rfl
 have iq:Zh (∀ w',Below wr.heap.size wr w'->w'.frozen? (zA g (I*3+2))=false):=fun w' D=>by
  have bD:=(dh.later D).row;rw [<-eV] at bD;exact bD.frozenAt _
 have k9:(I:Int)<U:=by omega
 have k7:¬((I:Int)<0):=by omega
 have lq:=(y6 dh).le;have lr:=(y6 dh).capb;have iM:=zh dh;have iL:=zh hX;have iC:Zh (∀ i,i<U->0<(qu bR i).cn->∀ A z,(qu bR i).ca=zO A z->M<=A/\A<P/\A<L):=fun i aG s A z e=>by
  have G:=b6 i aG s A z e;have V:=(dP.caps i (by omega)).lt s e;omega
 have gM:Zh (∀ dL,(Value.slice dH bn af).ownBlock=some dL->L<=dL/\dL<P):=fun dL e=>by have:=dO.row.lt dL e;omega
 have eI:Zh (∀ i,i<lb.length->(0<(bk lb i).rq.pn->∀ A z,(bk lb i).rq.pa=zO A z->L<=A/\A<P)/\(0<(bk lb i).bn->∀ A z,(bk lb i).ba=zO A z->L<=A/\A<P)):=fun i aG=>⟨fun s A z e=>⟨(f6 i (by omega)).1 s A z e,by have:=RunsIn.lt (dO.rqs i aG) s e;omega⟩,fun s A z e=>⟨(f6 i (by omega)).2 s A z e,by have:=(dO.bites i aG).lt s e;omega⟩⟩;have gO:=zh eV;have iy:=zh hE;have a7:=zh hG;have gG:=zh cg;have gU:=zh gw;have ji:=zh ((jd.o.later bQ).later de);have fd:=zh (za (za fb.o bQ) de);have i4:=zh d3;have kY:=zh fM;have iY:Zh (wr.heap.size=P+1):=by show wr.heap.size=P+1;rw [d3,<-fM];simp
 clear dP dO b6 f6 hT eV hE hG cg bQ de gw jY dh hX h7 hi d3 bL bM bu bv;go_upto_region 9 with fail
 rw [<-i4.o];go_cut [56] (fun p ay=>∃ aI:World,aI=ay/\∃ (aJ aY:Nat) (w':World),Below wr.heap.size wr w'/\RunsIn w' (zO aJ 0) aM aY rs/\wr.heap.size<=aJ/\ay=w'.setCell (zA g (I*3+2)) (.slice (zO aJ 0) aM aY))
 case first =>
  refine wN ((Tryz.f65.body.bind fun c=>yi c 9).getD #[]) (by kernel_rfl) [zl (.pointer (zO P 2)),zl (.slice (zO g 0) U dj),zl (zI I),⟨fun gl _=>∃ fF,gl=.slice (zO fF 0) 0 0,fun _ _ _ h _=>h⟩,zl (.slice (zO cQ cR) aM co),⟨fun gl jp=>∃ aJ aY,gl=.slice (zO aJ 0) aM aY/\RunsIn jp (zO aJ 0) aM aY rs/\wr.heap.size<=aJ,fun _ _ _ ⟨aJ,aY,G,V,bO⟩ D=>⟨aJ,aY,G,V.later D,bO⟩⟩,zl (.pointer (zO g (I*3))),zl (.pointer (zO g (I*3+2))),zl undef] 8 (by kernel_rfl) (by kernel_rfl) (by kernel_rfl) ?hstep
  case hstep =>
   refine zc.cons 1 rfl ?_ ?_
   ·intro T w' D av Q H;rw [if_neg (by decide)];have s:T.getD 11 undef=.pointer (zO P 0):=Q 11 (by as_aux_lemma=>kernel_rfl);exact zs (by go_simp) rfl
   refine zc.cons 2 rfl ?_ ?_
   ·intro T w' D av Q H;rw [if_neg (by decide)];have s:T.getD 49 undef=.pointer (zO P 2):=H 0 49 (by as_aux_lemma=>kernel_rfl);have eM:=cell_later D eB.o;exact zs (by go_simp) rfl
   refine zc.cons 3 rfl ?_ ?_
   ·intro T w' D av Q H;rw [if_neg (by decide)];have s:T.getD 1 undef=zI I:=Q 1 (by as_aux_lemma=>kernel_rfl);exact zs (by go_simp) rfl
   refine zc.cons 4 rfl ?_ ?_
   ·intro T w' D av Q H;rw [if_neg (by decide)];exact Or.inl ⟨.slice (zO w'.heap.size 0) 0 0,w'.alloc (.cells #[] 55),by go_simp,⟨_,rfl⟩,zr _ _⟩
   refine zc.cons 5 rfl ?_ ?_
   ·intro T w' D av Q H;rw [if_neg (by decide)];have s:T.getD 2 undef=.slice (zO cQ cR) aM co:=Q 2 (by as_aux_lemma=>kernel_rfl);exact zs (by go_simp) rfl
   refine zc.cons 6 rfl ?_ ?_
   ·intro T w' D av Q H;rw [if_neg (by decide)];obtain ⟨fF,s⟩:=H 3 52 (by as_aux_lemma=>kernel_rfl);have G:T.getD 53 undef=.slice (zO cQ cR) aM co:=H 4 53 (by as_aux_lemma=>kernel_rfl);obtain ⟨aJ,aY,gt,an,ab,hg,cg,lw⟩:=O0 w' (zA cQ cR) aM co rs (iP.o.later D) h6 jV;exact Or.inl ⟨.slice (zO aJ 0) aM aY,gt,Ze (.tmp 52) (.tmp 53) 25 rfl _ _ s G (an _ _),⟨aJ,aY,rfl,ab,Nat.le_trans D.size hg⟩,cg⟩
   refine zc.cons 7 rfl ?_ ?_
   ·intro T w' D av Q H;rw [if_neg (by decide)];have s:T.getD 50 undef=.slice (zO g 0) U dj:=H 1 50 (by as_aux_lemma=>kernel_rfl);have G:T.getD 51 undef=zI I:=H 2 51 (by as_aux_lemma=>kernel_rfl);exact zs (by go_simp) rfl
   refine zc.cons 8 rfl ?_ ?_
   ·intro T w' D av Q H;rw [if_neg (by decide)];have s:T.getD 55 undef=.pointer (zO g (I*3)):=H 6 55 (by as_aux_lemma=>kernel_rfl);exact zs (by go_simp) rfl
   refine zc.cons 9 rfl ?_ ?_
   ·intro T w' D av Q H;rw [if_pos rfl]
    replace av:=av.resolve_right (fun h=>h rfl)
    obtain ⟨aJ,aY,s,c9,f2⟩:=H 5 54 (by as_aux_lemma=>kernel_rfl);have G:T.getD 56 undef=.pointer (zO g (I*3+2)):=H 7 56 (by as_aux_lemma=>kernel_rfl);have eM:=cell_later D ip.o;have k2:w'.frozen? (zA g (I*3+2))=false:=iq.o w' D;refine ⟨w'.setCell (zA g (I*3+2)) (.slice (zO aJ 0) aM aY),by go_simp,?_⟩;show _;rw [yb (tt 49 [false,false,false,false,false,false,false,false] 166) (by kernel_rfl) av @Q];obtain ⟨us,di⟩:∃ us:Nat->Value,(fun d=>T.getD d undef)=us:=⟨_,rfl⟩;rw [di];clear di Q av H;apply_assumption;simp only [xj,tt,List.replicate,List.cons_append,List.nil_append];go_meet;exact ⟨_,rfl,aJ,aY,w',D,c9,f2,rfl⟩
   exact trivial
 case rest =>
  obtain ⟨eL,rfl,aJ,aY,ao,a4,ho,f2,eP⟩:=hcut;have j2:=iY.o;have dg:∀ k,k≠g->eL.heap[k]?=ao.heap[k]?:=fun k cj=>by rw [eP];exact heap_setCell_other ao (zA g (I*3+2)) k _ cj
  have e0:=(iM.o.later a4).store gO.o (j:=I) (by omega) ho (fun _ b z e=>by injection e with e;injection e with e;omega);rw [<-eP] at e0;have jM:=gO.o;have jN:=iy.o;have jQ:M<=L:=by omega
  obtain ⟨dl,eW⟩:=qB (bR.set I ⟨(qu bR I).name,(qu bR I).parent,some ⟨aJ,0,none⟩,aM,aY,rs⟩);rw [<-eW] at e0;have hA:zi dl=zi (yP l I rs):=by rw [eW];exact U9 a7.o I _ _ _ rs
  have hY:=(iL.o.later a4).blocks (w':=eL) (fun j e=>dg j (by have:=gM.o j e;omega)) (fun i aG s j z e=>dg j (by have:=(eI.o i aG).1 s j z e;omega)) (fun i aG s j z e=>dg j (by have:=(eI.o i aG).2 s j z e;omega));have j8:=a4.size;have hw:Below S w eL:=by
   rw [eP,<-eK.o];exact (za fd.o a4).setCell (p:=(zA g (I*3+2))) (by show w.heap.size<=g;have:=eK.o;omega) _
  have hM:∀ i,i<U->0<(qu dl i).cn->∀ A z,(qu dl i).ca=zO A z->M<=A/\A≠P:=fun i aG s A z e=>by
   rw [eW,Vg _ (by omega)] at s e;by_cases g4:i=I
   ·rw [if_pos g4] at s e;simp only at e;injection e with e;injection e with e;omega
   rw [if_neg g4] at s e;have:=iC.o i aG s A z e;omega
  have hc:CI w eL S M P c n U (zi (yP l I rs)) g dj dl dH bn af lb:=by
   refine ⟨(dg P (by omega)).trans (gU.o.later a4),(dg (S+1) (by omega)).trans (ji.o.later a4),⟨y6 e0,ym hY⟩,⟨fun _ A z e=>?_,hM,fun s A z e=>?_,fun i aG s A z e=>?_,fun i aG s A z e=>?_⟩,hA,hw,jA,jy⟩
   ·have b2:g=A:=(by injection e with e;injection e with b2);omega
   ·have:=gM.o A (by rw [e];rfl);omega
   ·have:=(eI.o i (by omega)).1 s A z e;omega
   have:=(eI.o i (by omega)).2 s A z e;omega
  have hb:Clean (zi (yP l I rs)) (zg b):=by
   refine Yh (l:=zi l) (b:=zg b) ?_ (by rw [xi];exact iz.o) (by rw [yv,yv,Zd]);have:=bJ.o.clean;exact ⟨by rw [xi];exact this.tree,by rw [zF];exact this.few,fun i aG=>by rw [xp,Y7];exact this.each i (by rw [zF] at aG;exact aG)⟩
  obtain ⟨C,ha⟩:∃ C:Nat,c=C:=⟨c.toNat,by have:=bJ.o.c0;omega⟩;have jx:C<=48:=by have:=bJ.o.c48;omega
  have iB:=zh hc;have bI:=zh hb;have kV:=gG;have fh:=zh ha;clear a4 ho f2 eP j2 dg e0 jM jN jQ eW hA hY j8 hw hM hc hb ha;go_wp2_with fail
  go_loopg [12] bn (fun cy (p:Value) bW=>∃ (A a6:Nat) (aL:QL) (dG:Option Addr) (bH dk:Nat) (a0:BL) (ez:Option Addr) (Z eA:Nat) (ag:BL),p=.slice ez Z eA/\bH=cy/\CI w bW S M P c n U (zi (yP l I rs)) A a6 aL dG bH dk a0/\AI bW M P ez Z eA ag/\Lit c (zi (yP l I rs)) (zg b) (zg a0) (zg ag))
  case atStart =>
   refine ⟨g,dj,_,dH,bn,af,lb,none,0,0,[],rfl,rfl,iB.o,AI.none _ _ _,?_⟩;rw [gG.o];exact Lit.start
  obtain ⟨A,a6,aL,dG,bH,dk,a0,ez,Z,eA,ag,rfl,rfl,bg,cZ,fK⟩:=hrel;have fZ:Clean aL a0:=by
   have:=(fK.clean bI.o bJ.o.c0).1;rw [<-bg.says] at this;exact O9 this
  have jm:=zh (J4 wr (zO A 0) U a6 aL dG bH dk a0 bg.st fZ C jx);have bY:=zh bg;have bX:=zh cZ;have cs:=zh fK;have eC:=zh fZ;obtain ⟨cO,dm,dp,dq⟩:=bg.box.cells;rw [fh.o] at cO;clear bg cZ fK fZ;go_wp2_with fail
  refine jm.o.mono ?_;rintro e w6 ⟨t,q,f,rfl,hv,fT⟩;have eG:=zh (bY.o.later fT);have gC:=zh (bX.o.later fT);have gD:=zh hv;clear hv fT cO dm dp dq;cases f with
  | false =>
   have h1:=Gv fh.o bY.o.says eC.o gD.o;have gQ:=zh h1;have iD:=zh (DI.start eG.o gC.o);have lB:Z<=12:=by
    have G:=(cs.o.clean bI.o bJ.o.c0).2.2.2;have V:=bI.o.few;rw [zF,zF] at G;have bO:=bX.o.inn.len;omega
   have hr:=yZ (c:=c) (n:=n) (l:=zi l) (b:=zg b) (by rw [xQ];exact iN.o);have iW:=zh hr;have aw:=zh bX.o.inn.len;have ly:=bX.o.inn.le;have lz:=bX.o.inn.capb;clear h1 hr;go_wp2_with fail
   go_loopg [20,21,22] Z (fun cy (kQ kR kS:Value) bW=>∃ (j:Nat) (aQ:Option Addr) (J af:Nat) (B:BL) (bS:Option Addr) (mk:Nat) (a1:Option Addr) (a2:Nat) (mv dr:List Int),kQ=.slice bS (List.length mv) mk/\kR=.slice a1 (List.length dr) a2/\kS=zI j/\j<=Z/\cy=Z-j/\DI w bW S M P c n U (zi (yP l I rs)) A a6 aL aQ J af B ez Z eA ag (.slice bS mv.length mk) (.slice a1 dr.length a2) mv dr/\Stl c (zi (yP l I rs)) (zg a0) (zg ag) j (zg B) mv dr)
   case atStart=>exact ⟨0,dG,bH,dk,a0,none,0,none,0,[],[],rfl,rfl,rfl,Nat.zero_le _,by simp,iD.o,Stl.start⟩
   obtain ⟨j,aQ,J,af,B,bS,mk,a1,a2,mv,dr,rfl,rfl,rfl,bb,rfl,bP,dQ⟩:=hrel;obtain ⟨cU,cV,cW,cX⟩:=dQ.few;have e4:=JA iW.o bI.o cs.o gQ.o dQ;have f0:Clean aL B:=by
    have:=e4.clean;rw [<-bP.ci.says] at this;exact O9 this
   have gb:Up B:=(Ou B).1 (X8 e4).1;have aC:=zh bP;have dC:=zh dQ;have ds:=zh f0;have ft:=zh gb;by_cases aW:j<Z
   ·have lp:(j:Int)<Z:=(by omega);have ll:¬((j:Int)<0):=(by omega);obtain ⟨X,bi⟩:=qA (bk ag j);obtain ⟨k4,lD,j7,b6⟩:=bP.ai.inn.cells (by omega);subst j7;obtain ⟨cS,b2,O,cT,g1,g2,g3⟩:=b6 j aW;have fQ:=bP.ai.inn.rqs j aW;have eQ:=bP.ai.inn.bites j aW;rw [bi] at cS b2 O cT g1 g2 g3 fQ eQ;obtain ⟨N,fH⟩:=qA (wr.heap.size);obtain ⟨bZ,dR⟩:=qB (wr.alloc (.cells #[zI X.id,zI X.rq.queue,zI X.rq.fr,zI X.rq.un,zI X.rq.kind,.slice X.rq.pa X.rq.pn X.rq.pc,.slice X.ba X.bn X.bc] 60));have b4:Below wr.heap.size wr bZ:=(by rw [dR];exact zr _ _);have fX:ww bZ N X:=(by rw [dR,<-fH];exact heap_alloc_new wr _);have f9:bZ.heap.size=N+1:=(by rw [dR,<-fH];simp);obtain ⟨b0,dS⟩:=qB (bZ.alloc (.cells #[zI X.rq.queue,zI X.rq.fr,zI X.rq.un,zI X.rq.kind,.slice X.rq.pa X.rq.pn X.rq.pc] 24));have bQ:Below bZ.heap.size bZ b0:=(by rw [dS];exact zr _ _);have e2:Ww b0 (N+1) X.rq:=(by rw [dS,<-f9];exact heap_alloc_new bZ _);obtain ⟨cu,db⟩:=qB (b0.setCell ⟨N+1,1,none⟩ (zI (max X.rq.fr c)));have h8:Ww cu (N+1) (X.rq.from c):=(by rw [db];exact heap_setCell_same b0 (N+1) 1 _ _ _ e2);have hK:ww cu N X:=(by rw [db];exact (heap_setCell_other b0 (zA (N+1) 1) N _ (by show N≠N+1;omega)).trans (fX.later bQ));have eR:Below wr.heap.size wr cu:=(by rw [db];exact (za b4 bQ).setCell (p:=(zA (N+1) 1)) (by show wr.heap.size<=N+1;omega) _);have e3:cu.heap.size=N+2:=(by rw [db];simp [World.setCell];rw [dS];simp;omega);have hd:=bP.later b4;have he:=hd.later bQ;have hf:=bP.later eR;have hu:=cs.o.clean bI.o bJ.o.c0;have hN:ZZ aL X=0:=by
     have gc:=aw.o;have G:X.bare∈zg ag:=(by rw [<-bi,<-xp];exact yx (by rw [zF];omega));obtain ⟨q,aK,e⟩:=yT (hu.2.2.1 _ G);have V:=bI.o.each q aK;rw [e,<-bP.ci.says,Y7] at V;exact V
    have jl:=zh (Hw cu X (eQ.later eR) c);have ja:=zh fQ;have gU:=zh eQ;have aD:=zh bi;have eE:=zh fH;have iA:=zh hN;have gJ:=zh hf;have gH:=zh hK;have iQ:=zh h8;have fd:=zh eR;have iT:=zh e3;have i0:=zh dR;have i1:=zh dS;have i2:=zh db;obtain ⟨gm,gn,go,gp,gq,gr,gs⟩:=fX.cells;obtain ⟨cK,bT,b8,cL,cM⟩:=e2.cells;have b1:=he.ci.box.cells.1;have kP:∀ k,b0.frozen? (zA (N+1) k)=false:=fun k=>frozen_of_row b0 (N+1) k _ _ e2;have iS:=zh f9;clear bP dQ e4 f0 gb b6 fQ eQ bi b4 bQ fX e2 h8 hK eR e3 hd he hf hu hN dR dS db f9;go_upto_region 27 with fail
    rw [<-i0.o]
    try rw [eE.o]
    clear cS b2 O cT g1 g2 g3;go_upto_region 28 with fail
    rw [<-i1.o]
    try rw [iS.o]
    clear gm gn go gp gq gr gs;go_upto_region 31 with fail
    rw [<-i2.o];clear cK bT b8 cL cM kP b1;obtain ⟨gm,gn,go,gp,gq,gr,gs⟩:=gH.o.cells;have b1:=gJ.o.ci.box.cells.1;go_wp2_with fail
    refine jl.o.mono ?_;rintro e ao ⟨rfl,a4⟩;have cP:=zh (gJ.o.later a4);have ff:=zh (gH.o.later a4);have iR:=zh (iQ.o.later a4);have iv:=zh (za fd.o a4);have iU:Zh (N+2<=ao.heap.size):=(by have:=a4.size;have:=iT.o;show N+2<=ao.heap.size;omega);clear a4 gm gn go gp gq gr gs b1;obtain ⟨cK,bT,b8,cL,cM⟩:=iR.o.cells;cases dV:ZD X c with
    | true =>
     have dz:Zh ((y9 c aL B X).2=false):=zh (Pv (Or.inl dV));clear dV cK bT b8 cL cM;obtain ⟨aN,bF⟩:=qB (ao);rw [<-bF];have cb:=cP;have b9:=ff;rw [<-bF] at cb b9;clear bF;obtain ⟨bU,_,_,_,_,_,_⟩:=b9.o.cells;obtain ⟨bp,aB⟩:=qB (aN.alloc (.cells #[zI X.id] 3));have aV:Below aN.heap.size aN bp:=(by rw [aB];exact zr _ _);have am:=cb.o.later aV;obtain ⟨dM,kd,ay,an,bB,a5,bj⟩:=ZC bp M (.slice a1 dr.length a2) dr X.id am.drow aN.heap.size (by rw [aB];exact heap_alloc_new aN _) (by omega) (by have:=am.ci.size;have:=am.ci.ord;omega);have dw:=zh (am.swap.more bB a5 bj).swap;have bE:=Vo dC.o aC.o.ci.says (by have:=aw.o;omega) (by rw [aD.o];exact dz.o);rw [aD.o] at bE;have dB:=zh bE;rw [aB] at an;clear aB aV am bB a5 bj bE;go_wp2_with (at_builtin;refine Lib.wpList_append_run _ rfl _ _ _ _ rfl _ _ rfl rfl _ _ an ?_)
     go_roundg (Z-(j+1))
     case measure=>omega
     case rel=>exact ⟨j+1,aQ,J,af,B,bS,mk,zO dM 0,kd,mv,dr++[X.id],rfl,by simp,by go_num,by omega,by omega,by simpa using dw.o,dB.o⟩
    | false =>
     by_cases eU:max X.rq.fr c<X.rq.un
     case neg =>
      have dz:Zh ((y9 c aL B X).2=false):=zh (Pv (Or.inr eU));have gj:ao.cell? (zA (N+1) 1)=some (zI (max X.rq.fr c)):=bT;have gk:ao.cell? (zA (N+1) 2)=some (zI X.rq.un):=b8;have ik:decide (max X.rq.fr c<X.rq.un)=false:=decide_eq_false eU;clear dV cK bT b8 cL cM;obtain ⟨aN,bF⟩:=qB (ao);rw [<-bF] at gj gk ⊢;have cb:=cP;have b9:=ff;rw [<-bF] at cb b9;clear bF;obtain ⟨bU,_,_,_,_,_,_⟩:=b9.o.cells;obtain ⟨bp,aB⟩:=qB (aN.alloc (.cells #[zI X.id] 3));have aV:Below aN.heap.size aN bp:=(by rw [aB];exact zr _ _);have am:=cb.o.later aV;obtain ⟨dM,kd,ay,an,bB,a5,bj⟩:=ZC bp M (.slice a1 dr.length a2) dr X.id am.drow aN.heap.size (by rw [aB];exact heap_alloc_new aN _) (by omega) (by have:=am.ci.size;have:=am.ci.ord;omega);have dw:=zh (am.swap.more bB a5 bj).swap;have bE:=Vo dC.o aC.o.ci.says (by have:=aw.o;omega) (by rw [aD.o];exact dz.o);rw [aD.o] at bE;have dB:=zh bE;rw [aB] at an;clear aB aV am bB a5 bj bE;go_wp2_with (at_builtin;refine Lib.wpList_append_run _ rfl _ _ _ _ rfl _ _ rfl rfl _ _ an ?_)
      go_roundg (Z-(j+1))
      case measure=>omega
      case rel=>exact ⟨j+1,aQ,J,af,B,bS,mk,zO dM 0,kd,mv,dr++[X.id],rfl,by simp,by go_num,by omega,by omega,by simpa using dw.o,dB.o⟩
     obtain ⟨h5,hO,h2,h3⟩:=Jq ds.o (zzIOx iA.o) dV eU;obtain ⟨f,ch⟩:=qA (xH aL B X.rq.queue);obtain ⟨r,ab⟩:=qA (X.rq.from c);have cH:r.queue=X.rq.queue:=(by rw [<-ab];rfl);have hS:zW f:=(by rw [<-ch];exact XZ ds.o h3);have fx:=zh fun aq (aA:Below ao.heap.size ao aq)=>J5 aq (zO A 0) U a6 aL aQ J af B (cP.o.ci.st.later aA) ds.o X.rq.queue.toNat (by have:=cP.o.ci.st.1.len;omega);rw [NS ds.o (by omega),Int.toNat_of_nonneg h2,ch,<-cH] at fx;have fw:=zh fun aq (aA:Below ao.heap.size ao aq)=>Nf aq f hS r (by rw [<-ab];exact zH.later ja.o (za iv.o aA)) (by rw [<-ab];exact hO);obtain ⟨ak,cZ⟩:=qA (Zf r f);rw [cZ] at fw;have gS:Zh (y9 c aL B X=ak):=zh (by rw [h5,ab,ch,cZ]);have fA:=zh bT;have gj:ao.cell? (zA (N+1) 1)=some (zI (max X.rq.fr c)):=bT;have gk:ao.cell? (zA (N+1) 2)=some (zI X.rq.un):=b8;have ik:decide (max X.rq.fr c<X.rq.un)=true:=decide_eq_true eU;rw [ab] at cK bT b8 cL cM;obtain ⟨bL,bM,bu,bv⟩:=cP.o.ci.box.cells;have eB:=zh bu;have gB:=zh bv;have fz:=zh cK;have fA:=zh bT;have gX:=zh b8;have gY:=zh cL;have ae:=zh cM;clear h5 hO h2 h3 ch ab cH hS cZ dV cK bT b8 cL cM bL bM bu bv;go_upto_region 32 with fail
     clear gj gk ik;go_cut [25,26] (fun p q ay=>∃ (aI:World) (fa:Option Addr) (fm fc:Nat),aI=ay/\p=.slice fa fm fc/\q=.bool ak.2/\(ak.2=true->wk ao.heap.size ay fa fm fc ak.1)/\Below ao.heap.size ao ay)
     case first =>
      refine zV ((Tryz.f65.body.bind fun c=>yi c 32).getD #[]) (by kernel_rfl) [zl (.pointer (zO P 2)),zl ((.slice (zO A 0) U a6)),zl (.pointer (zO P 3)),zl ((.slice aQ J af)),zl (.pointer (zO (N+1) 0)),zl (zI r.queue),zl (.agg (ya (zn f))),zl (.agg #[zI r.queue,zI r.fr,zI r.un,zI r.kind,.slice r.pa r.pn r.pc]),⟨fun v X=>∃ a n cap,v=.tuple #[.slice a n cap,.bool ak.2]/\(ak.2=true->wk ao.heap.size X a n cap ak.1),fun _ X u ⟨a,n,cap,G,V⟩ D=>⟨a,n,cap,G,fun e=>(V e).later D⟩⟩,⟨fun v X=>∃ a n cap,v=.tuple #[.slice a n cap,.bool ak.2]/\(ak.2=true->wk ao.heap.size X a n cap ak.1),fun _ X u ⟨a,n,cap,G,V⟩ D=>⟨a,n,cap,G,fun e=>(V e).later D⟩⟩,⟨fun v X=>∃ a n cap,v=.slice a n cap/\(ak.2=true->wk ao.heap.size X a n cap ak.1),fun _ X u ⟨a,n,cap,G,V⟩ D=>⟨a,n,cap,G,fun e=>(V e).later D⟩⟩,zl (.bool ak.2),⟨fun v X=>∃ a n cap,v=.slice a n cap/\(ak.2=true->wk ao.heap.size X a n cap ak.1),fun _ X u ⟨a,n,cap,G,V⟩ D=>⟨a,n,cap,G,fun e=>(V e).later D⟩⟩,zl (.bool ak.2)] [] (by kernel_rfl) (by kernel_rfl) (by kernel_rfl) ?hg ?hstep ?hfin
      case hg =>
       intro g hg v w h;cases hg
      case hstep =>
       refine zc.cons 1 rfl ?_ ?_
       ·intro T w' D Q H;have s:T.getD 11 undef=.pointer (zO P 0):=Q 11 (by as_aux_lemma=>kernel_rfl);exact zs (by go_simp) rfl
       refine zc.cons 2 rfl ?_ ?_
       ·intro T w' D Q H;have s:T.getD 155 undef=.pointer (zO P 2):=H 0 155 (by as_aux_lemma=>kernel_rfl);have eM:=cell_later D eB.o;exact zs (by go_simp) rfl
       refine zc.cons 3 rfl ?_ ?_
       ·intro T w' D Q H;have s:T.getD 11 undef=.pointer (zO P 0):=Q 11 (by as_aux_lemma=>kernel_rfl);exact zs (by go_simp) rfl
       refine zc.cons 4 rfl ?_ ?_
       ·intro T w' D Q H;have s:T.getD 157 undef=.pointer (zO P 3):=H 2 157 (by as_aux_lemma=>kernel_rfl);have eM:=cell_later D gB.o;exact zs (by go_simp) rfl
       refine zc.cons 5 rfl ?_ ?_
       ·intro T w' D Q H;have s:T.getD 24 undef=.pointer (zO (N+1) 0):=Q 24 (by as_aux_lemma=>kernel_rfl);exact zs (by go_simp) rfl
       refine zc.cons 6 rfl ?_ ?_
       ·intro T w' D Q H;have s:T.getD 159 undef=.pointer (zO (N+1) 0):=H 4 159 (by as_aux_lemma=>kernel_rfl);have eM:=cell_later D fz.o;exact zs (by go_simp) rfl
       refine zc.cons 7 rfl ?_ ?_
       ·intro T w' D Q H;have s:T.getD 156 undef=(.slice (zO A 0) U a6):=H 1 156 (by as_aux_lemma=>kernel_rfl);have G:T.getD 158 undef=(.slice aQ J af):=H 3 158 (by as_aux_lemma=>kernel_rfl);have V:T.getD 160 undef=zI r.queue:=H 5 160 (by as_aux_lemma=>kernel_rfl);refine Or.inr ⟨107,#[(.slice (zO A 0) U a6),(.slice aQ J af),zI r.queue],by go_simp,?_⟩;refine (fx.o w' D).mono ?_;rintro e gt ⟨rfl,cg⟩;exact ⟨_,rfl,rfl,cg⟩
       refine zc.cons 8 rfl ?_ ?_
       ·intro T w' D Q H;have s:T.getD 24 undef=.pointer (zO (N+1) 0):=Q 24 (by as_aux_lemma=>kernel_rfl);have gx:=cell_later D fz.o;have gy:=cell_later D fA.o;have gz:=cell_later D gX.o;have gA:=cell_later D gY.o;have lO:=cell_later D ae.o;exact zs (by go_simp) rfl
       refine zc.cons 9 rfl ?_ ?_
       ·intro T w' D Q H;have s:T.getD 161 undef=.agg (ya (zn f)):=H 6 161 (by as_aux_lemma=>kernel_rfl);have G:T.getD 162 undef=.agg #[zI r.queue,zI r.fr,zI r.un,zI r.kind,.slice r.pa r.pn r.pc]:=H 7 162 (by as_aux_lemma=>kernel_rfl);refine Or.inr ⟨70,#[.agg (ya (zn f)),.agg #[zI r.queue,zI r.fr,zI r.un,zI r.kind,.slice r.pa r.pn r.pc]],by go_simp,?_⟩;refine (fw.o w' D).mono ?_;rintro e gt ⟨a,n,cap,rfl,ab,cg⟩;exact ⟨_,rfl,⟨a,n,cap,rfl,fun e=>(ab e).mono D.size⟩,cg⟩
       refine zc.cons 10 rfl ?_ ?_
       ·intro T w' D Q H;obtain ⟨a,n,cap,s,ab⟩:=H 8 163 (by as_aux_lemma=>kernel_rfl);exact Or.inl ⟨.tuple #[.slice a n cap,.bool ak.2],w',by go_simp,⟨a,n,cap,rfl,ab⟩,Below.refl _ _⟩
       refine zc.cons 11 rfl ?_ ?_
       ·intro T w' D Q H;obtain ⟨a,n,cap,s,ab⟩:=H 9 154 (by as_aux_lemma=>kernel_rfl);exact Or.inl ⟨.slice a n cap,w',by go_simp,⟨a,n,cap,rfl,ab⟩,Below.refl _ _⟩
       refine zc.cons 12 rfl ?_ ?_
       ·intro T w' D Q H;obtain ⟨a,n,cap,s,ab⟩:=H 9 154 (by as_aux_lemma=>kernel_rfl);exact zs (by go_simp) rfl
       refine zc.cons 13 rfl ?_ ?_
       ·intro T w' D Q H;obtain ⟨a,n,cap,s,ab⟩:=H 10 164 (by as_aux_lemma=>kernel_rfl);exact Or.inl ⟨.slice a n cap,w',by go_simp,⟨a,n,cap,rfl,ab⟩,Below.refl _ _⟩
       refine zc.cons 14 rfl ?_ ?_
       ·intro T w' D Q H;have s:T.getD 165 undef=.bool ak.2:=H 11 165 (by as_aux_lemma=>kernel_rfl);exact zs (by go_simp) rfl
       exact trivial
      case hfin =>
       intro T w' D av Q H;obtain ⟨a,m,cap,ar,ab⟩:=H 12 25 (by as_aux_lemma=>kernel_rfl);have js:T.getD 26 undef=.bool ak.2:=H 13 26 (by as_aux_lemma=>kernel_rfl);rw [yb (tt 25 [false,false,true,true,true,true,true,true,true,true,true,true,true,true,true,true,true,true,true,true,true,true,true,true,true,true,true,true,true,true,true,true,true,true,true,true,true,true,true,true,true,true,true,true,true,true,true,true,true,true,true,true,true,true,true,true,true,true,true,true,true,true,true,true,true,true,true,true,true,true,true,true,true,true,true,true,true,true,true,true,true,true,true,true,true,true,true,true,true,true,true,true,true,true,true,true,true,true,true,true,true,true,true,true,true,true,true,true,true,true,true,true,true,true,true,true,true,true,true,true,true,true,true,true,true,true,true,true,true,false,false,false,false,false,false,false,false,false,false,false,false] 57) (by kernel_rfl) av @Q];obtain ⟨us,di⟩:∃ us:Nat->Value,(fun d=>T.getD d undef)=us:=⟨_,rfl⟩;rw [di];have ju:us 25=.slice a m cap:=(by rw [<-di];exact ar);have jt:us 26=.bool ak.2:=(by rw [<-di];exact js);apply_assumption;simp only [xj,tt,List.replicate,List.cons_append,List.nil_append];go_meet;exact ⟨_,a,m,cap,rfl,ju,jt,ab,D⟩
     obtain ⟨bV,fa,fm,fc,rfl,rfl,rfl,cD,eS⟩:=hcut;obtain ⟨e8,io⟩:=ak;have gK:=zh (cP.o.later eS);have fg:=zh (ff.o.later eS);have iV:Zh (ao.heap.size<=bV.heap.size):=zh eS.size;have aZ:=zh cD;clear cD eS fx fw eB gB fz fA gX gY ae;cases io with
     | false =>
      have dz:Zh ((y9 c aL B X).2=false):=zh (by rw [gS.o]);obtain ⟨aN,bF⟩:=qB (bV);rw [<-bF];have cb:=gK;have b9:=fg;rw [<-bF] at cb b9;clear bF;obtain ⟨bU,_,_,_,_,_,_⟩:=b9.o.cells;obtain ⟨bp,aB⟩:=qB (aN.alloc (.cells #[zI X.id] 3));have aV:Below aN.heap.size aN bp:=(by rw [aB];exact zr _ _);have am:=cb.o.later aV;obtain ⟨dM,kd,ay,an,bB,a5,bj⟩:=ZC bp M (.slice a1 dr.length a2) dr X.id am.drow aN.heap.size (by rw [aB];exact heap_alloc_new aN _) (by omega) (by have:=am.ci.size;have:=am.ci.ord;omega);have dw:=zh (am.swap.more bB a5 bj).swap;have bE:=Vo dC.o aC.o.ci.says (by have:=aw.o;omega) (by rw [aD.o];exact dz.o);rw [aD.o] at bE;have dB:=zh bE;rw [aB] at an;clear aB aV am bB a5 bj bE;go_wp2_with (at_builtin;refine Lib.wpList_append_run _ rfl _ _ _ _ rfl _ _ rfl rfl _ _ an ?_)
      go_roundg (Z-(j+1))
      case measure=>omega
      case rel=>exact ⟨j+1,aQ,J,af,B,bS,mk,zO dM 0,kd,mv,dr++[X.id],rfl,by simp,by go_num,by omega,by omega,by simpa using dw.o,dB.o⟩
     | true =>
      have fN:=gS.o;obtain ⟨e1,f5⟩:=aZ.o rfl;obtain ⟨bU,_,_,_,_,_,_⟩:=fg.o.cells;obtain ⟨bp,aB⟩:=qB (bV.alloc (.cells #[zI X.id] 3));have aV:Below bV.heap.size bV bp:=(by rw [aB];exact zr _ _);have j3:bV.heap.size<=bp.heap.size:=aV.size;have am:=gK.o.later aV;obtain ⟨cY,el,aa,an,bB,a5,bj⟩:=ZC bp M (.slice bS mv.length mk) mv X.id am.mrow bV.heap.size (by rw [aB];exact heap_alloc_new bV _) (by omega) (by have:=am.ci.size;have:=am.ci.ord;omega);have ap:=zh (am.more bB a5 bj);have eY:∀ k,(Value.slice bS mv.length mk).ownBlock=some k->k<N:=fun k e=>by have:=(aC.o.mrow.lt k e).2;have:=eE.o;omega
      have hP:∀ k,(Value.slice a1 dr.length a2).ownBlock=some k->k<N:=fun k e=>by have:=(aC.o.drow.lt k e).2;have:=eE.o;omega
      have hm:P<N:=(by have:=aC.o.ci.size;have:=eE.o;omega);have jZ:=iU.o;have j0:=iV.o;have f1:RunsIn aa fa fm fc e8:=(e1.later aV).of_away fun s F z e=>a5.block F ((e1.later aV).lt s e) (fun O=>by have:=eY F O.symm;have:=(f5 F z e).1;omega);have hR:0<fm->∀ F z,fa=zO F z->(M<=F/\F≠P)/\(Value.slice (zO cY 0) (mv.length+1) el).ownBlock≠some F/\(Value.slice a1 dr.length a2).ownBlock≠some F:=fun s F z e=>by
       have G:=(f5 F z e).1;have V:=e1.lt s e;have bO:=aC.o.ci.ord;refine ⟨⟨by omega,by omega⟩,xc.2 (fun O=>?_),fun O=>?_⟩
       ·subst O;rcases bj with cz | cz
        ·have:=eY cY cz;omega
        omega
       have:=hP F O;omega
      have hL:ww aa N X:=(a5.block N (by omega) (fun e=>by have:=eY N e.symm;omega)).trans (fg.o.later aV);obtain ⟨X',dT⟩:∃ X':Bk,X'=⟨X.id,X.rq,fa,fm,fc,e8⟩:=⟨_,rfl⟩;obtain ⟨ae,da⟩:=qA (aa.heap.size);have jD:=aw.o;have fP:zH aa X'.rq:=(by rw [dT];show zH aa X.rq;rw [<-aD.o];exact ap.o.ai.inn.rqs j aW);have ht:0<X'.rq.pn->∀ F z,X'.rq.pa=zO F z->F<ae:=fun s F z e=>by rw [<-da];exact RunsIn.lt fP s e
      have hs:0<X'.bn->∀ F z,X'.ba=zO F z->F<ae:=fun s F z e=>by rw [dT] at s e;rw [<-da];exact f1.lt s e
      have aX:=Jz dC.o aC.o.ci.says (show j<ag.length by omega) (by rw [aD.o,fN]) fa fm fc;rw [aD.o,fN] at aX;have fs:Zh (Stl c (zi (yP l I rs)) (zg a0) (zg ag) (j+1) (zg (Zj B X')) (mv++[X.id]) dr):=(by rw [dT];exact zh aX);have cf:=ap.o.ci.st.2.len;have la:J<=12:=(by have:=ds.o.few;omega);have lc:=ap.o.ci.st.2.capb;have ld:=ap.o.ci.st.2.le;have iE:=zh f1;have fj:=zh hR;have gI:=zh hL;have i5:=zh dT;have bt:=zh da;have jb:=zh fP;have i9:=zh ht;have i8:=zh hs;have fo:=zh hm;have fk:Zh (∀ k,(Value.slice (zO cY 0) (mv.length+1) el).ownBlock=some k->k<ae):=zh fun k e=>by rw [<-da];exact (ap.o.mrow.lt k e).2
      have fi:Zh (∀ k,(Value.slice a1 dr.length a2).ownBlock=some k->k<ae):=zh fun k e=>by rw [<-da];exact (ap.o.drow.lt k e).2
      have fq:Zh (N+2<=ae):=zh (by have:=a5.size;omega);rw [aB] at an;clear fN e1 f5 aB aV j3 am bB a5 bj eY hP hm jZ j0 f1 hR hL dT da jD fP ht hs aX cf;go_wp2_with (at_builtin;refine Lib.wpList_append_run _ rfl _ _ _ _ rfl _ _ rfl rfl _ _ an ?_)
      clear an bU;go_wp2_with fail
      go_loopg [27,28] J (fun cy (kT kU:Value) bW=>∃ (i:Nat) (em:Option Addr) (en:Nat),kT=.slice em i en/\kU=zI i/\i<=J/\cy=J-i/\OwnBks bW ae (.slice em i en) (B.take i)/\(∀ q,q<i->(bk B q).id<X.id)/\Below ae aa bW)
      case atStart=>exact ⟨0,none,0,rfl,rfl,Nat.zero_le _,by simp,Gx _ _,fun q aK=>absurd aK (Nat.not_lt_zero _),Below.refl _ _⟩
      obtain ⟨i,em,en,rfl,rfl,aG,rfl,a3,bd,aU⟩:=hrel;have cC:Below aa.heap.size aa wr:=(by rw [bt.o];exact aU);have bw:=ap.o.later cC;have cE:=gI.o.later cC;have dx:=zh a3;have ct:=zh bd;have cr:=zh aU;have eD:=zh bw;have kW:=zh cE;obtain ⟨bL,bM,bu,bv⟩:=bw.ci.box.cells;obtain ⟨bU,es,et,eu,ev,ew,ex⟩:=cE.cells;have cf:=bw.ci.st.2.len;have df:i<=B.length:=(by omega);have c8:i=(B.take i).length:=(by simp;omega);have cq:=zh cf;have dy:=zh c8;have dE:Zh (ae<=wr.heap.size):=zh (by have:=aU.size;have:=bt.o;omega);obtain ⟨aS,dN⟩:=qA (decide (i<J/\(bk B i).id<X.id));have a7:=zh dN;clear dN;go_upto_region 38 with fail
      go_cut [193] (fun p ay=>∃ aI:World,aI=ay/\p=.bool aS/\Below wr.heap.size wr ay)
      case first =>
       by_cases bl:i<J
       ·have gg:decide (i<J)=true:=decide_eq_true bl;have eo:(i:Int)<J:=(by omega);have gh:¬((i:Int)<0):=(by omega);obtain ⟨dI,dJ,ar,aj⟩:=bw.ci.st.2.cells (by omega);subst ar;obtain ⟨cJ,_,_,_,_,_,_⟩:=aj i bl;obtain ⟨y,bG⟩:=qA ((bk B i).id);rw [bG] at cJ;by_cases ax:y<X.id
        ·have gi:decide (y<X.id)=true:=decide_eq_true ax;have aZ:Zh (aS=true):=zh (by rw [<-a7.o];exact decide_eq_true ⟨bl,by rw [bG];exact ax⟩);clear ax bG aj a3 bd aU cC bw cE cf c8;go_quiet (fail)
         all_goals (go_wp2_with fail)
         all_goals go_meet
         all_goals exact ⟨_,rfl,by rw [aZ.o],_root_.Go.below_drewN (Below.refl _ _) _⟩
        have gi:decide (y<X.id)=false:=decide_eq_false ax;have aZ:Zh (aS=false):=zh (by rw [<-a7.o];exact decide_eq_false fun h=>ax (by rw [<-bG];exact h.2));clear ax bG aj a3 bd aU cC bw cE cf c8;go_quiet (fail)
        all_goals (go_wp2_with fail)
        all_goals go_meet
        all_goals exact ⟨_,rfl,by rw [aZ.o],_root_.Go.below_drewN (Below.refl _ _) _⟩
       have gg:decide (i<J)=false:=decide_eq_false bl;have eo:¬((i:Int)<J):=(by omega);have aZ:Zh (aS=false):=zh (by rw [<-a7.o];exact decide_eq_false fun h=>bl h.1);clear a3 bd aU cC bw cE cf c8;go_quiet (fail)
       all_goals (go_wp2_with fail)
       all_goals go_meet
       all_goals exact ⟨_,rfl,by rw [aZ.o],_root_.Go.below_drewN (Below.refl _ _) _⟩
      obtain ⟨W0,rfl,rfl,ah⟩:=hcut;cases aS with
      | true =>
       obtain ⟨bl,ax⟩:=of_decide_eq_true a7.o;obtain ⟨u,ce⟩:=qA (bk B i);rw [ce] at ax;have fv:=zh ax;have bK:=zh ce;have fS:=bw.ci.st.2.rqs i bl;have fR:=bw.ci.st.2.bites i bl;rw [ce] at fS fR;have jf:=zh fS;have je:=zh fR;have eo:(i:Int)<J:=(by omega);have gh:¬((i:Int)<0):=(by omega);clear ax ce a3 bd aU cC bw cE cf c8 fS fR bL bM bu bv bU es et eu ev ew ex;obtain ⟨bL,bM,bu,bv⟩:=(eD.o.later ah).ci.box.cells;obtain ⟨k0,k1,ar,aj⟩:=(eD.o.later ah).ci.st.2.cells (by omega);subst ar;obtain ⟨cJ,ed,ee,ef,eg,eh,ei⟩:=aj i bl;rw [bK.o] at cJ ed ee ef eg eh ei;obtain ⟨aq,aA⟩:=qB (W0.alloc (.cells #[zI u.id,zI u.rq.queue,zI u.rq.fr,zI u.rq.un,zI u.rq.kind,.slice u.rq.pa u.rq.pn u.rq.pc,.slice u.ba u.bn u.bc] 60));have a9:Below W0.heap.size W0 aq:=(by rw [aA];exact zr _ _);have bm:=P6 W0 u (zH.later jf.o ah) (je.o.later ah);rw [<-aA] at bm;have b3:=(dx.o.later ah).later a9;have f7:(0<u.rq.pn->∀ F z,u.rq.pa=zO F z->F<ae)/\(0<u.bn->∀ F z,u.ba=zO F z->F<ae):=by
        have G:=ap.o.ci.st.blkLt;rw [bt.o] at G;refine ⟨fun s F z e=>G.ps i bl (by rw [bK.o];exact s) F z (by rw [bK.o];exact e),fun s F z e=>G.bs i bl (by rw [bK.o];exact s) F z (by rw [bK.o];exact e)⟩
       obtain ⟨fD,ek,be,an,au,cF,cI,cG,bz⟩:=Y5 aq ae em i en (B.take i) b3 dy.o (zO W0.heap.size 0) 1 1 [u] (ym bm) 38 (by omega) (by have:=dE.o;have:=ah.size;have:=a9.size;omega) (fun q aK=>by
        obtain rfl:q=0:=(by simp at aK;omega);refine ⟨fun s F z e O=>?_,fun s F z e O=>?_⟩
        ·have G:=f7.1 s F z e;have V:=(b3.row.lt F O).1;omega
        have G:=f7.2 s F z e;have V:=(b3.row.lt F O).1;omega)
       have ib:B.take i++[u]=B.take (i+1):=(by rw [List.take_succ_eq_append_getElem (show i<B.length by have:=cq.o;omega),<-bK.o,wI]);rw [ib] at au;have iK:=zh au;have iu:Zh (Below ae aa be):=zh (((cr.o.trans (ah.mono dE.o)).trans (a9.mono (by have:=dE.o;have:=ah.size;omega))).trans bz);rw [aA] at an;clear aj aA a9 bm b3 f7 au cF cI cG bz ib ah;go_wp2_with (at_builtin;refine Lib.wpList_append_run _ rfl _ _ _ _ rfl _ _ rfl rfl _ _ an ?_)
       clear an;go_wp2_with fail
       go_roundg (J-(i+1))
       case measure=>omega
       refine ⟨i+1,fD,ek,rfl,by go_num,by omega,by omega,iK.o,fun q aK=>?_,iu.o⟩;by_cases e:q<i
       ·exact ct.o q e
       obtain rfl:q=i:=(by omega);rw [bK.o];exact fv.o
      | false =>
       have dW:=of_decide_eq_false a7.o;have du:Zh (i=B.length\/¬(bk B i).id<X.id):=zh (by
        by_cases G:i<J
        ·exact Or.inr fun V=>dW ⟨G,V⟩
        exact Or.inl (by omega))
       clear dW a3 bd aU cC bw cE cf c8;clear bL bM bu bv bU es et eu ev ew ex;have b5:Below aa.heap.size aa W0:=(by rw [bt.o];exact cr.o.trans (ah.mono dE.o));obtain ⟨bU,es,et,eu,ev,ew,ex⟩:=(gI.o.later b5).cells;have jE:X'.id=X.id/\X'.rq=X.rq/\X'.ba=fa/\X'.bn=fm/\X'.bc=fc/\X'.bs=e8:=(by rw [i5.o];exact ⟨rfl,rfl,rfl,rfl,rfl,rfl⟩);obtain ⟨az,bq,aO,bf,gv,im⟩:=jE;obtain ⟨aq,aA⟩:=qB (W0.alloc (.cells #[zI X'.id,zI X'.rq.queue,zI X'.rq.fr,zI X'.rq.un,zI X'.rq.kind,.slice X'.rq.pa X'.rq.pn X'.rq.pc,.slice X'.ba X'.bn X'.bc] 60));have a9:Below W0.heap.size W0 aq:=(by rw [aA];exact zr _ _);have bm:=P6 W0 X' (zH.later jb.o b5) (by rw [aO,bf,gv,im];exact iE.o.later b5);rw [<-aA] at bm;have b3:=(dx.o.later ah).later a9;have hs0:=ah.size;have j1:=a9.size;have e3:=dE.o;obtain ⟨fC,e5,cp,f8,aE,jR,j4,jW,hB⟩:=Y5 aq ae em i en (B.take i) b3 dy.o (zO W0.heap.size 0) 1 1 [X'] (ym bm) 38 (by omega) (by omega) (fun q aK=>by
        obtain rfl:q=0:=(by simp at aK;omega);refine ⟨fun s F z e O=>?_,fun s F z e O=>?_⟩
        ·have G:=i9.o s F z e;have V:=(b3.row.lt F O).1;omega
        have G:=i8.o s F z e;have V:=(b3.row.lt F O).1;omega)
       have aF:Below aa.heap.size aa cp:=(by rw [bt.o] at b5 ⊢;exact (b5.trans (a9.mono (by omega))).trans hB);have c3:=(ap.o.later aF).ci.box.cells.2.2.2;have ln:i+1<=e5:=(ym aE).le;have fl:=zh aE;have fe:=zh aF;have fp:Zh (ae<=cp.heap.size):=zh (by omega);have fu:=zh (And.intro az (And.intro bq (And.intro aO bf)));rw [aA,az,bq,aO,bf,gv] at f8;clear b5 az bq aO bf gv im aA a9 bm b3 hs0 j1 e3 aE jR j4 jW hB aF ah;go_upto_region 42 with (at_builtin;refine Lib.wpList_append_run _ rfl _ _ _ _ rfl _ _ rfl rfl _ _ f8 ?_)
       clear f8 bU es et eu ev ew ex;cases aQ with
       | none =>
        have ih:¬0<J:=fun ih=>by
         obtain ⟨_,_,e,_⟩:=eD.o.ci.st.2.cells ih;cases e
        have dA:Zh (∀ R,Below aa.heap.size aa R->BksIn R none (J-i) (af-i) (B.drop i)):=zh fun R _=>by
         rw [show J-i=0 by omega,show B.drop i=[] from List.drop_eq_nil_of_le (by have:=cq.o;omega)];exact RE R _ (by omega)
        have aE:=fl.o;have aF:=fe.o;have d1:=fp.o;obtain ⟨az,bq,aO,bf⟩:=fu.o;have cm:=dA.o cp aF;obtain ⟨dF,ej,be,d0,au,cF,cI,cG,bz⟩:=Y5 cp ae fC (i+1) e5 (B.take i++[X']) aE (by rw [List.length_append];have:=dy.o;simp;omega) none (J-i) (af-i) (B.drop i) cm 38 (by omega) (by omega) (fun q aK=>by
         have G:=ap.o.ci.st.blkLt;rw [bt.o] at G;have hD:=cq.o;have dZ:bk (B.drop i) q=bk B (i+q):=(by unfold bk;simp only [List.getD,List.getElem?_drop]);have cl:i+q<J:=(by rw [List.length_drop] at aK;omega);rw [dZ];refine ⟨fun s F z e O=>?_,fun s F z e O=>?_⟩
         ·have bO:=G.ps (i+q) cl s F z e;have V:=(aE.row.lt F O).1;omega
         have bO:=G.bs (i+q) cl s F z e;have V:=(aE.row.lt F O).1;omega)
        have bx:Below aa.heap.size aa be:=(by rw [bt.o] at aF ⊢;exact aF.trans bz);rw [show B.take i++[X']++B.drop i=yL B i X' from by unfold yL;simp] at au;obtain ⟨Y,rfl⟩:∃ Y,dF=some ⟨Y,0,none⟩:=by
         rcases au.row.2 with ⟨_,s⟩ | ⟨Y,cap,fE,e,_⟩
         ·rw [YH X' df] at s;omega
         simp only [Value.slice.injEq] at e;exact ⟨Y,e.1⟩
        have dX:ae<=Y:=(au.row.lt Y (xP.2 rfl)).1;have dY:=fo.o;have d2:=fq.o;have ck:=ap.o.ci.ord;have cd:=(ap.o.later bx).ins aW (X':=X') (by rw [bq,aD.o]) (by rw [aO,bf];exact fj.o) au ⟨⟨by omega,by omega⟩,fun e=>by have:=fk.o Y e;omega,fun e=>by have:=fi.o Y e;omega⟩;have bC:yL B i X'=Zj B X':=(Oc ft.o df (by rw [az];exact ct.o) (by rw [az];rcases du.o with h | h;exact Or.inl h;exact Or.inr (by omega))).symm;have aX:=fs.o;rw [<-bC] at aX;have dD:=zh aX;have dt:=zh cd;have bA:=(ap.o.later bx).ci.box;have gZ:=bA.cells.2.2.2;have g5:∀ k,be.frozen? (zA P k)=false:=fun k=>frozen_of_row be P k _ _ bA;clear az bq aO bf aE d1 aF cm au cF cI cG bz bx dX dY d2 ck cd bC aX bA;go_wp2_with (at_builtin;refine Lib.wpList_append_run _ rfl _ _ _ _ rfl _ _ rfl rfl _ _ d0 ?_)
        go_roundg (Z-(j+1))
        case measure=>omega
        case rel=>exact ⟨j+1,zO Y 0,i+1+(J-i),ej,yL B i X',zO cY 0,el,a1,a2,mv++[X.id],dr,by simp,rfl,by go_num,by omega,by omega,by simpa using dt.o,dD.o⟩
       | some ad =>
        obtain ⟨dI,dJ,e6⟩:=ad;by_cases cj:af=i
        ·have jK:i=af:=cj.symm;clear cj;subst jK;have dA:Zh (∀ R,Below aa.heap.size aa R->BksIn R (some ⟨dI,dJ,e6⟩) 0 0 (B.drop i)):=zh fun R _=>by
          rw [show B.drop i=[] from List.drop_eq_nil_of_le (by have:=cq.o;omega)];exact RE R _ (by omega)
         have aE:=fl.o;have aF:=fe.o;have d1:=fp.o;obtain ⟨az,bq,aO,bf⟩:=fu.o;have cm:=dA.o cp aF;obtain ⟨dF,ej,be,d0,au,cF,cI,cG,bz⟩:=Y5 cp ae fC (i+1) e5 (B.take i++[X']) aE (by rw [List.length_append];have:=dy.o;simp;omega) (some ⟨dI,dJ,e6⟩) 0 0 (B.drop i) cm 38 (by omega) (by omega) (fun q aK=>by
          have G:=ap.o.ci.st.blkLt;rw [bt.o] at G;have hD:=cq.o;have dZ:bk (B.drop i) q=bk B (i+q):=(by unfold bk;simp only [List.getD,List.getElem?_drop]);have cl:i+q<J:=(by rw [List.length_drop] at aK;omega);rw [dZ];refine ⟨fun s F z e O=>?_,fun s F z e O=>?_⟩
          ·have bO:=G.ps (i+q) cl s F z e;have V:=(aE.row.lt F O).1;omega
          have bO:=G.bs (i+q) cl s F z e;have V:=(aE.row.lt F O).1;omega)
         have bx:Below aa.heap.size aa be:=(by rw [bt.o] at aF ⊢;exact aF.trans bz);rw [show B.take i++[X']++B.drop i=yL B i X' from by unfold yL;simp] at au;obtain ⟨Y,rfl⟩:∃ Y,dF=some ⟨Y,0,none⟩:=by
          rcases au.row.2 with ⟨_,s⟩ | ⟨Y,cap,fE,e,_⟩
          ·rw [YH X' df] at s;omega
          simp only [Value.slice.injEq] at e;exact ⟨Y,e.1⟩
         have dX:ae<=Y:=(au.row.lt Y (xP.2 rfl)).1;have dY:=fo.o;have d2:=fq.o;have ck:=ap.o.ci.ord;have cd:=(ap.o.later bx).ins aW (X':=X') (by rw [bq,aD.o]) (by rw [aO,bf];exact fj.o) au ⟨⟨by omega,by omega⟩,fun e=>by have:=fk.o Y e;omega,fun e=>by have:=fi.o Y e;omega⟩;have bC:yL B i X'=Zj B X':=(Oc ft.o df (by rw [az];exact ct.o) (by rw [az];rcases du.o with h | h;exact Or.inl h;exact Or.inr (by omega))).symm;have aX:=fs.o;rw [<-bC] at aX;have dD:=zh aX;have dt:=zh cd;have bA:=(ap.o.later bx).ci.box;have gZ:=bA.cells.2.2.2;have g5:∀ k,be.frozen? (zA P k)=false:=fun k=>frozen_of_row be P k _ _ bA;clear az bq aO bf aE d1 aF cm au cF cI cG bz bx dX dY d2 ck cd bC aX bA;go_wp2_with (at_builtin;refine Lib.wpList_append_run _ rfl _ _ _ _ rfl _ _ rfl rfl _ _ d0 ?_)
         go_roundg (Z-(j+1))
         case measure=>omega
         case rel=>exact ⟨j+1,zO Y 0,i+1+0,ej,yL B i X',zO cY 0,el,a1,a2,mv++[X.id],dr,by simp,rfl,by go_num,by omega,by omega,by simpa using dt.o,dD.o⟩
        have dA:Zh (∀ R,Below aa.heap.size aa R->BksIn R (some (Addr.add ⟨dI,dJ,e6⟩ (i*7))) (J-i) (af-i) (B.drop i)):=zh fun R jC=>by
         by_cases bl:i<J
         ·obtain ⟨fF,lC,cS,_⟩:=eD.o.ci.st.2.cells (show 0<J by omega);injection cS with cS;injection cS with b2 O cT;subst b2;subst O;subst cT;rw [Addr.add_lit];exact (ap.o.later jC).ci.st.2.drop (by omega)
         rw [show J-i=0 by omega,show B.drop i=[] from List.drop_eq_nil_of_le (by have:=cq.o;omega)];exact RE R _ (by omega)
        have aE:=fl.o;have aF:=fe.o;have d1:=fp.o;obtain ⟨az,bq,aO,bf⟩:=fu.o;have cm:=dA.o cp aF;obtain ⟨dF,ej,be,d0,au,cF,cI,cG,bz⟩:=Y5 cp ae fC (i+1) e5 (B.take i++[X']) aE (by rw [List.length_append];have:=dy.o;simp;omega) (some (Addr.add ⟨dI,dJ,e6⟩ (i*7))) (J-i) (af-i) (B.drop i) cm 38 (by omega) (by omega) (fun q aK=>by
         have G:=ap.o.ci.st.blkLt;rw [bt.o] at G;have hD:=cq.o;have dZ:bk (B.drop i) q=bk B (i+q):=(by unfold bk;simp only [List.getD,List.getElem?_drop]);have cl:i+q<J:=(by rw [List.length_drop] at aK;omega);rw [dZ];refine ⟨fun s F z e O=>?_,fun s F z e O=>?_⟩
         ·have bO:=G.ps (i+q) cl s F z e;have V:=(aE.row.lt F O).1;omega
         have bO:=G.bs (i+q) cl s F z e;have V:=(aE.row.lt F O).1;omega)
        have bx:Below aa.heap.size aa be:=(by rw [bt.o] at aF ⊢;exact aF.trans bz);rw [show B.take i++[X']++B.drop i=yL B i X' from by unfold yL;simp] at au;obtain ⟨Y,rfl⟩:∃ Y,dF=some ⟨Y,0,none⟩:=by
         rcases au.row.2 with ⟨_,s⟩ | ⟨Y,cap,fE,e,_⟩
         ·rw [YH X' df] at s;omega
         simp only [Value.slice.injEq] at e;exact ⟨Y,e.1⟩
        have dX:ae<=Y:=(au.row.lt Y (xP.2 rfl)).1;have dY:=fo.o;have d2:=fq.o;have ck:=ap.o.ci.ord;have cd:=(ap.o.later bx).ins aW (X':=X') (by rw [bq,aD.o]) (by rw [aO,bf];exact fj.o) au ⟨⟨by omega,by omega⟩,fun e=>by have:=fk.o Y e;omega,fun e=>by have:=fi.o Y e;omega⟩;have bC:yL B i X'=Zj B X':=(Oc ft.o df (by rw [az];exact ct.o) (by rw [az];rcases du.o with h | h;exact Or.inl h;exact Or.inr (by omega))).symm;have aX:=fs.o;rw [<-bC] at aX;have dD:=zh aX;have dt:=zh cd;have bA:=(ap.o.later bx).ci.box;have gZ:=bA.cells.2.2.2;have g5:∀ k,be.frozen? (zA P k)=false:=fun k=>frozen_of_row be P k _ _ bA;clear az bq aO bf aE d1 aF cm au cF cI cG bz bx dX dY d2 ck cd bC aX bA;go_wp2_with (at_builtin;refine Lib.wpList_append_run _ rfl _ _ _ _ rfl _ _ rfl rfl _ _ d0 ?_)
        go_roundg (Z-(j+1))
        case measure=>omega
        case rel=>exact ⟨j+1,zO Y 0,i+1+(J-i),ej,yL B i X',zO cY 0,el,a1,a2,mv++[X.id],dr,by simp,rfl,by go_num,by omega,by omega,by simpa using dt.o,dD.o⟩
   obtain rfl:j=Z:=(by omega);obtain ⟨bL,bM,bu,bv⟩:=aC.o.ci.box.cells;obtain ⟨cO,dm,dp,dq⟩:=aC.o.ci.res.cells;have lN:∀ k,wr.frozen? (zA (S+1) k)=false:=fun k=>frozen_of_row wr (S+1) k _ _ aC.o.ci.res;clear bP dQ e4 f0 gb;go_wp2_with fail
   have h9:=zk wr (S+1) 40 _ _ _ _ (zI c) (zI n) (.slice (zO A 0) U a6) (.slice aQ J af) aC.o.ci.res;have ck:=aC.o.ci.ord;have hcut:=Uw bI.o bJ.o.c0 cs.o gQ.o (b:=zg B) (mv:=mv) (dr:=dr) (by rw [zF,<-aw.o];exact dC.o);rw [PR,MF,MF] at hcut;have cz:S<=S+1:=(by omega);refine bodyPost_ret (v:=.tuple #[.agg (zS c n (zO A 0) U a6 aQ J af),.slice bS mv.length mk,.slice a1 dr.length a2,zI 0]) (yF Tryz.results65 _ _ (S+1) 40 (zS c n (zO A 0) U a6 aQ J af) (0,0) _ rfl h9.1 Tryz.underlying40 rfl (by kernel_rfl)) rfl ?_;refine ⟨c,n,zO A 0,U,a6,aQ,J,af,bS,mv.length,mk,a1,dr.length,a2,by rw [gL.o],Or.inr ⟨gL.o,aL,B,aC.o.ci.st.stand aC.o.ci.blk (fun k cj=>h9.2 k (by omega)),rfl,rfl,?_,?_,aC.o.ci.blk.new (fun k cj=>by have:=eK.o;omega)⟩,?_⟩
   ·rw [Int.toNat_natCast];exact aC.o.ci.says
   ·rw [Int.toNat_natCast,hcut]
   rw [eK.o];exact ((((aC.o.ci.below.setCell (p:=(zA (S+1) 0)) cz _).setCell (p:=(zA (S+1) 1)) cz _).setCell (p:=(zA (S+1) 2)) cz _).setCell (p:=(zA (S+1) 3)) cz _)
  | true =>
   obtain ⟨T,k,rfl,rfl,jB,cj,jT,aW,f4⟩:=II fh.o cs.o bY.o.says eC.o gD.o;have fW:=bY.o.st.2.len;have jP:=bY.o.st.1.len;obtain ⟨a8,fI⟩:=qA (wC aL a0 (T:Int) (k:Int) a0.length);have fy:=J6 w6 c n (zO A 0) U a6 aL dG bH dk a0 eG.o.st eC.o (by omega) T k (by omega);rw [fW,fI,<-fW] at fy;rw [fI] at aW f4;have iG:=zh fy;have iJ:=zh f4;have c6:a8<bH:=(by omega);obtain ⟨cO,dm,dp,dq⟩:=eG.o.box.cells;clear f4 fy fI jT aW fW jP jB cj;go_wp2_with fail
   refine iG.o.mono ?_;rintro e bo ⟨rfl,fU⟩;have cc:=zh (eG.o.later fU);have e9:=zh (gC.o.later fU);clear fU cO dm dp dq;obtain ⟨cO,dm,dp,dq⟩:=cc.o.box.cells;obtain ⟨jq,jr,jG,b6⟩:=cc.o.st.2.cells (by omega);subst jG;obtain ⟨X,bi⟩:=qA (bk a0 a8);obtain ⟨b1,c1,c2,c3,c4,c5,g0⟩:=b6 a8 c6;have cH:=cc.o.st.2.rqs a8 c6;have cD:=cc.o.st.2.bites a8 c6;rw [bi] at b1 c1 c2 c3 c4 c5 g0 cH cD;obtain ⟨aq,aA⟩:=qB (bo.alloc (.cells #[zI X.id,zI X.rq.queue,zI X.rq.fr,zI X.rq.un,zI X.rq.kind,.slice X.rq.pa X.rq.pn X.rq.pc,.slice X.ba X.bn X.bc] 60));have a9:Below bo.heap.size bo aq:=(by rw [aA];exact zr _ _);have bm:=P6 bo X cH cD;rw [<-aA] at bm;obtain ⟨aP,c9⟩:=qA (bo.heap.size);rw [c9] at bm;have g7:=e9.o.later a9;have lA:Z<=12:=by
    have G:=(cs.o.clean bI.o bJ.o.c0).2.2.2;have V:=bI.o.few;rw [zF,zF] at G;have bO:=bX.o.inn.len;omega
   have j9:aq.heap.size=aP+1:=(by rw [aA,<-c9];simp);obtain ⟨fD,ek,bV,an,cB,jS,j6,jX,hC⟩:=Y5 aq aP (zO aP 0) 1 1 [X] bm rfl ez Z eA ag g7.inn 38 (by omega) (by omega) (fun i aG=>by
    have Q:=bX.o.inn.len;refine ⟨fun s g z e O=>?_,fun s g z e O=>?_⟩
    ·have cT:aP=g:=xP.1 O;have:=RunsIn.lt (e9.o.inn.rqs i (by omega)) s e;omega
    have cT:aP=g:=xP.1 O;have:=(e9.o.inn.bites i (by omega)).lt s e;omega)
   have k5:(a8:Int)<bH:=(by omega);have c0:¬((a8:Int)<0):=(by omega);have ls:=cc.o.st.2.le;have lu:=cc.o.st.2.capb;rw [aA] at an;obtain ⟨al,rfl⟩:∃ al,fD=some ⟨al,0,none⟩:=by
    rcases cB.row.2 with ⟨_,s⟩ | ⟨al,cap,fE,e,_⟩
    ·simp at s
    simp only [Value.slice.injEq] at e;exact ⟨al,e.1⟩
   have jH:aP<=al:=(cB.row.lt al (xP.2 rfl)).1;have hy:Below aP bo bV:=by
    have G:=a9.trans (hC.mono (show bo.heap.size<=aP by omega));rw [c9] at G;exact G
   have hV:yL ag 0 X=[X]++ag:=(by rw [ID];rfl);rw [<-hV] at cB;have gc:=bX.o.inn.len;have gR:=zh cB;have iw:=zh hy;have aD:=zh bi;have eJ:=zh c9;have kZ:=zh cH;have aZ:=zh cD;have aw:=zh gc;have jL:=(ym cB).le;have lo:=(ym cB).capb;obtain ⟨aH,fJ⟩:=qA (1+Z);rw [fJ] at an gR jL;have br:=zh fJ;clear bm g7 cB jS j6 jX hC hy hV bi b6 cH cD a9 j9 aA gc fJ;go_wp2_with (at_builtin;refine Lib.wpList_append_run _ rfl _ _ _ _ rfl _ _ rfl rfl _ _ an ?_)
   clear an cO dm dp dq b1 c1 c2 c3 c4 c5 g0;go_wp2_with fail
   go_loopg [17] Z (fun cy (p:Value) bW=>∃ i:Nat,p=zI i/\i<=Z/\cy=Z-i/\OwnBks bW aP (.slice (zO al 0) aH ek) (yL ag i X)/\(∀ j,j<i->(bk ag j).id<X.id)/\Below aP bo bW)
   case atStart=>exact ⟨0,rfl,Nat.zero_le _,by simp,gR.o,fun j bb=>absurd bb (Nat.not_lt_zero _),iw.o⟩
   obtain ⟨i,rfl,aG,rfl,a3,bd,aU⟩:=hrel;have dx:=zh a3;have ct:=zh bd;have cr:=zh aU;have cA:aH=1+Z:=br.o.symm;have jO:(yL ag i X).length=aH:=(by rw [YH X (by have:=aw.o;omega)];have:=aw.o;omega);obtain ⟨j,bb⟩:=qA (i+1);have lm:IntKind.i64.wrap ((i:Int)+1)=(j:Int):=(by rw [IntKind.wrap_i64];omega);have bg:=ym a3;obtain ⟨fG,ge,ar,aj⟩:=bg.cells (by omega);injection ar with ar;injection ar with cw cx _;subst cw;subst cx;obtain ⟨aS,dN⟩:=qA (decide (i<Z/\(bk ag i).id<X.id));have a7:=zh dN;have dv:=zh bb;clear dN bb jO cA;go_upto_region 16 with fail
   go_cut [100] (fun p ay=>∃ aI:World,aI=ay/\p=.bool aS/\Below wr.heap.size wr ay)
   case first =>
    have bb:=dv.o;have cA:=br.o;by_cases aW:i<Z
    ·have ie:=(aj i (by omega)).1;have d5:=(aj j (by omega)).1;rw [Ro (by have:=aw.o;omega),Nat.zero_add] at ie;rw [<-bb,Rp (by have:=aw.o;omega),Nat.zero_add,bb] at d5;have gg:decide (j<aH)=true:=decide_eq_true (by omega);have eo:(j:Int)<aH:=(by omega);have kN:(i:Int)<aH:=(by omega);have gh:¬((i:Int)<0):=(by omega);have kO:¬((j:Int)<0):=(by omega);obtain ⟨x,d4⟩:=qA (X.id);obtain ⟨y,bG⟩:=qA ((bk ag i).id);rw [d4] at ie;rw [bG] at d5;by_cases ax:y<x
     ·have gi:decide (y<x)=true:=decide_eq_true ax;have aZ:Zh (aS=true):=zh (by rw [<-a7.o];exact decide_eq_true ⟨aW,by rw [bG,d4];exact ax⟩);clear a3 bd aU bg aj bb d4 bG cA ax;go_quiet (fail)
      all_goals (go_wp2_with fail)
      all_goals go_meet
      all_goals exact ⟨_,rfl,by rw [aZ.o],_root_.Go.below_drewN (Below.refl _ _) _⟩
     have gi:decide (y<x)=false:=decide_eq_false ax;have aZ:Zh (aS=false):=zh (by rw [<-a7.o];exact decide_eq_false fun h=>ax (by rw [<-bG,<-d4];exact h.2));clear a3 bd aU bg aj bb d4 bG cA ax;go_quiet (fail)
     all_goals (go_wp2_with fail)
     all_goals go_meet
     all_goals exact ⟨_,rfl,by rw [aZ.o],_root_.Go.below_drewN (Below.refl _ _) _⟩
    have gg:decide (j<aH)=false:=decide_eq_false (by omega);have eo:¬((j:Int)<aH):=(by omega);have aZ:Zh (aS=false):=zh (by rw [<-a7.o];exact decide_eq_false fun h=>aW h.1);clear a3 bd aU bg aj bb cA aW;go_quiet (fail)
    all_goals (go_wp2_with fail)
    all_goals go_meet
    all_goals exact ⟨_,rfl,by rw [aZ.o],_root_.Go.below_drewN (Below.refl _ _) _⟩
   obtain ⟨W0,rfl,rfl,ah⟩:=hcut;cases aS with
   | true =>
    obtain ⟨aW,ax⟩:=of_decide_eq_true a7.o;have fv:=zh ax;have bb:=dv.o;have cA:=br.o;have eo:(j:Int)<aH:=(by omega);have kN:(i:Int)<aH:=(by omega);have gh:¬((i:Int)<0):=(by omega);have kO:¬((j:Int)<0):=(by omega);clear a3 bd aU bg aj bb cA ax;have c7:=dx.o.later ah;have g8:=ym c7;obtain ⟨u,ce⟩:=qA (bk ag i);obtain ⟨fG,ge,ar,aj⟩:=g8.cells (by have:=br.o;omega);injection ar with ar;injection ar with cw cx _;subst cw;subst cx;have b7:=dv.o;obtain ⟨d6,d7,d8,d9,ea,eb,ec⟩:=aj i (by have:=br.o;omega);obtain ⟨cJ,ed,ee,ef,eg,eh,ei⟩:=aj j (by have:=br.o;omega);rw [Ro (by have:=aw.o;omega),Nat.zero_add] at d6 d7 d8 d9 ea eb ec;rw [<-b7,Rp (by have:=aw.o;omega),Nat.zero_add,ce,b7] at cJ ed ee ef eg eh ei;have eH:=zh c7;have gE:=zh ah;have bK:=zh ce;clear ah c7 g8 aj ce b7;have aR:∀ E:Obj,Below W0.heap.size W0 (W0.alloc E):=fun E=>zr _ _;have aT:∀ E W:Obj,Below W0.heap.size W0 ((W0.alloc E).alloc W):=fun E W=>(aR E).alloc (by simp) _;have ka:=fun E=>cell_later (aR E) d6;have kb:=fun E W=>cell_later (aT E W) d6;have kc:=fun E=>cell_later (aR E) d7;have ke:=fun E W=>cell_later (aT E W) d7;have kf:=fun E=>cell_later (aR E) d8;have kg:=fun E W=>cell_later (aT E W) d8;have kh:=fun E=>cell_later (aR E) d9;have ki:=fun E W=>cell_later (aT E W) d9;have kj:=fun E=>cell_later (aR E) ea;have kk:=fun E W=>cell_later (aT E W) ea;have kl:=fun E=>cell_later (aR E) eb;have km:=fun E W=>cell_later (aT E W) eb;have kn:=fun E=>cell_later (aR E) ec;have ko:=fun E W=>cell_later (aT E W) ec;have kp:=fun E=>cell_later (aR E) cJ;have kq:=fun E W=>cell_later (aT E W) cJ;have kr:=fun E=>cell_later (aR E) ed;have ks:=fun E W=>cell_later (aT E W) ed;have kt:=fun E=>cell_later (aR E) ee;have ku:=fun E W=>cell_later (aT E W) ee;have kv:=fun E=>cell_later (aR E) ef;have kw:=fun E W=>cell_later (aT E W) ef;have kx:=fun E=>cell_later (aR E) eg;have ky:=fun E W=>cell_later (aT E W) eg;have kz:=fun E=>cell_later (aR E) eh;have kA:=fun E W=>cell_later (aT E W) eh;have kB:=fun E=>cell_later (aR E) ei;have kC:=fun E W=>cell_later (aT E W) ei;clear aR aT;go_upto_region 18 with fail
    go_cut [18,19] (fun p q ay=>∃ (aI:World) (bN dK:Nat),aI=ay/\p=.pointer (zO bN 0)/\q=.pointer (zO dK 0)/\ay.heap[bN]?=some (.cells #[zI X.id,zI X.rq.queue,zI X.rq.fr,zI X.rq.un,zI X.rq.kind,.slice X.rq.pa X.rq.pn X.rq.pc,.slice X.ba X.bn X.bc] 60 (0,0))/\ay.heap[dK]?=some (.cells #[zI u.id,zI u.rq.queue,zI u.rq.fr,zI u.rq.un,zI u.rq.kind,.slice u.rq.pa u.rq.pn u.rq.pc,.slice u.ba u.bn u.bc] 60 (0,0))/\W0.heap.size<=bN/\W0.heap.size<=dK/\Below W0.heap.size W0 ay)
    case first =>
     go_region
     all_goals (go_wp2_with fail)
     all_goals go_meet
     ·refine ⟨_,W0.heap.size,W0.heap.size+1,rfl,rfl,rfl,(Below.heap_alloc (W0.alloc (.cells #[zI X.id,zI X.rq.queue,zI X.rq.fr,zI X.rq.un,zI X.rq.kind,.slice X.rq.pa X.rq.pn X.rq.pc,.slice X.ba X.bn X.bc] 60)) _ _ (by simp)).trans (heap_alloc_new W0 _),?_,Nat.le_refl _,by omega,?_⟩
      ·have:=heap_alloc_new (W0.alloc (.cells #[zI X.id,zI X.rq.queue,zI X.rq.fr,zI X.rq.un,zI X.rq.kind,.slice X.rq.pa X.rq.pn X.rq.pc,.slice X.ba X.bn X.bc] 60)) (.cells #[zI u.id,zI u.rq.queue,zI u.rq.fr,zI u.rq.un,zI u.rq.kind,.slice u.rq.pa u.rq.pn u.rq.pc,.slice u.ba u.bn u.bc] 60);rw [World.size_alloc] at this;exact this
      have D:=((Below.refl W0.heap.size W0).alloc (Nat.le_refl _) (.cells #[zI X.id,zI X.rq.queue,zI X.rq.fr,zI X.rq.un,zI X.rq.kind,.slice X.rq.pa X.rq.pn X.rq.pc,.slice X.ba X.bn X.bc] 60)).alloc (by simp) (.cells #[zI u.id,zI u.rq.queue,zI u.rq.fr,zI u.rq.un,zI u.rq.kind,.slice u.rq.pa u.rq.pn u.rq.pc,.slice u.ba u.bn u.bc] 60);exact ⟨D.os,D.tape,D.output,D.size,D.block⟩
     refine ⟨_,W0.heap.size+1,W0.heap.size,rfl,rfl,rfl,?_,(Below.heap_alloc (W0.alloc (.cells #[zI u.id,zI u.rq.queue,zI u.rq.fr,zI u.rq.un,zI u.rq.kind,.slice u.rq.pa u.rq.pn u.rq.pc,.slice u.ba u.bn u.bc] 60)) _ _ (by simp)).trans (heap_alloc_new W0 _),by omega,Nat.le_refl _,?_⟩
     ·have:=heap_alloc_new (W0.alloc (.cells #[zI u.id,zI u.rq.queue,zI u.rq.fr,zI u.rq.un,zI u.rq.kind,.slice u.rq.pa u.rq.pn u.rq.pc,.slice u.ba u.bn u.bc] 60)) (.cells #[zI X.id,zI X.rq.queue,zI X.rq.fr,zI X.rq.un,zI X.rq.kind,.slice X.rq.pa X.rq.pn X.rq.pc,.slice X.ba X.bn X.bc] 60);rw [World.size_alloc] at this;exact this
     have D:=((Below.refl W0.heap.size W0).alloc (Nat.le_refl _) (.cells #[zI u.id,zI u.rq.queue,zI u.rq.fr,zI u.rq.un,zI u.rq.kind,.slice u.rq.pa u.rq.pn u.rq.pc,.slice u.ba u.bn u.bc] 60)).alloc (by simp) (.cells #[zI X.id,zI X.rq.queue,zI X.rq.fr,zI X.rq.un,zI X.rq.kind,.slice X.rq.pa X.rq.pn X.rq.pc,.slice X.ba X.bn X.bc] 60);exact ⟨D.os,D.tape,D.output,D.size,D.block⟩
    obtain ⟨aI,bN,dK,rfl,rfl,rfl,d5,ig,lf,lg,hF⟩:=hcut;have bh:=eH.o.later hF;have g9:=ym bh;have lh:al<W0.heap.size:=(eH.o.row.lt al (xP.2 rfl)).2;obtain ⟨fG,ge,ar,aj⟩:=g9.cells (by have:=br.o;omega);injection ar with ar;injection ar with cw cx _;subst cw;subst cx;have b7:=dv.o;obtain ⟨d6,d7,d8,d9,ea,eb,ec⟩:=aj i (by have:=br.o;omega);rw [Nat.zero_add] at d6 d7 d8 d9 ea eb ec;have hJ:ww aI dK u:=ig;have hH:ww aI bN X:=d5;obtain ⟨bU,es,et,eu,ev,ew,ex⟩:=hJ.cells;obtain ⟨cv,dc⟩:=qB (Nt aI al (i*7) u);have hp:aP<=al:=jH;have eX:aH=(yL ag i X).length:=(by rw [YH X (by have:=aw.o;omega)];have:=aw.o;have:=br.o;omega);have gf:∀ k,aI.frozen? (zA al k)=false:=fun k=>by
     have bD:=bh.row;rw [<-eX] at bD;exact bD.frozenAt k
    have hW:bk (yL ag i X) j=u:=(by rw [<-b7,Rp (by have:=aw.o;omega)];exact bK.o);have hU:bk (yL ag i X) i=X:=Ro (by have:=aw.o;omega);have jI:i<aH:=(by have:=br.o;omega);have jJ:j<aH:=(by have:=br.o;omega);have hl:OwnBks cv aP (.slice (zO al 0) aH ek) ((yL ag i X).set i u):=by
     rw [dc];have cU:=bh.rqs j (by omega);have cV:=bh.bites j (by omega);have cW:=bh.farP j (by omega);have cX:=bh.farB j (by omega);rw [hW] at cU cV cW cX;exact LX bh eX jI cU cV (fun s A z e=>(xc.1 (cW s A z e)).symm) (fun s A z e=>(xc.1 (cX s A z e)).symm)
    have hz:Below aP bo cv:=(by rw [dc];exact Rx ((cr.o.trans (gE.o.mono (by have:=cr.o.size;have:=eJ.o;omega))).trans (hF.mono (by have:=cr.o.size;have:=gE.o.size;have:=eJ.o;omega))) hp _ _);have hI:ww cv bN X:=(by rw [dc];exact (Wj aI al (i*7) u bN (by omega)).trans hH);have hQ:zH cv X.rq/\RunsIn cv X.ba X.bn X.bc X.bs/\(0<X.rq.pn->∀ A z,X.rq.pa=zO A z->A≠al)/\(0<X.bn->∀ A z,X.ba=zO A z->A≠al):=by
     have cU:=bh.rqs i (by omega);have cV:=bh.bites i (by omega);have cW:=bh.farP i (by omega);have cX:=bh.farB i (by omega);rw [hU] at cU cV cW cX;have ii:0<X.rq.pn->∀ A z,X.rq.pa=zO A z->A≠al:=fun s A z e=>(xc.1 (cW s A z e)).symm;have ij:0<X.bn->∀ A z,X.ba=zO A z->A≠al:=fun s A z e=>(xc.1 (cX s A z e)).symm;rw [dc];exact ⟨RunsIn.of_away cU (fun s A z e=>Wj aI al (i*7) u A (ii s A z e)),cV.of_away (fun s A z e=>Wj aI al (i*7) u A (ij s A z e)),ii,ij⟩
    have fn:=zh hl;have ix:=zh hz;have i7:=zh hI;have eF:=zh hQ;have gP:=zh eX;have fO:=dc;unfold Nt at fO;have i3:=zh fO;clear bh g9 aj b7 hJ hH dc fO hl hz hI hQ eX hW hU d5 ig ka kb kc ke kf kg kh ki kj kk kl km kn ko kp kq kr ks kt ku kv kw kx ky kz kA kB kC;go_upto_region 20 with fail
    rw [<-i3.o];obtain ⟨lF,lG,lH,lI,lJ,lK,lL⟩:=i7.o.cells;have k3:∀ k,cv.frozen? (zA al k)=false:=fun k=>by
     have bD:=fn.o.row;rw [List.length_set,<-gP.o] at bD;exact bD.frozenAt k
    obtain ⟨fG,ge,ar,aj⟩:=(ym fn.o).cells (by omega);injection ar with ar;injection ar with cw cx _;subst cw;subst cx;obtain ⟨kG,kH,kI,kJ,kK,kL,kM⟩:=aj j (by omega);rw [Nat.zero_add] at kG kH kI kJ kK kL kM;clear aj;go_wp2_with fail
    have b7:=dv.o;have hk:=LX fn.o (by rw [List.length_set];exact gP.o) jJ eF.o.1 eF.o.2.1 eF.o.2.2.1 eF.o.2.2.2;rw [<-b7,<-bK.o,IC (by have:=aw.o;omega),b7] at hk;have jF:Below aP bo (Nt cv al (j*7) X):=Rx ix.o hp _ _;go_roundg (Z-j)
    case measure=>omega
    refine ⟨j,rfl,by omega,by omega,hk,fun gd lk=>?_,jF⟩;by_cases e:gd<i
    ·exact ct.o gd e
    obtain rfl:gd=i:=(by omega);exact fv.o
   | false =>
    have dW:=of_decide_eq_false a7.o;have du:Zh (i=Z\/¬(bk ag i).id<X.id):=zh (by
     by_cases G:i<Z
     ·exact Or.inr fun V=>dW ⟨G,V⟩
     exact Or.inl (by omega))
    clear dW a3 bd aU bg aj;have hx:Below bo.heap.size bo wr:=(by rw [eJ.o];exact cr.o);have c0:=(cc.o.later hx).later ah;have c7:=dx.o.later ah;have iH:=zh (QO W0 c n (zO A 0) U a6 aL (zO jq jr) bH dk a0 c0.st (Yn c0.st eC.o) a8 c6);obtain ⟨gx,gy,gz,gA⟩:=c0.box.cells;have gN:=zh c0;have eH:=zh c7;clear ah hx c0 c7;go_wp2_with fail
    refine iH.o.mono ?_;rintro e aa ⟨v,rfl,jw,kD,kF,aQ,kE,B,rfl,ia,h4,b5,fV,hj⟩;have eN:=gN.o.later fV;obtain ⟨hh,hZ⟩:=eN.store ia (hj.mono gN.o.size) (h4.trans bY.o.says);have j5:=cc.o.size;have ck:=bY.o.ord;have jz:=eJ.o;have g6:=((Fe bX.o (X:=X) (fun s g z e=>bY.o.blk.ps a8 c6 (by rw [aD.o];exact s) g z (by rw [aD.o];exact e)) (fun s g z e=>bY.o.blk.bs a8 c6 (by rw [aD.o];exact s) g z (by rw [aD.o];exact e)) (i:=i) eH.o ⟨by omega,by omega⟩).later fV).keep hZ;have bC:=Gi cs.o bI.o bJ.o.c0 ((Ou b).2 (X8 bJ.o).1) (i:=i) (X:=X) (by have:=aw.o;omega) ct.o (by have:=aw.o;rcases du.o with h | h;exact Or.inl (by omega);exact Or.inr (by omega));have f3:=iJ.o;rw [aD.o,<-bC,show zg (wU a0 a8)=zg B from b5.symm] at f3;have lE:∀ k,aa.frozen? (zA P k)=false:=fun k=>frozen_of_row aa P k _ _ eN.box;clear gx gy gz gA;obtain ⟨gx,gy,gz,gA⟩:=eN.box.cells;have iF:=zh hh;have ir:=zh g6;have iI:=zh f3;clear ia h4 b5 fV hj eN hh hZ g6 bC f3 j5 ck jz;go_wp2_with fail
    go_roundg (bH-1)
    case measure=>omega
    case rel=>exact ⟨jw,kD,kF,aQ,bH-1,kE,B,zO al 0,aH,ek,yL ag i X,rfl,rfl,iF.o,ir.o,iI.o⟩
theorem OO:Vv:=by
 intro w c n k d m l ba bn bc b h f q g j i rs p;by_cases r:0<=q/\q<d
 ·obtain ⟨a,rfl⟩:∃ a:Nat,q=a:=⟨q.toNat,by omega⟩;cases o:yR rs with
  | false=>exact (JP w c n k d m l ba bn bc b h f a (by omega) g j i rs p o).mono fun e w' h=>h
  | true=>exact (GR w c n k d m l ba bn bc b h f a (by omega) g j i rs p o).mono fun e w' h=>h
 exact (JQ w c n k d m l ba bn bc b h f q g j i rs r).mono fun e w' h=>h
end Go.Proofs.YtckpdfkobdgjeaaGreatDoor
