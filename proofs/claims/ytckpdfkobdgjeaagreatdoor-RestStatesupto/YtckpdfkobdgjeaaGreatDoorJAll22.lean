/- Several texts in one: RefL, RefM, RefN, SameA, NoneA. -/
import Derived.Test.YtckpdfkobdgjeaaGreatDoorJRefK
import Derived.BigQuiet
import Derived.Test.YtckpdfkobdgjeaaGreatDoorJAll21
import Derived.Test.YtckpdfkobdgjeaaGreatDoorJAll12
import Derived.Test.YtckpdfkobdgjeaaGreatDoorJRunsAll
import Derived.Deep.LoopGhost
import Derived.Test.YtckpdfkobdgjeaaGreatDoorJAll5
import Derived.Test.YtckpdfkobdgjeaaGreatDoorJAll7
import Derived.Test.YtckpdfkobdgjeaaGreatDoorJAll18
namespace Go.Proofs.YtckpdfkobdgjeaaGreatDoor
set_option maxRecDepth 100000
set_option maxHeartbeats 4000000
open Go.RowKit
set_option linter.unusedSectionVars false
variable [Inhabited Mk]
theorem zzIOx {l:QL} {x:Bk} (h:ZZ l x=0):yI l x.rq=0:=by
 unfold ZZ at h;by_cases a:yI l x.rq=0
 ·exact a
 rw [if_neg a] at h;exact h
theorem F7 (w:World) (H:Option Addr) (J I:Nat) (l:QL) (aj:Option Addr) (j y:Nat) (b:BL) (h:zY w H J I l aj j y b) :
 zC 97 #[.slice H J I,.slice aj j y] w fun e w'=>∃ aa:Int,e=.returned (zI aa)/\(aa=0↔Clean l b)/\Below w.heap.size w w':=by
 have aI:=zh h;have z:=zh h.2.len;have aY:=h.2.le;have aX:=h.2.capb;have O:=zh (Yw w H J I l h.1);obtain ⟨B,S⟩:=qA (z9 l);rw [S] at O;have ah:=zh S;clear h S;go_enter Tryz.func97,Tryz.ntmps97;go_wp2_with fail
 refine O.o.mono ?_;rintro e a3 ⟨rfl,al⟩;have L:=zh al;clear al O;by_cases E:B=0
 case neg =>
  have aV:(B != 0)=true:=by simpa using E
  have aJ:=zh E;clear E;go_wp2;go_ret;exact ⟨B,rfl,⟨fun h=>absurd h aJ.o,fun x=>ah.o.symm.trans x.tree⟩,L.o⟩
 subst E;by_cases aT:12<j
 ·have am:(12:Int)<j:=by omega
  have aW:decide ((12:Int)<j)=true:=decide_eq_true am;go_wp2;go_ret;exact ⟨2,rfl,⟨fun h=>absurd h (by decide),fun x=>by have:=x.few;have:=z.o;omega⟩,L.o⟩
 have am:¬((12:Int)<j):=by omega
 go_wp2_with fail
 go_loopg [6] j (fun aP (p:Value) wr=>∃ (k:Nat),p=zI k/\k<=j/\aP=j-k/\(∀ i,i<k->ZZ l (bk b i)=0)/\zL w wr)
 case atStart=>exact ⟨0,rfl,Nat.zero_le _,by simp,fun i Y=>absurd Y (Nat.not_lt_zero _),L.o⟩
 case round =>
  obtain ⟨k,rfl,aZ,rfl,ap,V⟩:=hrel;have ae:=zh V;have af:=zh ap;clear ap;by_cases Z:k<j
  ·have a0:(k:Int)<j:=(by omega);have a1:¬((k:Int)<0):=(by omega);have C:=aI.o.later V;obtain ⟨s,t,aQ,ao⟩:=C.2.cells (by omega);subst aQ;obtain ⟨X,U⟩:=qA (bk b k);obtain ⟨ak,c1,c2,c3,c4,c5,P⟩:=ao k Z;have G:=C.2.rqs k Z;have W:=C.2.bites k Z;rw [U] at ak c1 c2 c3 c4 c5 P G W;have ai:=zh (Ue wr H J I l C.1 X.rq G);obtain ⟨A,R⟩:=qA (yI l X.rq);obtain ⟨Mb,Q⟩:=qA (meets X.rq X.bs);rw [R] at ai;have M:=zh R;have ag:=zh Q;have N:=zh U;have aL:Zh (∀ n,zL wr n->zC 148 #[.agg (zR X.rq),.slice X.ba X.bn X.bc] n fun e w'=>e=.returned (.bool Mb)/\zL n w'):=fun n F=>by
    have:=OM n X.rq (G.later F) X.ba X.bn X.bc X.bs (W.later F);rwa [Q] at this
   have aB:=zh c1;have aC:=zh c2;have aD:=zh c3;have aE:=zh c4;have aF:=zh c5;have aG:=zh P;clear C ao G W U V R Q;go_wp2_with fail
   refine ai.o.mono ?_;rintro e ar ⟨rfl,r⟩;have aK:Zh (∀ n,zL ar n->zC 148 #[.agg (zR X.rq),.slice X.ba X.bn X.bc] n fun e w'=>e=.returned (.bool Mb)/\zL n w'):=fun n F=>aL.o n (za r F);have av:=zh (cell_later r aB.o);have aw:=zh (cell_later r aC.o);have ax:=zh (cell_later r aD.o);have ay:=zh (cell_later r aE.o);have az:=zh (cell_later r aF.o);have aA:=zh (cell_later r aG.o);have ab:=zh (za ae.o r);clear ak c1 c2 c3 c4 c5 P r;by_cases D:A=0
   case neg =>
    have aU:(A != 0)=true:=(by simpa using D);have aH:=zh D;clear D;go_wp2;go_ret;exact ⟨A,rfl,⟨fun h=>absurd h aH.o,fun x=>M.o.symm.trans (zzIOx (N.o ▸ x.each k (by have:=z.o;omega)))⟩,ab.o⟩
   subst D;go_upto_region 12 with fail
   go_cut [43] (fun p au=>∃ aM,aM=au/\p=.bool (!Mb)/\zL ar au)
   case first =>
    refine zV ((Tryz.f97.body.bind fun c=>yi c 12).getD #[]) (by kernel_rfl) [zl (.slice (zO s t) j y),zl (zI k),zl (.pointer (zO s (t+k*7))),zl (.pointer (zO s (t+k*7+1))),zl (.agg (zR X.rq)),zl (.slice (zO s t) j y),zl (zI k),zl (.pointer (zO s (t+k*7))),zl (.pointer (zO s (t+k*7+6))),zl (.slice X.ba X.bn X.bc),zl (.bool Mb),zl (.bool (!Mb))] [] (by kernel_rfl) (by kernel_rfl) (by kernel_rfl) ?hg ?hstep ?hfin
    case hg =>
     intro g hg v w h;cases hg
    case hstep =>
     refine zc.cons 1 rfl ?_ ?_
     ·intro T w' f m a;have q:T.getD 1 undef=.slice (zO s t) j y:=m 1;exact zs (by go_simp) rfl
     refine zc.cons 2 rfl ?_ ?_
     ·intro T w' f m a;have q:T.getD 6 undef=zI k:=m 6;exact zs (by go_simp) rfl
     refine zc.cons 3 rfl ?_ ?_
     ·intro T w' f m a;have q:T.getD 32 undef=_:=a 0 32;have u:T.getD 33 undef=_:=a 1 33;exact zs (by go_simp) rfl
     refine zc.cons 4 rfl ?_ ?_
     ·intro T w' f m a;have q:T.getD 34 undef=_:=a 2 34;exact zs (by go_simp) rfl
     refine zc.cons 5 rfl ?_ ?_
     ·intro T w' f m a;have q:T.getD 35 undef=_:=a 3 35;have a5:=cell_later f av.o;have a6:=cell_later f aw.o;have a7:=cell_later f ax.o;have a8:=cell_later f ay.o;have a9:=cell_later f az.o;exact zs (by go_simp) rfl
     refine zc.cons 6 rfl ?_ ?_
     ·intro T w' f m a;have q:T.getD 1 undef=.slice (zO s t) j y:=m 1;exact zs (by go_simp) rfl
     refine zc.cons 7 rfl ?_ ?_
     ·intro T w' f m a;have q:T.getD 6 undef=zI k:=m 6;exact zs (by go_simp) rfl
     refine zc.cons 8 rfl ?_ ?_
     ·intro T w' f m a;have q:T.getD 37 undef=_:=a 5 37;have u:T.getD 38 undef=_:=a 6 38;exact zs (by go_simp) rfl
     refine zc.cons 9 rfl ?_ ?_
     ·intro T w' f m a;have q:T.getD 39 undef=_:=a 7 39;exact zs (by go_simp) rfl
     refine zc.cons 10 rfl ?_ ?_
     ·intro T w' f m a;have q:T.getD 40 undef=_:=a 8 40;have ba:=cell_later f aA.o;exact zs (by go_simp) rfl
     refine zc.cons 11 rfl ?_ ?_
     ·intro T w' f m a;have q:T.getD 36 undef=_:=a 4 36;have u:T.getD 41 undef=_:=a 9 41;refine Or.inr ⟨148,#[.agg (zR X.rq),.slice X.ba X.bn X.bc],by go_simp,?_⟩;refine (aK.o w' f).mono ?_;rintro e a2 ⟨rfl,aR⟩;exact ⟨_,rfl,rfl,aR⟩
     refine zc.cons 12 rfl ?_ ?_
     ·intro T w' f m a;have q:T.getD 42 undef=_:=a 10 42;exact zs (by go_simp) rfl
     exact trivial
    intro T w' f aS m a;have aN:T.getD 43 undef=.bool (!Mb):=a 11 43;rw [yb (tt 32 [false,false,false,false,false,false,false,false,false,false,false,false] 0) (by kernel_rfl) aS @m];obtain ⟨us,aq⟩:∃ us:Nat->Value,(fun d=>T.getD d undef)=us:=⟨_,rfl⟩;rw [aq];have aO:us 43=.bool (!Mb):=(by rw [<-aq];exact aN);apply_assumption;simp only [xj,tt,List.replicate,List.cons_append,List.nil_append];go_meet;exact ⟨_,rfl,aO,f⟩
   obtain ⟨a4,rfl,rfl,an⟩:=hcut;have ad:=zh (za ab.o an);clear an;cases Mb with
   | false =>
    go_wp2;go_ret;refine ⟨1,rfl,⟨fun h=>absurd h (by decide),fun x=>?_⟩,ad.o⟩;have u:=x.each k (by have:=z.o;omega);rw [N.o] at u;unfold ZZ at u;rw [if_pos M.o,if_neg (by rw [ag.o];decide)] at u;exact u
   | true =>
    go_wp2;go_roundg (j-(k+1))
    case measure=>omega
    refine ⟨k+1,by go_num,by omega,rfl,fun i Y=>?_,ad.o⟩;by_cases e:i<k
    ·exact af.o i e
    obtain rfl:i=k:=(by omega);rw [N.o];unfold ZZ;rw [if_pos M.o,if_pos ag.o]
  obtain rfl:j=k:=by omega
  go_wp2;go_ret;exact ⟨0,rfl,⟨fun _=>⟨ah.o,by have:=z.o;omega,fun i Y=>af.o i (by have:=z.o;omega)⟩,fun _=>rfl⟩,ae.o⟩
theorem SN (w:World) (r:Rq) (h:zH w r) (ak:Option Addr) (c am:Nat) (b:zd) (q:RunsIn w ak c am b) :
 Calls Tryz.prog 98 #[.agg #[.int .i64 r.queue,.int .i64 r.fr,.int .i64 r.un,.int .i64 r.kind,.slice r.pa r.pn r.pc],.slice ak c am] w fun e w'=>e=.returned (.tuple #[.int .i64 (if yd r b=true then zJ r b b.length else 0),.int .i64 (if yd r b=true then 0 else 1)])/\Below w.heap.size w w':=by
 have B:=zh q.len;have aW:=q.le;have aV:=q.capb;have n:=zh ((Below.refl w.heap.size w).alloc (Nat.le_refl _) (.cells #[.int .i64 r.queue,.int .i64 r.fr,.int .i64 r.un,.int .i64 r.kind,.slice r.pa r.pn r.pc] 24));have t:=zh fun f (q:Below w.heap.size w f)=>Ub f r (h.later q);have S:=zh (wn w r);by_cases C:c=0
 ·have d:=Xa (show yd r b=false by rw [yd,<-B.out,C];simp);rw [d.1,d.2];clear d;subst C;go_enter Tryz.func98,Tryz.ntmps98;go_wp2;go_ret2
  exact ⟨rfl,n.out⟩
 have ax:0<c:=by omega
 have aT:¬(c:Int)=0:=by omega
 by_cases o:z8 false r=0
 ·have A:decide (z8 false r=0)=true:=by rw [o];rfl
  rw [A] at t;have aw:=h.len;have aM:=of_decide_eq_true (zv.1 o).2.1;have aN:0<r.pn:=by omega
  have aY:r.pn<=3:=by omega
  have Q:=zh aw;have J:=zh o;obtain ⟨aA,aB,W,av⟩:=h.cells aN;obtain ⟨al,an,rfl,ar⟩:=q.cells ax;rw [W] at t S n;rw [W];have aZ:IntKind.i64.wrap ((r.pn:Int)-1)=r.pn-1:=by rw [IntKind.wrap_i64];omega
  have M:=zh ar;have ag:=zh av;obtain ⟨u,z⟩:∃ u:Value×Value,(.int .i64 (if yd r b=true then zJ r b b.length else 0),.int .i64 (if yd r b=true then 0 else 1))=u:=⟨_,rfl⟩;have ah:Value.int .i64 (if yd r b=true then zJ r b b.length else 0)=u.1:=by rw [<-z]
  have ai:Value.int .i64 (if yd r b=true then 0 else 1)=u.2:=by rw [<-z]
  rw [ah,ai];have aj:Zh (∀ j,j<c->Xh r (zp b j) (rN b j)=false->u=(.int .i64 0,.int .i64 1)):=fun j au V=>by
   have d:=Xa (show yd r b=false by rw [yd,U8,<-B.out,yO (p:=fun i=>Xh r (zp b i) (rN b i)) V c au];simp);rw [<-z,d.1,d.2]
  have aH:Zh (zQ (fun i=>Xh r (zp b i) (rN b i)) c=true->u=(.int .i64 (zJ r b c),.int .i64 0)):=fun V=>by
   have d:=RK (show yd r b=true by rw [yd,U8,<-B.out,V,J.out];simp;exact ax);rw [<-z,d.1,d.2,<-B.out]
  clear z ah ai ar av A o W h q aw aM C;go_enter Tryz.func98,Tryz.ntmps98;go_wp2_with fail
  refine (t.out _ n.out).mono ?_;rintro e f ⟨rfl,s⟩;have m:=zh (za n.out s);have aG:=zh fun X (aL:Below f.heap.size f X)=>S.out X (za s aL);have ad:Zh (∀ i,i<c->f.cell? ⟨al,an+i*2,none⟩=some (.int .i64 (zp b i))/\f.cell? ⟨al,an+i*2+1,none⟩=some (.int .i64 (rN b i))):=fun i E=>⟨cell_later m.out (M.out i E).1,cell_later m.out (M.out i E).2⟩;have aD:Zh (∀ i,i<r.pn->f.cell? ⟨aA,aB+i*2,none⟩=some (.int .i64 (zp r.ps i))):=fun i E=>cell_later m.out (ag.out i E).1;clear s M ag S n t;go_wp2_with fail
  go_loopw [6,7] (fun aP ab wr=>∃ j:Nat,ab=.int .i64 j/\j<=c/\aP=.int .i64 (zJ r b j)/\zQ (fun i=>Xh r (zp b i) (rN b i)) j=true/\Below f.heap.size f wr) (fun _ ab _=>c-(intOf ab).toNat)
  case atStart=>exact ⟨0,rfl,by omega,rfl,rfl,Below.refl _ _⟩
  obtain ⟨j,rfl,au,rfl,ap,aq⟩:=hrel;have H:=zh ap;have l:=zh aq;clear ap aq;by_cases F:j<c
  ·have aX:(j:Int)<c:=by omega
   have aI:=cell_later l.out (ad.out j F).1;have aJ:=cell_later l.out (ad.out j F).2;obtain ⟨aS,c1,c2,c3,c4⟩:=aG.out wr l.out;have af:=zh (VR J.out H.out j (Nat.le_refl _));have ae:Zh (j=0->zJ r b j=0):=fun e=>by rw [e];rfl
   obtain ⟨x,G⟩:=qA (zJ r b j);rw [G];rw [G] at af ae;have aF:=zh G;obtain ⟨aQ,Y⟩:∃ x,zp b j=x:=⟨_,rfl⟩;obtain ⟨a,Z⟩:∃ x,rN b j=x:=⟨_,rfl⟩;rw [Y] at aI;rw [Z] at aJ;have O:=zh Y;have R:=zh Z;clear Y Z G;cases g:yW aQ 0 ((r.pn:Int)-1) with
   | false =>
    have v:=zh (aj.out j F (by rw [Xh,O.out,<-Q.out,g];rfl));go_wp2_with fail
    go_quiet ((go_at_call 33;exact Calls.quiet_of_same (zo _ _ _ _)))
    go_wp2;go_ret2
    exact ⟨by rw [v.out];rfl,za m.out (_root_.Go.below_drewN l.out _)⟩
   | true =>
    cases U:yW a 0 48 with
    | false =>
     have v:=zh (aj.out j F (by rw [Xh,R.out,U];simp));go_wp2_with fail
     go_quiet ((go_at_call 33;exact Calls.quiet_of_same (zo _ _ _ _)))
     go_wp2;go_ret2
     exact ⟨by rw [v.out];rfl,za m.out (_root_.Go.below_drewN l.out _)⟩
    | true =>
     have ay:=of_decide_eq_true g;have az:=of_decide_eq_true U;have I:Zh (zQ (fun i=>Xh r (zp b i) (rN b i)) (j+1)=true):=by
      show zQ (fun i=>Xh r (zp b i) (rN b i)) (j+1)=true;rw [zQ,H.out,Xh,O.out,R.out,<-Q.out,g,U];rfl
     obtain ⟨P,rfl⟩:=Int.eq_ofNat_of_zero_le ay.1;have aK:P<r.pn:=by omega
     have aU:(P:Int)<r.pn:=by omega
     obtain ⟨L,D⟩:=qA (zp r.ps P);have ao:1<=L/\L<=24:=by
      have:=yh J.out (k:=P) (by have:=Q.out;omega);rw [D] at this;exact ⟨this.1,this.2.1⟩
     have a1:wr.cell? ⟨aA,aB+P*2,none⟩=some (.int .i64 L):=by rw [<-D];exact cell_later l.out (aD.out P aK)
     have N:Zh (zJ r b (j+1)=max x (a+L)):=by
      show zJ r b (j+1)=max x (a+L);rw [zJ,aF.out,Z6,lenOf,O.out,R.out,Int.toNat_natCast,D]
     have a0:IntKind.i64.wrap (a+L)=a+L:=by rw [IntKind.wrap_i64];omega
     have aC:=zh ao;have aE:=zh az;clear D ay az ao;go_wp2_with fail
     go_quiet ((go_at_call 33;exact Calls.quiet_of_same (zo _ _ _ _)))
     go_wp2_with fail
     go_quiet (fail)
     by_cases aa:(j:Int)=0
     ·have y:Zh (max x (a+L)=a+L):=by
       have:=af.out;have:=aC.out;have:=aE.out;have:=ae.out (by omega);show max x (a+L)=a+L;omega
      have aO:((j:Int)==0)=true:=by simp [aa]
      have aR:=zh aa;clear aa;go_wp2;go_roundw
      case rel=>exact ⟨j+1,by go_num,by omega,by rw [N.out,y.out],I.out,_root_.Go.below_drewN l.out _⟩
      case measure=>simp [intOf];omega
     have aO:((j:Int)==0)=false:=by simp;omega
     by_cases a2:x<a+L
     ·have y:Zh (max x (a+L)=a+L):=by show max x (a+L)=a+L;omega
      go_wp2;go_roundw
      case rel=>exact ⟨j+1,by go_num,by omega,by rw [N.out,y.out],I.out,_root_.Go.below_drewN l.out _⟩
      case measure=>simp [intOf];omega
     have y:Zh (max x (a+L)=x):=by show max x (a+L)=x;omega
     go_wp2;go_roundw
     case rel=>exact ⟨j+1,by go_num,by omega,by rw [N.out,y.out],I.out,_root_.Go.below_drewN l.out _⟩
     case measure=>simp [intOf];omega
  obtain rfl:j=c:=by omega
  have v:=zh (aH.out H.out);go_wp2;go_ret2
  exact ⟨by rw [v.out];rfl,za m.out l.out⟩
 ·have d:=Xa (show yd r b=false by rw [yd,decide_eq_false o];rfl);rw [d.1,d.2];have A:decide (z8 false r=0)=false:=decide_eq_false o;rw [A] at t;clear A o d C;go_enter Tryz.func98,Tryz.ntmps98;go_wp2_with fail
  refine (t.out _ n.out).mono ?_;rintro e f ⟨rfl,s⟩;have m:=zh (za n.out s);clear s;go_wp2;go_ret2
  exact ⟨rfl,m.out⟩
theorem V5 (l:QL) (T:Nat->zd) (t:Nat):∀ (a:List Int) (c p:Int),VP l T t c (a++[p])=min (VP l T t c a) (Rz l T p t)
 | [],c,p=>rfl
 | y::a,c,p=>by rw [List.cons_append,VP,V5 l T t a];rfl
theorem Lb {l:QL} {b:BL} (h:Clean l b) {t:Nat} (j:t<48) (zs:List Int) (c:Int):∀ k,k<zs.length->VP l (zM l b b.length) t c (zs.take (k+1))=min c (V9 l b zs t (k+1))/\V9 l b zs t (k+1)<=WW l b t (zs.getD k 0).toNat:=by
 have d:∀ p:Int,Rz l (zM l b b.length) p t=WW l b t p.toNat:=fun p=>by
  unfold Rz WW;rw [((ZT h b.length (Nat.le_refl _) p.toNat).2 t j).1]
 intro k
 induction k with
 | zero =>
  intro a;have e:zs.take (0+1)=[]++[zs.getD 0 0]:=by
   cases zs with
   | nil=>exact absurd a (Nat.lt_irrefl _)
   | cons x xs=>simp
  rw [e,V5,d,V9,if_pos (Or.inl rfl)];exact ⟨rfl,Int.le_refl _⟩
 | succ k ih =>
  intro a;obtain ⟨m,_⟩:=ih (by omega);have e:zs.take (k+1+1)=zs.take (k+1)++[zs.getD (k+1) 0]:=by
   rw [List.take_succ_eq_append_getElem a,List.getD_eq_getElem?_getD,List.getElem?_eq_getElem a];rfl
  rw [e,V5,d,m];obtain ⟨x,f⟩:=qA (WW l b t (zs.getD (k+1) 0).toNat);obtain ⟨y,g⟩:=qA (V9 l b zs t (k+1));have i:V9 l b zs t (k+1+1)=if k+1=0\/x<y then x else y:=by rw [<-f,<-g];rfl
  rw [i,f,g];by_cases c1:x<y
  ·rw [if_pos (Or.inr c1)];omega
  rw [if_neg (by omega)];omega
theorem Js {l:QL} {b:BL} (h:Clean l b) {q:Int} (m:0<=q) (c:q<l.length) {t:Nat} (e:t<48):Wz l b q t=zn (xH l b q) t:=by
 have d:=yY h.tree;have f:=(UU h (zK l q) _ Tf (UC d c)).2 t e;have n:zn [(0,1048576)] t=1048576:=by simp [zn,XJ];rfl
 obtain ⟨zs,a⟩:=qA (zK l q);have w:0<zs.length:=by rw [<-a,Y8 d m c];simp
 have g:=UC d c;rw [a] at f g;obtain ⟨k,o⟩:∃ k,zs.length=k+1:=⟨zs.length-1,by omega⟩;obtain ⟨i,s⟩:=Lb h e zs (zn [(0,1048576)] t) k (by omega);rw [List.take_of_length_le (by omega)] at i;have r:zs.getD k 0∈zs:=by
  rw [List.getD_eq_getElem?_getD,List.getElem?_eq_getElem (show k<zs.length by omega)];exact List.getElem_mem _
 have u:=g _ r;have v:=(Yx h.tree (p:=(zs.getD k 0).toNat) (by omega)).2 t;have x:=((ZT h b.length (Nat.le_refl _) (zs.getD k 0).toNat).2 t e).2.1;have j:zn (xH l b q) t=min (zn [(0,1048576)] t) (V9 l b zs t (k+1)):=by
  unfold xH;rw [a,f,i]
 unfold Wz;rw [j,a,o,n];unfold WW at s;omega
theorem NS {l:QL} {b:BL} (h:Clean l b) {q:Nat} (c:q<l.length):ya (Wz l b q)=ya (zn (xH l b q)) :=
 Wv fun t a=>Js h (by omega) (by omega) a
def Ev (c n:Int) (l:QL) (b:BL):Prop:=Clean l b/\(0<=c/\c<=48)/\(0<=n/\n<=1048576)/\(∀ i,i<b.length->xd b i<=(bk b i).id/\(bk b i).id<n)/\∀ i,i<b.length->c<yA (bk b i)
theorem Ep {n:Int} {b:BL} (h:∀ i,i<b.length->xd b i<=(bk b i).id/\(bk b i).id<n):∀ i,i<b.length->0<=(bk b i).id
 | 0,hi=>by have:=(h 0 hi).1;rw [xd,if_pos rfl] at this;exact this
 | i+1,hi=>by
  have:=(h (i+1) hi).1;rw [xd,if_neg (by omega),Nat.add_sub_cancel] at this;have:=Ep h i (by omega);omega
theorem El (w:World) (c n:Int) (af:Option Addr) (ah ag:Nat) (l:QL) (W:Option Addr) (r J:Nat) (b:BL) (h:zY w af ah ag l W r J b) :
 zC 56 #[.agg (zS c n af ah ag W r J)] w fun e w'=>∃ aH:Int,e=.returned (zI aH)/\(aH=0↔Ev c n l b)/\Below w.heap.size w w':=by
 obtain ⟨S,aZ⟩:=qA (w.heap.size);obtain ⟨V,Z⟩:=qB (w.alloc (.cells (zS c n af ah ag W r J) 40));have aw:zL w V:=by rw [Z];exact zr _ _
 have aF:zj V S (zI c) (zI n) (.slice af ah ag) (.slice W r J):=by rw [Z,<-aZ];exact zj.new w _ _ _ _
 have bo:=zh (F7 V af ah ag l W r J b (h.later aw));have aS:=zh h;have Q:=zh h.2.len;have br:=zh aF;have bh:=zh aw;have bl:=zh Z;have bj:=zh aZ;have bT:=h.2.le;have bS:=h.2.capb;obtain ⟨G1,ar⟩:∃ am,yW c 0 48=am:=⟨_,rfl⟩;obtain ⟨bg,au⟩:∃ am,yW n 0 1048576=am:=⟨_,rfl⟩;have aW:=zh fun X=>zo c 0 48 X;have aX:=zh fun X=>zo n 0 1048576 X;rw [ar] at aW;rw [au] at aX;have aN:=zh ar;have aO:=zh au;obtain ⟨Y,c1,c2,c3⟩:=aF.cells;rw [Z] at Y c1 c2 c3;clear aF aw Z h ar au;go_enter Tryz.func56,Tryz.ntmps56;go_wp2_with fail
 rw [<-bl.o];refine bo.o.mono ?_;rintro e a8 ⟨al,rfl,aY,ax⟩;have an:=zh aY;have ai:=zh (br.o.later ax);have C:=zh (za bh.o ax);obtain ⟨bu,bv,bw,bx⟩:=ai.o.cells;clear ax aY Y c1 c2 c3;by_cases ak:al=0
 case neg =>
  have bU:(al != 0)=true:=by simpa using ak
  have bn:=zh ak;clear ak;go_wp2;go_ret;exact ⟨al,rfl,⟨fun h=>absurd h bn.o,fun h=>an.o.2 h.1⟩,C.o⟩
 subst ak;have aM:=zh (an.o.1 rfl);clear an;go_wp2_with fail
 refine (aW.o _).mono ?_;rintro e bO ⟨rfl,ad⟩;rw [ad];clear ad;cases G1 with
 | false =>
  go_wp2;go_ret;refine ⟨3,rfl,⟨fun h=>absurd h (by decide),fun h=>?_⟩,C.o⟩;have N:=aN.o;have bE:=h.2.1;simp [yW] at N;omega
 | true =>
 go_wp2_with fail
 refine (aX.o _).mono ?_;rintro e bO ⟨rfl,ad⟩;rw [ad];clear ad;cases bg with
 | false =>
  go_wp2;go_ret;refine ⟨3,rfl,⟨fun h=>absurd h (by decide),fun h=>?_⟩,C.o⟩;have N:=aO.o;have bE:=h.2.2.1;simp [yW] at N;omega
 | true =>
 have bR:r<=12:=by have:=aM.o.few;have:=Q.o;omega
 go_wp2_with fail
 go_loopw [4] (fun p wr=>∃ k:Nat,p=zI k/\k<=r/\(∀ i,i<k->xd b i<=(bk b i).id/\(bk b i).id<n)/\zL a8 wr) (fun p _=>r-(intOf p).toNat)
 case atStart=>exact ⟨0,rfl,Nat.zero_le _,fun i F=>absurd F (Nat.not_lt_zero _),Below.refl _ _⟩
 case round =>
  obtain ⟨k,rfl,bG,a4,E⟩:=hrel;have aR:=zh a4;have H:=zh E;clear a4;obtain ⟨b2,b3,b4,b5⟩:=(ai.o.later E).cells;clear E bu bv bw bx;by_cases ab:k<r
  ·have bH:(k:Int)<r:=(by omega);have bI:¬((k:Int)<0):=(by omega);have u:=aS.o.later (za C.o H.o);obtain ⟨I,L,az,B⟩:=u.2.cells (by omega);subst az;have O:k<b.length:=(by have:=Q.o;omega);have bz:=(B k ab).1;obtain ⟨x,M⟩:=qA ((bk b k).id);rw [M] at bz;have R:=zh M;have ao:=zh O;by_cases D:x<0
   ·have bK:decide (x<0)=true:=decide_eq_true D;have t:=zh D;clear u B M O D;go_wp2_with fail
    go_quiet (fail)
    go_wp2;go_ret;refine ⟨1,rfl,⟨fun h=>absurd h (by decide),fun h=>?_⟩,za C.o (_root_.Go.below_drewN H.o _)⟩;have:=Ep h.2.2.2.1 k ao.o;rw [R.o] at this;have:=t.o;omega
   have bK:decide (x<0)=false:=decide_eq_false D;by_cases G:n<=x
   ·have bL:decide (n<=x)=true:=decide_eq_true G;have t:=zh G;clear u B M O D G;go_wp2_with fail
    go_quiet (fail)
    go_wp2;go_ret;refine ⟨1,rfl,⟨fun h=>absurd h (by decide),fun h=>?_⟩,za C.o (_root_.Go.below_drewN H.o _)⟩;have:=(h.2.2.2.1 k ao.o).2;rw [R.o] at this;have:=t.o;omega
   have bL:decide (n<=x)=false:=decide_eq_false G;have bm:=zh D;have aU:=zh G;by_cases aa:k=0
   ·have bN:decide (0<k)=false:=decide_eq_false (by omega);have bi:=zh aa;clear u B M O aa D G;go_wp2_with fail
    go_quiet (fail)
    go_wp2;go_roundw
    case measure=>simp [intOf];omega
    refine ⟨k+1,by go_num,by omega,fun i F=>?_,_root_.Go.below_drewN H.o _⟩;have s:=bi.o;obtain rfl:i=0:=(by omega);subst s;rw [xd,if_pos rfl,R.o];have:=bm.o;have:=aU.o;omega
   obtain ⟨j,aB⟩:∃ j,k=j+1:=⟨k-1,by omega⟩;have aq:=(B j (by omega)).1;obtain ⟨y,ae⟩:=qA ((bk b j).id);rw [ae] at aq;have bQ:=zh ae;have bN:decide (0<k)=true:=decide_eq_true (by omega);have bV:IntKind.i64.wrap ((k:Int)-1)=(j:Int):=(by rw [IntKind.wrap_i64];omega);have bW:(j:Int)<r:=(by omega);have bX:¬((j:Int)<0):=(by omega);have bP:=zh aB;have aP:Zh (xd b k=y+1):=zh (by rw [xd,if_neg aa,show k-1=j by omega,ae]);by_cases P:x<=y
   ·have bM:decide (x<=y)=true:=decide_eq_true P;have t:=zh P;clear u B M O ae aa aB D G P;go_wp2_with fail
    go_quiet (fail)
    go_wp2;go_ret;refine ⟨1,rfl,⟨fun h=>absurd h (by decide),fun h=>?_⟩,za C.o (_root_.Go.below_drewN H.o _)⟩;have:=(h.2.2.2.1 k ao.o).1;rw [R.o,aP.o] at this;have:=t.o;omega
   have bM:decide (x<=y)=false:=decide_eq_false P;have t:=zh P;clear u B M O ae aa aB D G P;go_wp2_with fail
   go_quiet (fail)
   go_wp2;go_roundw
   case measure=>simp [intOf];omega
   refine ⟨k+1,by go_num,by omega,fun i F=>?_,_root_.Go.below_drewN H.o _⟩;by_cases e:i<k
   ·exact aR.o i e
   obtain rfl:i=k:=(by omega);rw [R.o,aP.o];have:=aU.o;have:=t.o;omega
  obtain rfl:r=k:=by omega
  go_wp2_with fail
  go_loopg [5] r (fun bD (p:Value) wr=>∃ (k:Nat),p=zI k/\k<=r/\bD=r-k/\(∀ i,i<k->c<yA (bk b i))/\zL a8 wr)
  case atStart=>exact ⟨0,rfl,Nat.zero_le _,by simp,fun i F=>absurd F (Nat.not_lt_zero _),H.o⟩
  obtain ⟨k,rfl,bG,rfl,a1,E⟩:=hrel;have aK:=zh E;have aI:=zh a1;clear a1;have aL:=zh (za C.o E);by_cases ab:k<r
  ·have bH:(k:Int)<r:=(by omega);have bI:¬((k:Int)<0):=(by omega);have u:=aS.o.later aL.o;obtain ⟨I,L,az,B⟩:=u.2.cells (by omega);subst az;obtain ⟨X,av⟩:=qA (bk b k);obtain ⟨Y,c1,c2,c3,c4,c5,ap⟩:=B k ab;have aC:=u.2.rqs k ab;have aA:=u.2.bites k ab;rw [av] at Y c1 c2 c3 c4 c5 ap aC aA;obtain ⟨z,aj⟩:=qA (yA X);obtain ⟨A,a2⟩:∃ A:Int,(if yd X.rq X.bs=true then (0:Int) else 1)=A:=⟨_,rfl⟩;have aQ:=zh aj;have aV:=zh av;have bp:Zh (∀ U,zL wr U->zC 98 #[.agg (zR X.rq),.slice X.ba X.bn X.bc] U fun e w'=>e=.returned (.tuple #[zI z,zI A])/\zL U w'):=fun U a0=>by
    have:=SN U X.rq (aC.later a0) X.ba X.bn X.bc X.bs (aA.later a0);unfold yA at aj;rw [aj,a2] at this;exact this
   have ba:=zh c1;have bb:=zh c2;have bc:=zh c3;have bd:=zh c4;have be:=zh c5;have bf:=zh ap;have aT:=zh (ai.o.later E);obtain ⟨a5,a6,a7,aE⟩:=aT.o.cells;have aG:=zh aE;clear u B aC aA av E aj a2 Y c1 c2 c3 c4 c5 ap;go_upto_region 14 with fail
   go_cut [6,7] (fun p q a9=>∃ bq,bq=a9/\p=zI z/\q=zI A/\zL wr a9)
   case first =>
    refine zV ((Tryz.f56.body.bind fun c=>yi c 14).getD #[]) (by kernel_rfl) [zl (.pointer (zO S 3)),zl (.slice (zO I L) r J),zl (zI k),zl (.pointer (zO I (L+k*7))),zl (.pointer (zO I (L+k*7+1))),zl (.agg (zR X.rq)),zl (.pointer (zO S 3)),zl (.slice (zO I L) r J),zl (zI k),zl (.pointer (zO I (L+k*7))),zl (.pointer (zO I (L+k*7+6))),zl (.slice X.ba X.bn X.bc),zl (.tuple #[zI z,zI A]),zl (.tuple #[zI z,zI A]),zl (zI z),zl (zI A),zl (zI z),zl (zI A)] [] (by kernel_rfl) (by kernel_rfl) (by kernel_rfl) ?hg ?hstep ?hfin
    case hg =>
     intro g hg v w h;cases hg
    case hstep =>
     refine zc.cons 1 rfl ?_ ?_
     ·intro T w' f m a;have s:T.getD 1 undef=.pointer (zO S 0):=m 1;exact zs (by go_simp) rfl
     refine zc.cons 2 rfl ?_ ?_
     ·intro T w' f m a;have s:T.getD 79 undef=_:=a 0 79;have bt:=cell_later f aG.o;exact zs (by go_simp) rfl
     refine zc.cons 3 rfl ?_ ?_
     ·intro T w' f m a;have s:T.getD 5 undef=zI k:=m 5;exact zs (by go_simp) rfl
     refine zc.cons 4 rfl ?_ ?_
     ·intro T w' f m a;have s:T.getD 80 undef=_:=a 1 80;have N:T.getD 81 undef=_:=a 2 81;exact zs (by go_simp) rfl
     refine zc.cons 5 rfl ?_ ?_
     ·intro T w' f m a;have s:T.getD 82 undef=_:=a 3 82;exact zs (by go_simp) rfl
     refine zc.cons 6 rfl ?_ ?_
     ·intro T w' f m a;have s:T.getD 83 undef=_:=a 4 83;have b8:=cell_later f ba.o;have b9:=cell_later f bb.o;have ca:=cell_later f bc.o;have cb:=cell_later f bd.o;have cc:=cell_later f be.o;exact zs (by go_simp) rfl
     refine zc.cons 7 rfl ?_ ?_
     ·intro T w' f m a;have s:T.getD 1 undef=.pointer (zO S 0):=m 1;exact zs (by go_simp) rfl
     refine zc.cons 8 rfl ?_ ?_
     ·intro T w' f m a;have s:T.getD 85 undef=_:=a 6 85;have bt:=cell_later f aG.o;exact zs (by go_simp) rfl
     refine zc.cons 9 rfl ?_ ?_
     ·intro T w' f m a;have s:T.getD 5 undef=zI k:=m 5;exact zs (by go_simp) rfl
     refine zc.cons 10 rfl ?_ ?_
     ·intro T w' f m a;have s:T.getD 86 undef=_:=a 7 86;have N:T.getD 87 undef=_:=a 8 87;exact zs (by go_simp) rfl
     refine zc.cons 11 rfl ?_ ?_
     ·intro T w' f m a;have s:T.getD 88 undef=_:=a 9 88;exact zs (by go_simp) rfl
     refine zc.cons 12 rfl ?_ ?_
     ·intro T w' f m a;have s:T.getD 89 undef=_:=a 10 89;have cd:=cell_later f bf.o;exact zs (by go_simp) rfl
     refine zc.cons 13 rfl ?_ ?_
     ·intro T w' f m a;have s:T.getD 84 undef=_:=a 5 84;have N:T.getD 90 undef=_:=a 11 90;refine Or.inr ⟨98,#[.agg (zR X.rq),.slice X.ba X.bn X.bc],by go_simp,?_⟩;refine (bp.o w' f).mono ?_;rintro e b6 ⟨rfl,bF⟩;exact ⟨_,rfl,rfl,bF⟩
     refine zc.cons 14 rfl ?_ ?_
     ·intro T w' f m a;have s:T.getD 91 undef=_:=a 12 91;exact zs (by go_simp) rfl
     refine zc.cons 15 rfl ?_ ?_
     ·intro T w' f m a;have s:T.getD 78 undef=_:=a 13 78;exact zs (by go_simp) rfl
     refine zc.cons 16 rfl ?_ ?_
     ·intro T w' f m a;have s:T.getD 78 undef=_:=a 13 78;exact zs (by go_simp) rfl
     refine zc.cons 17 rfl ?_ ?_
     ·intro T w' f m a;have s:T.getD 92 undef=_:=a 14 92;exact zs (by go_simp) rfl
     refine zc.cons 18 rfl ?_ ?_
     ·intro T w' f m a;have s:T.getD 93 undef=_:=a 15 93;exact zs (by go_simp) rfl
     exact trivial
    intro T w' f bJ m a;have aq:T.getD 6 undef=zI z:=a 16 6;have bA:T.getD 7 undef=zI A:=a 17 7;rw [yb (tt 6 [false,false,true,true,true,true,true,true,true,true,true,true,true,true,true,true,true,true,true,true,true,true,true,true,true,true,true,true,true,true,true,true,true,true,true,true,true,true,true,true,true,true,true,true,true,true,true,true,true,true,true,true,true,true,true,true,true,true,true,true,true,true,true,true,true,true,true,true,true,true,true,true,false,false,false,false,false,false,false,false,false,false,false,false,false,false,false,false] 4) (by kernel_rfl) bJ @m];obtain ⟨us,aD⟩:∃ us:Nat->Value,(fun d=>T.getD d undef)=us:=⟨_,rfl⟩;rw [aD];have bB:us 6=zI z:=(by rw [<-aD];exact aq);have bC:us 7=zI A:=(by rw [<-aD];exact bA);apply_assumption;simp only [xj,tt,List.replicate,List.cons_append,List.nil_append];go_meet;exact ⟨_,rfl,bB,bC,f⟩
   obtain ⟨b7,rfl,rfl,rfl,ay⟩:=hcut;obtain ⟨bY,bZ,b0,b1⟩:=(aT.o.later ay).cells;have aJ:=zh (za aK.o ay);clear ay a5 a6 a7 aE;by_cases a3:z<=c
   ·have t:=zh a3;go_wp2;go_ret;refine ⟨9,rfl,⟨fun h=>absurd h (by decide),fun h=>?_⟩,by rw [<-bj.o];exact za C.o aJ.o⟩;have:=h.2.2.2.2 k (by have:=Q.o;omega);rw [aV.o,aQ.o] at this;have:=t.o;omega
   have t:=zh a3;go_wp2;go_roundg (r-(k+1))
   case measure=>omega
   refine ⟨k+1,by go_num,by omega,rfl,fun i F=>?_,aJ.o⟩;by_cases e:i<k
   ·exact aI.o i e
   obtain rfl:i=k:=(by omega);rw [aV.o,aQ.o];have:=t.o;omega
  obtain rfl:r=k:=by omega
  obtain ⟨a5,a6,a7,aE⟩:=(ai.o.later aK.o).cells;go_wp2;go_ret;refine ⟨0,rfl,⟨fun _=>⟨aM.o,?_,?_,fun i F=>aR.o i (by have:=Q.o;omega),fun i F=>aI.o i (by have:=Q.o;omega)⟩,fun _=>rfl⟩,aL.o⟩
  ·have:=aN.o;simp [yW] at this;omega
  have:=aO.o;simp [yW] at this;omega
theorem Eo {C:Nat} {l:QL} {b:BL} {n:Int} (a:Ev C n l b) {t q:Int} {f:Bool} (g:Vu C l b t q f):f=false↔Sound C n l b:=by
 refine ⟨fun e=>?_,fun h=>?_⟩
 ·subst e;rcases g with ⟨_,_,_,h⟩ | ⟨e,_⟩
  ·refine ⟨a.1,a.2.1.1,a.2.1.2,a.2.2.1.1,a.2.2.1.2,a.2.2.2.1,a.2.2.2.2,fun q m t i c=>?_⟩;have:=of_decide_eq_false (h t (by omega) c q m);omega
  cases e
 rcases g with ⟨e,_⟩ | ⟨_,T,k,rfl,rfl,i,c,j,d,_⟩
 ·exact e
 have:=h.fits k j T (by omega) c;have d:=of_decide_eq_true d;omega
theorem wD (w:World) (c n:Int) (i:Option Addr) (k j:Nat) (l:QL) (a:Option Addr) (g d:Nat) (b:BL) (h:zY w i k j l a g d b) :
 zC 22 #[.agg (zS c n i k j a g d)] w fun e w'=>∃ D:Int,e=.returned (zI D)/\(D=0↔Sound c n l b)/\Below w.heap.size w w':=by
 obtain ⟨S,I⟩:=qA (w.heap.size);obtain ⟨m,r⟩:=qB (w.alloc (.cells (zS c n i k j a g d) 40));have z:zL w m:=by rw [r];exact zr _ _
 have B:zj m S (zI c) (zI n) (.slice i k j) (.slice a g d):=by rw [r,<-I];exact zj.new w _ _ _ _
 have U:=zh (El m c n i k j l a g d b (h.later z));have O:=zh h;have W:=zh B;have M:=zh z;have P:=zh r;have af:=zh I;obtain ⟨G,c1,c2,c3⟩:=B.cells;rw [r] at G c1 c2 c3;clear B z r h;go_enter Tryz.func22,Tryz.ntmps22;go_wp2_with fail
 rw [<-P.o];refine U.o.mono ?_;rintro e ae ⟨v,rfl,H,A⟩;have F:=zh H;have Q:=zh (W.o.later A);have x:=zh (za M.o A);obtain ⟨X,Y,Z,aa⟩:=Q.o.cells;clear A H G c1 c2 c3;by_cases u:v=0
 case neg =>
  have ag:(v != 0)=true:=by simpa using u
  have R:=zh u;clear u;go_wp2;go_ret;exact ⟨v,rfl,⟨fun h=>absurd h R.o,fun h=>F.o.2 ⟨h.clean,⟨h.c0,h.c48⟩,⟨h.n0,h.n1⟩,h.rise,h.alive⟩⟩,x.o⟩
 subst u;have p:=F.o.1 rfl;obtain ⟨C,ab⟩:∃ C:Nat,c=C:=⟨c.toNat,by have:=p.2.1.1;omega⟩;have ad:C<=48:=by have:=p.2.1.2;omega
 subst ab;have V:=zh (J4 ae i k j l a g d b (O.o.later x.o) p.1 C ad);have N:=zh p;clear p;go_wp2_with fail
 refine V.o.mono ?_;rintro e ah ⟨t,q,f,rfl,J,L⟩;have s:=zh (Eo N.o J);have E:=zh (za x.o L);clear L J X Y Z aa;cases f with
 | false =>
  have y:=zh (s.o.1 rfl);clear s;go_wp2;go_ret;exact ⟨0,rfl,⟨fun _=>y.o,fun _=>rfl⟩,E.o⟩
 | true =>
  have y:Zh (¬Sound C n l b):=zh fun h=>absurd (s.o.2 h) (by decide);clear s;go_wp2;go_ret;exact ⟨10,rfl,⟨fun h=>absurd h (by decide),fun h=>absurd h y.o⟩,E.o⟩
theorem Zm (w:World) (c n:Int) (g:Option Addr) (j i:Nat) (l:QL) (a:Option Addr) (f d:Nat) (b:BL) (h:zY w g j i l a f d b) (o:Sound c n l b) :
 zC 22 #[.agg (zS c n g j i a f d)] w fun e w'=>e=.returned (zI 0)/\Below w.heap.size w w':=by
 refine (wD w c n g j i l a f d b h).mono ?_;rintro e w' ⟨p,rfl,k,m⟩;exact ⟨by rw [k.2 o],m⟩
theorem Yn {w:World} {s:Option Addr} {g t:Nat} {l:QL} {j:Option Addr} {f k:Nat} {b:BL} (h:zY w s g t l j f k b) (a:Clean l b):Modest1 g l f b:=by
 have d:=XT h a;have x:=h.2.len;have z:=h.1.len;have y:=a.few;obtain ⟨A,B,C⟩:=S5 h.1 a.tree;refine ⟨d.t0,by omega,fun i c=>⟨?_,d.caps i c⟩,by omega,fun i c=>⟨?_,d.ps i c⟩,fun i c=>⟨?_,d.bs i c⟩⟩
 ·have o:=(Yx a.tree (p:=i) (by omega)).1;have u:=(h.1.caps i c).len;have v:0<(qu l i).runs.length:=o.1;omega
 ·have n:=RunsIn.len (h.2.rqs i c);have m:=(y8 a.tree (a.each i (by omega))).1;obtain ⟨e,q,r⟩:=yk.1 m;have:=of_decide_eq_true (zv.1 e).2.1;omega
 have n:=(h.2.bites i c).len;have m:=(y8 a.tree (a.each i (by omega))).1;obtain ⟨e,q,r⟩:=yk.1 m;have:=YM e;omega
theorem RV {l:QL} {q:Nat} (a:q<l.length) (rs:zd) (i:Nat):qu (yP l q rs) i=if i=q then ⟨(qu l q).name,(qu l q).parent,none,0,0,rs⟩ else qu l i:=Vg _ a i
theorem Ir {l:QL} {q:Nat} {rs:zd} (a:q<l.length) (b:z9 (yP l q rs)=0):zW rs/\∀ t:Nat,0<=zn rs t/\zn rs t<=50:=by
 have h:=Yx b (p:=q) (by rw [Zd];exact a);rw [RV a,if_pos rfl] at h;exact h
end Go.Proofs.YtckpdfkobdgjeaaGreatDoor
