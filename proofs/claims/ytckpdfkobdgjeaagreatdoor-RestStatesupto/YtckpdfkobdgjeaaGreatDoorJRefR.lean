/- The reference's victim and begun. -/
import Derived.Test.YtckpdfkobdgjeaaGreatDoorJAll26
import Derived.Test.YtckpdfkobdgjeaaGreatDoorJAll13
namespace Go.Proofs.YtckpdfkobdgjeaaGreatDoor
set_option maxRecDepth 100000
set_option maxHeartbeats 4000000
open Go.RowKit
set_option linter.unusedSectionVars false
variable [Inhabited Mk]
theorem SP {p:Nat->Bool}:∀ {n:Nat},zQ p n=false->∃ k,k<n/\p k=false
 | 0,h=>by simp [zQ] at h
 | n+1,h=>by
  rw [zQ,Bool.and_eq_false_iff] at h;rcases h with h | h
  ·obtain ⟨k,b,a⟩:=SP h;exact ⟨k,by omega,a⟩
  exact ⟨n,by omega,h⟩
theorem Uk {x:Bk} (h:meets x.rq x.bs=true) {t i:Nat} (d:rN x.bs i<=t) (f:(t:Int)<rN x.bs i+lenOf x.rq x.bs i):∀ k,i<k->k<=x.bs.length->0<yo x t k
 | 0,hk,_=>by omega
 | k+1,hk,hl=>by
  rw [yo];have a:=Y6 h t k (by omega);have b:=O3 h (k:=k) (by omega) t;by_cases e:i=k
  ·subst e;have c:=YC h (k:=i) (by omega);unfold VM;rw [if_pos ⟨d,f⟩];omega
  have:=Uk h d f k (by omega) (by omega);omega
theorem OQ {x:Bk} (h:meets x.rq x.bs=true) {t:Int} (d:0<=t) (a:Yb x t=true):0<yo x t.toNat x.bs.length:=by
 unfold Yb at a;rw [Bool.not_eq_true'] at a;obtain ⟨i,c,b⟩:=SP a;simp only [Vq,Bool.not_eq_false',Bool.and_eq_true,decide_eq_true_eq] at b;exact Uk h (i:=i) (by omega) (by omega) _ c (Nat.le_refl _)
theorem He {X:Bk} (h:meets X.rq X.bs=true) (t:Nat):Yb X (t:Int)=decide (0<yo X t X.bs.length):=by
 cases a:Yb X (t:Int) with
 | true =>
  have:=OQ h (by omega) a;rw [Int.toNat_natCast] at this;rw [decide_eq_true this]
 | false =>
  symm
  apply decide_eq_false;intro b;have:=Hf (X:=X) (t:=(t:Int)) (by omega) (by rw [Int.toNat_natCast];exact b);rw [a] at this;cases this
theorem Rv {l:QL} {b:BL} {t q:Int} {n k:Nat} (h:∀ i,k<i->i<n->Zz l b t q i=false) (f:k<n) (c:k=0\/Zz l b t q k=true):wC l b t q n=k:=by
 by_cases a:Zz l b t q k=true
 ·exact Ru f a h
 have g:k=0:=c.resolve_right a;subst g;refine V3 fun i d=>?_;by_cases e:i=0
 ·subst e;simpa using a
 exact h i (by omega) d
theorem J6 (w:World) (c n:Int) (A:Option Addr) (C B:Nat) (l:QL) (ai:Option Addr) (s E:Nat) (b:BL) (h:zY w A C B l ai s E b) (al:Clean l b) (bB:0<s) (t q:Nat) (bg:t<=48) :
 zC 110 #[.agg (zS c n A C B ai s E),zI t,zI q] w fun e w'=>e=.returned (zI (wC l b t q s:Nat))/\Below w.heap.size w w':=by
 obtain ⟨S,aW⟩:=qA (w.heap.size);obtain ⟨U,aa⟩:=qB (w.alloc (.cells (zS c n A C B ai s E) 40));have aX:zL w U:=by rw [aa];exact zr _ _
 have aI:zj U S (zI c) (zI n) (.slice A C B) (.slice ai s E):=by rw [aa,<-aW];exact zj.new w _ _ _ _
 have a5:=zh h;have aR:=zh al;have a2:=zh h.2.len;have a6:=zh h.1.len;have bt:s<=12:=by have:=al.few;have:=h.2.len;omega
 have bv:=h.2.le;have bu:=h.2.capb;have a4:=zh (yY al.tree);have a9:=zh aI;have aQ:=zh aX;have a7:=zh aa;have aU:=zh aW;obtain ⟨J,az⟩:=qA (wC l b t q s);rw [az];have aP:=zh az;have bh:IntKind.i64.wrap ((s:Int)-1)=((s-1:Nat):Int):=by rw [IntKind.wrap_i64];omega
 obtain ⟨ah,aA⟩:=qA (s-1);rw [aA] at bh;have aT:=zh aA;obtain ⟨L,c1,c2,c3⟩:=aI.cells;rw [aa] at L c1 c2 c3;clear aI aX aa h al az aA;go_enter Tryz.func110,Tryz.ntmps110;go_wp2_with fail
 rw [<-a7.o];clear L c1 c2 c3;go_loopg [7] ah (fun bb (p:Value) wr=>∃ (k:Nat),p=zI k/\k<s/\k=bb/\(∀ i,k<i->i<s->Zz l b t q i=false)/\zL U wr)
 case atStart=>exact ⟨ah,rfl,by have:=aT.o;omega,rfl,fun i z Z=>by have:=aT.o;omega,Below.refl _ _⟩
 case round =>
  obtain ⟨k,rfl,ad,rfl,aF,ab⟩:=hrel;have aq:=zh ab;have au:=zh aF;have ak:=za aQ.o ab;by_cases bx:0<k
  ·obtain ⟨j,aZ⟩:∃ j,k=j+1:=⟨k-1,by omega⟩;have bw:IntKind.i64.wrap ((k:Int)-1)=(j:Int):=(by rw [IntKind.wrap_i64];omega);have bd:(0:Int)<(k:Int):=(by omega);have bz:(k:Int)<s:=(by omega);have bA:¬((k:Int)<0):=(by omega);have af:=a5.o.later ak;obtain ⟨x,y,bc,aY⟩:=af.2.cells (by omega);subst bc;obtain ⟨X,aB⟩:=qA (bk b k);obtain ⟨L,c1,c2,c3,c4,c5,ay⟩:=aY k ad;have aG:=af.2.rqs k ad;have aC:=af.2.bites k ad;have aD:=aR.o.each k (by have:=a2.o;omega);rw [aB] at L c1 c2 c3 c4 c5 ay aG aC aD;obtain ⟨am,be,bf⟩:=y8 aR.o.tree aD;have aw:=zh fun R (aj:zL wr R)=>TK R A C B l X.rq.queue (q:Int) (af.1.later aj) a4.o (by have:=a6.o;omega);have ax:=zh fun R (aj:zL wr R)=>LE R X (aG.later aj) (aC.later aj) am (Ym am) t bg;have P:Zh (Zz l b t q k=(yG l X.rq.queue q&&decide (0<yo X t X.bs.length))):=by
    show Zz l b t q k=_;unfold Zz;rw [aB,He am]
   obtain ⟨u,ag⟩:=qA (yo X t X.bs.length);rw [ag] at ax P;obtain ⟨aH,a0⟩:=qA (yG l X.rq.queue (q:Int));rw [a0] at aw P;have aJ:=zh L;have N:=zh c1;have aK:=zh c2;have aL:=zh c3;have aM:=zh c4;have aN:=zh c5;have aO:=zh ay;have a8:=zh (a9.o.later ab);obtain ⟨bC,bD,bi,bj⟩:=a8.o.cells;have ao:=zh bi;have M:=zh bj;have Q:=zh aZ;have aS:Zh (Zz l b t q k=false->∀ i,j<i->i<s->Zz l b t q i=false):=fun e i z Z=>by
    by_cases ba:i=k
    ·rw [ba];exact e
    exact au.o i (by have:=Q.o;omega) Z
   clear af aY aG aC aD aB ab ak am be bf ag a0 aZ aF L c1 c2 c3 c4 c5 ay;have av:=aw;have aV:=ax;clear aw ax;go_upto_region 4 with fail
   cases aH with
   | false =>
    have ar:=zh (aS.o (by rw [P.o];rfl));go_cut [36] (fun p I=>∃ V,V=I/\p=.bool false/\zL wr I)
    case first =>
     refine Vs ((Tryz.f110.body.bind fun c=>yi c 4).getD #[]) (by kernel_rfl) [zl (.pointer (zO S 2)),zl (.slice A C B),zl (.pointer (zO S 3)),zl (.slice (zO x y) s E),zl (zI k),zl (.pointer (zO x (y+k*7))),zl (.pointer (zO x (y+k*7+1))),zl (.pointer (zO x (y+k*7+1))),zl (zI X.rq.queue),zl (zI q),zl (.bool false),zl (.bool false),zl undef,zl undef,zl undef,zl undef,zl undef,zl undef,zl undef,zl undef,zl (.bool false)] [] [(11,true)] (by kernel_rfl) (by kernel_rfl) (by kernel_rfl) ?hg ?hn ?hstep ?hfin
     case hg =>
      intro g hg v w h;cases hg
     case hn =>
      intro g hg v w h;simp only [List.mem_cons,List.not_mem_nil,or_false] at hg;rcases hg with rfl
      all_goals
       have h:v=_:=h;rw [h];intro q;cases q
     case hstep =>
      refine zc.cons 1 rfl ?_ ?_
      ·intro T w' f m a;refine Zw.does (by kernel_rfl) ?_;have r:T.getD 3 undef=.pointer (zO S 0):=m 3;exact zs (by go_simp) rfl
      refine zc.cons 2 rfl ?_ ?_
      ·intro T w' f m a;refine Zw.does (by kernel_rfl) ?_;have r:T.getD 16 undef=_:=a 0 16;have D:=cell_later f ao.o;exact zs (by go_simp) rfl
      refine zc.cons 3 rfl ?_ ?_
      ·intro T w' f m a;refine Zw.does (by kernel_rfl) ?_;have r:T.getD 3 undef=.pointer (zO S 0):=m 3;exact zs (by go_simp) rfl
      refine zc.cons 4 rfl ?_ ?_
      ·intro T w' f m a;refine Zw.does (by kernel_rfl) ?_;have r:T.getD 18 undef=_:=a 2 18;have D:=cell_later f M.o;exact zs (by go_simp) rfl
      refine zc.cons 5 rfl ?_ ?_
      ·intro T w' f m a;refine Zw.does (by kernel_rfl) ?_;have r:T.getD 7 undef=zI k:=m 7;exact zs (by go_simp) rfl
      refine zc.cons 6 rfl ?_ ?_
      ·intro T w' f m a;refine Zw.does (by kernel_rfl) ?_;have r:T.getD 19 undef=_:=a 3 19;have z:T.getD 20 undef=_:=a 4 20;exact zs (by go_simp) rfl
      refine zc.cons 7 rfl ?_ ?_
      ·intro T w' f m a;refine Zw.does (by kernel_rfl) ?_;have r:T.getD 21 undef=_:=a 5 21;exact zs (by go_simp) rfl
      refine zc.cons 8 rfl ?_ ?_
      ·intro T w' f m a;refine Zw.does (by kernel_rfl) ?_;have r:T.getD 22 undef=_:=a 6 22;exact zs (by go_simp) rfl
      refine zc.cons 9 rfl ?_ ?_
      ·intro T w' f m a;refine Zw.does (by kernel_rfl) ?_;have r:T.getD 23 undef=_:=a 7 23;have D:=cell_later f N.o;exact zs (by go_simp) rfl
      refine zc.cons 10 rfl ?_ ?_
      ·intro T w' f m a;refine Zw.does (by kernel_rfl) ?_;have r:T.getD 2 undef=zI q:=m 2;exact zs (by go_simp) rfl
      refine zc.cons 11 rfl ?_ ?_
      ·intro T w' f m a;refine Zw.does (by kernel_rfl) ?_;have r:T.getD 17 undef=_:=a 1 17;have z:T.getD 24 undef=_:=a 8 24;have Z:T.getD 25 undef=_:=a 9 25;refine Or.inr ⟨150,#[.slice A C B,zI X.rq.queue,zI q],by go_simp,?_⟩;refine (av.o w' f).mono ?_;rintro e an ⟨rfl,F⟩;exact ⟨_,rfl,rfl,F⟩
      refine zc.cons 12 rfl ?_ ?_
      ·intro T w' f m a;refine Zw.does (by kernel_rfl) ?_;have r:T.getD 26 undef=_:=a 10 26;exact zs (by go_simp) rfl
      refine zc.cons 13 rfl (fun T w' f m a=>Zw.skip (by kernel_rfl) rfl) ?_;refine zc.cons 14 rfl (fun T w' f m a=>Zw.skip (by kernel_rfl) rfl) ?_;refine zc.cons 15 rfl (fun T w' f m a=>Zw.skip (by kernel_rfl) rfl) ?_;refine zc.cons 16 rfl (fun T w' f m a=>Zw.skip (by kernel_rfl) rfl) ?_;refine zc.cons 17 rfl (fun T w' f m a=>Zw.skip (by kernel_rfl) rfl) ?_;refine zc.cons 18 rfl (fun T w' f m a=>Zw.skip (by kernel_rfl) rfl) ?_;refine zc.cons 19 rfl (fun T w' f m a=>Zw.skip (by kernel_rfl) rfl) ?_;refine zc.cons 20 rfl (fun T w' f m a=>Zw.skip (by kernel_rfl) rfl) ?_;refine zc.cons 21 rfl ?_ ?_
      ·intro T w' f m a;refine Zw.does (by kernel_rfl) ?_;have r:T.getD 27 undef=_:=a 11 27;exact zs (by go_simp) rfl
      exact trivial
     case hfin =>
      intro T w' f ae m a;have W:T.getD 36 undef=.bool false:=a 20 36;rw [yb (tt 16 [false,false,false,false,false,false,false,false,false,false,false,false,false,false,false,false,false,false,false,false,false] 1) (by kernel_rfl) ae @m];obtain ⟨us,H⟩:∃ us:Nat->Value,(fun d=>T.getD d undef)=us:=⟨_,rfl⟩;rw [H];have Y:us 36=.bool false:=(by rw [<-H];exact W);apply_assumption;simp only [xj,tt,List.replicate,List.cons_append,List.nil_append];go_meet;exact ⟨_,rfl,Y,f⟩
    obtain ⟨a1,rfl,rfl,G⟩:=hcut;have O:=zh (za aq.o G);clear G;go_wp2;go_roundg j
    case measure=>have:=Q.o;omega
    case rel=>exact ⟨j,by go_num,by have:=Q.o;omega,rfl,ar.o,O.o⟩
   | true =>
    by_cases ag:0<u
    ·have ap:Zh (J=k):=by
      show J=k;rw [<-aP.o];exact Rv au.o ad (Or.inr (by rw [P.o,decide_eq_true ag];rfl))
     go_cut [36] (fun p I=>∃ V,V=I/\p=.bool true/\zL wr I)
     case first =>
      refine zV ((Tryz.f110.body.bind fun c=>yi c 4).getD #[]) (by kernel_rfl) [zl (.pointer (zO S 2)),zl (.slice A C B),zl (.pointer (zO S 3)),zl (.slice (zO x y) s E),zl (zI k),zl (.pointer (zO x (y+k*7))),zl (.pointer (zO x (y+k*7+1))),zl (.pointer (zO x (y+k*7+1))),zl (zI X.rq.queue),zl (zI q),zl (.bool true),zl (.bool true),zl (.pointer (zO S 3)),zl (.slice (zO x y) s E),zl (zI k),zl (.pointer (zO x (y+k*7))),zl (.agg (zB X)),zl (zI t),zl (zI u),zl (.bool true),zl (.bool true)] [(11,true)] (by kernel_rfl) (by kernel_rfl) (by kernel_rfl) ?hg ?hstep ?hfin
      case hg =>
       intro g hg v w h;simp only [List.mem_cons,List.not_mem_nil,or_false] at hg;rcases hg with rfl <;> exact h
      case hstep =>
       refine zc.cons 1 rfl ?_ ?_
       ·intro T w' f m a;have r:T.getD 3 undef=.pointer (zO S 0):=m 3;exact zs (by go_simp) rfl
       refine zc.cons 2 rfl ?_ ?_
       ·intro T w' f m a;have r:T.getD 16 undef=_:=a 0 16;have D:=cell_later f ao.o;exact zs (by go_simp) rfl
       refine zc.cons 3 rfl ?_ ?_
       ·intro T w' f m a;have r:T.getD 3 undef=.pointer (zO S 0):=m 3;exact zs (by go_simp) rfl
       refine zc.cons 4 rfl ?_ ?_
       ·intro T w' f m a;have r:T.getD 18 undef=_:=a 2 18;have D:=cell_later f M.o;exact zs (by go_simp) rfl
       refine zc.cons 5 rfl ?_ ?_
       ·intro T w' f m a;have r:T.getD 7 undef=zI k:=m 7;exact zs (by go_simp) rfl
       refine zc.cons 6 rfl ?_ ?_
       ·intro T w' f m a;have r:T.getD 19 undef=_:=a 3 19;have z:T.getD 20 undef=_:=a 4 20;exact zs (by go_simp) rfl
       refine zc.cons 7 rfl ?_ ?_
       ·intro T w' f m a;have r:T.getD 21 undef=_:=a 5 21;exact zs (by go_simp) rfl
       refine zc.cons 8 rfl ?_ ?_
       ·intro T w' f m a;have r:T.getD 22 undef=_:=a 6 22;exact zs (by go_simp) rfl
       refine zc.cons 9 rfl ?_ ?_
       ·intro T w' f m a;have r:T.getD 23 undef=_:=a 7 23;have D:=cell_later f N.o;exact zs (by go_simp) rfl
       refine zc.cons 10 rfl ?_ ?_
       ·intro T w' f m a;have r:T.getD 2 undef=zI q:=m 2;exact zs (by go_simp) rfl
       refine zc.cons 11 rfl ?_ ?_
       ·intro T w' f m a;have r:T.getD 17 undef=_:=a 1 17;have z:T.getD 24 undef=_:=a 8 24;have Z:T.getD 25 undef=_:=a 9 25;refine Or.inr ⟨150,#[.slice A C B,zI X.rq.queue,zI q],by go_simp,?_⟩;refine (av.o w' f).mono ?_;rintro e an ⟨rfl,F⟩;exact ⟨_,rfl,rfl,F⟩
       refine zc.cons 12 rfl ?_ ?_
       ·intro T w' f m a;have r:T.getD 26 undef=_:=a 10 26;exact zs (by go_simp) rfl
       refine zc.cons 13 rfl ?_ ?_
       ·intro T w' f m a;have r:T.getD 3 undef=.pointer (zO S 0):=m 3;exact zs (by go_simp) rfl
       refine zc.cons 14 rfl ?_ ?_
       ·intro T w' f m a;have r:T.getD 28 undef=_:=a 12 28;have D:=cell_later f M.o;exact zs (by go_simp) rfl
       refine zc.cons 15 rfl ?_ ?_
       ·intro T w' f m a;have r:T.getD 7 undef=zI k:=m 7;exact zs (by go_simp) rfl
       refine zc.cons 16 rfl ?_ ?_
       ·intro T w' f m a;have r:T.getD 29 undef=_:=a 13 29;have z:T.getD 30 undef=_:=a 14 30;exact zs (by go_simp) rfl
       refine zc.cons 17 rfl ?_ ?_
       ·intro T w' f m a;have r:T.getD 31 undef=_:=a 15 31;have bl:=cell_later f aJ.o;have bm:=cell_later f N.o;have bn:=cell_later f aK.o;have bo:=cell_later f aL.o;have bp:=cell_later f aM.o;have bq:=cell_later f aN.o;have br:=cell_later f aO.o;exact zs (by go_simp) rfl
       refine zc.cons 18 rfl ?_ ?_
       ·intro T w' f m a;have r:T.getD 1 undef=zI t:=m 1;exact zs (by go_simp) rfl
       refine zc.cons 19 rfl ?_ ?_
       ·intro T w' f m a;have r:T.getD 32 undef=_:=a 16 32;have z:T.getD 33 undef=_:=a 17 33;refine Or.inr ⟨151,#[.agg (zB X),zI t],by go_simp,?_⟩;refine (aV.o w' f).mono ?_;rintro e an ⟨rfl,F⟩;exact ⟨_,rfl,rfl,F⟩
       refine zc.cons 20 rfl ?_ ?_
       ·intro T w' f m a;have r:T.getD 34 undef=_:=a 18 34;exact zs (by go_simp) rfl
       refine zc.cons 21 rfl ?_ ?_
       ·intro T w' f m a;have r:T.getD 27 undef=_:=a 11 27;have z:T.getD 35 undef=_:=a 19 35;exact zs (by go_simp) rfl
       exact trivial
      case hfin =>
       intro T w' f ae m a;have W:T.getD 36 undef=.bool true:=a 20 36;rw [yb (tt 16 [false,false,false,false,false,false,false,false,false,false,false,false,false,false,false,false,false,false,false,false,false] 1) (by kernel_rfl) ae @m];obtain ⟨us,H⟩:∃ us:Nat->Value,(fun d=>T.getD d undef)=us:=⟨_,rfl⟩;rw [H];have Y:us 36=.bool true:=(by rw [<-H];exact W);apply_assumption;simp only [xj,tt,List.replicate,List.cons_append,List.nil_append];go_meet;exact ⟨_,rfl,Y,f⟩
     case rest =>
      obtain ⟨a1,rfl,rfl,G⟩:=hcut;have O:=zh (za (za aQ.o aq.o) G);clear G;go_wp2;go_ret;exact ⟨by rw [ap.o];rfl,by rw [<-aU.o];exact O.o⟩
    have ar:=zh (aS.o (by rw [P.o,decide_eq_false ag];rfl));go_cut [36] (fun p I=>∃ V,V=I/\p=.bool false/\zL wr I)
    case first =>
     refine zV ((Tryz.f110.body.bind fun c=>yi c 4).getD #[]) (by kernel_rfl) [zl (.pointer (zO S 2)),zl (.slice A C B),zl (.pointer (zO S 3)),zl (.slice (zO x y) s E),zl (zI k),zl (.pointer (zO x (y+k*7))),zl (.pointer (zO x (y+k*7+1))),zl (.pointer (zO x (y+k*7+1))),zl (zI X.rq.queue),zl (zI q),zl (.bool true),zl (.bool true),zl (.pointer (zO S 3)),zl (.slice (zO x y) s E),zl (zI k),zl (.pointer (zO x (y+k*7))),zl (.agg (zB X)),zl (zI t),zl (zI u),zl (.bool false),zl (.bool false)] [(11,true)] (by kernel_rfl) (by kernel_rfl) (by kernel_rfl) ?hg ?hstep ?hfin
     case hg =>
      intro g hg v w h;simp only [List.mem_cons,List.not_mem_nil,or_false] at hg;rcases hg with rfl <;> exact h
     case hstep =>
      refine zc.cons 1 rfl ?_ ?_
      ·intro T w' f m a;have r:T.getD 3 undef=.pointer (zO S 0):=m 3;exact zs (by go_simp) rfl
      refine zc.cons 2 rfl ?_ ?_
      ·intro T w' f m a;have r:T.getD 16 undef=_:=a 0 16;have D:=cell_later f ao.o;exact zs (by go_simp) rfl
      refine zc.cons 3 rfl ?_ ?_
      ·intro T w' f m a;have r:T.getD 3 undef=.pointer (zO S 0):=m 3;exact zs (by go_simp) rfl
      refine zc.cons 4 rfl ?_ ?_
      ·intro T w' f m a;have r:T.getD 18 undef=_:=a 2 18;have D:=cell_later f M.o;exact zs (by go_simp) rfl
      refine zc.cons 5 rfl ?_ ?_
      ·intro T w' f m a;have r:T.getD 7 undef=zI k:=m 7;exact zs (by go_simp) rfl
      refine zc.cons 6 rfl ?_ ?_
      ·intro T w' f m a;have r:T.getD 19 undef=_:=a 3 19;have z:T.getD 20 undef=_:=a 4 20;exact zs (by go_simp) rfl
      refine zc.cons 7 rfl ?_ ?_
      ·intro T w' f m a;have r:T.getD 21 undef=_:=a 5 21;exact zs (by go_simp) rfl
      refine zc.cons 8 rfl ?_ ?_
      ·intro T w' f m a;have r:T.getD 22 undef=_:=a 6 22;exact zs (by go_simp) rfl
      refine zc.cons 9 rfl ?_ ?_
      ·intro T w' f m a;have r:T.getD 23 undef=_:=a 7 23;have D:=cell_later f N.o;exact zs (by go_simp) rfl
      refine zc.cons 10 rfl ?_ ?_
      ·intro T w' f m a;have r:T.getD 2 undef=zI q:=m 2;exact zs (by go_simp) rfl
      refine zc.cons 11 rfl ?_ ?_
      ·intro T w' f m a;have r:T.getD 17 undef=_:=a 1 17;have z:T.getD 24 undef=_:=a 8 24;have Z:T.getD 25 undef=_:=a 9 25;refine Or.inr ⟨150,#[.slice A C B,zI X.rq.queue,zI q],by go_simp,?_⟩;refine (av.o w' f).mono ?_;rintro e an ⟨rfl,F⟩;exact ⟨_,rfl,rfl,F⟩
      refine zc.cons 12 rfl ?_ ?_
      ·intro T w' f m a;have r:T.getD 26 undef=_:=a 10 26;exact zs (by go_simp) rfl
      refine zc.cons 13 rfl ?_ ?_
      ·intro T w' f m a;have r:T.getD 3 undef=.pointer (zO S 0):=m 3;exact zs (by go_simp) rfl
      refine zc.cons 14 rfl ?_ ?_
      ·intro T w' f m a;have r:T.getD 28 undef=_:=a 12 28;have D:=cell_later f M.o;exact zs (by go_simp) rfl
      refine zc.cons 15 rfl ?_ ?_
      ·intro T w' f m a;have r:T.getD 7 undef=zI k:=m 7;exact zs (by go_simp) rfl
      refine zc.cons 16 rfl ?_ ?_
      ·intro T w' f m a;have r:T.getD 29 undef=_:=a 13 29;have z:T.getD 30 undef=_:=a 14 30;exact zs (by go_simp) rfl
      refine zc.cons 17 rfl ?_ ?_
      ·intro T w' f m a;have r:T.getD 31 undef=_:=a 15 31;have bl:=cell_later f aJ.o;have bm:=cell_later f N.o;have bn:=cell_later f aK.o;have bo:=cell_later f aL.o;have bp:=cell_later f aM.o;have bq:=cell_later f aN.o;have br:=cell_later f aO.o;exact zs (by go_simp) rfl
      refine zc.cons 18 rfl ?_ ?_
      ·intro T w' f m a;have r:T.getD 1 undef=zI t:=m 1;exact zs (by go_simp) rfl
      refine zc.cons 19 rfl ?_ ?_
      ·intro T w' f m a;have r:T.getD 32 undef=_:=a 16 32;have z:T.getD 33 undef=_:=a 17 33;refine Or.inr ⟨151,#[.agg (zB X),zI t],by go_simp,?_⟩;refine (aV.o w' f).mono ?_;rintro e an ⟨rfl,F⟩;exact ⟨_,rfl,rfl,F⟩
      refine zc.cons 20 rfl ?_ ?_
      ·intro T w' f m a;have r:T.getD 34 undef=_:=a 18 34;exact zs (by go_simp) rfl
      refine zc.cons 21 rfl ?_ ?_
      ·intro T w' f m a;have r:T.getD 27 undef=_:=a 11 27;have z:T.getD 35 undef=_:=a 19 35;exact zs (by go_simp) rfl
      exact trivial
     case hfin =>
      intro T w' f ae m a;have W:T.getD 36 undef=.bool false:=a 20 36;rw [yb (tt 16 [false,false,false,false,false,false,false,false,false,false,false,false,false,false,false,false,false,false,false,false,false] 1) (by kernel_rfl) ae @m];obtain ⟨us,H⟩:∃ us:Nat->Value,(fun d=>T.getD d undef)=us:=⟨_,rfl⟩;rw [H];have Y:us 36=.bool false:=(by rw [<-H];exact W);apply_assumption;simp only [xj,tt,List.replicate,List.cons_append,List.nil_append];go_meet;exact ⟨_,rfl,Y,f⟩
    obtain ⟨a1,rfl,rfl,G⟩:=hcut;have O:=zh (za aq.o G);clear G;go_wp2;go_roundg j
    case measure=>have:=Q.o;omega
    case rel=>exact ⟨j,by go_num,by have:=Q.o;omega,rfl,ar.o,O.o⟩
  have aE:k=0:=by omega
  have bd:¬((0:Int)<(k:Int)):=by omega
  have ap:Zh (J=0):=by
   show J=0;rw [<-aP.o,<-aE];exact Rv au.o ad (Or.inl aE)
  have a3:=zh ak;clear aE aF ab ak;go_wp2;go_ret;exact ⟨by rw [ap.o];rfl,by rw [<-aU.o];exact a3.o⟩
theorem Hw (w:World) (X:Bk) (b:RunsIn w X.ba X.bn X.bc X.bs) (c:Int) :
 zC 111 #[.agg #[zI X.id,zI X.rq.queue,zI X.rq.fr,zI X.rq.un,zI X.rq.kind,.slice X.rq.pa X.rq.pn X.rq.pc,.slice X.ba X.bn X.bc],zI c] w fun e w'=>e=.returned (.bool (ZD X c))/\Below w.heap.size w w':=by
 obtain ⟨S,v⟩:=qA (w.heap.size);obtain ⟨t,d⟩:=qB (w.alloc (.cells (zB X) 60));have h:zL w t:=by rw [d];exact zr _ _
 have I:t.cell? (zA S 6)=some (.slice X.ba X.bn X.bc):=by rw [d,<-v];go_simp
 have u:=b.later h;have q:=zh b.len;have N:=b.le;have M:=b.capb;have C:=zh u;have n:=zh h;have E:=zh d;have r:=zh v;obtain ⟨a,f⟩:=qA (ZD X c);rw [f];have l:=zh f;clear h d b u f;go_enter Tryz.func111,Tryz.ntmps111;go_wp2_with fail
 rw [<-E.o];go_loop [5] (fun p=>∃ k:Nat,p=zI k/\k<=X.bn/\zQ (fun i=>!decide (rN X.bs i<c)) k=true) (fun p=>X.bn-(intOf p).toNat)
 case atStart=>exact ⟨0,rfl,Nat.zero_le _,rfl⟩
 case round =>
  obtain ⟨k,rfl,O,y⟩:=hrel;have m:=zh y;clear y;by_cases H:k<X.bn
  ·have P:(k:Int)<X.bn:=(by omega);have Q:¬((k:Int)<0):=(by omega);obtain ⟨J,L,z,A⟩:=C.o.cells (by omega);rw [z] at I;have G:=(A k H).2;obtain ⟨x,j⟩:=qA (rN X.bs k);rw [j] at G;have s:=zh j;clear A j z;by_cases B:x<c
   ·have g:Zh (true=a):=by
     show true=a;rw [<-l.o];unfold ZD;rw [yO (p:=fun i=>!decide (rN X.bs i<c)) (k:=k) (by rw [s.o,decide_eq_true B];rfl) _ (by have:=q.o;omega)];rfl
    go_wp2;go_ret;exact ⟨by rw [<-g.o];rfl,by rw [<-r.o];exact n.o⟩
   have D:Zh (zQ (fun i=>!decide (rN X.bs i<c)) (k+1)=true):=by
    show zQ (fun i=>!decide (rN X.bs i<c)) (k+1)=true;rw [zQ,m.o,s.o,decide_eq_false B];rfl
   go_wp2;go_round
   case measure=>simp [intOf];omega
   case rel=>exact ⟨k+1,by go_num,by omega,D.o⟩
  obtain rfl:k=X.bn:=by omega
  have g:Zh (false=a):=by
   show false=a;rw [<-l.o];unfold ZD;rw [<-q.o,m.o];rfl
  go_wp2;go_ret;exact ⟨by rw [<-g.o];rfl,by rw [<-r.o];exact n.o⟩
end Go.Proofs.YtckpdfkobdgjeaaGreatDoor
