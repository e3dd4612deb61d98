/- Several texts in one: AnyB, RefR. -/
import Derived.Test.YtckpdfkobdgjeaaGreatDoorHAny
import Derived.Test.YtckpdfkobdgjeaaGreatDoorHRefQ
import Derived.Test.YtckpdfkobdgjeaaGreatDoorHAll15
namespace Go.Proofs.YtckpdfkobdgjeaaGreatDoor
set_option maxRecDepth 100000
set_option maxHeartbeats 4000000
open Go.RowKit
theorem SP {p:Nat->Bool}:∀ {n:Nat},zQ p n=false->∃ k,k<n/\p k=false
 | 0,h=>by simp [zQ] at h
 | n+1,h=>by
  rw [zQ,Bool.and_eq_false_iff] at h;rcases h with h | h
  ·obtain ⟨k,b,a⟩:=SP h;exact ⟨k,by omega,a⟩
  exact ⟨n,by omega,h⟩
theorem Uk {x:Bk} (h:meets x.rq x.bs=true) {t i:Nat} (d:rN x.bs i<=t) (f:(t:Int)<rN x.bs i+lenOf x.rq x.bs i):∀ k,i<k->k<=x.bs.length->0<yo x t k
 | 0,hk,_=>by omega
 | k+1,hk,hl=>by
  rw [yo];have a:=Y6 h t k (by omega);have b:=O3 h (k:=k) (by omega) t;by_cases e:i=k
  ·subst e;have c:=YC h (k:=i) (by omega);unfold VM;rw [if_pos ⟨d,f⟩];omega
  have:=Uk h d f k (by omega) (by omega);omega
theorem OQ {x:Bk} (h:meets x.rq x.bs=true) {t:Int} (d:0<=t) (a:Yb x t=true):0<yo x t.toNat x.bs.length:=by
 unfold Yb at a;rw [Bool.not_eq_true'] at a;obtain ⟨i,c,b⟩:=SP a;simp only [Vq,Bool.not_eq_false',Bool.and_eq_true,decide_eq_true_eq] at b;exact Uk h (i:=i) (by omega) (by omega) _ c (Nat.le_refl _)
theorem He {X:Bk} (h:meets X.rq X.bs=true) (t:Nat):Yb X (t:Int)=decide (0<yo X t X.bs.length):=by
 cases a:Yb X (t:Int) with
 | true =>
  have:=OQ h (by omega) a;rw [Int.toNat_natCast] at this;rw [decide_eq_true this]
 | false =>
  symm
  apply decide_eq_false;intro b;have:=Hf (X:=X) (t:=(t:Int)) (by omega) (by rw [Int.toNat_natCast];exact b);rw [a] at this;cases this
theorem Rv {l:QL} {b:BL} {t q:Int} {n k:Nat} (h:∀ i,k<i->i<n->Zz l b t q i=false) (f:k<n) (c:k=0\/Zz l b t q k=true):wC l b t q n=k:=by
 by_cases a:Zz l b t q k=true
 ·exact Ru f a h
 have g:k=0:=c.resolve_right a;subst g;refine V3 fun i d=>?_;by_cases e:i=0
 ·subst e;simpa using a
 exact h i (by omega) d
theorem J6 (w:World) (c n:Int) (y:Option Addr) (A z:Nat) (l:QL) (ba:Option Addr) (bn bc:Nat) (b:BL) (h:zY w y A z l ba bn bc b) (ai:Clean l b) (bB:0<bn) (t q:Nat) (bf:t<=48) :
 zC 110 #[.agg (zS c n y A z ba bn bc),zI t,zI q] w fun e w'=>e=.returned (zI (wC l b t q bn:Nat))/\Below w.heap.size w w':=by
 obtain ⟨S,aT⟩:=qA (w.heap.size);obtain ⟨P,W⟩:=qB (w.alloc (.cells (zS c n y A z ba bn bc) 40));have aU:zL w P:=by rw [W];exact zr _ _
 have aF:zj P S (zI c) (zI n) (.slice y A z) (.slice ba bn bc):=by rw [W,<-aT];exact zj.new w _ _ _ _
 have a2:=zh h;have aO:=zh ai;have aZ:=zh h.2.len;have a3:=zh h.1.len;have bt:bn<=12:=by have:=ai.few;have:=h.2.len;omega
 have bv:=h.2.le;have bu:=h.2.capb;have a1:=zh (yY ai.tree);have a6:=zh aF;have aN:=zh aU;have a4:=zh W;have aR:=zh aT;obtain ⟨G,aw⟩:=qA (wC l b t q bn);rw [aw];have aM:=zh aw;have bg:IntKind.i64.wrap ((bn:Int)-1)=((bn-1:Nat):Int):=by rw [IntKind.wrap_i64];omega
 obtain ⟨af,ax⟩:=qA (bn-1);rw [ax] at bg;have aQ:=zh ax;obtain ⟨H,c1,c2,c3⟩:=aF.cells;rw [W] at H c1 c2 c3;clear aF aU W h ai aw ax;go_enter Tryz.func110,Tryz.ntmps110;go_wp2_with fail
 rw [<-a4.o];clear H c1 c2 c3;go_loopg [7] af (fun a8 (p:Value) wr=>∃ (k:Nat),p=zI k/\k<bn/\k=a8/\(∀ i,k<i->i<bn->Zz l b t q i=false)/\zL P wr)
 case atStart=>exact ⟨af,rfl,by have:=aQ.o;omega,rfl,fun i x V=>by have:=aQ.o;omega,Below.refl _ _⟩
 case round =>
  obtain ⟨k,rfl,Z,rfl,aC,Y⟩:=hrel;have an:=zh Y;have ap:=zh aC;have ah:=za aN.o Y;by_cases bx:0<k
  ·obtain ⟨j,aW⟩:∃ j,k=j+1:=⟨k-1,by omega⟩;have bw:IntKind.i64.wrap ((k:Int)-1)=(j:Int):=(by rw [IntKind.wrap_i64];omega);have bb:(0:Int)<(k:Int):=(by omega);have bz:(k:Int)<bn:=(by omega);have bA:¬((k:Int)<0):=(by omega);have ab:=a2.o.later ah;obtain ⟨s,u,a9,aV⟩:=ab.2.cells (by omega);subst a9;obtain ⟨X,ay⟩:=qA (bk b k);obtain ⟨H,c1,c2,c3,c4,c5,av⟩:=aV k Z;have aD:=ab.2.rqs k Z;have az:=ab.2.bites k Z;have aA:=aO.o.each k (by have:=aZ.o;omega);rw [ay] at H c1 c2 c3 c4 c5 av aD az aA;obtain ⟨aj,bd,be⟩:=y8 aO.o.tree aA;have ar:=zh fun O (ag:zL wr O)=>TK O y A z l X.rq.queue (q:Int) (ab.1.later ag) a1.o (by have:=a3.o;omega);have au:=zh fun O (ag:zL wr O)=>LE O X (aD.later ag) (az.later ag) aj (Ym aj) t bf;have M:Zh (Zz l b t q k=(yG l X.rq.queue q&&decide (0<yo X t X.bs.length))):=by
    show Zz l b t q k=_;unfold Zz;rw [ay,He aj]
   obtain ⟨ae,ad⟩:=qA (yo X t X.bs.length);rw [ad] at au M;obtain ⟨aE,aX⟩:=qA (yG l X.rq.queue (q:Int));rw [aX] at ar M;have aG:=zh H;have J:=zh c1;have aH:=zh c2;have aI:=zh c3;have aJ:=zh c4;have aK:=zh c5;have aL:=zh av;have a5:=zh (a6.o.later Y);obtain ⟨bC,bD,bh,bi⟩:=a5.o.cells;have al:=zh bh;have I:=zh bi;have N:=zh aW;have aP:Zh (Zz l b t q k=false->∀ i,j<i->i<bn->Zz l b t q i=false):=fun e i x V=>by
    by_cases a7:i=k
    ·rw [a7];exact e
    exact ap.o i (by have:=N.o;omega) V
   clear ab aV aD az aA ay Y ah aj bd be ad aX aW aC H c1 c2 c3 c4 c5 av;have aq:=ar;have aS:=au;clear ar au;go_upto_region 4 with fail
   cases aE with
   | false =>
    have ao:=zh (aP.o (by rw [M.o];rfl));go_cut [36] (fun p F=>∃ Q,Q=F/\p=.bool false/\zL wr F)
    case first =>
     refine Vs ((Tryz.f110.body.bind fun c=>yi c 4).getD #[]) (by kernel_rfl) [zl (.pointer (zO S 2)),zl (.slice y A z),zl (.pointer (zO S 3)),zl (.slice (zO s u) bn bc),zl (zI k),zl (.pointer (zO s (u+k*7))),zl (.pointer (zO s (u+k*7+1))),zl (.pointer (zO s (u+k*7+1))),zl (zI X.rq.queue),zl (zI q),zl (.bool false),zl (.bool false),zl undef,zl undef,zl undef,zl undef,zl undef,zl undef,zl undef,zl undef,zl (.bool false)] [] [(11,true)] (by kernel_rfl) (by kernel_rfl) (by kernel_rfl) ?hg ?hn ?hstep ?hfin
     case hg =>
      intro g hg v w h;cases hg
     case hn =>
      intro g hg v w h;simp only [List.mem_cons,List.not_mem_nil,or_false] at hg;rcases hg with rfl
      all_goals
       have h:v=_:=h;rw [h];intro q;cases q
     case hstep =>
      refine zc.cons 1 rfl ?_ ?_
      ·intro T w' f m a;refine Zw.does (by kernel_rfl) ?_;have r:T.getD 3 undef=.pointer (zO S 0):=m 3;exact zs (by go_simp) rfl
      refine zc.cons 2 rfl ?_ ?_
      ·intro T w' f m a;refine Zw.does (by kernel_rfl) ?_;have r:T.getD 16 undef=_:=a 0 16;have B:=cell_later f al.o;exact zs (by go_simp) rfl
      refine zc.cons 3 rfl ?_ ?_
      ·intro T w' f m a;refine Zw.does (by kernel_rfl) ?_;have r:T.getD 3 undef=.pointer (zO S 0):=m 3;exact zs (by go_simp) rfl
      refine zc.cons 4 rfl ?_ ?_
      ·intro T w' f m a;refine Zw.does (by kernel_rfl) ?_;have r:T.getD 18 undef=_:=a 2 18;have B:=cell_later f I.o;exact zs (by go_simp) rfl
      refine zc.cons 5 rfl ?_ ?_
      ·intro T w' f m a;refine Zw.does (by kernel_rfl) ?_;have r:T.getD 7 undef=zI k:=m 7;exact zs (by go_simp) rfl
      refine zc.cons 6 rfl ?_ ?_
      ·intro T w' f m a;refine Zw.does (by kernel_rfl) ?_;have r:T.getD 19 undef=_:=a 3 19;have x:T.getD 20 undef=_:=a 4 20;exact zs (by go_simp) rfl
      refine zc.cons 7 rfl ?_ ?_
      ·intro T w' f m a;refine Zw.does (by kernel_rfl) ?_;have r:T.getD 21 undef=_:=a 5 21;exact zs (by go_simp) rfl
      refine zc.cons 8 rfl ?_ ?_
      ·intro T w' f m a;refine Zw.does (by kernel_rfl) ?_;have r:T.getD 22 undef=_:=a 6 22;exact zs (by go_simp) rfl
      refine zc.cons 9 rfl ?_ ?_
      ·intro T w' f m a;refine Zw.does (by kernel_rfl) ?_;have r:T.getD 23 undef=_:=a 7 23;have B:=cell_later f J.o;exact zs (by go_simp) rfl
      refine zc.cons 10 rfl ?_ ?_
      ·intro T w' f m a;refine Zw.does (by kernel_rfl) ?_;have r:T.getD 2 undef=zI q:=m 2;exact zs (by go_simp) rfl
      refine zc.cons 11 rfl ?_ ?_
      ·intro T w' f m a;refine Zw.does (by kernel_rfl) ?_;have r:T.getD 17 undef=_:=a 1 17;have x:T.getD 24 undef=_:=a 8 24;have V:T.getD 25 undef=_:=a 9 25;refine Or.inr ⟨150,#[.slice y A z,zI X.rq.queue,zI q],by go_simp,?_⟩;refine (aq.o w' f).mono ?_;rintro e ak ⟨rfl,C⟩;exact ⟨_,rfl,rfl,C⟩
      refine zc.cons 12 rfl ?_ ?_
      ·intro T w' f m a;refine Zw.does (by kernel_rfl) ?_;have r:T.getD 26 undef=_:=a 10 26;exact zs (by go_simp) rfl
      refine zc.cons 13 rfl (fun T w' f m a=>Zw.skip (by kernel_rfl) rfl) ?_;refine zc.cons 14 rfl (fun T w' f m a=>Zw.skip (by kernel_rfl) rfl) ?_;refine zc.cons 15 rfl (fun T w' f m a=>Zw.skip (by kernel_rfl) rfl) ?_;refine zc.cons 16 rfl (fun T w' f m a=>Zw.skip (by kernel_rfl) rfl) ?_;refine zc.cons 17 rfl (fun T w' f m a=>Zw.skip (by kernel_rfl) rfl) ?_;refine zc.cons 18 rfl (fun T w' f m a=>Zw.skip (by kernel_rfl) rfl) ?_;refine zc.cons 19 rfl (fun T w' f m a=>Zw.skip (by kernel_rfl) rfl) ?_;refine zc.cons 20 rfl (fun T w' f m a=>Zw.skip (by kernel_rfl) rfl) ?_;refine zc.cons 21 rfl ?_ ?_
      ·intro T w' f m a;refine Zw.does (by kernel_rfl) ?_;have r:T.getD 27 undef=_:=a 11 27;exact zs (by go_simp) rfl
      exact trivial
     case hfin =>
      intro T w' f aa m a;have R:T.getD 36 undef=.bool false:=a 20 36;rw [yb (tt 16 [false,false,false,false,false,false,false,false,false,false,false,false,false,false,false,false,false,false,false,false,false] 1) (by kernel_rfl) aa @m];obtain ⟨us,E⟩:∃ us:Nat->Value,(fun d=>T.getD d undef)=us:=⟨_,rfl⟩;rw [E];have U:us 36=.bool false:=(by rw [<-E];exact R);apply_assumption;simp only [xj,tt,List.replicate,List.cons_append,List.nil_append];go_meet;exact ⟨_,rfl,U,f⟩
    obtain ⟨aY,rfl,rfl,D⟩:=hcut;have L:=zh (za an.o D);clear D;go_wp2;go_roundg j
    case measure=>have:=N.o;omega
    case rel=>exact ⟨j,by go_num,by have:=N.o;omega,rfl,ao.o,L.o⟩
   | true =>
    by_cases ad:0<ae
    ·have am:Zh (G=k):=by
      show G=k;rw [<-aM.o];exact Rv ap.o Z (Or.inr (by rw [M.o,decide_eq_true ad];rfl))
     go_cut [36] (fun p F=>∃ Q,Q=F/\p=.bool true/\zL wr F)
     case first =>
      refine zV ((Tryz.f110.body.bind fun c=>yi c 4).getD #[]) (by kernel_rfl) [zl (.pointer (zO S 2)),zl (.slice y A z),zl (.pointer (zO S 3)),zl (.slice (zO s u) bn bc),zl (zI k),zl (.pointer (zO s (u+k*7))),zl (.pointer (zO s (u+k*7+1))),zl (.pointer (zO s (u+k*7+1))),zl (zI X.rq.queue),zl (zI q),zl (.bool true),zl (.bool true),zl (.pointer (zO S 3)),zl (.slice (zO s u) bn bc),zl (zI k),zl (.pointer (zO s (u+k*7))),zl (.agg (zB X)),zl (zI t),zl (zI ae),zl (.bool true),zl (.bool true)] [(11,true)] (by kernel_rfl) (by kernel_rfl) (by kernel_rfl) ?hg ?hstep ?hfin
      case hg =>
       intro g hg v w h;simp only [List.mem_cons,List.not_mem_nil,or_false] at hg;rcases hg with rfl <;> exact h
      case hstep =>
       refine zc.cons 1 rfl ?_ ?_
       ·intro T w' f m a;have r:T.getD 3 undef=.pointer (zO S 0):=m 3;exact zs (by go_simp) rfl
       refine zc.cons 2 rfl ?_ ?_
       ·intro T w' f m a;have r:T.getD 16 undef=_:=a 0 16;have B:=cell_later f al.o;exact zs (by go_simp) rfl
       refine zc.cons 3 rfl ?_ ?_
       ·intro T w' f m a;have r:T.getD 3 undef=.pointer (zO S 0):=m 3;exact zs (by go_simp) rfl
       refine zc.cons 4 rfl ?_ ?_
       ·intro T w' f m a;have r:T.getD 18 undef=_:=a 2 18;have B:=cell_later f I.o;exact zs (by go_simp) rfl
       refine zc.cons 5 rfl ?_ ?_
       ·intro T w' f m a;have r:T.getD 7 undef=zI k:=m 7;exact zs (by go_simp) rfl
       refine zc.cons 6 rfl ?_ ?_
       ·intro T w' f m a;have r:T.getD 19 undef=_:=a 3 19;have x:T.getD 20 undef=_:=a 4 20;exact zs (by go_simp) rfl
       refine zc.cons 7 rfl ?_ ?_
       ·intro T w' f m a;have r:T.getD 21 undef=_:=a 5 21;exact zs (by go_simp) rfl
       refine zc.cons 8 rfl ?_ ?_
       ·intro T w' f m a;have r:T.getD 22 undef=_:=a 6 22;exact zs (by go_simp) rfl
       refine zc.cons 9 rfl ?_ ?_
       ·intro T w' f m a;have r:T.getD 23 undef=_:=a 7 23;have B:=cell_later f J.o;exact zs (by go_simp) rfl
       refine zc.cons 10 rfl ?_ ?_
       ·intro T w' f m a;have r:T.getD 2 undef=zI q:=m 2;exact zs (by go_simp) rfl
       refine zc.cons 11 rfl ?_ ?_
       ·intro T w' f m a;have r:T.getD 17 undef=_:=a 1 17;have x:T.getD 24 undef=_:=a 8 24;have V:T.getD 25 undef=_:=a 9 25;refine Or.inr ⟨150,#[.slice y A z,zI X.rq.queue,zI q],by go_simp,?_⟩;refine (aq.o w' f).mono ?_;rintro e ak ⟨rfl,C⟩;exact ⟨_,rfl,rfl,C⟩
       refine zc.cons 12 rfl ?_ ?_
       ·intro T w' f m a;have r:T.getD 26 undef=_:=a 10 26;exact zs (by go_simp) rfl
       refine zc.cons 13 rfl ?_ ?_
       ·intro T w' f m a;have r:T.getD 3 undef=.pointer (zO S 0):=m 3;exact zs (by go_simp) rfl
       refine zc.cons 14 rfl ?_ ?_
       ·intro T w' f m a;have r:T.getD 28 undef=_:=a 12 28;have B:=cell_later f I.o;exact zs (by go_simp) rfl
       refine zc.cons 15 rfl ?_ ?_
       ·intro T w' f m a;have r:T.getD 7 undef=zI k:=m 7;exact zs (by go_simp) rfl
       refine zc.cons 16 rfl ?_ ?_
       ·intro T w' f m a;have r:T.getD 29 undef=_:=a 13 29;have x:T.getD 30 undef=_:=a 14 30;exact zs (by go_simp) rfl
       refine zc.cons 17 rfl ?_ ?_
       ·intro T w' f m a;have r:T.getD 31 undef=_:=a 15 31;have bj:=cell_later f aG.o;have bl:=cell_later f J.o;have bm:=cell_later f aH.o;have bo:=cell_later f aI.o;have bp:=cell_later f aJ.o;have bq:=cell_later f aK.o;have br:=cell_later f aL.o;exact zs (by go_simp) rfl
       refine zc.cons 18 rfl ?_ ?_
       ·intro T w' f m a;have r:T.getD 1 undef=zI t:=m 1;exact zs (by go_simp) rfl
       refine zc.cons 19 rfl ?_ ?_
       ·intro T w' f m a;have r:T.getD 32 undef=_:=a 16 32;have x:T.getD 33 undef=_:=a 17 33;refine Or.inr ⟨151,#[.agg (zB X),zI t],by go_simp,?_⟩;refine (aS.o w' f).mono ?_;rintro e ak ⟨rfl,C⟩;exact ⟨_,rfl,rfl,C⟩
       refine zc.cons 20 rfl ?_ ?_
       ·intro T w' f m a;have r:T.getD 34 undef=_:=a 18 34;exact zs (by go_simp) rfl
       refine zc.cons 21 rfl ?_ ?_
       ·intro T w' f m a;have r:T.getD 27 undef=_:=a 11 27;have x:T.getD 35 undef=_:=a 19 35;exact zs (by go_simp) rfl
       exact trivial
      case hfin =>
       intro T w' f aa m a;have R:T.getD 36 undef=.bool true:=a 20 36;rw [yb (tt 16 [false,false,false,false,false,false,false,false,false,false,false,false,false,false,false,false,false,false,false,false,false] 1) (by kernel_rfl) aa @m];obtain ⟨us,E⟩:∃ us:Nat->Value,(fun d=>T.getD d undef)=us:=⟨_,rfl⟩;rw [E];have U:us 36=.bool true:=(by rw [<-E];exact R);apply_assumption;simp only [xj,tt,List.replicate,List.cons_append,List.nil_append];go_meet;exact ⟨_,rfl,U,f⟩
     case rest =>
      obtain ⟨aY,rfl,rfl,D⟩:=hcut;have L:=zh (za (za aN.o an.o) D);clear D;go_wp2;go_ret;exact ⟨by rw [am.o];rfl,by rw [<-aR.o];exact L.o⟩
    have ao:=zh (aP.o (by rw [M.o,decide_eq_false ad];rfl));go_cut [36] (fun p F=>∃ Q,Q=F/\p=.bool false/\zL wr F)
    case first =>
     refine zV ((Tryz.f110.body.bind fun c=>yi c 4).getD #[]) (by kernel_rfl) [zl (.pointer (zO S 2)),zl (.slice y A z),zl (.pointer (zO S 3)),zl (.slice (zO s u) bn bc),zl (zI k),zl (.pointer (zO s (u+k*7))),zl (.pointer (zO s (u+k*7+1))),zl (.pointer (zO s (u+k*7+1))),zl (zI X.rq.queue),zl (zI q),zl (.bool true),zl (.bool true),zl (.pointer (zO S 3)),zl (.slice (zO s u) bn bc),zl (zI k),zl (.pointer (zO s (u+k*7))),zl (.agg (zB X)),zl (zI t),zl (zI ae),zl (.bool false),zl (.bool false)] [(11,true)] (by kernel_rfl) (by kernel_rfl) (by kernel_rfl) ?hg ?hstep ?hfin
     case hg =>
      intro g hg v w h;simp only [List.mem_cons,List.not_mem_nil,or_false] at hg;rcases hg with rfl <;> exact h
     case hstep =>
      refine zc.cons 1 rfl ?_ ?_
      ·intro T w' f m a;have r:T.getD 3 undef=.pointer (zO S 0):=m 3;exact zs (by go_simp) rfl
      refine zc.cons 2 rfl ?_ ?_
      ·intro T w' f m a;have r:T.getD 16 undef=_:=a 0 16;have B:=cell_later f al.o;exact zs (by go_simp) rfl
      refine zc.cons 3 rfl ?_ ?_
      ·intro T w' f m a;have r:T.getD 3 undef=.pointer (zO S 0):=m 3;exact zs (by go_simp) rfl
      refine zc.cons 4 rfl ?_ ?_
      ·intro T w' f m a;have r:T.getD 18 undef=_:=a 2 18;have B:=cell_later f I.o;exact zs (by go_simp) rfl
      refine zc.cons 5 rfl ?_ ?_
      ·intro T w' f m a;have r:T.getD 7 undef=zI k:=m 7;exact zs (by go_simp) rfl
      refine zc.cons 6 rfl ?_ ?_
      ·intro T w' f m a;have r:T.getD 19 undef=_:=a 3 19;have x:T.getD 20 undef=_:=a 4 20;exact zs (by go_simp) rfl
      refine zc.cons 7 rfl ?_ ?_
      ·intro T w' f m a;have r:T.getD 21 undef=_:=a 5 21;exact zs (by go_simp) rfl
      refine zc.cons 8 rfl ?_ ?_
      ·intro T w' f m a;have r:T.getD 22 undef=_:=a 6 22;exact zs (by go_simp) rfl
      refine zc.cons 9 rfl ?_ ?_
      ·intro T w' f m a;have r:T.getD 23 undef=_:=a 7 23;have B:=cell_later f J.o;exact zs (by go_simp) rfl
      refine zc.cons 10 rfl ?_ ?_
      ·intro T w' f m a;have r:T.getD 2 undef=zI q:=m 2;exact zs (by go_simp) rfl
      refine zc.cons 11 rfl ?_ ?_
      ·intro T w' f m a;have r:T.getD 17 undef=_:=a 1 17;have x:T.getD 24 undef=_:=a 8 24;have V:T.getD 25 undef=_:=a 9 25;refine Or.inr ⟨150,#[.slice y A z,zI X.rq.queue,zI q],by go_simp,?_⟩;refine (aq.o w' f).mono ?_;rintro e ak ⟨rfl,C⟩;exact ⟨_,rfl,rfl,C⟩
      refine zc.cons 12 rfl ?_ ?_
      ·intro T w' f m a;have r:T.getD 26 undef=_:=a 10 26;exact zs (by go_simp) rfl
      refine zc.cons 13 rfl ?_ ?_
      ·intro T w' f m a;have r:T.getD 3 undef=.pointer (zO S 0):=m 3;exact zs (by go_simp) rfl
      refine zc.cons 14 rfl ?_ ?_
      ·intro T w' f m a;have r:T.getD 28 undef=_:=a 12 28;have B:=cell_later f I.o;exact zs (by go_simp) rfl
      refine zc.cons 15 rfl ?_ ?_
      ·intro T w' f m a;have r:T.getD 7 undef=zI k:=m 7;exact zs (by go_simp) rfl
      refine zc.cons 16 rfl ?_ ?_
      ·intro T w' f m a;have r:T.getD 29 undef=_:=a 13 29;have x:T.getD 30 undef=_:=a 14 30;exact zs (by go_simp) rfl
      refine zc.cons 17 rfl ?_ ?_
      ·intro T w' f m a;have r:T.getD 31 undef=_:=a 15 31;have bj:=cell_later f aG.o;have bl:=cell_later f J.o;have bm:=cell_later f aH.o;have bo:=cell_later f aI.o;have bp:=cell_later f aJ.o;have bq:=cell_later f aK.o;have br:=cell_later f aL.o;exact zs (by go_simp) rfl
      refine zc.cons 18 rfl ?_ ?_
      ·intro T w' f m a;have r:T.getD 1 undef=zI t:=m 1;exact zs (by go_simp) rfl
      refine zc.cons 19 rfl ?_ ?_
      ·intro T w' f m a;have r:T.getD 32 undef=_:=a 16 32;have x:T.getD 33 undef=_:=a 17 33;refine Or.inr ⟨151,#[.agg (zB X),zI t],by go_simp,?_⟩;refine (aS.o w' f).mono ?_;rintro e ak ⟨rfl,C⟩;exact ⟨_,rfl,rfl,C⟩
      refine zc.cons 20 rfl ?_ ?_
      ·intro T w' f m a;have r:T.getD 34 undef=_:=a 18 34;exact zs (by go_simp) rfl
      refine zc.cons 21 rfl ?_ ?_
      ·intro T w' f m a;have r:T.getD 27 undef=_:=a 11 27;have x:T.getD 35 undef=_:=a 19 35;exact zs (by go_simp) rfl
      exact trivial
     case hfin =>
      intro T w' f aa m a;have R:T.getD 36 undef=.bool false:=a 20 36;rw [yb (tt 16 [false,false,false,false,false,false,false,false,false,false,false,false,false,false,false,false,false,false,false,false,false] 1) (by kernel_rfl) aa @m];obtain ⟨us,E⟩:∃ us:Nat->Value,(fun d=>T.getD d undef)=us:=⟨_,rfl⟩;rw [E];have U:us 36=.bool false:=(by rw [<-E];exact R);apply_assumption;simp only [xj,tt,List.replicate,List.cons_append,List.nil_append];go_meet;exact ⟨_,rfl,U,f⟩
    obtain ⟨aY,rfl,rfl,D⟩:=hcut;have L:=zh (za an.o D);clear D;go_wp2;go_roundg j
    case measure=>have:=N.o;omega
    case rel=>exact ⟨j,by go_num,by have:=N.o;omega,rfl,ao.o,L.o⟩
  have aB:k=0:=by omega
  have bb:¬((0:Int)<(k:Int)):=by omega
  have am:Zh (G=0):=by
   show G=0;rw [<-aM.o,<-aB];exact Rv ap.o Z (Or.inl aB)
  have a0:=zh ah;clear aB aC Y ah;go_wp2;go_ret;exact ⟨by rw [am.o];rfl,by rw [<-aR.o];exact a0.o⟩
theorem Hw (w:World) (X:Bk) (b:RunsIn w X.ba X.bn X.bc X.bs) (c:Int) :
 zC 111 #[.agg #[zI X.id,zI X.rq.queue,zI X.rq.fr,zI X.rq.un,zI X.rq.kind,.slice X.rq.pa X.rq.pn X.rq.pc,.slice X.ba X.bn X.bc],zI c] w fun e w'=>e=.returned (.bool (ZD X c))/\Below w.heap.size w w':=by
 obtain ⟨S,v⟩:=qA (w.heap.size);obtain ⟨t,d⟩:=qB (w.alloc (.cells (zB X) 60));have h:zL w t:=by rw [d];exact zr _ _
 have I:t.cell? (zA S 6)=some (.slice X.ba X.bn X.bc):=by rw [d,<-v];go_simp
 have u:=b.later h;have q:=zh b.len;have N:=b.le;have M:=b.capb;have C:=zh u;have n:=zh h;have E:=zh d;have r:=zh v;obtain ⟨a,f⟩:=qA (ZD X c);rw [f];have l:=zh f;clear h d b u f;go_enter Tryz.func111,Tryz.ntmps111;go_wp2_with fail
 rw [<-E.o];go_loop [5] (fun p=>∃ k:Nat,p=zI k/\k<=X.bn/\zQ (fun i=>!decide (rN X.bs i<c)) k=true) (fun p=>X.bn-(intOf p).toNat)
 case atStart=>exact ⟨0,rfl,Nat.zero_le _,rfl⟩
 case round =>
  obtain ⟨k,rfl,O,y⟩:=hrel;have m:=zh y;clear y;by_cases H:k<X.bn
  ·have P:(k:Int)<X.bn:=(by omega);have Q:¬((k:Int)<0):=(by omega);obtain ⟨J,L,z,A⟩:=C.o.cells (by omega);rw [z] at I;have G:=(A k H).2;obtain ⟨x,j⟩:=qA (rN X.bs k);rw [j] at G;have s:=zh j;clear A j z;by_cases B:x<c
   ·have g:Zh (true=a):=by
     show true=a;rw [<-l.o];unfold ZD;rw [yO (p:=fun i=>!decide (rN X.bs i<c)) (k:=k) (by rw [s.o,decide_eq_true B];rfl) _ (by have:=q.o;omega)];rfl
    go_wp2;go_ret;exact ⟨by rw [<-g.o];rfl,by rw [<-r.o];exact n.o⟩
   have D:Zh (zQ (fun i=>!decide (rN X.bs i<c)) (k+1)=true):=by
    show zQ (fun i=>!decide (rN X.bs i<c)) (k+1)=true;rw [zQ,m.o,s.o,decide_eq_false B];rfl
   go_wp2;go_round
   case measure=>simp [intOf];omega
   case rel=>exact ⟨k+1,by go_num,by omega,D.o⟩
  obtain rfl:k=X.bn:=by omega
  have g:Zh (false=a):=by
   show false=a;rw [<-l.o];unfold ZD;rw [<-q.o,m.o];rfl
  go_wp2;go_ret;exact ⟨by rw [<-g.o];rfl,by rw [<-r.o];exact n.o⟩
end Go.Proofs.YtckpdfkobdgjeaaGreatDoor
