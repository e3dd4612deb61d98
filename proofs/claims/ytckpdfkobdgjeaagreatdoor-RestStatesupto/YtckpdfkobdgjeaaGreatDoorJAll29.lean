/- Several texts in one: RestM, SeekG, LogR. -/
import Derived.Test.YtckpdfkobdgjeaaGreatDoorJAll18
import Derived.Test.YtckpdfkobdgjeaaGreatDoorJAll25
import Derived.Test.YtckpdfkobdgjeaaGreatDoorJAll20
import Derived.Test.YtckpdfkobdgjeaaGreatDoorJAll16
namespace Go.Proofs.YtckpdfkobdgjeaaGreatDoor
set_option maxRecDepth 100000
set_option maxHeartbeats 4000000
open Go.RowKit
set_option linter.unusedSectionVars false
variable [Inhabited Mk]
def wb (v u:Value):Prop:=u=v\/(∃ a b,v=zI a/\u=zI b)\/(∃ a n c,v=.slice a n c/\u=.slice none 0 0)\/∃ s t,v=.string s/\u=.string t
theorem wb.int (a b:Int):wb (zI a) (zI b):=Or.inr (Or.inl ⟨a,b,rfl,rfl⟩)
theorem wb.nil (a:Option Addr) (n c:Nat):wb (.slice a n c) zN:=Or.inr (Or.inr (Or.inl ⟨a,n,c,rfl,rfl⟩))
theorem wb.str (s t:ByteArray):wb (.string s) (.string t):=Or.inr (Or.inr (Or.inr ⟨s,t,rfl,rfl⟩))
structure Wiped (S P:Nat) (W0 w:World):Prop where
 below:Below S W0 w
 box:w.heap[P]?=W0.heap[P]?
 cell:∀ b k v,W0.cell? (zA b k)=some v->∃ u,w.cell? (zA b k)=some u/\wb v u
 froz:∀ b k,w.frozen? (zA b k)=W0.frozen? (zA b k)
theorem Wiped.refl (S P:Nat) (w:World):Wiped S P w w:=⟨Below.refl _ _,rfl,fun _ _ v h=>⟨v,h,Or.inl rfl⟩,fun _ _=>rfl⟩
theorem Wiped.set {S P:Nat} {W0 w:World} (h:Wiped S P W0 w) {b k:Nat} {v u:Value} (l:S<=b) (j:b≠P) (g:W0.cell? (zA b k)=some v) (m:wb v u):Wiped S P W0 (w.setCell (zA b k) u):=by
 refine ⟨h.below.setCell (p:=(zA b k)) l u,(Below.heap_setCell w (zA b k) u P (fun e=>j e.symm)).trans h.box,fun a c o d=>?_,fun a c=>?_⟩
 ·by_cases e:((zA b k):Addr)=(zA a c)
  ·cases e
   rw [g] at d;cases d
   obtain ⟨i,f,_⟩:=h.cell b k v g;exact ⟨u,World.cell?_setCell_same' w (zA b k) u (by rw [f];rfl),m⟩
  obtain ⟨i,f,n⟩:=h.cell a c o d;exact ⟨i,by rw [World.cell?_setCell_other (w:=w) (v:=u) (h:=e)];exact f,n⟩
 rw [World.frozen?_setCell];exact h.froz a c
theorem wf {w:World} {p:Addr} {a:Option Addr} {n c:Nat} (h:∃ u,w.cell? p=some u/\wb (.slice a n c) u):∃ b M C,w.cell? p=some (.slice b M C)/\((b=a/\M=n/\C=c)\/M=0):=by
 obtain ⟨u,h,d⟩:=h;rcases d with rfl | ⟨_,_,e,_⟩ | ⟨_,_,_,_,rfl⟩ | ⟨_,_,e,_⟩
 ·exact ⟨a,n,c,h,Or.inl ⟨rfl,rfl,rfl⟩⟩
 ·cases e
 ·exact ⟨none,0,0,h,Or.inr rfl⟩
 cases e
theorem zf {w:World} {p:Addr} {a:Int} (h:∃ u,w.cell? p=some u/\wb (zI a) u):∃ z,w.cell? p=some (zI z):=by
 obtain ⟨u,h,c⟩:=h;rcases c with rfl | ⟨_,b,_,rfl⟩ | ⟨_,_,_,e,_⟩ | ⟨_,_,e,_⟩
 ·exact ⟨a,h⟩
 ·exact ⟨b,h⟩
 ·cases e
 cases e
theorem Ex {w:World} {p:Addr} {s:ByteArray} (h:∃ u,w.cell? p=some u/\wb (.string s) u):∃ z,w.cell? p=some (.string z):=by
 obtain ⟨u,h,a⟩:=h;rcases a with rfl | ⟨_,b,e,_⟩ | ⟨_,_,_,e,_⟩ | ⟨_,t,_,rfl⟩
 ·exact ⟨s,h⟩
 ·cases e
 ·cases e
 exact ⟨t,h⟩
theorem wA {w:World} {g S:Nat} (h:Ed w g) (a:(default:Mk).k<=S) (hg:S<=g) (k:Nat):w.frozen? (zA g k)=false:=by
 rcases h with h | ⟨cs,e,h⟩
 ·omega
 exact frozen_of_row w g k _ _ h
theorem Ei (w:World):zY w none 0 0 [] none 0 0 []:=⟨Ey w,Wl w⟩
theorem EC {w:World} {B:Nat} {k:Int} {s:St} {c n:Int} {e:Option Addr} {f j:Nat} {a:Option Addr} {d g:Nat} (h:X9 w B k s c n e f j a d g):∃ l b,zY w e f j l a d g b/\NewSt B e f l a d b:=by
 rcases h with ⟨_,rfl,rfl,rfl,rfl,rfl,rfl,rfl,rfl⟩ | ⟨_,l,b,m,_,_,_,_,o⟩
 ·exact ⟨[],[],Ei w,fun h=>by omega,fun i h=>by omega,fun h=>by omega,fun i h=>by omega,fun i h=>by omega⟩
 exact ⟨l,b,m,o⟩
theorem EA {w:World} {B C:Nat} {g:Int} {s:St} {c n q t:Int} {u v:Option Addr} {z x A y:Nat} {i j:Option Addr} {o k p m:Nat} (h:X9 w B g s c n u z x i o k) (r:X9 w C g s q t v A y j p m) :
 ∃ l b d a,zY w u z x l i o k b/\zY w v A y d j p m a/\c=q/\n=t/\zi l=zi d/\zg b=zg a:=by
 rcases h with ⟨e,rfl,rfl,rfl,rfl,rfl,rfl,rfl,rfl⟩ | ⟨e,l,b,I,J,L,M,N,_⟩
 ·rcases r with ⟨_,rfl,rfl,rfl,rfl,rfl,rfl,rfl,rfl⟩ | ⟨f,_⟩
  ·exact ⟨[],[],[],[],Ei w,Ei w,rfl,rfl,rfl,rfl⟩
  exact absurd f e
 ·rcases r with ⟨f,_⟩ | ⟨_,d,a,D,E,F,G,H,_⟩
  ·exact absurd e f
  exact ⟨l,b,d,a,I,D,J.trans E.symm,L.trans F.symm,M.trans G.symm,N.trans H.symm⟩
theorem Ej (w:World) (r:Rq) (h:zH w r) (P:Option Addr) (R Q:Nat) (f:zd) (aj:RunsIn w P R Q f) :
 zC 26 #[.slice P R Q,.agg #[zI r.queue,zI r.fr,zI r.un,zI r.kind,.slice r.pa r.pn r.pc]] w fun e w'=>JU w w' e (if yq f r=0 then Zf r f else ([],false)) (yq f r):=by
 have S:=zh ((Below.refl w.heap.size w).alloc (Nat.le_refl _) (.cells (zR r) 24));have I:=zh (wn w r);have au:=zh aj;have V:=zh h;have W:=Ul _ P R Q f (aj.later S.o);have av:=zh h.len;clear h aj;cases O:xe f with
 | false =>
  have A:yq f r=1:=by unfold yq;rw [O];rfl
  rw [A,if_neg (by decide)];rw [O] at W;have U:=zh W;clear W A O;go_enter Tryz.func26,Tryz.ntmps26;go_wp2_with fail
  refine U.o.mono ?_;rintro e s ⟨rfl,j⟩;have m:=zh (za S.o (yM j));clear j;go_wp2;go_ret3
  exact ⟨_,_,_,rfl,Tr _ _,m.o⟩
 | true =>
  rw [O] at W;have U:=zh W;have am:=zh (LO O);have ap:yq f r=z8 false r:=by unfold yq;rw [O];rfl
  rw [ap];clear W O ap;cases D:yW r.kind 1 4 with
  | false =>
   have A:z8 false r=7:=(by unfold z8;rw [D];rfl);rw [A,if_neg (by decide)];have Z:=zh D;clear A D;go_enter Tryz.func26,Tryz.ntmps26;go_wp2_with fail
   refine U.o.mono ?_;rintro e s ⟨rfl,j⟩;have m:=zh (za S.o (yM j));obtain ⟨z,c1,c2,c3,c4⟩:=I.o s (yM j);clear j;go_wp2_with fail
   refine (ZH r.kind s).mono ?_;rintro e E ⟨rfl,C⟩;rw [Z.o,C];clear C;go_wp2;go_ret3
   exact ⟨_,_,_,rfl,Tr _ _,m.o⟩
  | true =>
   have Z:=zh D;cases F:yW r.ps.length 1 3 with
   | false =>
    have A:z8 false r=2:=(by unfold z8;rw [D,F];rfl);rw [A,if_neg (by decide)];have ab:=zh F;clear A D F;go_enter Tryz.func26,Tryz.ntmps26;go_wp2_with fail
    refine U.o.mono ?_;rintro e s ⟨rfl,j⟩;have m:=zh (za S.o (yM j));obtain ⟨z,c1,c2,c3,c4⟩:=I.o s (yM j);clear j;go_wp2_with fail
    refine (ZH r.kind s).mono ?_;rintro e E ⟨rfl,C⟩;rw [Z.o,C];clear C;go_wp2_with fail
    have u:=wM s r (V.o.later m.o);rw [ab.o] at u;refine u.mono ?_;clear u;rintro e E ⟨rfl,b⟩;have G:=zh (za m.o b);clear b z c1 c2 c3 c4;go_wp2;go_ret3
    exact ⟨_,_,_,rfl,Tr _ _,G.o⟩
   | true =>
    have ab:=zh F;have aq:0<r.pn:=(by have:=of_decide_eq_true F;have:=av.o;omega);cases l:yJ r with
    | false =>
     have A:z8 false r=3:=(by unfold z8;rw [D,F,l];rfl);rw [A,if_neg (by decide)];have af:=zh l;clear A D F l;go_enter Tryz.func26,Tryz.ntmps26;go_wp2_with fail
     refine U.o.mono ?_;rintro e s ⟨rfl,j⟩;have m:=zh (za S.o (yM j));have H:=zh (yM j);obtain ⟨z,c1,c2,c3,c4⟩:=I.o s H.o;clear j;go_wp2_with fail
     refine (ZH r.kind s).mono ?_;rintro e E ⟨rfl,C⟩;rw [Z.o,C];clear C;go_wp2_with fail
     have u:=wM s r (V.o.later m.o);rw [ab.o] at u;refine u.mono ?_;clear u;rintro e E ⟨rfl,b⟩;have G:=zh (za m.o b);have Y:=zh (za H.o b);clear b z c1 c2 c3 c4;obtain ⟨z,c1,c2,c3,c4⟩:=I.o E Y.o;go_wp2_with fail
     have M:=Vh E r (V.o.later G.o) aq;rw [af.o] at M;refine M.mono ?_;clear M;rintro e aE ⟨rfl,b⟩;have aa:=zh (za G.o b);clear b z c1 c2 c3 c4;go_wp2;go_ret3
     exact ⟨_,_,_,rfl,Tr _ _,aa.o⟩
    | true =>
     have ae:z8 false r=0:=zv.2 ⟨D,F,l⟩;rw [if_pos ae,ae];have af:=zh l;have ao:=zh fun X (aB:zL w X)=>Nf X f am.o r (V.o.later aB) ae;have an:=zh (Ez (r:=r) (f:=f));obtain ⟨k,ah⟩:=qA (Zf r f);rw [ah] at ao an;rw [ah];clear D F l ae ah;go_enter Tryz.func26,Tryz.ntmps26;go_wp2_with fail
     refine U.o.mono ?_;rintro e s ⟨rfl,j⟩;have m:=zh (za S.o (yM j));have H:=zh (yM j);obtain ⟨z,c1,c2,c3,c4⟩:=I.o s H.o;clear j;go_wp2_with fail
     refine (ZH r.kind s).mono ?_;rintro e E ⟨rfl,C⟩;rw [Z.o,C];clear C;go_wp2_with fail
     have u:=wM s r (V.o.later m.o);rw [ab.o] at u;refine u.mono ?_;clear u;rintro e E ⟨rfl,b⟩;have G:=zh (za m.o b);have Y:=zh (za H.o b);clear b z c1 c2 c3 c4;obtain ⟨z,c1,c2,c3,c4⟩:=I.o E Y.o;go_wp2_with fail
     have M:=Vh E r (V.o.later G.o) aq;rw [af.o] at M;refine M.mono ?_;clear M;rintro e aE ⟨rfl,b⟩;clear m H;have m:=zh (za G.o b);have H:=zh (za Y.o b);clear b z c1 c2 c3 c4 G Y;go_wp2_with fail
     obtain ⟨B,ad⟩:=qA (w.heap.size);rw [ad] at I;rw [ad];have aF:=zh ad;clear ad;go_cut [9,10] (fun p q ar=>∃ a n i,p=.slice a n i/\q=.bool k.2/\(k.2=true->wk w.heap.size ar a n i k.1)/\zL w ar)
     case first =>
      refine zV ((Tryz.f26.body.bind fun c=>yi c 11).getD #[]) (by kernel_rfl) [zl (.slice P R Q),zl (.agg (ya (zn f))),zl (.agg (zR r)),⟨fun v X=>∃ a n i,v=.tuple #[.slice a n i,.bool k.2]/\(k.2=true->wk w.heap.size X a n i k.1),fun _ X ag ⟨a,n,i,L,N⟩ b=>⟨a,n,i,L,fun e=>(N e).later b⟩⟩,⟨fun v X=>∃ a n i,v=.tuple #[.slice a n i,.bool k.2]/\(k.2=true->wk w.heap.size X a n i k.1),fun _ X ag ⟨a,n,i,L,N⟩ b=>⟨a,n,i,L,fun e=>(N e).later b⟩⟩,⟨fun v X=>∃ a n i,v=.slice a n i/\(k.2=true->wk w.heap.size X a n i k.1),fun _ X ag ⟨a,n,i,L,N⟩ b=>⟨a,n,i,L,fun e=>(N e).later b⟩⟩,zl (.bool k.2),⟨fun v X=>∃ a n i,v=.slice a n i/\(k.2=true->wk w.heap.size X a n i k.1),fun _ X ag ⟨a,n,i,L,N⟩ b=>⟨a,n,i,L,fun e=>(N e).later b⟩⟩,zl (.bool k.2)] [] (by kernel_rfl) (by kernel_rfl) (by kernel_rfl) ?hg ?hstep ?hfin
      case hg =>
       intro g hg v w h;cases hg
      case hstep =>
       refine zc.cons 1 rfl ?_ ?_
       ·intro T w' b t j;have J:T.getD 0 undef=.slice P R Q:=t 0;exact zs (by go_simp) rfl
       refine zc.cons 2 rfl ?_ ?_
       ·intro T w' b t j;have J:T.getD 29 undef=_:=j 0 29;refine Or.inr ⟨71,#[.slice P R Q],by go_simp,?_⟩;refine (R9 w' P R Q f (au.o.later (za m.o b)) am.o).mono ?_;rintro e aD ⟨rfl,ai⟩;exact ⟨_,rfl,rfl,ai⟩
       refine zc.cons 3 rfl ?_ ?_
       ·intro T w' b t j;have J:T.getD 3 undef=.pointer (zO B 0):=t 3;obtain ⟨z,c1,c2,c3,c4⟩:=I.o w' (za H.o b);exact zs (by go_simp) rfl
       refine zc.cons 4 rfl ?_ ?_
       ·intro T w' b t j;have J:T.getD 30 undef=_:=j 1 30;have L:T.getD 31 undef=_:=j 2 31;refine Or.inr ⟨70,#[.agg (ya (zn f)),.agg (zR r)],by go_simp,?_⟩;refine (ao.o w' (za m.o b)).mono ?_;rintro e aD ⟨a,n,i,rfl,l,ai⟩;exact ⟨_,rfl,⟨a,n,i,rfl,fun e=>(l e).mono (za m.o b).size⟩,ai⟩
       refine zc.cons 5 rfl ?_ ?_
       ·intro T w' b t j;obtain ⟨a,n,i,J,l⟩:=j 3 32;exact Or.inl ⟨.tuple #[.slice a n i,.bool k.2],w',by go_simp,⟨a,n,i,rfl,l⟩,Below.refl _ _⟩
       refine zc.cons 6 rfl ?_ ?_
       ·intro T w' b t j;obtain ⟨a,n,i,J,l⟩:=j 4 28;exact Or.inl ⟨.slice a n i,w',by go_simp,⟨a,n,i,rfl,l⟩,Below.refl _ _⟩
       refine zc.cons 7 rfl ?_ ?_
       ·intro T w' b t j;obtain ⟨a,n,i,J,l⟩:=j 4 28;exact zs (by go_simp) rfl
       refine zc.cons 8 rfl ?_ ?_
       ·intro T w' b t j;obtain ⟨a,n,i,J,l⟩:=j 5 33;exact Or.inl ⟨.slice a n i,w',by go_simp,⟨a,n,i,rfl,l⟩,Below.refl _ _⟩
       refine zc.cons 9 rfl ?_ ?_
       ·intro T w' b t j;have J:T.getD 34 undef=_:=j 6 34;exact zs (by go_simp) rfl
       exact trivial
      intro T w' b aC t j;obtain ⟨a,n,i,ay,l⟩:=j 7 9;have ax:T.getD 10 undef=.bool k.2:=j 8 10;rw [yb (tt 9 [false,false,true,true,true,true,true,true,true,true,true,true,true,true,true,true,true,true,true,false,false,false,false,false,false,false] 3) (by kernel_rfl) aC @t];obtain ⟨us,ak⟩:∃ us:Nat->Value,(fun d=>T.getD d undef)=us:=⟨_,rfl⟩;rw [ak];have aA:us 9=.slice a n i:=(by rw [<-ak];exact ay);have az:us 10=.bool k.2:=(by rw [<-ak];exact ax);apply_assumption;simp only [xj,tt,List.replicate,List.cons_append,List.nil_append];go_meet;exact ⟨a,n,i,aA,az,l,za m.o b⟩
     obtain ⟨a,n,i,rfl,rfl,l,al⟩:=hcut;have aw:=zh l;have aa:=zh al;clear l al;obtain ⟨x,y⟩:=k;cases y with
     | false =>
      obtain rfl:x=[]:=an.o rfl;go_wp2;go_ret3
      exact ⟨_,_,_,rfl,Tr _ _,aa.o⟩
     | true =>
      go_wp2;go_ret3
      exact ⟨a,n,i,rfl,aw.o trivial,aa.o⟩
theorem ZW (w:World) (c n:Int) (q:Option Addr) (u s:Nat) (l:QL) (g:Option Addr) (m j:Nat) (b:BL) (h:zY w q u s l g m j b) (v z:Int) (r:Option Addr) (d t:Nat) (p:QL) (i:Option Addr) (a k:Nat) (f:BL) (o:zY w r d t p i a k f) (C:c=v) (hn:n=z) (y:zi l=zi p) (x:zg b=zg f) :
 zC 18 #[.agg (zS c n q u s g m j),.agg (zS v z r d t i a k)] w fun e w'=>e=.returned (.bool true)/\Below w.heap.size w w':=by
 subst C;subst hn;have A:d=u:=by
  have:=congrArg List.length y;rw [yv,yv,<-h.1.len,<-o.1.len] at this;exact this.symm
 have B:a=m:=by
  have:=congrArg List.length x;rw [zF,zF,<-h.2.len,<-o.2.len] at this;exact this.symm
 subst A;subst B;exact Sh w c n q d s l g a j b h r t p i k f o y x
end Go.Proofs.YtckpdfkobdgjeaaGreatDoor
