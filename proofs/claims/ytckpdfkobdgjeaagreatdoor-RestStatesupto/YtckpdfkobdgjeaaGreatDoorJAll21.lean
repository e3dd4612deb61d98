/- Several texts in one: RefI, RefJ. -/
import Derived.Test.YtckpdfkobdgjeaaGreatDoorJAll20
import Derived.Deep.RegionWith
namespace Go.Proofs.YtckpdfkobdgjeaaGreatDoor
set_option maxRecDepth 100000
set_option maxHeartbeats 4000000
open Go.RowKit
set_option linter.unusedSectionVars false
variable [Inhabited Mk]
def XD (l:QL) (b:BL) (t q:Nat):Bool:=decide (zn (qu l q).runs t<xh l b q t b.length)
def Vu (fm:Nat) (l:QL) (b:BL) (t q:Int) (f:Bool):Prop :=
 (f=false/\t=0/\q=0/\∀ u:Nat,fm<=u->u<48->∀ k,k<l.length->XD l b u k=false) \/
 (f=true/\∃ T k:Nat,t=T/\q=k/\fm<=T/\T<48/\k<l.length/\XD l b T k=true/\(∀ i,i<k->XD l b T i=false)/\∀ u:Nat,fm<=u->u<T->∀ i,i<l.length->XD l b u i=false)
def Kf (w w':World) (e:Ending) (fm:Nat) (l:QL) (b:BL):Prop:=∃ t q f,e=.returned (.tuple #[zI t,zI q,.bool f])/\Vu fm l b t q f/\Below w.heap.size w w'
theorem J4 (w:World) (ar:Option Addr) (k s:Nat) (l:QL) (A:Option Addr) (C B:Nat) (b:BL) (h:zY w ar k s l A C B b) (Z:Clean l b) (fm:Nat) (aB:fm<=48) :
 zC 57 #[.slice ar k s,.slice A C B,zI fm] w fun e w'=>Kf w w' e fm l b:=by
 have aw:=zh h;have ag:=zh Z;have O:=zh h.1.len;have aS:=h.1.le;have aQ:=h.1.capb;have S:=yY Z.tree;have aG:0<k:=by have:=S.pos;have:=h.1.len;omega
 have aP:k<=5:=by have:=S.five;have:=h.1.len;omega
 clear h Z S;go_enter Tryz.func57,Tryz.ntmps57;go_wp2_with fail
 go_loopg [9] (48-fm) (fun Q (p:Value) wr=>∃ (t:Nat),p=zI t/\fm<=t/\t<=48/\Q=48-t/\(∀ u:Nat,fm<=u->u<t->∀ i,i<l.length->XD l b u i=false)/\zL w wr)
 case atStart=>exact ⟨fm,rfl,Nat.le_refl _,aB,rfl,fun u E aj=>by omega,Below.refl _ _⟩
 case round =>
  obtain ⟨t,rfl,aC,aR,rfl,ao,al⟩:=hrel;have L:=zh ao;have ae:=zh al;clear ao al;by_cases aD:t<48
  ·have aE:(t:Int)<48:=(by omega);go_wp2_with fail
   go_loopg [10] k (fun Q (p:Value) J=>∃ (q:Nat),p=zI q/\q<=k/\Q=k-q/\(∀ i,i<q->XD l b t i=false)/\zL w J)
   case atStart=>exact ⟨0,rfl,Nat.zero_le _,rfl,fun i aa=>by omega,ae.o⟩
   obtain ⟨q,rfl,aO,rfl,ap,Y⟩:=hrel;have M:=zh ap;have af:=zh Y;clear ap;by_cases an:q<k
   ·have aM:(q:Int)<k:=(by omega);have aN:¬((q:Int)<0):=(by omega);have I:=aw.o.later Y;obtain ⟨y,z,aH,am⟩:=I.1.cells aG;subst aH;obtain ⟨m,R⟩:=qA (qu l q);have P:=(am q an).2.2;have F:=I.1.caps q an;have G:=Yx ag.o.tree (p:=q) (by have:=O.o;omega);have ab:XD l b t q=decide (zn m.runs t<xh l b q t b.length):=(by rw [XD,R]);rw [R] at P F G;obtain ⟨x,V⟩:=qA (zn m.runs);obtain ⟨D,U⟩:=qA (xh l b q t b.length);have au:=zh P;have aJ:=zh F;have aK:=zh G;have ay:Zh (∀ r,zL wr r->zC 99 #[.slice (zO y z) k s,.slice A C B,zI q,zI t] r fun e w'=>e=.returned (zI D)/\zL r w'):=fun r W=>by
     have:=LD r _ k s l A C B b (I.later W) ag.o q t (by omega);rwa [U] at this
    have ax:Zh (∀ r,zL wr r->zC 71 #[.slice m.ca m.cn m.cc] r fun e w'=>e=.returned (.agg (ya x))/\zL r w'):=fun r W=>by
     have:=R9 r m.ca m.cn m.cc m.runs (F.later W) G.1;rwa [V] at this
    rw [V,U] at ab;have av:=zh ab;clear I am P F G R V U ab Y;go_upto_region 7 with fail
    go_cut [35] (fun p J=>∃ az,az=J/\p=.bool (XD l b t q)/\zL wr J)
    case first =>
     refine zV ((Tryz.f57.body.bind fun c=>yi c 7).getD #[]) (by kernel_rfl) [zl (.slice (zO y z) k s),zl (.slice A C B),zl (zI q),zl (zI t),zl (zI D),zl (.slice (zO y z) k s),zl (zI q),zl (.pointer (zO y (z+q*3))),zl (.pointer (zO y (z+q*3+2))),zl (.slice m.ca m.cn m.cc),zl (.agg (ya x)),zl (zI t),zl (zI (x t)),zl (.bool (decide (x t<D)))] [] (by kernel_rfl) (by kernel_rfl) (by kernel_rfl) ?hg ?hstep ?hfin
     case hg =>
      intro g hg v w h;cases hg
     case hstep =>
      refine zc.cons 1 rfl ?_ ?_
      ·intro T w' j f a;have n:T.getD 0 undef=.slice (zO y z) k s:=f 0;exact zs (by go_simp) rfl
      refine zc.cons 2 rfl ?_ ?_
      ·intro T w' j f a;have n:T.getD 1 undef=.slice A C B:=f 1;exact zs (by go_simp) rfl
      refine zc.cons 3 rfl ?_ ?_
      ·intro T w' j f a;have n:T.getD 10 undef=zI q:=f 10;exact zs (by go_simp) rfl
      refine zc.cons 4 rfl ?_ ?_
      ·intro T w' j f a;have n:T.getD 9 undef=zI t:=f 9;exact zs (by go_simp) rfl
      refine zc.cons 5 rfl ?_ ?_
      ·intro T w' j f a;have n:T.getD 22 undef=_:=a 0 22;have E:T.getD 23 undef=_:=a 1 23;have aj:T.getD 24 undef=_:=a 2 24;have aL:T.getD 25 undef=_:=a 3 25;refine Or.inr ⟨99,#[.slice (zO y z) k s,.slice A C B,zI q,zI t],by go_simp,?_⟩;refine (ay.o w' j).mono ?_;rintro e aI ⟨rfl,X⟩;exact ⟨_,rfl,rfl,X⟩
      refine zc.cons 6 rfl ?_ ?_
      ·intro T w' j f a;have n:T.getD 0 undef=.slice (zO y z) k s:=f 0;exact zs (by go_simp) rfl
      refine zc.cons 7 rfl ?_ ?_
      ·intro T w' j f a;have n:T.getD 10 undef=zI q:=f 10;exact zs (by go_simp) rfl
      refine zc.cons 8 rfl ?_ ?_
      ·intro T w' j f a;have n:T.getD 27 undef=_:=a 5 27;have E:T.getD 28 undef=_:=a 6 28;exact zs (by go_simp) rfl
      refine zc.cons 9 rfl ?_ ?_
      ·intro T w' j f a;have n:T.getD 29 undef=_:=a 7 29;exact zs (by go_simp) rfl
      refine zc.cons 10 rfl ?_ ?_
      ·intro T w' j f a;have n:T.getD 30 undef=_:=a 8 30;have ah:=cell_later j au.o;exact zs (by go_simp) rfl
      refine zc.cons 11 rfl ?_ ?_
      ·intro T w' j f a;have n:T.getD 31 undef=_:=a 9 31;refine Or.inr ⟨71,#[.slice m.ca m.cn m.cc],by go_simp,?_⟩;refine (ax.o w' j).mono ?_;rintro e aI ⟨rfl,X⟩;exact ⟨_,rfl,rfl,X⟩
      refine zc.cons 12 rfl ?_ ?_
      ·intro T w' j f a;have n:T.getD 9 undef=zI t:=f 9;exact zs (by go_simp) rfl
      refine zc.cons 13 rfl ?_ ?_
      ·intro T w' j f a;have n:T.getD 32 undef=_:=a 10 32;have E:T.getD 33 undef=_:=a 11 33;have ah:=T8 x (t:Int) (by omega) aE w';rw [Int.toNat_natCast] at ah;exact zs (by go_simp) rfl
      refine zc.cons 14 rfl ?_ ?_
      ·intro T w' j f a;have n:T.getD 26 undef=_:=a 4 26;have E:T.getD 34 undef=_:=a 12 34;exact zs (by go_simp) rfl
      exact trivial
     intro T w' j aF f a;have ai:T.getD 35 undef=.bool (decide (x t<D)):=a 13 35;rw [<-av.o] at ai;rw [yb (tt 22 [false,false,false,false,false,false,false,false,false,false,false,false,false,false] 2) (by kernel_rfl) aF @f];obtain ⟨us,aq⟩:∃ us:Nat->Value,(fun d=>T.getD d undef)=us:=⟨_,rfl⟩;rw [aq];have aA:us 35=.bool (XD l b t q):=(by rw [<-aq];exact ai);apply_assumption;simp only [xj,tt,List.replicate,List.cons_append,List.nil_append];go_meet;exact ⟨_,rfl,aA,j⟩
    obtain ⟨aT,rfl,rfl,ak⟩:=hcut;have ad:=zh (za af.o ak);clear ak;cases H:XD l b t q with
    | true =>
     have N:=zh H;clear H;go_wp2;go_ret3
     exact ⟨t,q,true,rfl,Or.inr ⟨rfl,t,q,rfl,rfl,aC,aD,by have:=O.o;omega,N.o,M.o,L.o⟩,ad.o⟩
    | false =>
     have N:=zh H;clear H;go_wp2;go_roundg (k-(q+1))
     case measure=>omega
     refine ⟨q+1,by go_num,by omega,rfl,fun i aa=>?_,ad.o⟩;by_cases e:i=q
     ·subst e;exact N.o
     exact M.o i (by omega)
   obtain rfl:k=q:=(by omega);go_wp2;go_roundg (48-(t+1))
   case measure=>omega
   refine ⟨t+1,by go_num,by omega,by omega,rfl,fun u E aj i aa=>?_,af.o⟩;by_cases e:u=t
   ·subst e;exact M.o i (by have:=O.o;omega)
   exact L.o u E (by omega) i aa
  obtain rfl:t=48:=by omega
  go_wp2;go_ret3
  exact ⟨0,0,false,rfl,Or.inl ⟨rfl,rfl,rfl,L.o⟩,ae.o⟩
def WW (l:QL) (b:BL) (t q:Nat):Int:=zn (qu l q).runs t-xh l b q t b.length
def V9 (l:QL) (b:BL) (zs:List Int) (t:Nat):Nat->Int
 | 0=>0
 | k+1=>if k=0\/WW l b t (zs.getD k 0).toNat<V9 l b zs t k then WW l b t (zs.getD k 0).toNat else V9 l b zs t k
def Wz (l:QL) (b:BL) (q:Int) (t:Nat):Int:=V9 l b (zK l q) t (zK l q).length
theorem zG.far {w:World} {B:Nat} {v:Value} {l:List Int} (h:zG w B v l) (m:0<l.length):∃ g a,v=.slice (zO g 0) l.length a/\B<=g/\g<w.heap.size/\l.length<=a/\a<=9223372036854775807/\∀ i,i<l.length->w.cell? (zA g i)=some (zI (l.getD i 0)):=by
 have c:=h;rcases c.2 with ⟨b,hn⟩ | ⟨g,a,k,b,hg,e,j,d,n,o⟩
 ·omega
 subst b;refine ⟨g,a,rfl,hg,(Array.getElem?_eq_some_iff.1 e).1,j,d,fun i f=>?_⟩;refine (World.ownsRow.cellAt h i (by omega)).trans ?_;simp [List.getElem?_eq_getElem f]
theorem Hr {x:Int} (h:-1000000<=x/\x<=1000000):IntKind.i64.wrap x=x:=by
 rw [IntKind.wrap_i64];omega
theorem Ur {w:World} {p q:Addr} {u v:Value} (h:w.cell? q=some v) (a:q.block≠p.block):(w.setCell p u).cell? q=some v:=by
 rw [World.cell?_of_block (w:=w) (Below.heap_setCell w p u q.block a)];exact h
theorem J5 (w:World) (aG:Option Addr) (u D:Nat) (l:QL) (F:Option Addr) (H G:Nat) (b:BL) (h:zY w aG u D l F H G b) (ay:Clean l b) (q:Nat) (bV:q<u) :
 Calls Tryz.prog 107 #[.slice aG u D,.slice F H G,.int .i64 (q:Int)] w fun e w'=>e=.returned (.agg (ya (Wz l b q)))/\Below w.heap.size w w':=by
 have bn:=zh h;have W:=zh ay;have Z:=zh h.1.len;have bZ:=h.1.le;have bX:=h.1.capb;have Y:=zh (yY ay.tree);have bD:0<u:=by omega
 have bW:u<=5:=by have:=Y.out.five;have:=h.1.len;omega
 obtain ⟨S,au⟩:=qA (w.heap.size);obtain ⟨Q,N⟩:=qB ((w.alloc (.cells (ya fun _=>0) 126)).alloc (.cells (ya fun _=>0) 126));have am:Below w.heap.size w Q:=by rw [N];exact ((Below.refl _ _).alloc (Nat.le_refl _) _).alloc (by simp) _
 have aU:ZU Q S (fun _=>0):=by rw [N,<-au];exact (ZU.new w _).alloc _
 have aV:ZU Q (S+1) (fun _=>0):=by rw [N,<-au];have:=ZU.new (w.alloc (.cells (ya fun _=>0) 126)) (fun _=>0);rwa [World.size_alloc] at this
 have b3:Q.heap.size=S+2:=by rw [N,<-au];simp
 have aT:=zh (SK Q aG u D l q (h.1.later am) Y.out (by omega));have bh:=zh am;have bo:=zh aU;have bq:=zh aV;have bs:=zh N;have aB:=UC Y.out (q:=(q:Int)) (by have:=Z.out;omega);have a2:=WY l q;have ah:0<(zK l q).length:=by rw [Y8 Y.out (by omega) (by have:=Z.out;omega)];simp
 have aE:Zh (∀ t,Wz l b q t=V9 l b (zK l q) t (zK l q).length):=zh (fun _=>rfl);clear h ay am aU aV N;go_enter Tryz.func107,Tryz.ntmps107;go_wp2_with fail
 rw [<-Tt,<-bs.out];refine aT.out.mono ?_;rintro e b5 ⟨v,rfl,a6,af⟩;obtain ⟨y,I,rfl,bR,bS,a5,bQ,aj⟩:=a6.far ah;have bi:=zh (za bh.out af);have bp:=zh (bo.out.later af);have br:=zh (bq.out.later af);obtain ⟨zs,bc⟩:=qA (zK l q);rw [bc] at a2 ah aj a5 aE aB ⊢;obtain ⟨m,aD⟩:=qA (zs.length);rw [aD] at a2 ah aj a5 aE ⊢;have bm:=zh aD;have bt:=zh aj;have bl:=zh aB;have aZ:y≠S+1:=by omega
 clear a6 af aj aB bc aD aT;go_wp2_with fail
 go_loopg [9] 48 (fun ap (p:Value) wr=>∃ (t:Nat) (f:Nat->Int),p=.int .i64 (t:Int)/\t<=48/\ap=48-t/\(∀ i,i<t->f i=Wz l b q i)/\ZU wr S (fun _=>0)/\ZU wr (S+1) f/\(∀ i,i<m->wr.cell? ⟨y,i,none⟩=some (.int .i64 (zs.getD i 0)))/\Below w.heap.size w wr)
 case atStart=>exact ⟨0,fun _=>0,rfl,by omega,rfl,fun i E=>by omega,bp.out,br.out,bt.out,bi.out⟩
 case round =>
  obtain ⟨t,f,rfl,bY,rfl,aY,O,L,bb,aW⟩:=hrel;have aK:=zh O;have aM:=zh L;have aP:=zh aY;have bu:=zh bb;have aN:=zh aW;clear O L aY bb aW;by_cases a4:t<48
  ·have bB:(t:Int)<48:=by omega
   go_wp2_with fail
   go_loopg [10] m (fun ap (p:Value) M=>∃ (k:Nat) (g:Nat->Int),p=.int .i64 (k:Int)/\k<=m/\ap=m-k/\(∀ i,i<t->g i=Wz l b q i)/\(0<k->g t=V9 l b zs t k)/\ZU M S (fun _=>0)/\ZU M (S+1) g/\(∀ i,i<m->M.cell? ⟨y,i,none⟩=some (.int .i64 (zs.getD i 0)))/\Below w.heap.size w M)
   case atStart=>exact ⟨0,f,rfl,Nat.zero_le _,rfl,aP.out,fun h=>by omega,aK.out,aM.out,bu.out,aN.out⟩
   obtain ⟨k,g,rfl,bO,rfl,hg,a0,a9,ba,be,ax⟩:=hrel;have X:=zh hg;have aQ:=zh a0;have aR:=zh a9;have aS:=zh ba;have al:=zh be;have aO:=zh ax;clear hg a0 a9 ba be;by_cases a3:k<m
   ·have bT:(k:Int)<m:=by omega
    have bU:¬((k:Int)<0):=by omega
    have ai:=bn.out.later ax;obtain ⟨A,B,bE,aX⟩:=ai.1.cells bD;subst bE;have ao:=al.out k a3;obtain ⟨bG,bH⟩:=bl.out (zs.getD k 0) (by
     have a1:k<zs.length:=by rw [bm.out];exact a3
     rw [List.getD_eq_getElem?_getD,List.getElem?_eq_getElem a1];exact List.getElem_mem a1)
    obtain ⟨z,aF⟩:∃ z:Nat,zs.getD k 0=(z:Int):=⟨(zs.getD k 0).toNat,by omega⟩;rw [aF] at ao bG bH;have bd:z<u:=by have:=Z.out;omega
    have b1:(z:Int)<u:=by omega
    have b2:¬((z:Int)<0):=by omega
    obtain ⟨o,ar⟩:=qA (qu l z);have an:=(aX z bd).2.2;have az:=ai.1.caps z bd;have ag:=Yx W.out.tree (p:=z) (by have:=Z.out;omega);have a8:=((ZT W.out b.length (Nat.le_refl _) z).2 t a4).2;have bN:=W.out.few;have aC:WW l b t z=zn o.runs t-xh l b z t b.length:=by rw [WW,ar]
    have hstep:V9 l b zs t (k+1)=if k=0\/WW l b t z<V9 l b zs t k then WW l b t z else V9 l b zs t k:=by rw [V9,aF,Int.toNat_natCast]
    rw [ar] at an az ag;have bF:=ag.2 t;obtain ⟨r,ae⟩:=qA (zn o.runs);obtain ⟨x,ad⟩:=qA (xh l b z t b.length);have bf:=zh an;have aJ:=zh ao;have bw:Zh (∀ C,Below wr.heap.size wr C->Calls Tryz.prog 99 #[.slice (some ⟨A,B,none⟩) u D,.slice F H G,.int .i64 (z:Int),.int .i64 (t:Int)] C fun e w'=>e=.returned (.int .i64 x)/\Below C.heap.size C w'):=fun C av=>by
     have:=LD C _ u D l F H G b (ai.later av) W.out z t (by omega);rwa [ad] at this
    have bv:Zh (∀ C,Below wr.heap.size wr C->Calls Tryz.prog 71 #[.slice o.ca o.cn o.cc] C fun e w'=>e=.returned (.agg (ya r))/\Below C.heap.size C w'):=fun C av=>by
     have:=R9 C o.ca o.cn o.cc o.runs (az.later av) ag.1;rwa [ae] at this
    rw [ae] at bF;rw [ad] at a8;rw [ae,ad] at aC;rw [aC] at hstep;have J:=zh hstep;have b0:0<=x/\x<=1800:=by omega
    clear ai aX an ao az ag ar ae ad aC hstep ax a8 aF;go_upto_region 9 with fail
    go_cut [11] (fun p M=>∃ bx,bx=M/\p=.int .i64 (r t-x)/\Below wr.heap.size wr M)
    case first =>
     refine zV ((Tryz.f107.body.bind fun c=>yi c 9).getD #[]) (by kernel_rfl) [zl (.slice (some ⟨A,B,none⟩) u D),zl (.slice (some ⟨y,0,none⟩) m I),zl (.int .i64 (k:Int)),zl (.pointer (some ⟨y,k,none⟩)),zl (.int .i64 (z:Int)),zl (.pointer (some ⟨A,B+z*3,none⟩)),zl (.pointer (some ⟨A,B+z*3+2,none⟩)),zl (.slice o.ca o.cn o.cc),zl (.agg (ya r)),zl (.int .i64 (t:Int)),zl (.int .i64 (r t)),zl (.slice (some ⟨A,B,none⟩) u D),zl (.slice F H G),zl (.slice (some ⟨y,0,none⟩) m I),zl (.int .i64 (k:Int)),zl (.pointer (some ⟨y,k,none⟩)),zl (.int .i64 (z:Int)),zl (.int .i64 (t:Int)),zl (.int .i64 x),zl (.int .i64 (r t-x)),zl (.int .i64 (r t-x))] [] (by kernel_rfl) (by kernel_rfl) (by kernel_rfl) ?hg ?hstep ?hfin
     case hg =>
      intro g hg v w h;cases hg
     case hstep =>
      refine zc.cons 1 rfl ?_ ?_
      ·intro T w' n j a;have s:T.getD 0 undef=.slice (some ⟨A,B,none⟩) u D:=j 0 (by kernel_rfl);exact Or.inl ⟨.slice (some ⟨A,B,none⟩) u D,w',by go_simp,rfl,Below.refl _ _⟩
      refine zc.cons 2 rfl ?_ ?_
      ·intro T w' n j a;have s:T.getD 8 undef=.slice (some ⟨y,0,none⟩) m I:=j 8 (by kernel_rfl);exact Or.inl ⟨.slice (some ⟨y,0,none⟩) m I,w',by go_simp,rfl,Below.refl _ _⟩
      refine zc.cons 3 rfl ?_ ?_
      ·intro T w' n j a;have s:T.getD 10 undef=.int .i64 (k:Int):=j 10 (by kernel_rfl);exact Or.inl ⟨.int .i64 (k:Int),w',by go_simp,rfl,Below.refl _ _⟩
      refine zc.cons 4 rfl ?_ ?_
      ·intro T w' n j a;have s:T.getD 26 undef=.slice (some ⟨y,0,none⟩) m I:=a 1 26 (by kernel_rfl);have R:T.getD 27 undef=.int .i64 (k:Int):=a 2 27 (by kernel_rfl);exact Or.inl ⟨.pointer (some ⟨y,k,none⟩),w',by go_simp,rfl,Below.refl _ _⟩
      refine zc.cons 5 rfl ?_ ?_
      ·intro T w' n j a;have s:T.getD 28 undef=.pointer (some ⟨y,k,none⟩):=a 3 28 (by kernel_rfl);have aa:=cell_later n aJ.out;exact Or.inl ⟨.int .i64 (z:Int),w',by go_simp,rfl,Below.refl _ _⟩
      refine zc.cons 6 rfl ?_ ?_
      ·intro T w' n j a;have s:T.getD 25 undef=.slice (some ⟨A,B,none⟩) u D:=a 0 25 (by kernel_rfl);have R:T.getD 29 undef=.int .i64 (z:Int):=a 4 29 (by kernel_rfl);exact Or.inl ⟨.pointer (some ⟨A,B+z*3,none⟩),w',by go_simp,rfl,Below.refl _ _⟩
      refine zc.cons 7 rfl ?_ ?_
      ·intro T w' n j a;have s:T.getD 30 undef=.pointer (some ⟨A,B+z*3,none⟩):=a 5 30 (by kernel_rfl);exact Or.inl ⟨.pointer (some ⟨A,B+z*3+2,none⟩),w',by go_simp,rfl,Below.refl _ _⟩
      refine zc.cons 8 rfl ?_ ?_
      ·intro T w' n j a;have s:T.getD 31 undef=.pointer (some ⟨A,B+z*3+2,none⟩):=a 6 31 (by kernel_rfl);have aa:=cell_later n bf.out;exact Or.inl ⟨.slice o.ca o.cn o.cc,w',by go_simp,rfl,Below.refl _ _⟩
      refine zc.cons 9 rfl ?_ ?_
      ·intro T w' n j a;have s:T.getD 32 undef=.slice o.ca o.cn o.cc:=a 7 32 (by kernel_rfl);refine Or.inr ⟨71,#[.slice o.ca o.cn o.cc],by go_simp,?_⟩;refine (bv.out w' n).mono ?_;rintro e bJ ⟨rfl,aw⟩;exact ⟨_,rfl,rfl,aw⟩
      refine zc.cons 10 rfl ?_ ?_
      ·intro T w' n j a;have s:T.getD 9 undef=.int .i64 (t:Int):=j 9 (by kernel_rfl);exact Or.inl ⟨.int .i64 (t:Int),w',by go_simp,rfl,Below.refl _ _⟩
      refine zc.cons 11 rfl ?_ ?_
      ·intro T w' n j a;have s:T.getD 33 undef=.agg (ya r):=a 8 33 (by kernel_rfl);have R:T.getD 34 undef=.int .i64 (t:Int):=a 9 34 (by kernel_rfl);have aa:=T8 r (t:Int) (by omega) bB w';rw [Int.toNat_natCast] at aa;exact Or.inl ⟨.int .i64 (r t),w',by go_simp,rfl,Below.refl _ _⟩
      refine zc.cons 12 rfl ?_ ?_
      ·intro T w' n j a;have s:T.getD 0 undef=.slice (some ⟨A,B,none⟩) u D:=j 0 (by kernel_rfl);exact Or.inl ⟨.slice (some ⟨A,B,none⟩) u D,w',by go_simp,rfl,Below.refl _ _⟩
      refine zc.cons 13 rfl ?_ ?_
      ·intro T w' n j a;have s:T.getD 1 undef=.slice F H G:=j 1 (by kernel_rfl);exact Or.inl ⟨.slice F H G,w',by go_simp,rfl,Below.refl _ _⟩
      refine zc.cons 14 rfl ?_ ?_
      ·intro T w' n j a;have s:T.getD 8 undef=.slice (some ⟨y,0,none⟩) m I:=j 8 (by kernel_rfl);exact Or.inl ⟨.slice (some ⟨y,0,none⟩) m I,w',by go_simp,rfl,Below.refl _ _⟩
      refine zc.cons 15 rfl ?_ ?_
      ·intro T w' n j a;have s:T.getD 10 undef=.int .i64 (k:Int):=j 10 (by kernel_rfl);exact Or.inl ⟨.int .i64 (k:Int),w',by go_simp,rfl,Below.refl _ _⟩
      refine zc.cons 16 rfl ?_ ?_
      ·intro T w' n j a;have s:T.getD 38 undef=.slice (some ⟨y,0,none⟩) m I:=a 13 38 (by kernel_rfl);have R:T.getD 39 undef=.int .i64 (k:Int):=a 14 39 (by kernel_rfl);exact Or.inl ⟨.pointer (some ⟨y,k,none⟩),w',by go_simp,rfl,Below.refl _ _⟩
      refine zc.cons 17 rfl ?_ ?_
      ·intro T w' n j a;have s:T.getD 40 undef=.pointer (some ⟨y,k,none⟩):=a 15 40 (by kernel_rfl);have aa:=cell_later n aJ.out;exact Or.inl ⟨.int .i64 (z:Int),w',by go_simp,rfl,Below.refl _ _⟩
      refine zc.cons 18 rfl ?_ ?_
      ·intro T w' n j a;have s:T.getD 9 undef=.int .i64 (t:Int):=j 9 (by kernel_rfl);exact Or.inl ⟨.int .i64 (t:Int),w',by go_simp,rfl,Below.refl _ _⟩
      refine zc.cons 19 rfl ?_ ?_
      ·intro T w' n j a;have s:T.getD 36 undef=.slice (some ⟨A,B,none⟩) u D:=a 11 36 (by kernel_rfl);have R:T.getD 37 undef=.slice F H G:=a 12 37 (by kernel_rfl);have bL:T.getD 41 undef=.int .i64 (z:Int):=a 16 41 (by kernel_rfl);have bM:T.getD 42 undef=.int .i64 (t:Int):=a 17 42 (by kernel_rfl);refine Or.inr ⟨99,#[.slice (some ⟨A,B,none⟩) u D,.slice F H G,.int .i64 (z:Int),.int .i64 (t:Int)],by go_simp,?_⟩;refine (bw.out w' n).mono ?_;rintro e bJ ⟨rfl,aw⟩;exact ⟨_,rfl,rfl,aw⟩
      refine zc.cons 20 rfl ?_ ?_
      ·intro T w' n j a;have s:T.getD 35 undef=.int .i64 (r t):=a 10 35 (by kernel_rfl);have R:T.getD 43 undef=.int .i64 x:=a 18 43 (by kernel_rfl);exact Or.inl ⟨.int .i64 (r t-x),w',by first | (go_simp;done) | (go_simp;exact Hr (by omega)),rfl,Below.refl _ _⟩
      refine zc.cons 21 rfl ?_ ?_
      ·intro T w' n j a;have s:T.getD 44 undef=.int .i64 (r t-x):=a 19 44 (by kernel_rfl);exact Or.inl ⟨.int .i64 (r t-x),w',by go_simp,rfl,Below.refl _ _⟩
      exact trivial
     intro T w' n bC j a;have ab:T.getD 11 undef=.int .i64 (r t-x):=a 20 11 (by kernel_rfl);rw [yb [true,true,true,true,true,true,true,true,true,true,true,false,true,true,true,true,true,true,true,true,true,true,true,true,true,false,false,false,false,false,false,false,false,false,false,false,false,false,false,false,false,false,false,false,false,true,true,true,true,true,true,true,true,true,true,true,true,true] (by kernel_rfl) bC @j];obtain ⟨us,a7⟩:∃ us:Nat->Value,(fun d=>T.getD d undef)=us:=⟨_,rfl⟩;rw [a7];have bz:us 11=.int .i64 (r t-x):=by rw [<-a7];exact ab
     apply_assumption;simp only [xj];go_meet;exact ⟨_,rfl,bz,n⟩
    obtain ⟨bK,rfl,rfl,U⟩:=hcut;have ak:=zh (za aO.out U);have aH:=zh (aR.out.later U);have V:=zh (aS.out.later U);have aI:Zh (∀ i,i<m->bK.cell? ⟨y,i,none⟩=some (.int .i64 (zs.getD i 0))):=zh (fun i E=>cell_later U (al.out i E));have bI:=V.out.cell a4;have b4:=V.out.frozen t;clear U;by_cases bA:k=0
    ·subst bA;rw [if_pos (Or.inl rfl)] at J;go_wp2;go_roundg (m-(0+1))
     case measure=>omega
     exact ⟨0+1,_,by go_num,by omega,rfl,fun i E=>by rw [JK,if_neg (by omega)];exact X.out i E,fun _=>by rw [JK,if_pos rfl,J.out],aH.out.other (by simp) _,V.out.set t _,fun i E=>Ur (aI.out i E) aZ,ak.out.setCell (by simp;omega) _⟩
    have bP:((k:Int)==0)=false:=by simp;omega
    obtain ⟨P,aq⟩:=qA (g t);have aA:=aQ.out (by omega);rw [aq] at bI aA;rw [<-aA] at J;have bj:=zh aq;clear aA aq;by_cases j:r t-x<P
    ·rw [if_pos (Or.inr j)] at J;have a:decide (r t-x<P)=true:=by simpa using j
     go_wp2;go_roundg (m-(k+1))
     case measure=>omega
     exact ⟨k+1,_,by go_num,by omega,rfl,fun i E=>by rw [JK,if_neg (by omega)];exact X.out i E,fun _=>by rw [JK,if_pos rfl,J.out],aH.out.other (by simp) _,V.out.set t _,fun i E=>Ur (aI.out i E) aZ,ak.out.setCell (by simp;omega) _⟩
    rw [if_neg (by omega)] at J;have a:decide (r t-x<P)=false:=by simpa using j
    go_wp2;go_roundg (m-(k+1))
    case measure=>omega
    exact ⟨k+1,g,by go_num,by omega,rfl,X.out,fun _=>by rw [J.out,bj.out],aH.out,V.out,aI.out,ak.out⟩
   obtain rfl:m=k:=by omega
   go_wp2;go_roundg (48-(t+1))
   case measure=>omega
   refine ⟨t+1,g,by go_num,by omega,rfl,fun i E=>?_,aR.out,aS.out,al.out,aO.out⟩;by_cases e:i=t
   ·subst e;rw [aQ.out ah,aE.out]
   exact X.out i (by omega)
  obtain rfl:t=48:=by omega
  have ab:ya f=ya (Wz l b q):=Wv aP.out;have O:=aK.out;have L:=aM.out;unfold ZU at O L;rw [ab] at L;have aL:=zh O;have bg:=zh L;clear O L ab;go_wp2_with (first
   | refine wpList_load_row rfl 126 (.tmp 7) rfl (S+1) rfl 126 (ya (Wz l b q)) (0,0) _ bg.out Tryz.underlying126 rfl (size61 _) ?_
   | refine wpList_store_row rfl 126 (.tmp 6) (.tmp 57) rfl S (ya (Wz l b q)) rfl rfl 126 _ aL.out (size61 _) (by rw [ZS,ZS]) (NY _) ?_)
  exact bodyPost_ret (v:=.agg (ya (Wz l b q))) (results_cell_row Tryz.results107 _ _ S 126 (ya (Wz l b q)) (0,0) _ rfl (setRow_heap _ _ _ _ _ _ aL.out) Tryz.underlying126 rfl (size61 _)) rfl ⟨rfl,below_setRow aN.out (by omega) _⟩
end Go.Proofs.YtckpdfkobdgjeaaGreatDoor
