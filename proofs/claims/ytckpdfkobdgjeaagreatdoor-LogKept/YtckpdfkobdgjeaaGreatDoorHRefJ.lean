/- The reference's room of a queue: the least of what is left along its line, at each time. -/
import Derived.Test.YtckpdfkobdgjeaaGreatDoorHAll23
namespace Go.Proofs.YtckpdfkobdgjeaaGreatDoor
set_option maxRecDepth 100000
set_option maxHeartbeats 4000000
open Go.RowKit
def WW (l:QL) (b:BL) (t q:Nat):Int:=zn (qu l q).runs t-xh l b q t b.length
def V9 (l:QL) (b:BL) (zs:List Int) (t:Nat):Nat->Int
 | 0=>0
 | k+1=>if k=0\/WW l b t (zs.getD k 0).toNat<V9 l b zs t k then WW l b t (zs.getD k 0).toNat else V9 l b zs t k
def Wz (l:QL) (b:BL) (q:Int) (t:Nat):Int:=V9 l b (zK l q) t (zK l q).length
theorem zG.far {w:World} {B:Nat} {v:Value} {l:List Int} (h:zG w B v l) (k:0<l.length):∃ g cap,v=.slice (zO g 0) l.length cap/\B<=g/\g<w.heap.size/\l.length<=cap/\cap<=9223372036854775807/\∀ i,i<l.length->w.cell? (zA g i)=some (zI (l.getD i 0)):=by
 have b:=h;rcases b.2 with ⟨a,hn⟩ | ⟨g,cap,j,a,hg,d,f,c,m,n⟩
 ·omega
 subst a;refine ⟨g,cap,rfl,hg,(Array.getElem?_eq_some_iff.1 d).1,f,c,fun i e=>?_⟩;refine (World.ownsRow.cellAt h i (by omega)).trans ?_;simp [List.getElem?_eq_getElem e]
theorem Hr {x:Int} (h:-1000000<=x/\x<=1000000):IntKind.i64.wrap x=x:=by
 rw [IntKind.wrap_i64];omega
theorem Ur {w:World} {p q:Addr} {a v:Value} (h:w.cell? q=some v) (b:q.block≠p.block):(w.setCell p a).cell? q=some v:=by
 rw [World.cell?_of_block (w:=w) (Below.heap_setCell w p a q.block b)];exact h
theorem J5 (w:World) (aD:Option Addr) (u D:Nat) (l:QL) (ba:Option Addr) (bn bc:Nat) (b:BL) (h:zY w aD u D l ba bn bc b) (av:Clean l b) (q:Nat) (bV:q<u) :
 Calls Tryz.prog 107 #[.slice aD u D,.slice ba bn bc,.int .i64 (q:Int)] w fun e w'=>e=.returned (.agg (ya (Wz l b q)))/\Below w.heap.size w w':=by
 have bm:=zh h;have R:=zh av;have W:=zh h.1.len;have bZ:=h.1.le;have bX:=h.1.capb;have V:=zh (yY av.tree);have bD:0<u:=by omega
 have bW:u<=5:=by have:=V.out.five;have:=h.1.len;omega
 obtain ⟨S,ap⟩:=qA (w.heap.size);obtain ⟨N,J⟩:=qB ((w.alloc (.cells (ya fun _=>0) 126)).alloc (.cells (ya fun _=>0) 126));have aj:Below w.heap.size w N:=by rw [J];exact ((Below.refl _ _).alloc (Nat.le_refl _) _).alloc (by simp) _
 have aR:ZU N S (fun _=>0):=by rw [J,<-ap];exact (ZU.new w _).alloc _
 have aS:ZU N (S+1) (fun _=>0):=by rw [J,<-ap];have:=ZU.new (w.alloc (.cells (ya fun _=>0) 126)) (fun _=>0);rwa [World.size_alloc] at this
 have b3:N.heap.size=S+2:=by rw [J,<-ap];simp
 have aQ:=zh (SK N aD u D l q (h.1.later aj) V.out (by omega));have bg:=zh aj;have bo:=zh aR;have bq:=zh aS;have bs:=zh J;have ay:=UC V.out (q:=(q:Int)) (by have:=W.out;omega);have aZ:=WY l q;have ae:0<(zK l q).length:=by rw [Y8 V.out (by omega) (by have:=W.out;omega)];simp
 have aB:Zh (∀ t,Wz l b q t=V9 l b (zK l q) t (zK l q).length):=zh (fun _=>rfl);clear h av aj aR aS J;go_enter Tryz.func107,Tryz.ntmps107;go_wp2_with fail
 rw [<-Tt,<-bs.out];refine aQ.out.mono ?_;rintro e b5 ⟨v,rfl,a3,ab⟩;obtain ⟨y,F,rfl,bR,bS,a2,bQ,ag⟩:=a3.far ae;have bh:=zh (za bg.out ab);have bp:=zh (bo.out.later ab);have br:=zh (bq.out.later ab);obtain ⟨zs,a9⟩:=qA (zK l q);rw [a9] at aZ ae ag a2 aB ay ⊢;obtain ⟨m,aA⟩:=qA (zs.length);rw [aA] at aZ ae ag a2 aB ⊢;have bl:=zh aA;have bt:=zh ag;have bj:=zh ay;have aW:y≠S+1:=by omega
 clear a3 ab ag ay a9 aA aQ;go_wp2_with fail
 go_loopg [9] 48 (fun am (p:Value) wr=>∃ (t:Nat) (f:Nat->Int),p=.int .i64 (t:Int)/\t<=48/\am=48-t/\(∀ i,i<t->f i=Wz l b q i)/\ZU wr S (fun _=>0)/\ZU wr (S+1) f/\(∀ i,i<m->wr.cell? ⟨y,i,none⟩=some (.int .i64 (zs.getD i 0)))/\Below w.heap.size w wr)
 case atStart=>exact ⟨0,fun _=>0,rfl,by omega,rfl,fun i E=>by omega,bp.out,br.out,bt.out,bh.out⟩
 case round =>
  obtain ⟨t,f,rfl,bY,rfl,aV,L,H,a8,aT⟩:=hrel;have aH:=zh L;have aJ:=zh H;have aM:=zh aV;have bu:=zh a8;have aK:=zh aT;clear L H aV a8 aT;by_cases a1:t<48
  ·have bB:(t:Int)<48:=by omega
   go_wp2_with fail
   go_loopg [10] m (fun am (p:Value) I=>∃ (k:Nat) (g:Nat->Int),p=.int .i64 (k:Int)/\k<=m/\am=m-k/\(∀ i,i<t->g i=Wz l b q i)/\(0<k->g t=V9 l b zs t k)/\ZU I S (fun _=>0)/\ZU I (S+1) g/\(∀ i,i<m->I.cell? ⟨y,i,none⟩=some (.int .i64 (zs.getD i 0)))/\Below w.heap.size w I)
   case atStart=>exact ⟨0,f,rfl,Nat.zero_le _,rfl,aM.out,fun h=>by omega,aH.out,aJ.out,bu.out,aK.out⟩
   obtain ⟨k,g,rfl,bO,rfl,hg,aX,a6,a7,bd,au⟩:=hrel;have U:=zh hg;have aN:=zh aX;have aO:=zh a6;have aP:=zh a7;have ai:=zh bd;have aL:=zh au;clear hg aX a6 a7 bd;by_cases a0:k<m
   ·have bT:(k:Int)<m:=by omega
    have bU:¬((k:Int)<0):=by omega
    have af:=bm.out.later au;obtain ⟨A,B,bE,aU⟩:=af.1.cells bD;subst bE;have al:=ai.out k a0;obtain ⟨bG,bH⟩:=bj.out (zs.getD k 0) (by
     have aY:k<zs.length:=by rw [bl.out];exact a0
     rw [List.getD_eq_getElem?_getD,List.getElem?_eq_getElem aY];exact List.getElem_mem aY)
    obtain ⟨z,aC⟩:∃ z:Nat,zs.getD k 0=(z:Int):=⟨(zs.getD k 0).toNat,by omega⟩;rw [aC] at al bG bH;have bb:z<u:=by have:=W.out;omega
    have b1:(z:Int)<u:=by omega
    have b2:¬((z:Int)<0):=by omega
    obtain ⟨o,ao⟩:=qA (qu l z);have ak:=(aU z bb).2.2;have aw:=af.1.caps z bb;have ad:=Yx R.out.tree (p:=z) (by have:=W.out;omega);have a5:=((ZT R.out b.length (Nat.le_refl _) z).2 t a1).2;have bN:=R.out.few;have az:WW l b t z=zn o.runs t-xh l b z t b.length:=by rw [WW,ao]
    have hstep:V9 l b zs t (k+1)=if k=0\/WW l b t z<V9 l b zs t k then WW l b t z else V9 l b zs t k:=by rw [V9,aC,Int.toNat_natCast]
    rw [ao] at ak aw ad;have bF:=ad.2 t;obtain ⟨r,aa⟩:=qA (zn o.runs);obtain ⟨x,Z⟩:=qA (xh l b z t b.length);have be:=zh ak;have aG:=zh al;have bw:Zh (∀ C,Below wr.heap.size wr C->Calls Tryz.prog 99 #[.slice (some ⟨A,B,none⟩) u D,.slice ba bn bc,.int .i64 (z:Int),.int .i64 (t:Int)] C fun e w'=>e=.returned (.int .i64 x)/\Below C.heap.size C w'):=fun C aq=>by
     have:=LD C _ u D l ba bn bc b (af.later aq) R.out z t (by omega);rwa [Z] at this
    have bv:Zh (∀ C,Below wr.heap.size wr C->Calls Tryz.prog 71 #[.slice o.ca o.cn o.cc] C fun e w'=>e=.returned (.agg (ya r))/\Below C.heap.size C w'):=fun C aq=>by
     have:=R9 C o.ca o.cn o.cc o.runs (aw.later aq) ad.1;rwa [aa] at this
    rw [aa] at bF;rw [Z] at a5;rw [aa,Z] at az;rw [az] at hstep;have G:=zh hstep;have b0:0<=x/\x<=1800:=by omega
    clear af aU ak al aw ad ao aa Z az hstep au a5 aC;go_upto_region 9 with fail
    go_cut [11] (fun p I=>∃ bx,bx=I/\p=.int .i64 (r t-x)/\Below wr.heap.size wr I)
    case first =>
     refine zV ((Tryz.f107.body.bind fun c=>yi c 9).getD #[]) (by kernel_rfl) [zl (.slice (some ⟨A,B,none⟩) u D),zl (.slice (some ⟨y,0,none⟩) m F),zl (.int .i64 (k:Int)),zl (.pointer (some ⟨y,k,none⟩)),zl (.int .i64 (z:Int)),zl (.pointer (some ⟨A,B+z*3,none⟩)),zl (.pointer (some ⟨A,B+z*3+2,none⟩)),zl (.slice o.ca o.cn o.cc),zl (.agg (ya r)),zl (.int .i64 (t:Int)),zl (.int .i64 (r t)),zl (.slice (some ⟨A,B,none⟩) u D),zl (.slice ba bn bc),zl (.slice (some ⟨y,0,none⟩) m F),zl (.int .i64 (k:Int)),zl (.pointer (some ⟨y,k,none⟩)),zl (.int .i64 (z:Int)),zl (.int .i64 (t:Int)),zl (.int .i64 x),zl (.int .i64 (r t-x)),zl (.int .i64 (r t-x))] [] (by kernel_rfl) (by kernel_rfl) (by kernel_rfl) ?hg ?hstep ?hfin
     case hg =>
      intro g hg v w h;cases hg
     case hstep =>
      refine zc.cons 1 rfl ?_ ?_
      ·intro T w' n j a;have s:T.getD 0 undef=.slice (some ⟨A,B,none⟩) u D:=j 0 (by kernel_rfl);exact Or.inl ⟨.slice (some ⟨A,B,none⟩) u D,w',by go_simp,rfl,Below.refl _ _⟩
      refine zc.cons 2 rfl ?_ ?_
      ·intro T w' n j a;have s:T.getD 8 undef=.slice (some ⟨y,0,none⟩) m F:=j 8 (by kernel_rfl);exact Or.inl ⟨.slice (some ⟨y,0,none⟩) m F,w',by go_simp,rfl,Below.refl _ _⟩
      refine zc.cons 3 rfl ?_ ?_
      ·intro T w' n j a;have s:T.getD 10 undef=.int .i64 (k:Int):=j 10 (by kernel_rfl);exact Or.inl ⟨.int .i64 (k:Int),w',by go_simp,rfl,Below.refl _ _⟩
      refine zc.cons 4 rfl ?_ ?_
      ·intro T w' n j a;have s:T.getD 26 undef=.slice (some ⟨y,0,none⟩) m F:=a 1 26 (by kernel_rfl);have O:T.getD 27 undef=.int .i64 (k:Int):=a 2 27 (by kernel_rfl);exact Or.inl ⟨.pointer (some ⟨y,k,none⟩),w',by go_simp,rfl,Below.refl _ _⟩
      refine zc.cons 5 rfl ?_ ?_
      ·intro T w' n j a;have s:T.getD 28 undef=.pointer (some ⟨y,k,none⟩):=a 3 28 (by kernel_rfl);have X:=cell_later n aG.out;exact Or.inl ⟨.int .i64 (z:Int),w',by go_simp,rfl,Below.refl _ _⟩
      refine zc.cons 6 rfl ?_ ?_
      ·intro T w' n j a;have s:T.getD 25 undef=.slice (some ⟨A,B,none⟩) u D:=a 0 25 (by kernel_rfl);have O:T.getD 29 undef=.int .i64 (z:Int):=a 4 29 (by kernel_rfl);exact Or.inl ⟨.pointer (some ⟨A,B+z*3,none⟩),w',by go_simp,rfl,Below.refl _ _⟩
      refine zc.cons 7 rfl ?_ ?_
      ·intro T w' n j a;have s:T.getD 30 undef=.pointer (some ⟨A,B+z*3,none⟩):=a 5 30 (by kernel_rfl);exact Or.inl ⟨.pointer (some ⟨A,B+z*3+2,none⟩),w',by go_simp,rfl,Below.refl _ _⟩
      refine zc.cons 8 rfl ?_ ?_
      ·intro T w' n j a;have s:T.getD 31 undef=.pointer (some ⟨A,B+z*3+2,none⟩):=a 6 31 (by kernel_rfl);have X:=cell_later n be.out;exact Or.inl ⟨.slice o.ca o.cn o.cc,w',by go_simp,rfl,Below.refl _ _⟩
      refine zc.cons 9 rfl ?_ ?_
      ·intro T w' n j a;have s:T.getD 32 undef=.slice o.ca o.cn o.cc:=a 7 32 (by kernel_rfl);refine Or.inr ⟨71,#[.slice o.ca o.cn o.cc],by go_simp,?_⟩;refine (bv.out w' n).mono ?_;rintro e bJ ⟨rfl,ar⟩;exact ⟨_,rfl,rfl,ar⟩
      refine zc.cons 10 rfl ?_ ?_
      ·intro T w' n j a;have s:T.getD 9 undef=.int .i64 (t:Int):=j 9 (by kernel_rfl);exact Or.inl ⟨.int .i64 (t:Int),w',by go_simp,rfl,Below.refl _ _⟩
      refine zc.cons 11 rfl ?_ ?_
      ·intro T w' n j a;have s:T.getD 33 undef=.agg (ya r):=a 8 33 (by kernel_rfl);have O:T.getD 34 undef=.int .i64 (t:Int):=a 9 34 (by kernel_rfl);have X:=T8 r (t:Int) (by omega) bB w';rw [Int.toNat_natCast] at X;exact Or.inl ⟨.int .i64 (r t),w',by go_simp,rfl,Below.refl _ _⟩
      refine zc.cons 12 rfl ?_ ?_
      ·intro T w' n j a;have s:T.getD 0 undef=.slice (some ⟨A,B,none⟩) u D:=j 0 (by kernel_rfl);exact Or.inl ⟨.slice (some ⟨A,B,none⟩) u D,w',by go_simp,rfl,Below.refl _ _⟩
      refine zc.cons 13 rfl ?_ ?_
      ·intro T w' n j a;have s:T.getD 1 undef=.slice ba bn bc:=j 1 (by kernel_rfl);exact Or.inl ⟨.slice ba bn bc,w',by go_simp,rfl,Below.refl _ _⟩
      refine zc.cons 14 rfl ?_ ?_
      ·intro T w' n j a;have s:T.getD 8 undef=.slice (some ⟨y,0,none⟩) m F:=j 8 (by kernel_rfl);exact Or.inl ⟨.slice (some ⟨y,0,none⟩) m F,w',by go_simp,rfl,Below.refl _ _⟩
      refine zc.cons 15 rfl ?_ ?_
      ·intro T w' n j a;have s:T.getD 10 undef=.int .i64 (k:Int):=j 10 (by kernel_rfl);exact Or.inl ⟨.int .i64 (k:Int),w',by go_simp,rfl,Below.refl _ _⟩
      refine zc.cons 16 rfl ?_ ?_
      ·intro T w' n j a;have s:T.getD 38 undef=.slice (some ⟨y,0,none⟩) m F:=a 13 38 (by kernel_rfl);have O:T.getD 39 undef=.int .i64 (k:Int):=a 14 39 (by kernel_rfl);exact Or.inl ⟨.pointer (some ⟨y,k,none⟩),w',by go_simp,rfl,Below.refl _ _⟩
      refine zc.cons 17 rfl ?_ ?_
      ·intro T w' n j a;have s:T.getD 40 undef=.pointer (some ⟨y,k,none⟩):=a 15 40 (by kernel_rfl);have X:=cell_later n aG.out;exact Or.inl ⟨.int .i64 (z:Int),w',by go_simp,rfl,Below.refl _ _⟩
      refine zc.cons 18 rfl ?_ ?_
      ·intro T w' n j a;have s:T.getD 9 undef=.int .i64 (t:Int):=j 9 (by kernel_rfl);exact Or.inl ⟨.int .i64 (t:Int),w',by go_simp,rfl,Below.refl _ _⟩
      refine zc.cons 19 rfl ?_ ?_
      ·intro T w' n j a;have s:T.getD 36 undef=.slice (some ⟨A,B,none⟩) u D:=a 11 36 (by kernel_rfl);have O:T.getD 37 undef=.slice ba bn bc:=a 12 37 (by kernel_rfl);have bL:T.getD 41 undef=.int .i64 (z:Int):=a 16 41 (by kernel_rfl);have bM:T.getD 42 undef=.int .i64 (t:Int):=a 17 42 (by kernel_rfl);refine Or.inr ⟨99,#[.slice (some ⟨A,B,none⟩) u D,.slice ba bn bc,.int .i64 (z:Int),.int .i64 (t:Int)],by go_simp,?_⟩;refine (bw.out w' n).mono ?_;rintro e bJ ⟨rfl,ar⟩;exact ⟨_,rfl,rfl,ar⟩
      refine zc.cons 20 rfl ?_ ?_
      ·intro T w' n j a;have s:T.getD 35 undef=.int .i64 (r t):=a 10 35 (by kernel_rfl);have O:T.getD 43 undef=.int .i64 x:=a 18 43 (by kernel_rfl);exact Or.inl ⟨.int .i64 (r t-x),w',by first | (go_simp;done) | (go_simp;exact Hr (by omega)),rfl,Below.refl _ _⟩
      refine zc.cons 21 rfl ?_ ?_
      ·intro T w' n j a;have s:T.getD 44 undef=.int .i64 (r t-x):=a 19 44 (by kernel_rfl);exact Or.inl ⟨.int .i64 (r t-x),w',by go_simp,rfl,Below.refl _ _⟩
      exact trivial
     intro T w' n bC j a;have Y:T.getD 11 undef=.int .i64 (r t-x):=a 20 11 (by kernel_rfl);rw [yb [true,true,true,true,true,true,true,true,true,true,true,false,true,true,true,true,true,true,true,true,true,true,true,true,true,false,false,false,false,false,false,false,false,false,false,false,false,false,false,false,false,false,false,false,false,true,true,true,true,true,true,true,true,true,true,true,true,true] (by kernel_rfl) bC @j];obtain ⟨us,a4⟩:∃ us:Nat->Value,(fun d=>T.getD d undef)=us:=⟨_,rfl⟩;rw [a4];have bz:us 11=.int .i64 (r t-x):=by rw [<-a4];exact Y
     apply_assumption;simp only [xj];go_meet;exact ⟨_,rfl,bz,n⟩
    obtain ⟨bK,rfl,rfl,P⟩:=hcut;have ah:=zh (za aL.out P);have aE:=zh (aO.out.later P);have Q:=zh (aP.out.later P);have aF:Zh (∀ i,i<m->bK.cell? ⟨y,i,none⟩=some (.int .i64 (zs.getD i 0))):=zh (fun i E=>cell_later P (ai.out i E));have bI:=Q.out.cell a1;have b4:=Q.out.frozen t;clear P;by_cases bA:k=0
    ·subst bA;rw [if_pos (Or.inl rfl)] at G;go_wp2;go_roundg (m-(0+1))
     case measure=>omega
     exact ⟨0+1,_,by go_num,by omega,rfl,fun i E=>by rw [JK,if_neg (by omega)];exact U.out i E,fun _=>by rw [JK,if_pos rfl,G.out],aE.out.other (by simp) _,Q.out.set t _,fun i E=>Ur (aF.out i E) aW,ah.out.setCell (by simp;omega) _⟩
    have bP:((k:Int)==0)=false:=by simp;omega
    obtain ⟨M,an⟩:=qA (g t);have ax:=aN.out (by omega);rw [an] at bI ax;rw [<-ax] at G;have bi:=zh an;clear ax an;by_cases j:r t-x<M
    ·rw [if_pos (Or.inr j)] at G;have a:decide (r t-x<M)=true:=by simpa using j
     go_wp2;go_roundg (m-(k+1))
     case measure=>omega
     exact ⟨k+1,_,by go_num,by omega,rfl,fun i E=>by rw [JK,if_neg (by omega)];exact U.out i E,fun _=>by rw [JK,if_pos rfl,G.out],aE.out.other (by simp) _,Q.out.set t _,fun i E=>Ur (aF.out i E) aW,ah.out.setCell (by simp;omega) _⟩
    rw [if_neg (by omega)] at G;have a:decide (r t-x<M)=false:=by simpa using j
    go_wp2;go_roundg (m-(k+1))
    case measure=>omega
    exact ⟨k+1,g,by go_num,by omega,rfl,U.out,fun _=>by rw [G.out,bi.out],aE.out,Q.out,aF.out,ah.out⟩
   obtain rfl:m=k:=by omega
   go_wp2;go_roundg (48-(t+1))
   case measure=>omega
   refine ⟨t+1,g,by go_num,by omega,rfl,fun i E=>?_,aO.out,aP.out,ai.out,aL.out⟩;by_cases e:i=t
   ·subst e;rw [aN.out ae,aB.out]
   exact U.out i (by omega)
  obtain rfl:t=48:=by omega
  have Y:ya f=ya (Wz l b q):=Wv aM.out;have L:=aH.out;have H:=aJ.out;unfold ZU at L H;rw [Y] at H;have aI:=zh L;have bf:=zh H;clear L H Y;go_wp2_with (first
   | refine wpList_load_row rfl 126 (.tmp 7) rfl (S+1) rfl 126 (ya (Wz l b q)) (0,0) _ bf.out Tryz.underlying126 rfl (size61 _) ?_
   | refine wpList_store_row rfl 126 (.tmp 6) (.tmp 57) rfl S (ya (Wz l b q)) rfl rfl 126 _ aI.out (size61 _) (by rw [ZS,ZS]) (NY _) ?_)
  exact bodyPost_ret (v:=.agg (ya (Wz l b q))) (results_cell_row Tryz.results107 _ _ S 126 (ya (Wz l b q)) (0,0) _ rfl (setRow_heap _ _ _ _ _ _ aI.out) Tryz.underlying126 rfl (size61 _)) rfl ⟨rfl,below_setRow aK.out (by omega) _⟩
end Go.Proofs.YtckpdfkobdgjeaaGreatDoor
