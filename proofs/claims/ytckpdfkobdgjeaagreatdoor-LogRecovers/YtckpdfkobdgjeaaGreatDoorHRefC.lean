/- The reference's actFrom. -/
import Derived.Deep.RegionLaw
import Derived.BigRegion
import Derived.Test.YtckpdfkobdgjeaaGreatDoorHAll22
namespace Go.Proofs.YtckpdfkobdgjeaaGreatDoor
set_option maxRecDepth 100000
set_option maxHeartbeats 4000000
open Go.RowKit
theorem WB {P:Program} {c:Array Oper} {o:Oper} {a:Act} {w w':World} {b:Act->World->Prop} {f:Exit->Act->World->Prop} {e:Prop}
 (hg:o.guard=none) (s x:Operand) (t:TypeId) (h:o.op=Op.call { callee:=Callee.builtin Builtin.append,args:=#[s,x],argTypes:=#[t,t] })
 (v y d:Value) (j:a.eval s=v) (l:a.eval x=y) (i:(Builtin.append_ #[t,t] o.type #[v,y]).run P w=.ok d w') (g:b (a.put o.dst d) w') :
 if Region.wanted o (yielded c a.tmps)=true then Oper.wp P o a w b f else e:=by
 have k:Region.wanted o (yielded c a.tmps)=true:=by simp [Region.wanted,hg]
 rw [if_pos k];unfold Oper.wp;simp [execOp,h,resolve,invoke,builtin,j,l,i,Result.andThen];exact g
theorem wt {t:ByteArray} {k:Nat} (h:k<t.size) {i:Int} (b:i=(k:Int)) {v:Int} (c:byt t k=v) (a:World):(Instr.index 9 (.string t) (zI i)).run Tryz.prog a=.ok (.int .u8 v) a:=by
 subst b;subst c;rw [run_index_string a 9 t .i64 (k:Int) Tryz.underlying9,dif_pos ⟨by omega,by omega⟩];unfold byt;rw [dif_pos h];simp
def Ht (w w':World) (e:Ending) (t:ByteArray):Prop :=
 (whole t 0/\∃ pa pc ca cc,e=.returned (.tuple #[.agg #[zI (byt t 0),zI (byt t 1),zI (byt t 2),zI (byt t 3),zI (byt t 4),zI (byt t 5),.slice pa (pN t 0) pc,.slice ca (cN t 0) cc],zI (xx t 0:Nat)]) /\
  RunsIn w' pa (pN t 0) pc (Ye t 7 (pN t 0))/\RunsIn w' ca (cN t 0) cc (Ye t (pA t 0+1) (cN t 0))/\(∀ b off,pa=zO b off->w.heap.size<=b)/\(∀ b off,ca=zO b off->w.heap.size<=b)/\Below w.heap.size w w') \/
 (¬whole t 0/\e=.returned (.tuple #[.agg #[zI 0,zI 0,zI 0,zI 0,zI 0,zI 0,zN,zN],zI 0])/\Below w.heap.size w w')
theorem Kg (w:World) (t:ByteArray) (cP:t.size<=4096) :
 zC 35 #[.string t] w fun e w'=>Ht w w' e t:=by
 obtain ⟨S,aU⟩:=qA (w.heap.size);obtain ⟨A,Y⟩:=qB (w.alloc (.cells #[zI 0,zI 0,zI 0,zI 0,zI 0,zI 0,zN,zN] 27));have b1:zL w A:=by rw [Y];exact zr _ _
 have aR:A.heap.size=S+1:=by rw [Y,<-aU];simp
 have R:wj A S (zI 0) (zI 0) (zI 0) (zI 0) (zI 0) (zI 0) zN zN:=by rw [Y,<-aU];exact heap_alloc_new w _
 have aB:=zh R;have az:=zh b1;have aE:∀ k,wrap64 (byt t k)=byt t k:=fun k=>by have:=Wb t k;unfold wrap64;omega
 by_cases cG:t.size<8
 ·have ch:(t.size:Int)<8:=by omega
  obtain ⟨H,I,J,L,N,O,P,Q⟩:=R.cells;have W:∀ k,A.frozen? (zA S k)=false:=fun k=>frozen_of_row A S k _ _ R;clear b1 R;go_enter Tryz.func35,Tryz.ntmps35;go_upto_region 1 with fail
  rw [<-Y];clear Y;go_wp2_with fail
  obtain ⟨h,X⟩:=x8 A S _ _ _ _ _ _ _ _ (zI 0) (zI 0) (zI 0) (zI 0) (zI 0) (zI 0) zN zN aB.o;have a:w.heap.size<=S:=by omega
  refine bodyPost_ret (v:=.tuple #[.agg #[zI 0,zI 0,zI 0,zI 0,zI 0,zI 0,zN,zN],zI 0]) (zt Tryz.results35 _ _ S 27 #[zI 0,zI 0,zI 0,zI 0,zI 0,zI 0,zN,zN] (0,0) _ rfl h Tryz.underlying27 rfl (by kernel_rfl)) rfl (Or.inr ⟨fun ab=>by have:=ab.2.2.1;unfold pA at this;omega,rfl,?_⟩);exact (((((((((az.o.setCell (p:=(zA S 0)) a _).setCell (p:=(zA S 1)) a _).setCell (p:=(zA S 2)) a _).setCell (p:=(zA S 3)) a _).setCell (p:=(zA S 4)) a _).setCell (p:=(zA S 5)) a _).setCell (p:=(zA S 6)) a _).setCell (p:=(zA S 7)) a _))
 have ch:¬(t.size:Int)<8:=by omega
 have bP:6<t.size:=by omega
 have cA:=wt bP (i:=6) rfl (v:=byt t 6) rfl;by_cases cg:byt t 6<=3
 case neg =>
  have bv:3<byt t 6:=by omega
  obtain ⟨H,I,J,L,N,O,P,Q⟩:=R.cells;have W:∀ k,A.frozen? (zA S k)=false:=fun k=>frozen_of_row A S k _ _ R;clear b1 R;go_enter Tryz.func35,Tryz.ntmps35;go_upto_region 1 with fail
  rw [<-Y];clear Y;go_wp2_with fail
  obtain ⟨h,X⟩:=x8 A S _ _ _ _ _ _ _ _ (zI 0) (zI 0) (zI 0) (zI 0) (zI 0) (zI 0) zN zN aB.o;have a:w.heap.size<=S:=by omega
  refine bodyPost_ret (v:=.tuple #[.agg #[zI 0,zI 0,zI 0,zI 0,zI 0,zI 0,zN,zN],zI 0]) (zt Tryz.results35 _ _ S 27 #[zI 0,zI 0,zI 0,zI 0,zI 0,zI 0,zN,zN] (0,0) _ rfl h Tryz.underlying27 rfl (by kernel_rfl)) rfl (Or.inr ⟨fun ab=>by have:=ab.2.1;simp only [Nat.zero_add] at this;omega,rfl,?_⟩);exact (((((((((az.o.setCell (p:=(zA S 0)) a _).setCell (p:=(zA S 1)) a _).setCell (p:=(zA S 2)) a _).setCell (p:=(zA S 3)) a _).setCell (p:=(zA S 4)) a _).setCell (p:=(zA S 5)) a _).setCell (p:=(zA S 6)) a _).setCell (p:=(zA S 7)) a _))
 have bv:¬3<byt t 6:=by omega
 have bJ:0<t.size:=by omega
 have bK:1<t.size:=by omega
 have bL:2<t.size:=by omega
 have bM:3<t.size:=by omega
 have bN:4<t.size:=by omega
 have bO:5<t.size:=by omega
 have b6:=wt bJ (i:=0) rfl (v:=byt t 0) rfl;have h:=wt bK (i:=1) rfl (v:=byt t 1) rfl;have X:=wt bL (i:=2) rfl (v:=byt t 2) rfl;have aI:=wt bM (i:=3) rfl (v:=byt t 3) rfl;have b7:=wt bN (i:=4) rfl (v:=byt t 4) rfl;have b8:=wt bO (i:=5) rfl (v:=byt t 5) rfl;obtain ⟨H,I,J,L,N,O,P,Q⟩:=R.cells;have W:∀ k,A.frozen? (zA S k)=false:=fun k=>frozen_of_row A S k _ _ R;clear b1 R;go_enter Tryz.func35,Tryz.ntmps35;go_upto_region 1 with fail
 rw [<-Y];clear Y;go_upto_region 3 with fail
 go_cut [4] (fun p G=>∃ b5,b5=G/\p=.pointer (zO (S+1) 0)/\wj G (S+1) (zI (byt t 0)) (zI (byt t 1)) (zI (byt t 2)) (zI (byt t 3)) (zI (byt t 4)) (zI (byt t 5)) zN zN/\wj G S (zI 0) (zI 0) (zI 0) (zI 0) (zI 0) (zI 0) zN zN/\zL w G/\G.heap.size=S+2)
 case first =>
  go_region
  apply_assumption;go_meet;refine ⟨_,rfl,rfl,?_,?_,?_,?_⟩
  ·rw [<-aR];exact heap_alloc_new A _
  ·exact (Below.heap_alloc _ _ _ (by rw [aR];omega)).trans aB.o
  ·exact (az.o.alloc (by rw [aR];omega) _).drew
  show (A.alloc _).heap.size=_;rw [U6,aR]
 case rest =>
  obtain ⟨G,rfl,rfl,n,ap,B,cO⟩:=hcut;clear H I J L N O P Q W b6 h X aI b7 b8 bJ bK bL bM bN bO aR aB az;obtain ⟨ae,bf⟩:∃ y,byt t 0=y:=⟨_,rfl⟩;obtain ⟨af,bg⟩:∃ y,byt t 1=y:=⟨_,rfl⟩;obtain ⟨ag,bh⟩:∃ y,byt t 2=y:=⟨_,rfl⟩;obtain ⟨ah,bi⟩:∃ y,byt t 3=y:=⟨_,rfl⟩;obtain ⟨ai,bj⟩:∃ y,byt t 4=y:=⟨_,rfl⟩;obtain ⟨aj,bl⟩:∃ y,byt t 5=y:=⟨_,rfl⟩;rw [bf,bg,bh,bi,bj,bl] at n;have b0:=zh (And.intro bf (And.intro bg (And.intro bh (And.intro bi (And.intro bj bl)))));clear bf bg bh bi bj bl;have ci:=Wb t 6;obtain ⟨p,aD⟩:∃ p:Nat,byt t 6=(p:Int):=⟨(byt t 6).toNat,by omega⟩;have cU:=wt bP (i:=6) rfl aD;rw [aD] at cg bv ci;have cT:wrap64 (p:Int)=(p:Int):=by rw [<-aD];exact aE 6
  have a1:=zh (show pN t 0=p from by unfold pN;rw [Nat.zero_add,aD];rfl);obtain ⟨q,aN⟩:∃ q:Nat,q=7+2*p:=⟨_,rfl⟩;have bV:=zh aN;have ak:=zh (show pA t 0=q from by unfold pA;rw [a1.o];omega);have bU:=zh aD;have cL:p<=3:=by omega
  have bR:=zh n;have aA:=zh ap;have aT:=zh B;clear aD n ap B cA;go_upto_region 5 with fail
  rw [show (7:Int)+2*(p:Int)=(q:Int) by omega];clear aN;obtain ⟨H,I,J,L,N,O,P,Q⟩:=aA.o.cells;have W:∀ k,G.frozen? (zA S k)=false:=fun k=>frozen_of_row G S k _ _ aA.o;by_cases bE:q<t.size
  case neg =>
   have cr:(t.size:Int)<=(q:Int):=(by omega);go_wp2_with fail
   obtain ⟨h,X⟩:=x8 G S _ _ _ _ _ _ _ _ (zI 0) (zI 0) (zI 0) (zI 0) (zI 0) (zI 0) zN zN aA.o;have a:w.heap.size<=S:=(by omega);refine bodyPost_ret (v:=.tuple #[.agg #[zI 0,zI 0,zI 0,zI 0,zI 0,zI 0,zN,zN],zI 0]) (zt Tryz.results35 _ _ S 27 #[zI 0,zI 0,zI 0,zI 0,zI 0,zI 0,zN,zN] (0,0) _ rfl h Tryz.underlying27 rfl (by kernel_rfl)) rfl (Or.inr ⟨fun ab=>by have:=ab.2.2.1;rw [ak.o] at this;omega,rfl,?_⟩);exact (((((((((aT.o.setCell (p:=(zA S 0)) a _).setCell (p:=(zA S 1)) a _).setCell (p:=(zA S 2)) a _).setCell (p:=(zA S 3)) a _).setCell (p:=(zA S 4)) a _).setCell (p:=(zA S 5)) a _).setCell (p:=(zA S 6)) a _).setCell (p:=(zA S 7)) a _))
  have cr:¬(t.size:Int)<=(q:Int):=by omega
  have cM:(q:Int)<t.size:=by omega
  have cj:=Wb t q;obtain ⟨c,aC⟩:∃ c:Nat,byt t q=(c:Int):=⟨(byt t q).toNat,by omega⟩;have cV:=wt bE (i:=(q:Int)) rfl aC;rw [aC] at cj;have cS:wrap64 (c:Int)=(c:Int):=by rw [<-aC];exact aE q
  have aF:=zh (show cN t 0=c from by unfold cN;rw [ak.o,aC];rfl);have bo:=zh (show byt t (pA t 0)=(c:Int) from by rw [ak.o];exact aC);clear aC;by_cases cI:c<=48
  case neg =>
   have ck:(48:Int)<(c:Int):=(by omega);go_wp2_with fail
   obtain ⟨h,X⟩:=x8 G S _ _ _ _ _ _ _ _ (zI 0) (zI 0) (zI 0) (zI 0) (zI 0) (zI 0) zN zN aA.o;have a:w.heap.size<=S:=(by omega);refine bodyPost_ret (v:=.tuple #[.agg #[zI 0,zI 0,zI 0,zI 0,zI 0,zI 0,zN,zN],zI 0]) (zt Tryz.results35 _ _ S 27 #[zI 0,zI 0,zI 0,zI 0,zI 0,zI 0,zN,zN] (0,0) _ rfl h Tryz.underlying27 rfl (by kernel_rfl)) rfl (Or.inr ⟨fun ab=>by have:=ab.2.2.2.1;rw [bo.o] at this;omega,rfl,?_⟩);exact (((((((((aT.o.setCell (p:=(zA S 0)) a _).setCell (p:=(zA S 1)) a _).setCell (p:=(zA S 2)) a _).setCell (p:=(zA S 3)) a _).setCell (p:=(zA S 4)) a _).setCell (p:=(zA S 5)) a _).setCell (p:=(zA S 6)) a _).setCell (p:=(zA S 7)) a _))
  have ck:¬(48:Int)<(c:Int):=by omega
  by_cases cl:q+1+2*c<=t.size
  case neg =>
   have cm:(t.size:Int)<(q:Int)+1+2*(c:Int):=(by omega);go_wp2_with fail
   obtain ⟨h,X⟩:=x8 G S _ _ _ _ _ _ _ _ (zI 0) (zI 0) (zI 0) (zI 0) (zI 0) (zI 0) zN zN aA.o;have a:w.heap.size<=S:=(by omega);refine bodyPost_ret (v:=.tuple #[.agg #[zI 0,zI 0,zI 0,zI 0,zI 0,zI 0,zN,zN],zI 0]) (zt Tryz.results35 _ _ S 27 #[zI 0,zI 0,zI 0,zI 0,zI 0,zI 0,zN,zN] (0,0) _ rfl h Tryz.underlying27 rfl (by kernel_rfl)) rfl (Or.inr ⟨fun ab=>by have:=ab.2.2.2.2;unfold xx at this;rw [ak.o,aF.o] at this;omega,rfl,?_⟩);exact (((((((((aT.o.setCell (p:=(zA S 0)) a _).setCell (p:=(zA S 1)) a _).setCell (p:=(zA S 2)) a _).setCell (p:=(zA S 3)) a _).setCell (p:=(zA S 4)) a _).setCell (p:=(zA S 5)) a _).setCell (p:=(zA S 6)) a _).setCell (p:=(zA S 7)) a _))
  have cm:¬(t.size:Int)<(q:Int)+1+2*(c:Int):=by omega
  have bZ:=zh (show whole t 0 from ⟨by omega,by rw [Nat.zero_add,bU.o];omega,by rw [ak.o];exact bE,by rw [bo.o];omega,by unfold xx;rw [ak.o,aF.o];exact cl⟩);go_wp2_with fail
  clear H I J L N O P Q W;go_loopg [6] p (fun a8 (v:Value) wr=>∃ (j:Nat) (r:Value),v=zI ((7+2*j:Nat):Int)/\j<=p/\a8=p-j/\wj wr (S+1) (zI ae) (zI af) (zI ag) (zI ah) (zI ai) (zI aj) r zN/\wj wr S (zI 0) (zI 0) (zI 0) (zI 0) (zI 0) (zI 0) zN zN/\wr.ownsRow (S+2) 64 2 r (Ye t 7 j).length (cellsOf (Ye t 7 j))/\Below S w wr)
  case atStart=>exact ⟨0,zN,rfl,Nat.zero_le _,by simp,bR.o,aA.o,World.ownsRow_nil _ _ _ _,by rw [<-aU];exact aT.o⟩
  obtain ⟨j,r,rfl,cn,rfl,n,ap,x,B⟩:=hrel;have aN:=bV.o;by_cases cp:j<p
  ·obtain ⟨k,F⟩:∃ k:Nat,k=7+2*j:=⟨_,rfl⟩;have a0:=zh F;have cq:(k:Int)<(q:Int):=(by omega);have bm:k<t.size:=(by omega);have cv:(k:Int)<t.size:=(by omega);have bn:k+1<t.size:=(by omega);have cu:(k:Int)+1<t.size:=(by omega);rw [<-F];have aG:=Wb t k;have aH:=Wb t (k+1);obtain ⟨d,C⟩:=qA (byt t k);obtain ⟨D,E⟩:=qA (byt t (k+1));have cy:wrap64 d=d:=(by rw [<-C];exact aE k);have cz:wrap64 D=D:=(by rw [<-E];exact aE (k+1));have cs:IntKind.i64.wrap ((k:Int)+1)=(k:Int)+1:=(by rw [IntKind.wrap_i64];omega);have cB:=wt bm (i:=(k:Int)) rfl C;have cC:=wt bn (i:=(k:Int)+1) (by omega) E;rw [C] at aG;rw [E] at aH;have cw:IntKind.i64.wrap d=d:=(by rw [IntKind.wrap_i64];omega);have cx:IntKind.i64.wrap D=D:=(by rw [IntKind.wrap_i64];omega);obtain ⟨H,I,J,L,N,O,P,Q⟩:=n.cells;have W:∀ m,wr.frozen? (zA (S+1) m)=false:=fun m=>frozen_of_row wr (S+1) m _ _ n;obtain ⟨U,ba⟩:=qA (wr.heap.size);obtain ⟨ao,Z⟩:=qB ((wr.alloc (.cells #[zI d,zI D] 64)).drew);have s:zL wr ao:=(by rw [Z];exact (zr _ _).drew);have aK:ao.heap[U]?=some (.cells #[zI d,zI D] 64 (0,0)):=(by rw [Z,<-ba];exact heap_alloc_new wr _);have bG:S+2<=wr.heap.size:=(by have:=(Array.getElem?_eq_some_iff.1 n).1;omega);obtain ⟨g,av,f,aq,aa,u⟩:=UP ao (S+2) r (Ye t 7 j) (zT x s) d D U aK (by rw [yD];omega) (Nat.le_trans bG s.size);have a5:(wr.alloc (.cells #[zI d,zI D] 64)).cell? (zA (S+1) 6)=some r:=by
    have:wj (wr.alloc (.cells #[zI d,zI D] 64)) (S+1) (zI ae) (zI af) (zI ag) (zI ah) (zI ai) (zI aj) r zN:=(Below.heap_alloc _ _ _ (by omega)).trans n;rw [cell_of_row _ (S+1) 6 _ _ _ this];rfl
   have am:∀ y,r.ownBlock=some y->S+2<=y:=fun y e=>(x.lt y e).1;have ad:wj f (S+1) (zI ae) (zI af) (zI ag) (zI ah) (zI ai) (zI aj) r zN:=(u.block (S+1) (by have:=s.size;omega) (fun e=>by have:=am _ e.symm;omega)).trans ((s.block (S+1) (by omega)).trans n);have bH:wj f S (zI 0) (zI 0) (zI 0) (zI 0) (zI 0) (zI 0) zN zN:=(u.block S (by have:=s.size;omega) (fun e=>by have:=am _ e.symm;omega)).trans ((s.block S (by omega)).trans ap);have aL:Below S w f:=(B.trans (s.mono (by omega))).trans ⟨u.os,u.tape,u.output,u.size,fun y aQ=>u.block y (by have:=s.size;omega) (fun e=>by have:=am _ e.symm;omega)⟩;rw [yD] at aq aa;obtain ⟨al,z⟩:=qB (f.setCell ⟨S+1,6,none⟩ (.slice (some ⟨g,0,none⟩) (j+1) av));have au:=heap_setCell_same f (S+1) 6 _ _ (.slice (zO g 0) (j+1) av) ad;rw [<-z] at au;have bI:wj al S (zI 0) (zI 0) (zI 0) (zI 0) (zI 0) (zI 0) zN zN:=(by rw [z];exact (heap_setCell_other f (zA (S+1) 6) S _ (by simp)).trans bH);have aO:al.ownsRow (S+2) 64 2 (.slice (zO g 0) (j+1) av) (j+1) (cellsOf ((Ye t 7 j)++[(d,D)])):=by
    refine ⟨aa.1,?_⟩;rcases aa.2 with an | ⟨aJ,cap,a6,e,a9,hg,rest⟩
    ·exact .inl an
    exact .inr ⟨aJ,cap,a6,e,a9,by rw [z];exact (heap_setCell_other f (zA (S+1) 6) aJ _ (by simp only;omega)).trans hg,rest⟩
   have aM:Below S w al:=(by rw [z];exact aL.setCell (p:=(zA (S+1) 6)) (by show S<=S+1;omega) _);have a3:=zh au;have b4:=zh bI;have a2:=zh aO;have aY:=zh aM;have aX:=zh C;have aZ:=zh E;have a4:f.cell? (zA (S+1) 6)=some r:=(by rw [cell_of_row f (S+1) 6 _ _ _ ad];rfl);have a7:f.frozen? (zA (S+1) 6)=false:=frozen_of_row f (S+1) 6 _ _ ad;have ar:=aq 22;rw [Z] at ar;clear F aN Z s aK bG aq aa u am ad bH aL au bI aO aM n ap x B C E aG aH;go_upto_region 10 with fail
   go_region_law (refine WB rfl (.tmp 74) (.tmp 85) 22 rfl _ _ _ (by simp [Act.eval]) (by simp [Act.eval]) ar ?_)
   all_goals
    rw [<-z];clear z ar a4 a7 a5 H I J L N O P Q W;go_wp2;go_roundg (p-(j+1))
    case measure=>omega
    case rel =>
     have F:=a0.o;refine ⟨j+1,_,by go_num,by omega,rfl,a3.o,b4.o,?_,aY.o⟩;have be:Ye t 7 (j+1)=Ye t 7 j++[(d,D)]:=(by rw [UN,<-aX.o,<-aZ.o,F]);rw [be,List.length_append,yD];exact a2.o
  obtain rfl:p=j:=by omega
  obtain ⟨aS,ct⟩:=qB (wr);subst ct;obtain ⟨M,bw⟩:=qA (aS.heap.size);have cH:S+2<=M:=by have:=(Array.getElem?_eq_some_iff.1 n).1;omega
  rw [yD] at x;obtain ⟨ax,ay,rfl⟩:=Xr x;obtain ⟨cQ,cR,h,bb,bz⟩:=Yq (l:=Ye t 7 p) (by rw [yD];exact x) (show (Ye t 7 p).length<=1000 by rw [yD];omega);rw [yD] at h bb;injection h with h X aI;subst h;subst aI;have br:=zh bb;have bp:=zh bz;have aB:=zh n;have b3:=zh ap;have az:=zh B;have bS:=zh bw;have bD:((7+2*p:Nat):Int)=(q:Int):=by omega
  rw [bD];have cJ:¬(q:Int)<(q:Int):=by omega
  clear n ap B x bb bz bD X aN;go_wp2_with fail
  go_loopg [8] c (fun a8 (v:Value) wr=>∃ (j:Nat) (r:Value),v=zI ((q+1+2*j:Nat):Int)/\j<=c/\a8=c-j/\wj wr (S+1) (zI ae) (zI af) (zI ag) (zI ah) (zI ai) (zI aj) (.slice ax p ay) r/\wr.ownsRow M 55 2 r (Ye t (q+1) j).length (cellsOf (Ye t (q+1) j))/\(∀ y,y<M->y≠S+1->wr.heap[y]?=aS.heap[y]?)/\Below S w wr/\M<=wr.heap.size)
  case atStart=>exact ⟨0,zN,by go_num,Nat.zero_le _,by simp,aB.o,World.ownsRow_nil _ _ _ _,fun _ _ _=>rfl,az.o,by rw [bw];omega⟩
  obtain ⟨j,r,rfl,cn,rfl,n,x,aP,B,bx⟩:=hrel;by_cases cp:j<c
  ·obtain ⟨k,F⟩:∃ k:Nat,k=q+1+2*j:=⟨_,rfl⟩;have a0:=zh F;have cq:(k:Int)<(q:Int)+1+2*(c:Int):=(by omega);have bm:k<t.size:=(by omega);have cv:(k:Int)<t.size:=(by omega);have bn:k+1<t.size:=(by omega);have cu:(k:Int)+1<t.size:=(by omega);rw [<-F];have aG:=Wb t k;have aH:=Wb t (k+1);obtain ⟨d,C⟩:=qA (byt t k);obtain ⟨D,E⟩:=qA (byt t (k+1));have cy:wrap64 d=d:=(by rw [<-C];exact aE k);have cz:wrap64 D=D:=(by rw [<-E];exact aE (k+1));have cs:IntKind.i64.wrap ((k:Int)+1)=(k:Int)+1:=(by rw [IntKind.wrap_i64];omega);have cB:=wt bm (i:=(k:Int)) rfl C;have cC:=wt bn (i:=(k:Int)+1) (by omega) E;rw [C] at aG;rw [E] at aH;have cw:IntKind.i64.wrap d=d:=(by rw [IntKind.wrap_i64];omega);have cx:IntKind.i64.wrap D=D:=(by rw [IntKind.wrap_i64];omega);obtain ⟨H,I,J,L,N,O,P,Q⟩:=n.cells;have W:∀ m,wr.frozen? (zA (S+1) m)=false:=fun m=>frozen_of_row wr (S+1) m _ _ n;obtain ⟨U,ba⟩:=qA (wr.heap.size);obtain ⟨ao,Z⟩:=qB ((wr.alloc (.cells #[zI d,zI D] 55)).drew);have s:zL wr ao:=(by rw [Z];exact (zr _ _).drew);have aK:ao.heap[U]?=some (.cells #[zI d,zI D] 55 (0,0)):=(by rw [Z,<-ba];exact heap_alloc_new wr _);obtain ⟨g,av,f,aq,aa,u⟩:=RU ao M r (Ye t (q+1) j) (zT x s) d D U aK (by rw [yD];omega) (Nat.le_trans bx s.size);have a5:(wr.alloc (.cells #[zI d,zI D] 55)).cell? (zA (S+1) 7)=some r:=by
    have:wj (wr.alloc (.cells #[zI d,zI D] 55)) (S+1) (zI ae) (zI af) (zI ag) (zI ah) (zI ai) (zI aj) (.slice ax p ay) r:=(Below.heap_alloc _ _ _ (by omega)).trans n;rw [cell_of_row _ (S+1) 7 _ _ _ this];rfl
   have am:∀ y,r.ownBlock=some y->M<=y:=fun y e=>(x.lt y e).1;have bd:∀ y,y<M->f.heap[y]?=wr.heap[y]?:=fun y aQ=>(u.block y (by have:=s.size;omega) (fun e=>by have:=am _ e.symm;omega)).trans (s.block y (by omega));have ad:wj f (S+1) (zI ae) (zI af) (zI ag) (zI ah) (zI ai) (zI aj) (.slice ax p ay) r:=(bd (S+1) (by omega)).trans n;have aL:Below S w f:=(B.trans (s.mono (by omega))).trans ⟨u.os,u.tape,u.output,u.size,fun y aQ=>u.block y (by have:=s.size;omega) (fun e=>by have:=am _ e.symm;omega)⟩;rw [yD] at aq aa;obtain ⟨al,z⟩:=qB (f.setCell ⟨S+1,7,none⟩ (.slice (some ⟨g,0,none⟩) (j+1) av));have au:=heap_setCell_same f (S+1) 7 _ _ (.slice (zO g 0) (j+1) av) ad;rw [<-z] at au;have aO:al.ownsRow M 55 2 (.slice (zO g 0) (j+1) av) (j+1) (cellsOf (Ye t (q+1) j++[(d,D)])):=by
    refine ⟨aa.1,?_⟩;rcases aa.2 with an | ⟨aJ,cap,a6,e,a9,hg,rest⟩
    ·exact .inl an
    exact .inr ⟨aJ,cap,a6,e,a9,by rw [z];exact (heap_setCell_other f (zA (S+1) 7) aJ _ (by simp only;omega)).trans hg,rest⟩
   have aM:Below S w al:=(by rw [z];exact aL.setCell (p:=(zA (S+1) 7)) (by show S<=S+1;omega) _);have bF:∀ y,y<M->y≠S+1->al.heap[y]?=aS.heap[y]?:=fun y aQ bC=>by rw [z];exact (heap_setCell_other f (zA (S+1) 7) y _ bC).trans ((bd y aQ).trans (aP y aQ bC))
   have bB:M<=al.heap.size:=(by rw [z];simp only [World.setCell];have:=u.size;have:=s.size;first | omega | (simp;omega));have a3:=zh au;have a2:=zh aO;have aY:=zh aM;have bX:=zh bF;have bT:=zh bB;have aX:=zh C;have aZ:=zh E;have a4:f.cell? (zA (S+1) 7)=some r:=(by rw [cell_of_row f (S+1) 7 _ _ _ ad];rfl);have a7:f.frozen? (zA (S+1) 7)=false:=frozen_of_row f (S+1) 7 _ _ ad;have ar:=aq 25;rw [Z] at ar;clear F Z s aK aq aa u am ad aL au aO aM bF bB n x B C E aG aH bd aP bx;go_upto_region 15 with fail
   go_region_law (refine WB rfl (.tmp 105) (.tmp 116) 25 rfl _ _ _ (by simp [Act.eval]) (by simp [Act.eval]) ar ?_)
   all_goals
    rw [<-z];clear z ar a4 a7 a5 H I J L N O P Q W;go_wp2;go_roundg (c-(j+1))
    case measure=>omega
    case rel =>
     have F:=a0.o;refine ⟨j+1,_,by go_num,by omega,rfl,a3.o,?_,bX.o,aY.o,bT.o⟩;have be:Ye t (q+1) (j+1)=Ye t (q+1) j++[(d,D)]:=(by rw [UN,<-aX.o,<-aZ.o,F]);rw [be,List.length_append,yD];exact a2.o
  obtain rfl:c=j:=by omega
  have co:((q+1+2*c:Nat):Int)=(q:Int)+1+2*(c:Int):=by omega
  rw [co];have cK:¬((q:Int)+1+2*(c:Int)<(q:Int)+1+2*(c:Int)):=by omega
  rw [yD] at x;obtain ⟨aV,aW,rfl⟩:=Xr x;obtain ⟨cD,cE,h,bc,bA⟩:=Yq (l:=Ye t (q+1) c) (by rw [yD];exact x) (show (Ye t (q+1) c).length<=1000 by rw [yD];omega);rw [yD] at h bc;injection h with h X aI;subst h;subst aI;have an:wj wr S (zI 0) (zI 0) (zI 0) (zI 0) (zI 0) (zI 0) zN zN:=(aP S (by omega) (by omega)).trans b3.o;obtain ⟨H,I,J,L,N,O,P,Q⟩:=n.cells;obtain ⟨cW,cX,cY,cZ,c0,c1,c2,c3⟩:=an.cells;have c4:∀ m,wr.frozen? (zA S m)=false:=fun m=>frozen_of_row wr S m _ _ an;have bW:=zh bc;have bq:=zh bA;have b2:=zh an;have bQ:=zh B;have bY:=zh aP;clear bc bA an B aP x n;go_wp2;obtain ⟨b9,bs⟩:=x8 wr S _ _ _ _ _ _ _ _ (zI ae) (zI af) (zI ag) (zI ah) (zI ai) (zI aj) (.slice ax p ay) (.slice aV c aW) b2.o;have a:S<=S:=Nat.le_refl _;refine bodyPost_ret (v:=.tuple #[.agg #[zI ae,zI af,zI ag,zI ah,zI ai,zI aj,.slice ax p ay,.slice aV c aW],zI ((q:Int)+1+2*(c:Int))]) (zt Tryz.results35 _ _ S 27 #[zI ae,zI af,zI ag,zI ah,zI ai,zI aj,.slice ax p ay,.slice aV c aW] (0,0) _ rfl b9 Tryz.underlying27 rfl (by kernel_rfl)) rfl ?_;refine Or.inl ⟨bZ.o,ax,ay,aV,aW,?_,?_,?_,?_,?_,?_⟩
  ·obtain ⟨ca,cb,cc,cd,ce,cf⟩:=b0.o;rw [ca,cb,cc,cd,ce,cf,a1.o,aF.o];unfold xx;rw [ak.o,aF.o];simp
  ·rw [a1.o];exact br.o.of_away (fun bt b aw e=>by
    have cF:=(bp.o b aw e).1;have bu:=br.o.lt bt e;rw [bS.o] at bu;exact (bs b (by omega)).trans (bY.o b bu (by omega)))
  ·rw [aF.o,ak.o];exact bW.o.of_away (fun bt b aw e=>bs b (by have:=(bq.o b aw e).1;omega))
  ·intro b aw e;have:=(bp.o b aw e).1;omega
  ·intro b aw e;have:=(bq.o b aw e).1;omega
  rw [aU];exact ((((((((bQ.o.setCell (p:=(zA S 0)) a _).setCell (p:=(zA S 1)) a _).setCell (p:=(zA S 2)) a _).setCell (p:=(zA S 3)) a _).setCell (p:=(zA S 4)) a _).setCell (p:=(zA S 5)) a _).setCell (p:=(zA S 6)) a _).setCell (p:=(zA S 7)) a _)
end Go.Proofs.YtckpdfkobdgjeaaGreatDoor
