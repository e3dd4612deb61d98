/- Several texts in one: RefU, AnyU, RefV, RefW, RefX. -/
import Derived.Deep.RegionWith
import Derived.Deep.Upon
import Derived.Test.YtckpdfkobdgjeaaGreatDoorHRefT
import Derived.Test.YtckpdfkobdgjeaaGreatDoorHAll22
import Derived.Test.YtckpdfkobdgjeaaGreatDoorHAll4
import Derived.Test.YtckpdfkobdgjeaaGreatDoorHAll20
import Derived.Test.YtckpdfkobdgjeaaGreatDoorHAll15
namespace Go.Proofs.YtckpdfkobdgjeaaGreatDoor
set_option maxRecDepth 100000
set_option maxHeartbeats 8000000
open Go.RowKit
structure AcsIn (w:World) (a:Option Addr) (n cap:Nat) (l:List Ac):Prop where
 len:n=l.length
 le:n<=cap
 capb:cap<=9223372036854775807
 cells:0<n->∃ g off,a=zO g off/\∀ (i:Nat) (X:Ac),l[i]?=some X->∀ j u,(xW X)[j]?=some u->w.cell? (zA g (off+i*8+j))=some u
 each:∀ x∈l,wl w x
theorem AcsIn.later {w w':World} {a:Option Addr} {n cap:Nat} {l:List Ac} (h:AcsIn w a n cap l) (b:Below w.heap.size w w'):AcsIn w' a n cap l:=by
 refine ⟨h.len,h.le,h.capb,fun f=>?_,fun x m=>(h.each x m).later b⟩;obtain ⟨g,o,d,e⟩:=h.cells f;exact ⟨g,o,d,fun i X c j p k=>cell_later b (e i X c j p k)⟩
theorem Jk {l:QL} (h:z9 l=0):Clean l []:=⟨h,by simp,fun i a=>absurd a (Nat.not_lt_zero _)⟩
theorem Hv (w:World) (a:Option Addr) (n cap:Nat) (l:QL) (h:QsIn w a n cap l) (Z:z9 l=0) :
 zC 43 #[.slice a n cap] w fun e w'=>∃ g k m,e=.returned (.agg (zS 0 0 (zO g 0) n k none 0 0))/\zY w' (zO g 0) n k m none 0 0 []/\zi m=zi l/\NewSt w.heap.size (zO g 0) n m none 0 []/\g<w'.heap.size/\Below w.heap.size w w':=by
 obtain ⟨S,y⟩:=qA (w.heap.size);obtain ⟨c,f⟩:=qB (w.alloc (.cells zZ 40));have z:zL w c:=by rw [f];exact zr _ _
 have M:zj c S (zI 0) (zI 0) zN zN:=by rw [f,<-y];exact zj.new w _ _ _ _
 have C:c.heap.size=S+1:=by rw [f,<-y];simp
 have r:=Yn (ba:=none) (bn:=0) (bc:=0) (b:=[]) ⟨h,Wl _⟩ (Jk Z);have V:=zh (TX c a n cap l (h.later z) r.t0 r.t1 r.caps);have W:=zh M;have N:=zh z;have U:=zh f;have G:=zh y;have R:=zh C;clear z f M h r C;go_enter Tryz.func43,Tryz.ntmps43;go_wp2_with fail
 rw [<-U.o];refine V.o.mono ?_;rintro e E ⟨g,k,m,rfl,H,L,I,A,J⟩;have u:=zh (W.o.later A);obtain ⟨ae,af,ag,ah⟩:=u.o.cells;have ai:∀ k,E.frozen? (zA S k)=false:=fun k=>frozen_of_row E S k _ _ u.o;have t:=zh H;have Q:=zh L;have P:=zh I;have F:=zh J;have O:=zh (za N.o A);clear H L I J A;go_wp2_with fail
 have D:=zk E S 40 _ _ _ _ (zI 0) (zI 0) (.slice (zO g 0) n k) zN u.o;have q:w.heap.size<=S:=by have:=G.o;omega
 have C:=R.o;have aa:=G.o;have ab:=(t.o.row.lt g (xP.2 rfl)).1;have ad:=Q.o;refine bodyPost_ret (v:=.agg (zS 0 0 (zO g 0) n k none 0 0)) (results_cell_row Tryz.results43 _ _ S 40 (zS 0 0 (zO g 0) n k none 0 0) (0,0) _ rfl D.1 Tryz.underlying40 rfl (by kernel_rfl)) rfl ⟨g,k,m,rfl,⟨?_,Wl _⟩,P.o,⟨fun _ x s e=>?_,fun i d B x s e=>?_,fun Y=>absurd Y (Nat.lt_irrefl _),fun i d=>absurd d (Nat.not_lt_zero _),fun i d=>absurd d (Nat.not_lt_zero _)⟩,?_,?_⟩
 ·exact y6 (t.o.keep (fun j e=>D.2 j (by have:=xP.1 e;omega)) (fun i d B j s e=>D.2 j (by have:=(F.o i (by omega) B j s e).1;omega)))
 ·have X:g=x:=by injection e with e;injection e with X
  omega
 ·have:=(F.o i d B x s e).1;omega
 ·have:=(t.o.row.lt g (xP.2 rfl)).2;simp only [World.setCell,Array.size_modify];exact this
 ·exact ((((O.o.setCell (p:=(zA S 0)) q _).setCell (p:=(zA S 1)) q _).setCell (p:=(zA S 2)) q _).setCell (p:=(zA S 3)) q _)
structure DInv (w wr:World) (S B:Nat) (s:St) (c n:Int) (ta:Option Addr) (tn tc:Nat) (l:QL) (ba:Option Addr) (bn bc:Nat) (b:BL):Prop where
 box:zj wr B (zI c) (zI n) (.slice ta tn tc) (.slice ba bn bc)
 res:zj wr S (zI 0) (zI 0) zN zN
 st:zY wr ta tn tc l ba bn bc b
 blk:BlkSt (fun k=>S<k/\k≠B) ta tn l ba bn b
 says:c=s.c/\n=s.n/\zi l=s.l/\zg b=s.b
 below:Below S w wr
 sb:S<B
theorem DInv.size {w wr:World} {S B:Nat} {s:St} {c n:Int} {a:Option Addr} {e d:Nat} {l:QL} {ba:Option Addr} {bn bc:Nat} {b:BL} (h:DInv w wr S B s c n a e d l ba bn bc b):B<wr.heap.size:=(Array.getElem?_eq_some_iff.1 h.box).1
theorem DInv.later {w wr g:World} {S B:Nat} {s:St} {c n:Int} {d:Option Addr} {f e:Nat} {l:QL} {ba:Option Addr} {bn bc:Nat} {b:BL} (h:DInv w wr S B s c n d f e l ba bn bc b) (a:Below wr.heap.size wr g):DInv w g S B s c n d f e l ba bn bc b :=
 ⟨h.box.later a,h.res.later a,h.st.later a,h.blk,h.says,h.below.trans (a.mono (by have:=h.size;have:=h.sb;omega)),h.sb⟩
theorem DInv.store {w wr:World} {S B:Nat} {s m:St} {c n:Int} {D:Option Addr} {F E:Nat} {l:QL} {ba:Option Addr} {bn bc:Nat} {b:BL} (h:DInv w wr S B s c n D F E l ba bn bc b)
 {i j:Int} {e:Option Addr} {f o:Nat} {t:QL} {a:Option Addr} {d g:Nat} {q:BL} (A:zY wr e f o t a d g q) (v:NewSt (B+1) e f t a d q) (C:i=m.c/\j=m.n/\zi t=m.l/\zg q=m.b) :
 DInv w ((((wr.setCell (zA B 0) (zI i)).setCell (zA B 1) (zI j)).setCell (zA B 2) (.slice e f o)).setCell (zA B 3) (.slice a d g)) S B m i j e f o t a d g q:=by
 have r:=zk wr B 40 _ _ _ _ (zI i) (zI j) (.slice e f o) (.slice a d g) h.box;obtain ⟨u,x⟩:=qB ((((wr.setCell ⟨B,0,none⟩ (zI i)).setCell ⟨B,1,none⟩ (zI j)).setCell ⟨B,2,none⟩ (.slice e f o)).setCell ⟨B,3,none⟩ (.slice a d g));have G:=h.sb;have y:Below S w u:=by rw [x];exact (((h.below.setCell (p:=(zA B 0)) (by show S<=B;omega) _).setCell (p:=(zA B 1)) (by show S<=B;omega) _).setCell (p:=(zA B 2)) (by show S<=B;omega) _).setCell (p:=(zA B 3)) (by show S<=B;omega) _
 rw [<-x] at r ⊢;exact ⟨r.1,(r.2 S (by omega)).trans h.res,A.keep v (fun k z=>r.2 k (by omega)),v.blk (fun k z=>⟨by omega,by omega⟩),C,y,h.sb⟩
theorem Fo {wr w6:World} {P:Nat} (n:wr.heap.size=P) {j:Int} {k:St} {d f:Int} {g:Option Addr} {i h:Nat} {a:Option Addr} {c b:Nat} (l:X9 w6 wr.drew.heap.size j k d f g i h a c b) (e:Below wr.drew.heap.size wr.drew w6) :
 zj (w6.alloc (.cells (zS d f g i h a c b) 40)) w6.heap.size (zI d) (zI f) (.slice g i h) (.slice a c b)/\P<=w6.heap.size/\X9 (w6.alloc (.cells (zS d f g i h a c b) 40)) P j k d f g i h a c b/\Below wr.heap.size wr (w6.alloc (.cells (zS d f g i h a c b) 40)):=by
 have o:wr.heap.size<=w6.heap.size:=e.size;have m:zL wr w6:=⟨e.os,e.tape,e.output,e.size,e.block⟩;exact ⟨zj.new w6 _ _ _ _,by omega,(l.mono (show P<=wr.heap.size by omega)).later (zr _ _),m.alloc (by omega) _⟩
theorem Fp {wr w6:World} {P:Nat} (s:wr.heap.size=P) {o:Obj} {l:Int} {m:St} {d e:Int} {f:Option Addr} {h g:Nat} {a:Option Addr} {c b:Nat} (r:X9 w6 (wr.alloc o).drew.heap.size l m d e f h g a c b) (t:Below (wr.alloc o).drew.heap.size (wr.alloc o).drew w6) (v:zj w6 P (zI 0) (zI 0) zN zN) :
 zj ((((w6.setCell (zA P 0) (zI d)).setCell (zA P 1) (zI e)).setCell (zA P 2) (.slice f h g)).setCell (zA P 3) (.slice a c b)) P (zI d) (zI e) (.slice f h g) (.slice a c b)/\P<=P/\X9 ((((w6.setCell (zA P 0) (zI d)).setCell (zA P 1) (zI e)).setCell (zA P 2) (.slice f h g)).setCell (zA P 3) (.slice a c b)) P l m d e f h g a c b/\Below wr.heap.size wr ((((w6.setCell (zA P 0) (zI d)).setCell (zA P 1) (zI e)).setCell (zA P 2) (.slice f h g)).setCell (zA P 3) (.slice a c b)):=by
 have n:=zk w6 P 40 _ _ _ _ (zI d) (zI e) (.slice f h g) (.slice a c b) v;have x:(wr.alloc o).drew.heap.size=P+1:=by show (wr.alloc o).heap.size=P+1;rw [World.size_alloc,s]
 have i:zL wr (wr.alloc o):=zr _ _;have q:zL wr (wr.alloc o).drew:=⟨i.os,i.tape,i.output,i.size,i.block⟩;have u:zL wr w6:=q.trans (t.mono (by omega));have j:wr.heap.size<=P:=by omega
 refine ⟨n.1,Nat.le_refl _,(r.keep fun k w=>n.2 k (by omega)).mono (by omega),((((u.setCell (p:=(zA P 0)) j _).setCell (p:=(zA P 1)) j _).setCell (p:=(zA P 2)) j _).setCell (p:=(zA P 3)) j _)⟩
theorem JZ (b8:Vv) (w:World) (a:Option Addr) (n cap:Nat) (l:QL) (h:QsIn w a n cap l) (aP:z9 l=0) (bu:Option Addr) (s bv:Nat) (b:List Ac) (ae:AcsIn w bu s bv b) (bo:∀ x∈b,x.cn<=1048576) :
 zC 17 #[.slice a n cap,.slice bu s bv] w fun e w'=>∃ z m A D C t y u,e=.returned (.agg (zS z m A D C t y u))/\X9 w' w.heap.size 0 (Yd ⟨0,0,zi l,[]⟩ (b.map Ac.bare)) z m A D C t y u/\Below w.heap.size w w':=by
 obtain ⟨S,aK⟩:=qA (w.heap.size);obtain ⟨U,af⟩:=qB (w.alloc (.cells zZ 40));have aN:Below w.heap.size w U:=by rw [af];exact zr _ _
 have bx:zj U S (zI 0) (zI 0) zN zN:=by rw [af,<-aK];exact zj.new w _ _ _ _
 have az:U.heap.size=S+1:=by rw [af,<-aK];simp
 have bJ:=zh (Hv U a n cap l (h.later aN) aP);have ag:GoodSt ⟨0,0,zi l,[]⟩:=TJ aP;have aV:=zh ae;have cs:=ae.le;have cr:=ae.capb;have aX:=zh ae.len;have bA:=zh bo;have bM:=zh bx;have bz:=zh aN;have bG:=zh af;have ar:=zh aK;have bE:=zh az;have bB:=zh ag;clear aN af bx h az ae bo ag aP;go_enter Tryz.func17,Tryz.ntmps17;go_wp2_with fail
 rw [<-bG.o];refine bJ.o.mono ?_;rintro e an ⟨g,k,aT,rfl,ab,bj,aQ,cc,F⟩;obtain ⟨B,b7⟩:=qA (an.heap.size);obtain ⟨aG,aw⟩:=qB (an.alloc (.cells (zS 0 0 (some ⟨g,0,none⟩) n k none 0 0) 40));have av:Below an.heap.size an aG:=by rw [aw];exact zr _ _
 have a8:zj aG B (zI 0) (zI 0) (.slice (zO g 0) n k) zN:=by rw [aw,<-b7];exact zj.new an _ _ _ _
 have cb:=F.size;have az:=bE.o;obtain ⟨r,hs0⟩:∃ r:St,r=⟨0,0,zi l,[]⟩:=⟨_,rfl⟩;have ay:∀ k,(S+1<=k/\k<B)->S<k/\k≠B:=fun k bq=>by omega
 have bi:BlkSt (fun k=>S<k/\k≠B) (zO g 0) n aT none 0 []:=by
  refine ⟨fun V ad aU e=>ay ad ⟨?_,?_⟩,fun i aa V ad aU e=>ay ad ⟨?_,?_⟩,fun V=>absurd V (Nat.lt_irrefl _),fun i aa=>absurd aa (Nat.not_lt_zero _),fun i aa=>absurd aa (Nat.not_lt_zero _)⟩
  ·have:=aQ.qs V ad aU e;omega
  ·injection e with e;injection e with e;omega
  ·have:=aQ.caps i aa V ad aU e;omega
  have:=(ab.1.caps i aa).lt V e;omega
 have bb:DInv w aG S B (Yd r ((b.take 0).map Ac.bare)) 0 0 (zO g 0) n k aT none 0 0 [] :=
  ⟨a8,(bM.o.later F).later av,ab.later av,bi,by rw [hs0];exact ⟨rfl,rfl,bj,rfl⟩,by rw [<-ar.o];exact za (za bz.o F) av,by omega⟩
 have bC:=zh bb;have bH:=zh aw;have aZ:=zh hs0;have cu:S<B:=by omega
 clear ab bj aQ cc F av a8 cb az hs0 ay bi bb aw;go_upto_region 2 with fail
 rw [<-bH.o];go_wp2_with fail
 go_loopg [6] s (fun b0 (p:Value) wr=>∃ (j:Nat) (c m:Int) (I:Option Addr) (L J:Nat) (O:QL) (ba:Option Addr) (bn bc:Nat) (M:BL),p=zI j/\j<=s/\b0=s-j/\DInv w wr S B (Yd r ((b.take j).map Ac.bare)) c m I L J O ba bn bc M)
 case atStart=>exact ⟨0,0,0,zO g 0,n,k,aT,none,0,0,[],rfl,Nat.zero_le _,by simp,bC.o⟩
 case round =>
  obtain ⟨j,c,E,I,L,J,O,ba,bn,bc,M,rfl,cv,rfl,N⟩:=hrel;have f:=zh N;by_cases ay:j<s
  ·have cw:(j:Int)<s:=(by omega);have cx:¬((j:Int)<0):=(by omega);have aO:Below w.heap.size w wr:=(by rw [ar.o];exact N.below);have bp:j<b.length:=(by have:=aX.o;omega);obtain ⟨X,ax⟩:∃ X,b[j]?=some X:=⟨b[j],List.getElem?_eq_getElem bp⟩;have aM:X∈b:=List.mem_of_getElem? ax;obtain ⟨cp,cy,ce,bt⟩:=aV.o.cells (by omega);have H:=fun cf cj cd=>cell_later aO (bt j X ax cf cj cd);have aH:=H 0 _ rfl;have a1:=H 1 _ rfl;have a2:=H 2 _ rfl;have a3:=H 3 _ rfl;have a4:=H 4 _ rfl;have a5:=H 5 _ rfl;have a6:=H 6 _ rfl;have a7:=H 7 _ rfl;simp only [Nat.add_zero] at aH;subst ce;have ag:GoodSt (Yd r ((b.take j).map Ac.bare)):=(by rw [aZ.o];exact GoodSt.recs bB.o _);have br:zU c E O M=0:=by
    obtain ⟨ai,aj,ak,al⟩:=N.says;have:=ag.e;rw [<-ai,<-aj,<-ak,<-al,xQ] at this;exact this
   have bg:=bA.o X aM;have bf:=aV.o.each X aM;have R:=zh fun a0 (be:Below wr.heap.size wr a0)=>Hu b8 a0 c E I L J O ba bn bc M (N.st.later be) br X (bf.later (za aO be)) bg;have bl:ZO ⟨c,E,O,M⟩ X=ZO (Yd r ((b.take j).map Ac.bare)) X.bare:=by
    obtain ⟨ai,aj,ak,al⟩:=N.says;rw [<-Nc,ai,aj,ak,al]
   have bm:YR ⟨c,E,zi O,zg M⟩ X.bare=YR (Yd r ((b.take j).map Ac.bare)) X.bare:=by
    obtain ⟨ai,aj,ak,al⟩:=N.says;rw [ai,aj,ak,al]
   rw [bl,bm] at R;have aR:Yd r ((b.take (j+1)).map Ac.bare)=VN (Yd r ((b.take j).map Ac.bare)) X.bare:=by
    rw [List.take_add_one,ax,List.map_append];exact Pt _ _ _
   obtain ⟨am,bs⟩:=qA (Yd r ((b.take j).map Ac.bare));obtain ⟨Q,aJ⟩:=qA (ZO am X.bare);rw [bs] at R aR f;rw [aJ] at R;obtain ⟨au,aL⟩:=qA (YR am X.bare);rw [aL] at R;have aY:=zh aR;have aW:=zh aJ;have bF:=zh aL;obtain ⟨aB,aC,aD,aE⟩:=f.o.box.cells;obtain ⟨P,bd⟩:=qA (wr.heap.size);have aF:=zh bd;have d:Below wr.heap.size wr (wr.alloc (.cells zZ 40)):=zr _ _;have bN:=cell_later d aB;have bO:=cell_later d aC;have bP:=cell_later d aD;have bQ:=cell_later d aE;have bS:=cell_later d aH;have bT:=cell_later d a1;have bU:=cell_later d a2;have bV:=cell_later d a3;have bW:=cell_later d a4;have bX:=cell_later d a5;have bY:=cell_later d a6;have bZ:=cell_later d a7;have cg:Zh (Below wr.heap.size wr wr.drew):=⟨rfl,rfl,rfl,Nat.le_refl _,fun _ _=>rfl⟩;have ch:Zh (Below wr.heap.size wr (wr.alloc (.cells zZ 40)).drew):=⟨d.os,d.tape,d.output,d.size,d.block⟩;have bI:Zh (zj (wr.alloc (.cells zZ 40)).drew P (zI 0) (zI 0) zN zN):=by
    show zj (wr.alloc (.cells zZ 40)) P _ _ _ _;rw [<-bd];exact zj.new wr _ _ _ _
   clear N aO ax aM bt H ag br bg bf bl bm aR bs aJ aL bp d;go_upto_region 5 with fail
   go_cut [7,8] (fun p q aA=>∃ (bL:World) (ao:Nat) (z m:Int) (A:Option Addr) (D C:Nat) (t:Option Addr) (y u:Nat),bL=aA/\p=.pointer (zO ao 0)/\q=zI Q/\zj aA ao (zI z) (zI m) (.slice A D C) (.slice t y u)/\P<=ao/\X9 aA P Q au z m A D C t y u/\Below wr.heap.size wr aA)
   case first =>
    go_region_with (first
     | (go_at_call 25;refine (R.o _ ?_).mono ?_;exact cg.o;rintro e w6 ⟨z,m,A,D,C,t,y,u,rfl,Z,F⟩)
     | (go_at_call 25;refine (R.o _ ?_).mono ?_;exact ch.o;rintro e w6 ⟨z,m,A,D,C,t,y,u,rfl,Z,F⟩;have aS:=bI.o.later F;have cF:∀ k,w6.frozen? ⟨P,k,none⟩=false:=fun k=>frozen_of_row w6 P k _ _ aS;obtain ⟨ck,cl,cm,co⟩:=aS.cells))
    all_goals (go_wp2_with fail)
    all_goals go_meet
    all_goals first
     | (have G:=Fo aF.o Z F;exact ⟨_,_,z,m,A,D,C,t,y,u,rfl,rfl,rfl,G.1,G.2.1,G.2.2.1,G.2.2.2⟩)
     | (have G:=Fp aF.o Z F aS;exact ⟨_,_,z,m,A,D,C,t,y,u,rfl,rfl,rfl,G.1,G.2.1,G.2.2.1,G.2.2.2⟩)
   obtain ⟨bw,ao,z,m,A,D,C,t,y,u,rfl,rfl,rfl,a9,ct,Z,bh⟩:=hcut;have aq:=zh (f.o.later bh);have bD:=zh Z;have cq:B<P:=(by have:=f.o.size;have:=aF.o;omega);clear aB aC aD aE bN bO bP bQ bS bT bU bV bW bX bY bZ aH a1 a2 a3 a4 a5 a6 a7;obtain ⟨aB,aC,aD,aE⟩:=aq.o.box.cells;have cE:∀ k,bw.frozen? (zA B k)=false:=fun k=>frozen_of_row bw B k _ _ aq.o.box;obtain ⟨ck,cl,cm,co⟩:=a9.cells;clear Z bh a9;by_cases Y:Q=0
   ·have b9:(Q==0)=true:=(by simpa using Y);have ap:=zh Y;clear Y;go_wp2_with fail
    go_roundg (s-(j+1))
    case rel =>
     rcases bD.o with ⟨b1,_⟩ | ⟨_,ci,bR,b2,b3,W,b4,b5,b6⟩
     ·exact absurd ap.o b1
     refine ⟨j+1,z,m,A,D,C,ci,t,y,u,bR,by go_num,by omega,rfl,?_⟩;have aI:Yd r ((b.take (j+1)).map Ac.bare)=au:=by
      rw [aY.o];unfold VN;rw [if_pos (by rw [aW.o];exact ap.o),bF.o]
     rw [aI];exact aq.o.store b2 (b6.mono (by omega)) ⟨b3,W,b4,b5⟩
    case measure=>omega
   have b9:(Q==0)=false:=(by simpa using Y);have ap:=zh Y;clear Y;go_wp2_with fail
   go_roundg (s-(j+1))
   case rel =>
    refine ⟨j+1,c,E,I,L,J,O,ba,bn,bc,M,by go_num,by omega,rfl,?_⟩;have aI:Yd r ((b.take (j+1)).map Ac.bare)=am:=by
     rw [aY.o];unfold VN;rw [if_neg (by rw [aW.o];exact ap.o)]
    rw [aI];exact aq.o
   case measure=>omega
  obtain rfl:s=j:=by omega
  obtain ⟨aB,aC,aD,aE⟩:=f.o.box.cells;obtain ⟨cz,cA,cB,cC⟩:=f.o.res.cells;have cD:∀ k,wr.frozen? (zA S k)=false:=fun k=>frozen_of_row wr S k _ _ f.o.res;clear N;go_wp2_with fail
  have ab:=zk wr S 40 _ _ _ _ (zI c) (zI E) (.slice I L J) (.slice ba bn bc) f.o.res;have W:S<=S:=Nat.le_refl _;have ca:=((((f.o.below.setCell (p:=(zA S 0)) W (zI c)).setCell (p:=(zA S 1)) W (zI E)).setCell (p:=(zA S 2)) W (.slice I L J)).setCell (p:=(zA S 3)) W (.slice ba bn bc));refine bodyPost_ret (v:=.agg (zS c E I L J ba bn bc)) (results_cell_row Tryz.results17 _ _ S 40 (zS c E I L J ba bn bc) (0,0) _ rfl ab.1 Tryz.underlying40 rfl (by kernel_rfl)) rfl ⟨c,E,I,L,J,ba,bn,bc,rfl,Or.inr ⟨rfl,O,M,?_,?_⟩,?_⟩
  ·exact f.o.st.stand f.o.blk (fun k bq=>ab.2 k (by omega))
  ·have ah:=f.o.says;rw [show b.take s=b from List.take_of_length_le (by have:=aX.o;omega),aZ.o] at ah;exact ⟨ah.1,ah.2.1,ah.2.2.1,ah.2.2.2,f.o.blk.new (fun k bq=>by rw [ar.o];omega)⟩
  rw [ar.o];exact ca
theorem H8 {w:World} {g b n cap:Nat} {l:BL} (h:BksIn w (zO g b) n cap l):∀ j d,(ze l)[j]?=some d->w.cell? (((zA g b):Addr).add j)=some d:=by
 intro j d a;have r:j<(ze l).length:=(List.getElem?_eq_some_iff.1 a).1;rw [zE] at r;have u:=h.len;obtain ⟨t,v,e,p⟩:=h.cells (by omega);injection e with e;injection e with m o _;subst m;subst o;have q:j / 7<n:=by omega
 have c:j % 7<7:=Nat.mod_lt _ (by omega);have s:j=j / 7*7+j % 7:=by omega
 rw [s,Za l (j / 7) (j % 7) (by omega) c] at a;rw [Addr.add_lit,show b+j=b+j / 7*7+j % 7 by omega];obtain ⟨f,c1,c2,c3,c4,c5,i⟩:=p (j / 7) q;generalize j % 7=k at c a;unfold zx at a
 match k,c with
 | 0,_=>rw [<-a];exact f
 | 1,_=>rw [<-a];exact c1
 | 2,_=>rw [<-a];exact c2
 | 3,_=>rw [<-a];exact c3
 | 4,_=>rw [<-a];exact c4
 | 5,_=>rw [<-a];exact c5
 | 6,_=>rw [<-a];exact i
theorem Y5 (w:World) (B:Nat) (o:Option Addr) (n k:Nat) (b1:BL) (p:OwnBks w B (.slice o n k) b1) (hn:n=b1.length) (D:Option Addr) (m v:Nat) (c:BL) (x:BksIn w D m v c) (J:TypeId) (ae:n+m<=1000) (G:B<=w.heap.size)
 (Q:∀ i,i<c.length->(0<(bk c i).rq.pn->∀ g d,(bk c i).rq.pa=zO g d->(Value.slice o n k).ownBlock≠some g)/\(0<(bk c i).bn->∀ g d,(bk c i).ba=zO g d->(Value.slice o n k).ownBlock≠some g)) :
 ∃ E u r,(Builtin.append_ #[38,38] J #[.slice o n k,.slice D m v]).run Tryz.prog w=.ok (.slice E (n+m) u) r/\OwnBks r B (.slice E (n+m) u) (b1++c)/\(∀ j,j<w.heap.size->some j≠(Value.slice o n k).ownBlock->r.heap[j]?=w.heap[j]?)/\w.heap.size<=r.heap.size/\(∀ g,(Value.slice E (n+m) u).ownBlock=some g->(Value.slice o n k).ownBlock=some g\/w.heap.size<=g)/\Below B w r:=by
 subst hn;obtain ⟨R,f,e⟩:=Option.map_eq_some_iff.1 Z5;simp only [Prod.mk.injEq] at e;obtain ⟨S,s,U⟩:=e;have H:=x.len;by_cases Y:m=0
 ·subst Y;obtain rfl:c=[]:=List.length_eq_zero_iff.1 H.symm;have O:b1.length<=k:=by
   rcases p.row.2 with ⟨ag,ad⟩ | ⟨ab,cap,aa,e,G,hg,O,_⟩
   ·omega
   simp only [Value.slice.injEq] at e;omega
  refine ⟨o,k,w,?_,?_,fun j _ _=>rfl,Nat.le_refl _,fun g e=>Or.inl e,Below.refl _ _⟩
  ·rw [Nat.add_zero];refine run_append_nothing w 38 38 J 60 R Tryz.underlying38 f o b1.length k O (.slice D 0 v) ?_;cases D with
   | none=>exact Src.ofNil (P:=Tryz.prog) (w:=w) Tryz.underlying38 v
   | some a=>exact Src.ofSlice (P:=Tryz.prog) (w:=w) Tryz.underlying38 a 0 v [] (by simp) (fun j Z I=>by simp at I) (fun Z I=>by cases I)
  rw [Nat.add_zero,List.append_nil];exact p
 ·obtain ⟨g,d,rfl,_⟩:=x.cells (by omega);obtain ⟨t,u,r,V,W,z,A,af⟩:=run_append_lies w 38 J B 60 R _ 7 88 Tryz.underlying38 f S s U (by rfl) (by omega) (.slice o b1.length k) b1.length (ze b1) p.row (zA g d) m v (ze c) (by rw [zE,<-H])
   (H8 x) (y7 c) (by omega) (by simp only [maxLen];omega) (by omega) G w.heap.size rfl
  have M:(Value.slice o b1.length k).ownBlock=some t\/w.heap.size<=t:=by
   rcases A with A | A
   ·exact Or.inl A
   exact Or.inr (by omega)
  have N:∀ {a:Option Addr} {n cap:Nat} {l:zd},RunsIn w a n cap l->(0<n->∀ b d,a=zO b d->(Value.slice o b1.length k).ownBlock≠some b)->RunsIn r a n cap l:=fun h hn=>h.of_away fun y b d e=>z.block b (h.lt y e) (fun s=>hn y b d e s.symm);have L:∀ {a:Option Addr} {n cap:Nat} {l:zd},RunsIn w a n cap l->(0<n->∀ b d,a=zO b d->(Value.slice o b1.length k).ownBlock≠some b)->0<n->∀ b d,a=zO b d->(Value.slice (zO t 0) (b1.length+m) u).ownBlock≠some b:=fun h hn y b d e s=>by
   have s:t=b:=(by simpa [Value.ownBlock] using s);subst s;rcases M with h' | h'
   ·exact hn y t d e h'
   have:=h.lt y e;omega
  have q:∀ i,i<(b1++c).length->(zH w (bk (b1++c) i).rq/\(0<(bk (b1++c) i).rq.pn->∀ b d,(bk (b1++c) i).rq.pa=zO b d->(Value.slice o b1.length k).ownBlock≠some b))/\(RunsIn w (bk (b1++c) i).ba (bk (b1++c) i).bn (bk (b1++c) i).bc (bk (b1++c) i).bs/\(0<(bk (b1++c) i).bn->∀ b d,(bk (b1++c) i).ba=zO b d->(Value.slice o b1.length k).ownBlock≠some b)):=by
   intro i f;by_cases e:i<b1.length
   ·have F:bk (b1++c) i=bk b1 i:=by
     unfold bk;simp only [List.getD_eq_getElem?_getD,List.getElem?_append_left e]
    rw [F];exact ⟨⟨p.rqs i e,p.farP i e⟩,p.bites i e,p.farB i e⟩
   have C:i-b1.length<c.length:=(by rw [List.length_append] at f;omega);have F:bk (b1++c) i=bk c (i-b1.length):=by
    unfold bk;simp only [List.getD_eq_getElem?_getD,List.getElem?_append_right (show b1.length<=i by omega)]
   rw [F];exact ⟨⟨x.rqs _ (by omega),(Q _ C).1⟩,x.bites _ (by omega),(Q _ C).2⟩
  refine ⟨zO t 0,u,r,V,⟨?_,fun i f=>?_,fun i f=>?_,fun i f=>?_,fun i f=>?_⟩,fun j C X=>z.block j C X,z.size,fun g e=>?_,?_⟩
  ·rw [List.length_append,<-H,xw];exact W
  ·exact N (q i f).1.1 (q i f).1.2
  ·exact N (q i f).2.1 (q i f).2.2
  ·exact L (q i f).1.1 (q i f).1.2
  ·exact L (q i f).2.1 (q i f).2.2
  ·have e:t=g:=(by simpa [Value.ownBlock] using e);subst e;exact M
  exact (Below.refl B w).grown z G (fun k e=>(p.row.lt k e).1)
theorem FP {b:BL} (d:Up b) {i j:Nat} (c:i<j) (a:j<b.length):(bk b i).id<(bk b j).id:=by
 have h:=List.pairwise_iff_getElem.1 d i j (by omega) a c;rw [wI (show i<b.length by omega),wI a];exact h
theorem Lh {b:BL} (j:Up b) {a:Int} {k:Nat} (l:k<=b.length) (h:∀ i,i<k->(bk b i).id<a) (c:k=b.length\/¬(bk b k).id<a):XY b a b.length=k:=by
 have g:∀ i,k<=i->i<b.length->¬(bk b i).id<a:=fun i d f=>by
  rcases c with e | c
  ·omega
  by_cases e:i=k
  ·subst e;exact c
  have:=FP j (show k<i by omega) f;omega
 by_cases e:k=0
 ·subst e;exact To fun i d=>g i (Nat.zero_le _) d
 obtain ⟨m,rfl⟩:∃ m,k=m+1:=⟨k-1,by omega⟩;exact P9 (by omega) (h m (by omega)) fun i d f=>g i (by omega) f
theorem Oc {b:BL} (e:Up b) {x:Bk} {k:Nat} (d:k<=b.length) (a:∀ i,i<k->(bk b i).id<x.id) (c:k=b.length\/¬(bk b k).id<x.id):Zj b x=yL b k x:=by
 unfold Zj;rw [Lh e d a c]
theorem Ro {b:BL} {x:Bk} {k:Nat} (a:k<=b.length):bk (yL b k x) k=x:=by
 unfold bk yL;rw [List.getD_eq_getElem?_getD,List.getElem?_append_right (by simp;omega)];simp [Nat.min_eq_left a]
theorem Rp {b:BL} {x:Bk} {k:Nat} (a:k<b.length):bk (yL b k x) (k+1)=bk b k:=by
 unfold bk yL;rw [List.getD_eq_getElem?_getD,List.getElem?_append_right (by simp;omega)];have e:k+1-(b.take k).length=1:=by simp;omega
 rw [e,List.getElem?_cons_succ,List.getElem?_drop,List.getD_eq_getElem?_getD,Nat.add_zero]
theorem IC {b:BL} {x:Bk} {k:Nat} (a:k<b.length):((yL b k x).set k (bk b k)).set (k+1) x=yL b (k+1) x:=by
 have d:b.take (k+1)=b.take k++[bk b k]:=by
  rw [List.take_succ_eq_append_getElem a,wI a]
 have e:b.drop k=bk b k::b.drop (k+1):=by
  rw [wI a];exact (List.getElem_cons_drop a).symm
 have c:(b.take k).length=k:=by simp;omega
 unfold yL;rw [d,e,List.set_append_right _ _ (by omega),c,Nat.sub_self,List.set_cons_zero,List.set_append_right _ _ (by omega),c,show k+1-k=1 by omega,List.set_cons_succ,List.set_cons_zero,List.append_assoc];rfl
theorem ID (b:BL) (x:Bk):yL b 0 x=x::b:=by simp [yL]
theorem NI {l:QL} {b:BL} (h:Clean l b) {q:Nat} (d:q<l.length) {t:Nat} (e:t<48):yw l b (t:Int) q=XD l b t q:=by
 have:=UL h d (t:=(t:Int)) (by omega) (by omega);rw [Int.toNat_natCast] at this;unfold XD;cases a:yw l b (t:Int) q with
 | true=>rw [decide_eq_true (this.1 a)]
 | false =>
  rw [decide_eq_false];intro c;rw [this.2 c] at a;cases a
theorem RP {l:QL} {b:BL} (h:Clean l b) {C:Nat} {t q:Int} {f:Bool} (w:Vu C l b t q f):XO (C:Int) (zi l) (zg b) l.length t q f:=by
 have d:∀ (a:Int) (k:Nat),(C:Int)<=a->a<48->k<l.length->yw (zi l) (zg b) a k=XD l b a.toNat k:=fun a k c n g=>by
  rw [Yp,<-NI h g (show a.toNat<48 by omega),Int.toNat_of_nonneg (by omega)]
 rcases w with ⟨c,n,o,p⟩ | ⟨c,T,k,rfl,rfl,o,p,r,s,u,v⟩
 ·exact Or.inl ⟨c,n,o,fun a j m k g=>by rw [d a k j m g];exact p a.toNat (by omega) (by omega) k g⟩
 refine Or.inr ⟨c,by omega,by omega,k,r,rfl,?_,fun i e=>?_,fun a j m i e=>?_⟩
 ·rw [d T k (by omega) (by omega) r,Int.toNat_natCast];exact s
 ·rw [d T i (by omega) (by omega) (by omega),Int.toNat_natCast];exact u i e
 rw [d a i j (by omega) e];exact v a.toNat (by omega) (by omega) i e
theorem Ge {r:Rq} {c:Int} (h:z8 false r=0) (f:max r.fr c<r.un):z8 false (r.from c)=0:=by
 obtain ⟨b,d,a⟩:=zv.1 h;refine zv.2 ⟨b,d,?_⟩;unfold yJ at a ⊢;rw [Bool.and_eq_true] at a ⊢;refine ⟨?_,a.2⟩;have e:=of_decide_eq_true a.1;refine decide_eq_true (show 0<=max r.fr c/\max r.fr c<r.un/\r.un<=48 from ?_);omega
theorem Jq {l:QL} {b:BL} {X:Bk} {c:Int} (f:Clean l b) (h:yI l X.rq=0) (hn:ZD X c=false) (i:max X.rq.fr c<X.rq.un):y9 c l b X=Zf (X.rq.from c) (xH l b X.rq.queue)/\z8 false (X.rq.from c)=0/\0<=X.rq.queue/\X.rq.queue<l.length:=by
 obtain ⟨g,a,d⟩:=GL f.tree h;have e:=Ge g i;refine ⟨?_,e,a,d⟩;unfold y9;rw [hn,if_neg (by decide)];exact NN f e a d
theorem Pv {l:QL} {b:BL} {X:Bk} {c:Int} (h:ZD X c=true\/¬max X.rq.fr c<X.rq.un):(y9 c l b X).2=false:=by
 unfold y9;cases f:ZD X c with
 | true=>rfl
 | false =>
  have i:¬max X.rq.fr c<X.rq.un:=h.resolve_left (by rw [f];decide);rw [if_neg (by decide)];have g:¬z8 false (X.rq.from c)=0:=fun a=>by
   have d:=(zv.1 a).2.2;unfold yJ at d;rw [Bool.and_eq_true] at d;have e:0<=max X.rq.fr c/\max X.rq.fr c<X.rq.un/\X.rq.un<=48:=of_decide_eq_true d.1;exact i e.2.1
  unfold yU
  split
  ·rw [if_neg];intro a;unfold yq at a
   split at a
   ·exact g a
   cases a
  rfl
theorem LG {p:Qu->Bool} {l m:QL} (h:∀ i,p (qu l i)=p (qu m i)):∀ n,Yg p l n=Yg p m n
 | 0=>rfl
 | n+1=>by rw [Yg,Yg,LG h n,h]
theorem QS {l m:QL} (h:∀ i,nm l i=nm m i) (k:Nat):∀ n,yy l k n=yy m k n
 | 0=>rfl
 | n+1=>by rw [yy,yy,QS h k n,h,h]
theorem NA {l m:QL} (h:∀ i,nm l i=nm m i):∀ n,yu l n=yu m n
 | 0=>rfl
 | n+1=>by rw [yu,yu,NA h n,QS h]
theorem IW {l m:QL} (h:∀ i,(qu l i).parent=(qu m i).parent):∀ n,xK l n=xK m n
 | 0=>rfl
 | n+1=>by rw [xK,xK,IW h n,h]
theorem O7 {l:QL} {q:Nat} {rs:zd} (h:z9 l=0) (a:q<l.length):z9 (yP l q rs)=if yR rs=true then 0 else 1:=by
 have hn:∀ i,(qu (yP l q rs) i).name=(qu l i).name:=fun i=>by
  rw [RV a];by_cases e:i=q
  ·subst e;rw [if_pos rfl]
  rw [if_neg e]
 have r:∀ i,(qu (yP l q rs) i).parent=(qu l i).parent:=fun i=>by
  rw [RV a];by_cases e:i=q
  ·subst e;rw [if_pos rfl]
  rw [if_neg e]
 have n:xC (yP l q rs)=xC l:=by
  unfold xC;rw [Zd];exact LG (fun i=>by rw [hn]) _
 have o:ZX (yP l q rs)=yR rs/\yW l.length 1 5=true/\xC l=true/\yu l l.length=true/\xK l l.length=true:=by
  unfold z9 at h;by_cases b:yW l.length 1 5=true
  ·rw [if_pos b] at h;by_cases c:xC l=true
   ·rw [if_pos c] at h;by_cases d:yu l l.length=true
    ·rw [if_pos d] at h;by_cases f:xK l l.length=true
     ·rw [if_pos f] at h;by_cases g:ZX l=true
      ·refine ⟨?_,b,c,d,f⟩;unfold ZX;rw [Zd];cases j:yR rs with
       | true =>
        refine Um.2 fun k p=>?_;show yR (qu (yP l q rs) k).runs=true;rw [RV a];by_cases e:k=q
        ·rw [if_pos e];exact j
        rw [if_neg e];exact Um.1 g k p
       | false =>
        refine Xg (k:=q) ?_ _ a;show yR (qu (yP l q rs) q).runs=false;rw [RV a,if_pos rfl];exact j
      rw [if_neg g] at h;cases h
     rw [if_neg f] at h;cases h
    rw [if_neg d] at h;cases h
   rw [if_neg c] at h;cases h
  rw [if_neg b] at h;cases h
 obtain ⟨c1,c2,c3,c4,c5⟩:=o;unfold z9;rw [Zd,n,NA (l:=yP l q rs) (m:=l) (fun i=>by unfold nm;rw [hn]),IW (l:=yP l q rs) (m:=l) r,if_pos c2,if_pos c3,if_pos c4,if_pos c5,c1]
theorem TN:∀ (b:BL) (i:Nat) (X:Bk),i<b.length->(((((((ze b).set (i*7) (zI X.id)).set (i*7+1) (zI X.rq.queue)).set (i*7+2) (zI X.rq.fr)).set (i*7+3) (zI X.rq.un)).set (i*7+4) (zI X.rq.kind)).set (i*7+5) (.slice X.rq.pa X.rq.pn X.rq.pc)).set (i*7+6) (.slice X.ba X.bn X.bc)=ze (b.set i X)
 | [],i,X,h=>by simp at h
 | y::b,0,X,_=>by simp [ze,zx]
 | y::b,i+1,X,h=>by
  have f:=TN b i X (by simpa using h);have e:∀ k,(i+1)*7+k=7+(i*7+k):=fun k=>by omega
  have d:(i+1)*7=7+i*7:=by omega
  rw [List.set_cons_succ,ze,ze,<-f,e,e,e,e,e,e,d];have a:∀ (k:Nat) (v:Value) (c:List Value),(zx y++c).set (7+k) v=zx y++c.set k v:=fun k v c=>by
   rw [List.set_append_right _ _ (by simp [zx])]
   congr 2
   simp [zx]
  rw [a,a,a,a,a,a,a]
def Nt (w:World) (g o:Nat) (X:Bk):World:=((((((w.setCell (zA g o) (zI X.id)).setCell (zA g (o+1)) (zI X.rq.queue)).setCell (zA g (o+2)) (zI X.rq.fr)).setCell (zA g (o+3)) (zI X.rq.un)).setCell (zA g (o+4)) (zI X.rq.kind)).setCell (zA g (o+5)) (.slice X.rq.pa X.rq.pn X.rq.pc)).setCell (zA g (o+6)) (.slice X.ba X.bn X.bc)
theorem Wj (w:World) (g o:Nat) (X:Bk) (k:Nat) (a:k≠g):(Nt w g o X).heap[k]?=w.heap[k]?:=by
 unfold Nt;rw [heap_setCell_other _ _ _ _ a,heap_setCell_other _ _ _ _ a,heap_setCell_other _ _ _ _ a,heap_setCell_other _ _ _ _ a,heap_setCell_other _ _ _ _ a,heap_setCell_other _ _ _ _ a,heap_setCell_other _ _ _ _ a]
theorem Rx {B:Nat} {a w:World} (h:Below B a w) {g:Nat} (hg:B<=g) (o:Nat) (X:Bk):Below B a (Nt w g o X) :=
 ((((((h.setCell (p:=(zA g o)) hg _).setCell (p:=(zA g (o+1))) hg _).setCell (p:=(zA g (o+2))) hg _).setCell (p:=(zA g (o+3))) hg _).setCell (p:=(zA g (o+4))) hg _).setCell (p:=(zA g (o+5))) hg _).setCell (p:=(zA g (o+6))) hg _
theorem LX {w:World} {B g n k:Nat} {b:BL} (h:OwnBks w B (.slice (zO g 0) n k) b) (hn:n=b.length) {i:Nat} (t:i<n) {X:Bk} (x:zH w X.rq) (v:RunsIn w X.ba X.bn X.bc X.bs) (r:0<X.rq.pn->∀ c d,X.rq.pa=zO c d->c≠g) (u:0<X.bn->∀ c d,X.ba=zO c d->c≠g) :
 OwnBks (Nt w g (i*7) X) B (.slice (zO g 0) n k) (b.set i X):=by
 subst hn;have p:(b.set i X).length=b.length:=List.length_set;have q:∀ {a:Option Addr} {n cap:Nat} {l:zd},RunsIn w a n cap l->(0<n->∀ c d,a=zO c d->c≠g)->RunsIn (Nt w g (i*7) X) a n cap l:=fun h hn=>h.of_away fun r c d e=>Wj w g (i*7) X c (hn r c d e);have s:∀ j,bk (b.set i X) j=if j=i then X else bk b j:=fun j=>by
  unfold bk;rw [List.getD_eq_getElem?_getD,List.getD_eq_getElem?_getD,List.getElem?_set];by_cases e:i=j
  ·subst e;simp [t]
  rw [if_neg e,if_neg (Ne.symm e)]
 refine ⟨?_,fun j f=>?_,fun j f=>?_,fun j f=>?_,fun j f=>?_⟩
 ·rw [p,<-TN b i X t];exact (((((((h.row.stored (i*7) _).1.stored (i*7+1) _).1.stored (i*7+2) _).1.stored (i*7+3) _).1.stored (i*7+4) _).1.stored (i*7+5) _).1.stored (i*7+6) _).1
 ·rw [p] at f;rw [s];by_cases e:j=i
  ·rw [if_pos e];exact q x r
  rw [if_neg e];exact q (h.rqs j f) (fun o c d m=>xc.1 (h.farP j f o c d m) |>.symm)
 ·rw [p] at f;rw [s];by_cases e:j=i
  ·rw [if_pos e];exact q v u
  rw [if_neg e];exact q (h.bites j f) (fun o c d m=>xc.1 (h.farB j f o c d m) |>.symm)
 ·rw [p] at f;rw [s];by_cases e:j=i
  ·rw [if_pos e];exact fun o c d m=>xc.2 (r o c d m).symm
  rw [if_neg e];exact h.farP j f
 ·rw [p] at f;rw [s];by_cases e:j=i
  ·rw [if_pos e];exact fun o c d m=>xc.2 (u o c d m).symm
  rw [if_neg e];exact h.farB j f
end Go.Proofs.YtckpdfkobdgjeaaGreatDoor
