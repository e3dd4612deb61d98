/- Several texts in one: LogP, LogQ, RefA, RefB, RefF, RefG. -/
import Derived.BigRegion
import Derived.BigQuiet
import Derived.Test.YtckpdfkobdgjeaaGreatDoorHAll21
import Derived.Test.YtckpdfkobdgjeaaGreatDoorHAll3
import Derived.Test.YtckpdfkobdgjeaaGreatDoorHTreeAll
namespace Go.Proofs.YtckpdfkobdgjeaaGreatDoor
set_option maxRecDepth 100000
set_option maxHeartbeats 8000000
open Go.RowKit
def GS (x:Ac):Prop:=∀ (w:World) (c n:Int) (ta:Option Addr) (tn tc:Nat) (l:QL) (ba:Option Addr) (bn bc:Nat) (b:BL),zY w ta tn tc l ba bn bc b->wl w x->x.cn<=1048576 ->
 zC 21 #[.agg (zS c n ta tn tc ba bn bc),.agg #[zI x.kind,zI x.n,zI x.rq.queue,zI x.rq.fr,zI x.rq.un,zI x.rq.kind,.slice x.rq.pa x.rq.pn x.rq.pc,.slice x.ca x.cn x.cc]] w fun e w'=>∃ c' n' ta' tn' tc' ba' bn' bc',e=.returned (.tuple #[.agg (zS c' n' ta' tn' tc' ba' bn' bc'),zI (ZO ⟨c,n,l,b⟩ x)])/\X9 w' w.heap.size (ZO ⟨c,n,l,b⟩ x) (YR ⟨c,n,zi l,zg b⟩ x.bare) c' n' ta' tn' tc' ba' bn' bc'/\Below w.heap.size w w'
theorem SQ (w:World) (a:Option Addr) (n cap:Nat) (l:QL) (h:QsIn w a n cap l) (t:ByteArray) (v:Value) (a0:Zx w v)
 (cu:∀ X:Ac,X.bare∈(yN t 60 0).1->GS X) :
 zC 15 #[.slice a n cap,.string t] w fun e w'=>J7 w w' e l t:=by
 obtain ⟨S,al⟩:=qA (w.heap.size);obtain ⟨I,R⟩:=qB (w.alloc (.cells zZ 40));have ad:zL w I:=by rw [R];exact zr _ _
 have aX:zj I S (zI 0) (zI 0) zN zN:=by rw [R,<-al];exact zj.new w _ _ _ _
 have aZ:I.heap.size=S+1:=by rw [R,<-al];simp
 have a1:Zx I v:=Zx.below a0 al (by rw [<-al];exact ad);have aE:=zh al;have bg:=zh ad;have bo:=zh aX;have b7:=zh aZ;have b9:=zh a1;by_cases C:z9 l=0
 case neg =>
  have r:VK l t=z9 l:=by unfold VK;rw [if_neg C]
  have J:US l t=0:=by unfold US;rw [r,if_neg C]
  have ar:=zh (OB I a n cap l (h.later ad) C);have s:=zh (And.intro r (And.intro J C));obtain ⟨A,aQ⟩:=qA (z9 l);have b0:=zh aQ;rw [aQ] at ar C;have cT:(A != 0)=true:=by simpa using C
  have aF:=zh R;clear h a0 R ad aX aZ a1 r J aQ;go_enter Tryz.func15,Tryz.ntmps15;go_wp2_with fail
  rw [<-aF.o];refine ar.o.mono ?_;rintro e V ⟨rfl,u⟩;obtain ⟨au,aS⟩:=qB (V.alloc (.cells zZ 40));have aG:zL V au:=by rw [aS];exact zr _ _
  have aD:=zh (za (za bg.o u) aG);have M:=zh ((bo.o.later u).later aG);obtain ⟨bQ,bR,bS,bT⟩:=M.o.cells;have bU:∀ k,au.frozen? (zA S k)=false:=fun k=>frozen_of_row au S k _ _ M.o;clear u;go_upto_region 2 with fail
  rw [<-aS];clear aS aG;go_wp2_with fail
  have af:=zk au S 40 _ _ _ _ (zI 0) (zI 0) zN zN M.o;have f:w.heap.size<=S:=by omega
  refine bodyPost_ret (v:=.tuple #[.agg zZ,zI 0,zI A]) (zq Tryz.results15 _ _ S 40 zZ (0,0) _ rfl af.1 Tryz.underlying40 rfl (by kernel_rfl)) rfl ⟨0,0,none,0,0,none,0,0,?_,Or.inl ⟨?_,rfl,rfl,rfl,rfl,rfl,rfl,rfl,rfl⟩,?_⟩
  ·rw [s.o.1,s.o.2.1,b0.o]
  ·rw [s.o.1];exact s.o.2.2
  exact ((((aD.o.setCell (p:=(zA S 0)) f _).setCell (p:=(zA S 1)) f _).setCell (p:=(zA S 2)) f _).setCell (p:=(zA S 3)) f _)
 have ar:=zh (L9 I a n cap l (h.later ad) C);have bi:=zh C;have aF:=zh R;clear h a0 R ad aX aZ a1 C;go_enter Tryz.func15,Tryz.ntmps15;go_wp2_with fail
 rw [<-aF.o];refine ar.o.mono ?_;rintro e V ⟨g,k,aA,rfl,Q,cz,bx,u,bD⟩;have cD:=b7.o;have cB:=u.size;obtain ⟨B,aO⟩:=qA (V.heap.size);obtain ⟨W,Z⟩:=qB (V.alloc (.cells (zS 0 0 (some ⟨g,0,none⟩) n k none 0 0) 40));have ah:zL V W:=by rw [Z];exact zr _ _
 have aP:zj W B (zI 0) (zI 0) (.slice (zO g 0) n k) zN:=by rw [Z,<-aO];exact zj.new V _ _ _ _
 have bH:W.heap.size=B+1:=by rw [Z,<-aO];simp
 have bm:=zh ((bo.o.later u).later ah);have bh:=zh (za (za bg.o u) ah);have cb:=zh (show Zx W v from Zx.below b9.o rfl (za u ah));have bG:zY W (zO g 0) n k aA none 0 0 []:=⟨(y6 Q).later ah,Wl _⟩;have bz:BlkSt (fun j=>S<j/\j≠B) (zO g 0) n aA none 0 []:=by
  refine ⟨fun ai aM bP e=>?_,fun i ae ai aM bP e=>?_,fun ai=>absurd ai (Nat.lt_irrefl _),fun i ae=>absurd ae (Nat.not_lt_zero _),fun i ae=>absurd ae (Nat.not_lt_zero _)⟩
  ·have aK:g=aM:=(by injection e with e;injection e with aK);have aj:=Q.row.lt g rfl;omega
  have aj:=(y6 Q).caps i ae;have aN:=aj.lt ai e;have bs:=bD i ae ai aM bP e;omega
 have b3:=zh (And.intro aP (And.intro bG (And.intro bz bx)));have cd:=zh (SR W t v cb.o);have b8:=zh bH;have cM:=zh aO;have cw:S<B:=by omega
 obtain ⟨ce,cf,cg,ch⟩:=aP.cells;have cP:=zh Z;clear Q cz bx u bD ah aP bG bz bH cB cD;go_upto_region 2 with fail
 rw [<-Z];clear Z ce cf cg ch;go_wp2_with fail
 refine cd.o.mono ?_;rintro e aC ⟨L,⟨f,rfl⟩ | ⟨f,cF,d,m,rfl,aW,aT,aV,cs,bC⟩⟩
 ·have r:VK l t=2:=by unfold VK;rw [if_pos bi.o,if_pos f]
  have J:US l t=0:=by unfold US;rw [r];rfl
  have s:=zh (And.intro r J);have aD:=zh (za bh.o L);have M:=zh (bm.o.later L);obtain ⟨bQ,bR,bS,bT⟩:=M.o.cells;have bU:∀ k,aC.frozen? (zA S k)=false:=fun k=>frozen_of_row aC S k _ _ M.o;clear L f r J;go_wp2_with fail
  have af:=zk aC S 40 _ _ _ _ (zI 0) (zI 0) zN zN M.o;have f:w.heap.size<=S:=by omega
  refine bodyPost_ret (v:=.tuple #[.agg zZ,zI 0,zI 2]) (zq Tryz.results15 _ _ S 40 zZ (0,0) _ rfl af.1 Tryz.underlying40 rfl (by kernel_rfl)) rfl ⟨0,0,none,0,0,none,0,0,?_,Or.inl ⟨?_,rfl,rfl,rfl,rfl,rfl,rfl,rfl,rfl⟩,?_⟩
  ·rw [s.o.1,s.o.2]
  ·rw [s.o.1];decide
  exact ((((aD.o.setCell (p:=(zA S 0)) f _).setCell (p:=(zA S 1)) f _).setCell (p:=(zA S 2)) f _).setCell (p:=(zA S 3)) f _)
 have cE:=b8.o;have az:yN t 60 0=(d.map Ac.bare,m):=aV.is cs bC;have r:VK l t=0:=by unfold VK;rw [if_pos bi.o,if_neg (by omega)]
 have J:US l t=d.length:=by unfold US;rw [r,if_pos rfl,az];simp
 have aR:UT l t=Yd ⟨0,0,zi l,[]⟩ (d.map Ac.bare):=by unfold UT;rw [az]
 obtain ⟨z,hs0⟩:∃ z:St,z=⟨0,0,zi l,[]⟩:=⟨_,rfl⟩;rw [<-hs0] at aR;obtain ⟨bK,bL,bM,bN⟩:=b3.o;have bu:RecInv w aC S B (Yd z ((d.take 0).map Ac.bare)) cF d 0 0 (zO g 0) n k aA none 0 0 [] :=
  ⟨bK.later L,bm.o.later L,bL.later L,bM,by rw [hs0];exact ⟨rfl,rfl,bN,rfl⟩,Vi aW (by omega),fun x bI=>⟨(aT x bI).1,wX.mono (aT x bI).2 (by omega)⟩,by rw [<-aE.o];exact za bh.o L,cw⟩
 have b2:=zh bu;obtain ⟨cG,cH,rfl⟩:=Xr aW;have b1:=zh (aV.few);have bZ:=zh (show ∀ X∈d,GS X from fun X ab=>cu X (by rw [az];exact List.mem_map_of_mem ab));have s:=zh (And.intro r (And.intro J aR));clear L f aW aT aV bC az r J aR hs0 bK bL bM bN bu cE;go_wp2_with fail
 go_loopg [36] d.length (fun cp (p:Value) wr=>∃ (j:Nat) (c y:Int) (F:Option Addr) (H G:Nat) (U:QL) (ba:Option Addr) (bn bc:Nat) (O:BL),p=zI j/\j<=d.length/\cp=d.length-j/\RecInv w wr S B (Yd z ((d.take j).map Ac.bare)) (.slice cG d.length cH) d c y F H G U ba bn bc O)
 case atStart=>exact ⟨0,0,0,zO g 0,n,k,aA,none,0,0,[],rfl,Nat.zero_le _,by simp,b2.o⟩
 case round =>
  obtain ⟨j,c,y,F,H,G,U,ba,bn,bc,O,rfl,cR,rfl,bt⟩:=hrel;have q:=zh bt;clear bt;by_cases cA:j<d.length
  ·have cS:(j:Int)<d.length:=(by omega);obtain ⟨X,ab⟩:∃ X,d[j]?=some X:=⟨d[j],List.getElem?_eq_getElem cA⟩;have an:X∈d:=List.mem_of_getElem? ab;obtain ⟨cQ,rfl,cV,cW,D⟩:=OW q.o.row ab;have br:=D 0 _ rfl;have aK:=D 1 _ rfl;have ci:=D 2 _ rfl;have cj:=D 3 _ rfl;have ck:=D 4 _ rfl;have cl:=D 5 _ rfl;have cm:=D 6 _ rfl;have co:=D 7 _ rfl;simp only [Nat.add_zero] at br;obtain ⟨P,bv⟩:=qA (wr.heap.size);obtain ⟨av,am⟩:=qB (wr.alloc (.cells #[zI X.kind,zI X.n,zI X.rq.queue,zI X.rq.fr,zI X.rq.un,zI X.rq.kind,.slice X.rq.pa X.rq.pn X.rq.pc,.slice X.ca X.cn X.cc] 27));have bp:zL wr av:=(by rw [am];exact zr _ _);have bJ:wj av P (zI X.kind) (zI X.n) (zI X.rq.queue) (zI X.rq.fr) (zI X.rq.un) (zI X.rq.kind) (.slice X.rq.pa X.rq.pn X.rq.pc) (.slice X.ca X.cn X.cc):=(by rw [am,<-bv];exact heap_alloc_new wr _);have ag:=zh (q.o.later bp);have bw:X.cn<=1048576:=by
    have aj:=(q.o.each X an).1.2.len;have aN:=(b1.o X an).2;omega
   have ak:=bZ.o X an av c y F H G U ba bn bc O ag.o.st (ag.o.each X an).1 bw;have cU:B<P:=(by have:=q.o.size;omega);have bE:av.heap.size=P+1:=(by rw [am,<-bv];simp);obtain ⟨a9,bb,bd,be⟩:=ag.o.box.cells;obtain ⟨bV,bW,bX,bY,cI,cJ,cK,cL⟩:=bJ.cells;have bA:ZO ⟨c,y,U,O⟩ X=ZO (Yd z ((d.take j).map Ac.bare)) X.bare:=by
    obtain ⟨a2,a3,a4,a5⟩:=q.o.says;rw [<-Nc,a2,a3,a4,a5]
   have bB:YR ⟨c,y,zi U,zg O⟩ X.bare=YR (Yd z ((d.take j).map Ac.bare)) X.bare:=by
    obtain ⟨a2,a3,a4,a5⟩:=q.o.says;rw [a2,a3,a4,a5]
   rw [bA,bB] at ak;have aU:Yd z ((d.take (j+1)).map Ac.bare)=VN (Yd z ((d.take j).map Ac.bare)) X.bare:=by
    rw [List.take_add_one,ab,List.map_append];exact Pt _ _ _
   obtain ⟨E,bF⟩:=qA (Yd z ((d.take j).map Ac.bare));obtain ⟨A,r⟩:=qA (ZO E X.bare);rw [bF] at ak aU ag;rw [r] at ak;have b4:=zh ak;have bl:=zh aU;have bj:=zh r;have b6:=zh bE;clear bA bB ak aU bF r bp bJ D ab an bw bE;go_upto_region 10 with fail
   rw [<-am];clear am br aK ci cj ck cl cm co;go_wp2_with fail
   refine b4.o.mono ?_;rintro e w6 ⟨ay,aB,a6,a8,a7,aH,aJ,aI,rfl,Q,u⟩;have aY:=u.size;obtain ⟨aw,aa⟩:=qB (w6.alloc (.cells (zS ay aB a6 a8 a7 aH aJ aI) 40));have ax:zL w6 aw:=(by rw [aa];exact zr _ _);have bf:zj aw w6.heap.size (zI ay) (zI aB) (.slice a6 a8 a7) (.slice aH aJ aI):=(by rw [aa];exact zj.new w6 _ _ _ _);have aq:=zh ((ag.o.later u).later ax);have b5:=zh (Q.later ax);clear a9 bb bd be bV bW bX bY cI cJ cK cL Q u;obtain ⟨a9,bb,bd,be⟩:=aq.o.box.cells;have cX:∀ k,aw.frozen? (zA B k)=false:=fun k=>frozen_of_row aw B k _ _ aq.o.box;obtain ⟨bV,bW,bX,bY⟩:=bf.cells;have cO:=zh aY;by_cases Y:A=0
   ·have cv:(A==0)=true:=(by simpa using Y);have ap:=zh Y;clear Y;go_upto_region 11 with fail
    rw [<-aa];clear aa ax bf aY;go_wp2_with fail
    go_roundg (d.length-(j+1))
    case rel =>
     rcases b5.o with ⟨aj,_⟩ | ⟨_,bO,bq,aN,bs,f,cq,cr,ct⟩
     ·exact absurd ap.o aj
     refine ⟨j+1,ay,aB,a6,a8,a7,bO,aH,aJ,aI,bq,by go_num,by omega,rfl,?_⟩;have cC:ay=(YR E X.bare).c/\aB=(YR E X.bare).n/\zi bO=(YR E X.bare).l/\zg bq=(YR E X.bare).b:=⟨bs,f,cq,cr⟩;have aL:Yd z ((d.take (j+1)).map Ac.bare)=YR E X.bare:=by
      rw [bl.o];unfold VN;rw [if_pos (by rw [bj.o];exact ap.o)]
     rw [aL];exact aq.o.store aN (ct.mono (by have:=b6.o;omega)) cC
    case measure=>omega
   have cv:(A==0)=false:=(by simpa using Y);have ap:=zh Y;clear Y;go_upto_region 11 with fail
   rw [<-aa];clear aa ax bf aY;go_wp2_with fail
   go_roundg (d.length-(j+1))
   case rel =>
    refine ⟨j+1,c,y,F,H,G,U,ba,bn,bc,O,by go_num,by omega,rfl,?_⟩;have aL:Yd z ((d.take (j+1)).map Ac.bare)=E:=by
     rw [bl.o];unfold VN;rw [if_neg (by rw [bj.o];exact ap.o)]
    rw [aL];exact aq.o
   case measure=>omega
  obtain rfl:j=d.length:=by omega
  obtain ⟨a9,bb,bd,be⟩:=q.o.box.cells;obtain ⟨bQ,bR,bS,bT⟩:=q.o.res.cells;have bU:∀ k,wr.frozen? (zA S k)=false:=fun k=>frozen_of_row wr S k _ _ q.o.res;go_wp2;have af:=zk wr S 40 _ _ _ _ (zI c) (zI y) (.slice F H G) (.slice ba bn bc) q.o.res;have f:S<=S:=Nat.le_refl _;have cx:=((((q.o.below.setCell (p:=(zA S 0)) f (zI c)).setCell (p:=(zA S 1)) f (zI y)).setCell (p:=(zA S 2)) f (.slice F H G)).setCell (p:=(zA S 3)) f (.slice ba bn bc));refine bodyPost_ret (v:=.tuple #[.agg (zS c y F H G ba bn bc),zI d.length,zI 0]) (zq Tryz.results15 _ _ S 40 (zS c y F H G ba bn bc) (0,0) _ rfl af.1 Tryz.underlying40 rfl (by kernel_rfl)) rfl ⟨c,y,F,H,G,ba,bn,bc,?_,Or.inr ⟨s.o.1,U,O,?_,?_⟩,?_⟩
  ·rw [s.o.1,s.o.2.1]
  ·exact q.o.st.stand q.o.blk (fun k cy=>af.2 k (by omega))
  ·rw [s.o.2.2];have ao:=q.o.says;rw [List.take_length] at ao;exact ⟨ao.1,ao.2.1,ao.2.2.1,ao.2.2.2,q.o.blk.new (fun k cy=>by rw [aE.o];omega)⟩
  rw [aE.o];exact cx
theorem Tz (w:World) (a:Option Addr) (n cap:Nat) (l:QL) (h:QsIn w a n cap l) (t:ByteArray) (v:Value) (d:Zx w v) :
 zC 15 #[.slice a n cap,.string t] w fun e w'=>J7 w w' e l t :=
 SQ w a n cap l h t v d fun X _ w c n g j i l ba bn bc b h f hn=>GT w c n g j i l ba bn bc b h X f hn
theorem Yt (w:World):RunsIn w none 0 0 []:=⟨rfl,Nat.le_refl _,by omega,by omega,fun h=>absurd h (Nat.lt_irrefl _)⟩
def G6 (g:Nat):Ac:=⟨1,0,IY g 3 4,none,0,0,[]⟩
def OY (k n:Int):Ac:=⟨k,n,⟨0,0,0,0,none,0,0,[]⟩,none,0,0,[]⟩
def sA:ByteArray:=⟨#[1,0,3,2,30,4,2,4,3,5,6,0]⟩
def sB:ByteArray:=⟨#[3,3,0,0,0,0,0,0]⟩
def sC:ByteArray:=⟨#[1]⟩
theorem G7 (g:Nat):Sc (G6 g)=0:=by kernel_rfl
theorem G8 (g:Nat):Ud (G6 g)=sA:=by kernel_rfl
theorem G9:Sc (OY 3 3)=0:=by kernel_rfl
theorem Fa:Ud (OY 3 3)=sB:=by kernel_rfl
theorem Fb:Sc (OY 0 256)=3:=by kernel_rfl
theorem Fc:Ud (OY 0 256)=ByteArray.empty:=by kernel_rfl
theorem FM:(yN (sA++sB++sC) 60 0).1.length=2:=by kernel_rfl
theorem FL:(yN (sA++sB++sC) 60 0).2=20:=by kernel_rfl
theorem FN:(sA++sB++sC).size=21:=by kernel_rfl
theorem GM (c:Nat):VK (fL c 0 6) (sA++sB)=0:=by kernel_rfl
theorem FI (c:Nat):US (fL c 0 6) (sA++sB)=2:=by kernel_rfl
theorem FK (c:Nat):(UT (fL c 0 6) (sA++sB)).c=3:=by kernel_rfl
theorem FJ (c:Nat):(UT (fL c 0 6) (sA++sB)).b.length=1:=by kernel_rfl
theorem Fs (X:Ac) (m:X.bare∈(yN (sA++sB) 60 0).1):GS X:=by
 have j:(yN (sA++sB) 60 0).1.all (fun y=>y.kind==1||y.kind==3)=true:=by kernel_rfl
 have k:=List.all_eq_true.1 j X.bare m;intro w c n f i g l ba bn bc b h d hn;by_cases e:X.kind=1
 ·exact GJ w c n f i g l ba bn bc b h X d hn e
 have o:X.kind=3:=by
  have a:(X.kind==1||X.kind==3)=true:=k;simp only [Bool.or_eq_true,beq_iff_eq] at a;exact a.resolve_left e
 exact GK w c n f i g l ba bn bc b h X d hn o
theorem Zx.laters {w w':World} {v:Value} (h:Zx w v) (a:Below w.heap.size w w'):Zx w' v:=h.below rfl a
theorem UD (w:World) (v:Value) (U:Zx w v):zC 13 #[] w fun e w'=>e=.returned (.bool true)/\Below w.heap.size w w':=by
 have B:=zh U;clear U;obtain ⟨d,u⟩:=qB (sA);obtain ⟨f,x⟩:=qB (sB);have zA:d.size=12:=by rw [u];rfl
 have zB:f.size=8:=by rw [x];rfl
 have b:=zh u;have c:=zh x;clear u x;go_enter Tryz.func13,Tryz.ntmps13;go_wp2_with fail
 refine (NO w 4).mono ?_;rintro e aQ ⟨rfl,P,a⟩;have ab:=zh a;have j:=Vy aQ (G6 (w.heap.size+1)) ⟨P,Yt _⟩;rw [G7,G8,<-b.o] at j;have al:=zh j;clear P a j;go_wp2_with fail
 refine al.o.mono ?_;rintro e aR ⟨rfl,a⟩;have af:=zh (za ab.o a);have k:=Vy aR (OY 3 3) ⟨Yt _,Yt _⟩;rw [G9,Fa,<-c.o] at k;have am:=zh k;clear a k;go_wp2_with fail
 refine am.o.mono ?_;rintro e aS ⟨rfl,a⟩;have z:=zh (za af.o a);have an:=zh (SR aS (d++f++sC) v (B.o.laters z.o));clear a;go_wp2_with fail
 refine an.o.mono ?_;rintro e aT ⟨a,⟨t,rfl⟩ | ⟨t,a3,C,m,rfl,R,aK,Q,H,M⟩⟩
 ·exfalso;rw [b.o,c.o,FN] at t;omega
 have ag:=zh (za z.o a);have h:yN (d++f++sC) 60 0=(C.map Ac.bare,m):=Q.is H M;rw [b.o,c.o] at h;have O:m=20:=by have:=FL;rw [h] at this;exact this
 have N:C.length=2:=by have:=FM;rw [h] at this;simpa using this
 obtain ⟨a4,a5,rfl⟩:=Xr R;rw [N,O];clear a t R aK Q H M h O N;go_wp2_with fail
 refine (Q7 aT).mono ?_;rintro e aU ⟨rfl,g,a⟩;have A:=zh (za ag.o a);have ao:=zh (SQ aU _ 4 4 _ g.qs (d++f) v (B.o.laters A.o) (by rw [b.o,c.o];exact Fs));clear g a;go_wp2_with fail
 refine ao.o.mono ?_;rintro e w6 ⟨aD,V,W,Y,X,E,aB,F,rfl,I,a⟩;rw [b.o,c.o,GM,FI];rw [b.o,c.o,GM] at I;have ah:=zh (za A.o a);rcases I with ⟨aG,_⟩ | ⟨_,aY,aX,S,L,hn,aL,J,_⟩
 ·exact absurd rfl aG
 have aJ:aD=3:=L.trans (FK _);have aI:aB=1:=by
  have G:=congrArg List.length J;rw [zF,FJ] at G;rw [S.2.len,G]
 subst aJ;subst aI;obtain ⟨p,aH⟩:=qA (w6.heap.size);obtain ⟨r,i⟩:=qB (w6.alloc (.cells (zS 3 V W Y X E 1 F) 40));have D:zL w6 r:=by rw [i];exact zr _ _
 have aa:zj r p (zI 3) (zI V) (.slice W Y X) (.slice E 1 F):=by rw [i,<-aH];exact zj.new w6 _ _ _ _
 have ai:=zh (za ah.o D);have av:=zh aa;have l:=Vy r (OY 0 256) ⟨Yt _,Yt _⟩;rw [Fb,Fc] at l;have ap:=zh l;clear S L hn aL J a D aa l;go_upto_region 5 with fail
 rw [<-i];clear i;go_wp2_with fail
 refine ap.o.mono ?_;rintro e aV ⟨rfl,a⟩;have aj:=zh (za ai.o a);have aw:=zh (av.o.later a);clear a;go_wp2_with fail
 refine (Ix aV).mono ?_;rintro e aW ⟨c1,aE,aF,rfl,g,a,_⟩;have ak:=zh (za aj.o a);have ax:=zh (aw.o.later a);have n:=GI aW 5 6 _ 4 4 _ _ 2 2 _ g.st (OY 0 0) ⟨Yt _,Yt _⟩ (by show 0<=_;omega) (show ¬((0:Int)=1) by decide) (show ¬((0:Int)=2) by decide) (show ¬((0:Int)=3) by decide) (show ¬((0:Int)=4) by decide);rw [show ZO ⟨5,6,FZ c1 10,FY aE aF⟩ (OY 0 0)=7 by kernel_rfl] at n;have aq:=zh n;clear g a n;go_wp2_with fail
 refine aq.o.mono ?_;rintro e Z ⟨c2,aM,aN,aP,aO,az,aC,aA,rfl,_,a⟩;have ad:=zh (za ak.o a);have ar:=zh (ax.o.later a);obtain ⟨ay,y⟩:=qB (Z.alloc (.cells (zS c2 aM aN aP aO az aC aA) 40));have s:zL Z ay:=by rw [y];exact zr _ _
 have ae:=zh (za ad.o s);have au:=zh (ar.o.later s);obtain ⟨aZ,a0,a1,a2⟩:=au.o.cells;clear a s;go_upto_region 7 with fail
 rw [<-y];clear y;go_wp2;go_ret;exact ⟨rfl,ae.o⟩
theorem VX {X:Bk} (b:meets X.rq X.bs=true) (a:Nat):∀ {k:Nat},k<=X.bs.length->0<=yo X a k/\yo X a k<=50*k
 | 0,_=>by simp [yo]
 | k+1,h=>by
  have e:=VX b a (k:=k) (by omega);obtain ⟨_,_,_,_,_,_,c,d⟩:=YC b (k:=k) (by omega);rw [yo];unfold VM
  split <;> omega
theorem LE (w:World) (X:Bk) (m:zH w X.rq) (d:RunsIn w X.ba X.bn X.bc X.bs) (ag:meets X.rq X.bs=true) (aU:X.bs.length<=3) (t:Nat) (a3:t<=48) :
 zC 151 #[.agg #[zI X.id,zI X.rq.queue,zI X.rq.fr,zI X.rq.un,zI X.rq.kind,.slice X.rq.pa X.rq.pn X.rq.pc,.slice X.ba X.bn X.bc],zI t] w fun e w'=>e=.returned (zI (yo X t X.bs.length))/\Below w.heap.size w w':=by
 obtain ⟨S,az⟩:=qA (w.heap.size);obtain ⟨C,u⟩:=qB (w.alloc (.cells (zB X) 60));have b1:zL w C:=by rw [u];exact zr _ _
 have ai:ww C S X:=by rw [u,<-az];exact heap_alloc_new w _
 have am:=zh m;have aj:=zh d;have P:=zh ag;have an:=zh ai;have N:=zh b1;have O:=zh d.len;have aX:=d.le;have aW:=d.capb;have aV:X.bn<=3:=by have:=d.len;omega
 have Q:=zh (show X.rq.pn=X.rq.ps.length from RunsIn.len m);have a2:=RunsIn.le m;have a1:=RunsIn.capb m;clear b1 ai m d ag;go_enter Tryz.func151,Tryz.ntmps151;go_upto_region 1 with fail
 rw [<-u];clear u;go_wp2_with fail
 go_loopg [5,6] X.bn (fun ax (v p:Value) wr=>∃ (k:Nat),v=zI (yo X t k)/\p=zI k/\k<=X.bn/\ax=X.bn-k/\zL C wr)
 case atStart=>exact ⟨0,rfl,rfl,Nat.zero_le _,by simp,Below.refl _ _⟩
 case round =>
  obtain ⟨k,rfl,rfl,aZ,rfl,l⟩:=hrel;have al:=zh l;have I:ww wr S X:=an.o.later l;by_cases aF:k<X.bn
  ·have a0:(k:Int)<X.bn:=(by omega);have aE:k<X.bs.length:=(by have:=O.o;omega);obtain ⟨aS,aT,ap,aq,ar,au,av,aw⟩:=YC P.o aE;have aA:=VX P.o t (k:=k) (by omega);have H:=za N.o l;obtain ⟨aM,aN,ad,ae⟩:=(aj.o.later H).cells (by omega);obtain ⟨a4,a5,ah,af⟩:=RunsIn.cells (RunsIn.later am.o H) (by have:=Q.o;omega);obtain ⟨j,y⟩:∃ j:Nat,zp X.bs k=(j:Int):=⟨(zp X.bs k).toNat,by omega⟩;have aD:j<X.rq.pn:=(by have:=Q.o;omega);have aY:(j:Int)<X.rq.pn:=(by omega);obtain ⟨a,h⟩:=qA (rN X.bs k);obtain ⟨L,i⟩:=qA (lenOf X.rq X.bs k);obtain ⟨M,r⟩:=qA (IL X.rq X.bs k);obtain ⟨D,E⟩:=ae k aF;obtain ⟨F,G⟩:=af j aD;rw [y] at D;rw [h] at E;have Y:zp X.rq.ps j=L:=(by rw [<-i];unfold lenOf;rw [y];rfl);have Z:rN X.rq.ps j=M:=(by rw [<-r];unfold IL;rw [y];rfl);rw [Y] at F;rw [Z] at G;rw [h,i] at aq;rw [h] at ap;rw [i] at ar au;rw [r] at av aw;obtain ⟨R,b1,U,V,W,n,g⟩:=I.cells;rw [ad] at g;rw [ah] at n;obtain ⟨B,s⟩:=qA (yo X t k);rw [s] at aA ⊢;have aL:=zh s;have A:=zh (show yo X t (k+1)=B+if a<=(t:Int)/\(t:Int)<a+L then M else 0 from by rw [yo,s];unfold VM;rw [h,i,r]);obtain ⟨c,ay⟩:=qA (wr.heap.size);have f:zL wr (wr.alloc (.cells #[zI 0,zI 0] 64)):=zr _ _;have aJ:=cell_later f n;have aK:=cell_later f g;have aG:=cell_later f D;have aH:=cell_later f F;have aI:=cell_later f G;clear ae af y h i r Y Z ad ah s l I H f;go_upto_region 5 with fail
   go_region
   apply_assumption;go_upto_region 6 with fail
   obtain ⟨b,x⟩:=qB ((wr.alloc (.cells #[zI L,zI M] 64)).drew);have q:zL wr b:=(by rw [x];exact (zr _ _).drew);have J:b.heap[c]?=some (.cells #[zI L,zI M] 64 (0,0)):=(by rw [x,<-ay];exact heap_alloc_new wr _);have aO:b.cell? (zA c 0)=some (zI L):=(by rw [cell_of_row b c 0 _ _ _ J];rfl);have aP:b.cell? (zA c 1)=some (zI M):=(by rw [cell_of_row b c 1 _ _ _ J];rfl);have aQ:=cell_later q g;have aR:=cell_later q E;have z:=zh (za al.o q);rw [<-x];clear x q J aJ aK aG aH aI R b1 U V W n g D E F G;by_cases aa:a<=(t:Int)
   ·have aB:decide (a<=(t:Int))=true:=(by simpa using aa);by_cases ab:(t:Int)<a+L
    ·have aC:decide ((t:Int)<a+L)=true:=(by simpa using ab);go_quiet (fail)
     go_wp2;go_roundg (X.bn-(k+1))
     case measure=>omega
     refine ⟨k+1,?_,by go_num,by omega,rfl,_root_.Go.below_drewN z.o _⟩;rw [A.o,if_pos (show a<=(t:Int)/\(t:Int)<a+L by omega)]
    have aC:decide ((t:Int)<a+L)=false:=(by simpa using ab);go_quiet (fail)
    go_wp2;go_roundg (X.bn-(k+1))
    case measure=>omega
    refine ⟨k+1,?_,by go_num,by omega,rfl,_root_.Go.below_drewN z.o _⟩;rw [A.o,if_neg (show ¬(a<=(t:Int)/\(t:Int)<a+L) by omega),Int.add_zero]
   have aB:decide (a<=(t:Int))=false:=(by simpa using aa);go_quiet (fail)
   go_wp2;go_roundg (X.bn-(k+1))
   case measure=>omega
   refine ⟨k+1,?_,by go_num,by omega,rfl,_root_.Go.below_drewN z.o _⟩;rw [A.o,if_neg (show ¬(a<=(t:Int)/\(t:Int)<a+L) by omega),Int.add_zero]
  obtain rfl:X.bn=k:=by omega
  obtain ⟨R,b1,U,V,W,n,g⟩:=I.cells;have ak:=zh (za N.o l);go_wp2;go_ret;exact ⟨by rw [<-O.o];rfl,ak.o⟩
theorem SK (w:World) (a:Option Addr) (n cap:Nat) (l:QL) (q:Int) (h:QsIn w a n cap l) (f:Right l) (R:q<n) :
 zC 157 #[.slice a n cap,zI q] w fun e w'=>∃ v,e=.returned v/\zG w' w.heap.size v (zK l q)/\Below w.heap.size w w':=by
 have d:=zh h.len;have ad:=h.capb;have ae:=h.le;have y:=zh f;have N:0<n:=by have:=f.pos;have:=d.o;omega
 have aa:n<=5:=by have:=f.five;have:=d.o;omega
 clear f;obtain ⟨b,X,rfl,B⟩:=h.cells N;have x:=zh B;clear B;obtain ⟨W,L,S,U,V⟩:=info_parts Tryz.info3;go_enter Tryz.func157,Tryz.ntmps157;go_wp2;go_loopw [1,5] (fun u v wr=>∃ (p:Int) (c:List Int),u=zI p/\p<n/\c++zK l p=zK l q/\zG wr w.heap.size v c/\zL w wr) (fun u _ _=>(intOf u+1).toNat)
 case atStart=>exact ⟨q,[],rfl,R,by simp,World.ownsRow_nil _ _ _ _,Below.refl _ _⟩
 case round =>
  obtain ⟨p,c,rfl,ag,C,E,t⟩:=hrel;have k:=zh C;have r:=zh E;have j:=zh t;have J:w.heap.size<=wr.heap.size:=t.size;clear C E t;by_cases O:0<=p
  ·obtain ⟨P,rfl⟩:=Int.eq_ofNat_of_zero_le O;have A:P<n:=(by omega);have ab:(P:Int)<n:=(by omega);have Q:=y.o.par P (by have:=d.o;omega);have i:=zh (Y8 y.o (q:=(P:Int)) (by omega) (by have:=d.o;omega));rw [Int.toNat_natCast] at i;have af:c.length+1<=5:=by
    have z:=WY l q;rw [<-k.o,i.o] at z;simp at z;omega
   obtain ⟨m,g⟩:=qA ((qu l P).parent);rw [g] at Q i;have c1:=cell_later j.o (x.o P A).2.1;rw [g] at c1;have I:=zh g;clear g;have G:True:=trivial;go_wp2_with (at_builtin;have _t:=G;refine wpList_append_own _ rfl _ _ 47 rfl w.heap.size 3 W (zI 0) 1 8 Tryz.underlying47 L S U V rfl (by decide) _ _ _ rfl (r.o.alloc _) (zA wr.heap.size 0) 1 1 [zI P] rfl rfl ?c1 ?c2 ?c3 ?c4 ?c5 ?_;clear G)
   case c1=>exact Gt _ _ _
   case c2=>exact Gu _
   case c3=>simp only [maxLen];omega
   case c4=>omega
   case c5=>simp;omega
   intro ah Y F D _;have s:=zh (Jc j.o J r.o F D);clear F D;have Z:Y.cell? (zA b (X+P*3+1))=some (zI m):=(cell_later s.o.2.1 (x.o P A).2.1).trans (by rw [I.o]);go_wp2;go_roundw
   case rel=>exact ⟨m,c++[(P:Int)],rfl,by omega,by rw [<-k.o,i.o];simp,s.o.1,s.o.2.1⟩
   case measure=>simp [intOf];omega
  have M:=WZ (l:=l) (q:=p) (by omega);have H:Zh (c=zK l q):=by have:=k.o;rw [M,List.append_nil] at this;exact this
  go_wp2;go_ret;exact ⟨_,rfl,by rw [<-H.o];exact r.o,j.o⟩
theorem TK (w:World) (a:Option Addr) (n cap:Nat) (l:QL) (k q:Int) (h:QsIn w a n cap l) (x:Right l) (J:k<n) :
 zC 150 #[.slice a n cap,zI k,zI q] w fun e w'=>e=.returned (.bool (yG l k q))/\Below w.heap.size w w':=by
 have I:=zh x;clear x;go_enter Tryz.func150,Tryz.ntmps150;go_wp2_with fail
 refine (SK w a n cap l k h I.o J).mono ?_;rintro e S ⟨v,rfl,G,y⟩;obtain ⟨M,N,rfl,p⟩:=G.parts;have s:=zh p;have r:=zh y;have B:=WY l k;have O:=p.capb;have C:=p.le;have f:Zh (yG l k q=WS (zK l k) q (zK l k).length):=rfl;obtain ⟨zs,d⟩:=qA (zK l k);rw [d] at s B C f ⊢;obtain ⟨m,E⟩:=qA (zs.length);rw [E] at s B C f ⊢;clear p y G d E;by_cases L:0<m
 ·obtain ⟨b,R,rfl,A⟩:=s.o.cells L;have H:=zh A;clear A;go_wp2_with fail
  go_loop [8] (fun i=>∃ j:Nat,i=zI j/\j<=m/\WS zs q j=false) (fun i=>m-(intOf i).toNat)
  case atStart=>exact ⟨0,rfl,by omega,rfl⟩
  obtain ⟨j,rfl,P,F⟩:=hrel;have t:=zh F;clear F;by_cases D:j<m
  ·have Q:(j:Int)<m:=(by omega);have c:=H.o j D;obtain ⟨z,d⟩:=qA (zs.getD j 0);rw [d] at c;have u:=zh d;clear d;cases g:(z==q) with
   | true =>
    go_wp2;go_ret;exact ⟨zm (by rw [f.o,Rm (k:=j) (by rw [u.o];exact g) m D]),r.o⟩
   | false =>
    go_wp2;go_round
    case rel=>exact ⟨j+1,by go_num,by omega,by rw [WS,t.o,u.o,g];rfl⟩
    case measure=>simp [intOf];omega
  obtain rfl:m=j:=by omega
  go_wp2;go_ret;exact ⟨zm (by rw [f.o,t.o]),r.o⟩
 ·obtain rfl:m=0:=by omega
  go_wp2_with fail
  go_loop [8] (fun i=>i=zI 0) (fun _=>0)
  case atStart=>rfl
  subst hrel;go_wp2;go_ret;exact ⟨zm (by rw [f.o];rfl),r.o⟩
theorem LD (w:World) (B:Option Addr) (j C:Nat) (l:QL) (ba:Option Addr) (bn bc:Nat) (b:BL) (h:zY w B j C l ba bn bc b) (g:Clean l b) (q t:Nat) (ah:t<=48) :
 zC 99 #[.slice B j C,.slice ba bn bc,zI q,zI t] w fun e w'=>e=.returned (zI (xh l b q t b.length))/\Below w.heap.size w w':=by
 have Z:=zh h;have I:=zh g;have H:=zh h.2.len;have Q:=h.1.len;have aa:=zh Q;have aA:=h.2.le;have az:=h.2.capb;have ay:bn<=12:=by have:=g.few;have:=h.2.len;omega
 have V:=zh (yY g.tree);clear h g Q;go_enter Tryz.func99,Tryz.ntmps99;go_wp2_with fail
 go_loopg [9,10] bn (fun ab (v p:Value) wr=>∃ (k:Nat),v=zI (xh l b q t k)/\p=zI k/\k<=bn/\ab=bn-k/\0<=xh l b q t k/\xh l b q t k<=150*k/\zL w wr)
 case atStart=>exact ⟨0,rfl,rfl,Nat.zero_le _,by simp,by simp [xh],by simp [xh],Below.refl _ _⟩
 case round =>
  obtain ⟨k,rfl,rfl,aB,rfl,ai,aj,r⟩:=hrel;have G:=zh r;by_cases y:k<bn
  ·have aC:(k:Int)<bn:=(by omega);have f:=Z.o.later r;obtain ⟨aw,ax,ae,P⟩:=f.2.cells (by omega);subst ae;obtain ⟨X,d⟩:=qA (bk b k);obtain ⟨m,c1,c2,c3,c4,c5,n⟩:=P k y;rw [d] at m c1 c2 c3 c4 c5 n;have z:=f.2.rqs k y;have s:=f.2.bites k y;rw [d] at z s;have u:=I.o.each k (by have:=H.o;omega);rw [d] at u;obtain ⟨i,aD,aE⟩:=y8 I.o.tree u;have U:=zh i;have M:X.bs.length<=3:=Ym i;have af:=VX i t (Nat.le_refl X.bs.length);have c:Zh (xh l b q t (k+1)=xh l b q t k+if (q:Int)∈zK l X.rq.queue then yo X t X.bs.length else 0):=zh (by rw [xh,d]);have W:=zh z;have S:=zh s;have Y:=zh f;have F:=zh M;have ag:X.rq.queue<j:=(by have:=aa.o;omega);have av:=zh d;clear i u P z s f d r M;obtain ⟨J,ad⟩:=qA (xh l b q t k);rw [ad] at ai aj c ⊢;go_wp2_with fail
   refine (TK _ B j C l X.rq.queue q Y.o.1 V.o ag).mono ?_;rintro e ak ⟨rfl,a⟩;have D:=zh (a);have al:=cell_later a m;have am:=cell_later a c1;have an:=cell_later a c2;have ao:=cell_later a c3;have ap:=cell_later a c4;have aq:=cell_later a c5;have ar:=cell_later a n;have E:=zh (za G.o a);clear a m c1 c2 c3 c4 c5 n;cases A:yG l X.rq.queue q with
   | true =>
    have x:(q:Int)∈zK l X.rq.queue:=Wu.1 A;rw [if_pos x] at c;go_wp2_with fail
    refine (LE ak X (W.o.later D.o) (S.o.later D.o) U.o F.o t ah).mono ?_;rintro e aF ⟨rfl,O⟩;obtain ⟨L,N⟩:=qA (yo X t X.bs.length);rw [N] at af c ⊢;have au:=F.o;have R:=zh (za E.o O);clear O N;go_wp2;go_roundg (bn-(k+1))
    case measure=>omega
    refine ⟨k+1,by rw [c.o],by go_num,by omega,rfl,by rw [c.o];omega,by rw [c.o];omega,R.o⟩
   | false =>
    have x:¬(q:Int)∈zK l X.rq.queue:=fun h=>by rw [Wu.2 h] at A;exact absurd A (by simp)
    rw [if_neg x] at c;go_wp2;go_roundg (bn-(k+1))
    case measure=>omega
    refine ⟨k+1,by rw [c.o,Int.add_zero],by go_num,by omega,rfl,by rw [c.o];omega,by rw [c.o];omega,E.o⟩
  obtain rfl:bn=k:=by omega
  go_wp2;go_ret;exact ⟨by rw [<-H.o];rfl,G.o⟩
end Go.Proofs.YtckpdfkobdgjeaaGreatDoor
