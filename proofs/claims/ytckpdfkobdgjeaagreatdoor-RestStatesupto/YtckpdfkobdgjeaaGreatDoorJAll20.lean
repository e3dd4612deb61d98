/- Several texts in one: LogP, LogQ, RefA, RefB, RefF, RefG, RefH. -/
import Derived.Test.YtckpdfkobdgjeaaGreatDoorJAll19
import Derived.Test.YtckpdfkobdgjeaaGreatDoorJAll3
import Derived.BigRegion
import Derived.BigQuiet
import Derived.Test.YtckpdfkobdgjeaaGreatDoorJTreeAll
import Derived.Laws.Rows
import Derived.Laws.CopyOwn
namespace Go.Proofs.YtckpdfkobdgjeaaGreatDoor
set_option maxRecDepth 100000
set_option maxHeartbeats 8000000
open Go.RowKit
set_option linter.unusedSectionVars false
variable [Inhabited Mk]
def GS (x:Ac):Prop:=∀ (w:World) (c n:Int) (ta:Option Addr) (tn tc:Nat) (l:QL) (ba:Option Addr) (bn bc:Nat) (b:BL),zY w ta tn tc l ba bn bc b->wl w x->x.cn<=1048576 ->
 zC 21 #[.agg (zS c n ta tn tc ba bn bc),.agg #[zI x.kind,zI x.n,zI x.rq.queue,zI x.rq.fr,zI x.rq.un,zI x.rq.kind,.slice x.rq.pa x.rq.pn x.rq.pc,.slice x.ca x.cn x.cc]] w fun e w'=>∃ c' n' ta' tn' tc' ba' bn' bc',e=.returned (.tuple #[.agg (zS c' n' ta' tn' tc' ba' bn' bc'),zI (ZO ⟨c,n,l,b⟩ x)])/\X9 w' w.heap.size (ZO ⟨c,n,l,b⟩ x) (YR ⟨c,n,zi l,zg b⟩ x.bare) c' n' ta' tn' tc' ba' bn' bc'/\Below w.heap.size w w'
theorem SQ (w:World) (a:Option Addr) (n aD:Nat) (l:QL) (h:QsIn w a n aD l) (t:ByteArray) (v:Value) (a5:Zx w v)
 (cw:∀ X:Ac,X.bare∈(yN t 60 0).1->GS X) :
 zC 15 #[.slice a n aD,.string t] w fun e w'=>J7 w w' e l t:=by
 obtain ⟨S,ap⟩:=qA (w.heap.size);obtain ⟨N,Y⟩:=qB (w.alloc (.cells zZ 40));have ah:zL w N:=by rw [Y];exact zr _ _
 have a2:zj N S (zI 0) (zI 0) zN zN:=by rw [Y,<-ap];exact zj.new w _ _ _ _
 have a4:N.heap.size=S+1:=by rw [Y,<-ap];simp
 have a6:Zx N v:=Zx.below a5 ap (by rw [<-ap];exact ah);have aJ:=zh ap;have bj:=zh ah;have bq:=zh a2;have b9:=zh a4;have cd:=zh a6;by_cases G:z9 l=0
 case neg =>
  have r:VK l t=z9 l:=by unfold VK;rw [if_neg G]
  have O:US l t=0:=by unfold US;rw [r,if_neg G]
  have ax:=zh (OB N a n aD l (h.later ah) G);have s:=zh (And.intro r (And.intro O G));obtain ⟨C,aV⟩:=qA (z9 l);have b2:=zh aV;rw [aV] at ax G;have cU:(C != 0)=true:=by simpa using G
  have aK:=zh Y;clear h a5 Y ah a2 a4 a6 r O aV;go_enter Tryz.func15,Tryz.ntmps15;go_wp2_with fail
  rw [<-aK.o];refine ax.o.mono ?_;rintro e aa ⟨rfl,y⟩;obtain ⟨ay,aX⟩:=qB (aa.alloc (.cells zZ 40));have aL:zL aa ay:=by rw [aX];exact zr _ _
  have aI:=zh (za (za bj.o y) aL);have R:=zh ((bq.o.later y).later aL);obtain ⟨bS,bT,bU,bV⟩:=R.o.cells;have bW:∀ k,ay.frozen? (zA S k)=false:=fun k=>frozen_of_row ay S k _ _ R.o;clear y;go_upto_region 2 with fail
  rw [<-aX];clear aX aL;go_wp2_with fail
  have aj:=zk ay S 40 _ _ _ _ (zI 0) (zI 0) zN zN R.o;have f:w.heap.size<=S:=by omega
  refine bodyPost_ret (v:=.tuple #[.agg zZ,zI 0,zI C]) (zq Tryz.results15 _ _ S 40 zZ (0,0) _ rfl aj.1 Tryz.underlying40 rfl (by kernel_rfl)) rfl ⟨0,0,none,0,0,none,0,0,?_,Or.inl ⟨?_,rfl,rfl,rfl,rfl,rfl,rfl,rfl,rfl⟩,?_⟩
  ·rw [s.o.1,s.o.2.1,b2.o]
  ·rw [s.o.1];exact s.o.2.2
  exact ((((aI.o.setCell (p:=(zA S 0)) f _).setCell (p:=(zA S 1)) f _).setCell (p:=(zA S 2)) f _).setCell (p:=(zA S 3)) f _)
 have ax:=zh (L9 N a n aD l (h.later ah) G);have bm:=zh G;have aK:=zh Y;clear h a5 Y ah a2 a4 a6 G;go_enter Tryz.func15,Tryz.ntmps15;go_wp2_with fail
 rw [<-aK.o];refine ax.o.mono ?_;rintro e aa ⟨g,k,aF,rfl,W,cB,bA,y,bF⟩;have cF:=b9.o;have cD:=y.size;obtain ⟨B,aT⟩:=qA (aa.heap.size);obtain ⟨ab,ae⟩:=qB (aa.alloc (.cells (zS 0 0 (some ⟨g,0,none⟩) n k none 0 0) 40));have al:zL aa ab:=by rw [ae];exact zr _ _
 have aU:zj ab B (zI 0) (zI 0) (.slice (zO g 0) n k) zN:=by rw [ae,<-aT];exact zj.new aa _ _ _ _
 have bJ:ab.heap.size=B+1:=by rw [ae,<-aT];simp
 have bp:=zh ((bq.o.later y).later al);have bl:=zh (za (za bj.o y) al);have ce:=zh (show Zx ab v from Zx.below cd.o rfl (za y al));have bI:zY ab (zO g 0) n k aF none 0 0 []:=⟨(y6 W).later al,Wl _⟩;have bB:BlkSt (fun j=>S<j/\j≠B) (zO g 0) n aF none 0 []:=by
  refine ⟨fun am aR bR e=>?_,fun i ai am aR bR e=>?_,fun am=>absurd am (Nat.lt_irrefl _),fun i ai=>absurd ai (Nat.not_lt_zero _),fun i ai=>absurd ai (Nat.not_lt_zero _)⟩
  ·have aP:g=aR:=(by injection e with e;injection e with aP);have an:=W.row.lt g rfl;omega
  have an:=(y6 W).caps i ai;have aS:=an.lt am e;have bu:=bF i ai am aR bR e;omega
 have b5:=zh (And.intro aU (And.intro bI (And.intro bB bA)));have cf:=zh (SR ab t v ce.o);have cb:=zh bJ;have cO:=zh aT;have cy:S<B:=by omega
 obtain ⟨cg,ch,ci,cj⟩:=aU.cells;have cQ:=zh ae;clear W cB bA y bF al aU bI bB bJ cD cF;go_upto_region 2 with fail
 rw [<-ae];clear ae cg ch ci cj;go_wp2_with fail
 refine cf.o.mono ?_;rintro e aH ⟨Q,⟨f,rfl⟩ | ⟨f,u,d,m,rfl,a1,aY,a0,cu,bE⟩⟩
 ·have r:VK l t=2:=by unfold VK;rw [if_pos bm.o,if_pos f]
  have O:US l t=0:=by unfold US;rw [r];rfl
  have s:=zh (And.intro r O);have aI:=zh (za bl.o Q);have R:=zh (bp.o.later Q);obtain ⟨bS,bT,bU,bV⟩:=R.o.cells;have bW:∀ k,aH.frozen? (zA S k)=false:=fun k=>frozen_of_row aH S k _ _ R.o;clear Q f r O;go_wp2_with fail
  have aj:=zk aH S 40 _ _ _ _ (zI 0) (zI 0) zN zN R.o;have f:w.heap.size<=S:=by omega
  refine bodyPost_ret (v:=.tuple #[.agg zZ,zI 0,zI 2]) (zq Tryz.results15 _ _ S 40 zZ (0,0) _ rfl aj.1 Tryz.underlying40 rfl (by kernel_rfl)) rfl ⟨0,0,none,0,0,none,0,0,?_,Or.inl ⟨?_,rfl,rfl,rfl,rfl,rfl,rfl,rfl,rfl⟩,?_⟩
  ·rw [s.o.1,s.o.2]
  ·rw [s.o.1];decide
  exact ((((aI.o.setCell (p:=(zA S 0)) f _).setCell (p:=(zA S 1)) f _).setCell (p:=(zA S 2)) f _).setCell (p:=(zA S 3)) f _)
 have cG:=cb.o;have aE:yN t 60 0=(d.map Ac.bare,m):=a0.is cu bE;have r:VK l t=0:=by unfold VK;rw [if_pos bm.o,if_neg (by omega)]
 have O:US l t=d.length:=by unfold US;rw [r,if_pos rfl,aE];simp
 have aW:UT l t=Yd ⟨0,0,zi l,[]⟩ (d.map Ac.bare):=by unfold UT;rw [aE]
 obtain ⟨A,hs0⟩:∃ A:St,A=⟨0,0,zi l,[]⟩:=⟨_,rfl⟩;rw [<-hs0] at aW;obtain ⟨bM,bN,bO,bP⟩:=b5.o;have bw:RecInv w aH S B (Yd A ((d.take 0).map Ac.bare)) u d 0 0 (zO g 0) n k aF none 0 0 [] :=
  ⟨bM.later Q,bp.o.later Q,bN.later Q,bO,by rw [hs0];exact ⟨rfl,rfl,bP,rfl⟩,Vi a1 (by omega),fun x bK=>⟨(aY x bK).1,wX.mono (aY x bK).2 (by omega)⟩,by rw [<-aJ.o];exact za bl.o Q,cy⟩
 have b4:=zh bw;obtain ⟨cH,cI,rfl⟩:=Xr a1;have b3:=zh (a0.few);have b1:=zh (show ∀ X∈d,GS X from fun X ag=>cw X (by rw [aE];exact List.mem_map_of_mem ag));have s:=zh (And.intro r (And.intro O aW));clear Q f a1 aY a0 bE aE r O aW hs0 bM bN bO bP bw cG;go_wp2_with fail
 go_loopg [36] d.length (fun cr (p:Value) wr=>∃ (j:Nat) (c z:Int) (J:Option Addr) (M L:Nat) (Z:QL) (D:Option Addr) (F E:Nat) (V:BL),p=zI j/\j<=d.length/\cr=d.length-j/\RecInv w wr S B (Yd A ((d.take j).map Ac.bare)) (.slice cH d.length cI) d c z J M L Z D F E V)
 case atStart=>exact ⟨0,0,0,zO g 0,n,k,aF,none,0,0,[],rfl,Nat.zero_le _,by simp,b4.o⟩
 case round =>
  obtain ⟨j,c,z,J,M,L,Z,D,F,E,V,rfl,cS,rfl,bv⟩:=hrel;have q:=zh bv;clear bv;by_cases cC:j<d.length
  ·have cT:(j:Int)<d.length:=(by omega);obtain ⟨X,ag⟩:∃ X,d[j]?=some X:=⟨d[j],List.getElem?_eq_getElem cC⟩;have ar:X∈d:=List.mem_of_getElem? ag;obtain ⟨cR,rfl,cW,cX,H⟩:=OW q.o.row ag;have bt:=H 0 _ rfl;have aP:=H 1 _ rfl;have ck:=H 2 _ rfl;have cl:=H 3 _ rfl;have cm:=H 4 _ rfl;have co:=H 5 _ rfl;have cp:=H 6 _ rfl;have cq:=H 7 _ rfl;simp only [Nat.add_zero] at bt;obtain ⟨P,bx⟩:=qA (wr.heap.size);obtain ⟨az,aq⟩:=qB (wr.alloc (.cells #[zI X.kind,zI X.n,zI X.rq.queue,zI X.rq.fr,zI X.rq.un,zI X.rq.kind,.slice X.rq.pa X.rq.pn X.rq.pc,.slice X.ca X.cn X.cc] 27));have br:zL wr az:=(by rw [aq];exact zr _ _);have bL:wj az P (zI X.kind) (zI X.n) (zI X.rq.queue) (zI X.rq.fr) (zI X.rq.un) (zI X.rq.kind) (.slice X.rq.pa X.rq.pn X.rq.pc) (.slice X.ca X.cn X.cc):=(by rw [aq,<-bx];exact heap_alloc_new wr _);have ak:=zh (q.o.later br);have bz:X.cn<=1048576:=by
    have an:=(q.o.each X ar).1.2.len;have aS:=(b3.o X ar).2;omega
   have ao:=b1.o X ar az c z J M L Z D F E V ak.o.st (ak.o.each X ar).1 bz;have cV:B<P:=(by have:=q.o.size;omega);have bG:az.heap.size=P+1:=(by rw [aq,<-bx];simp);obtain ⟨be,bf,bg,bh⟩:=ak.o.box.cells;obtain ⟨bX,bY,bZ,b0,cJ,cK,cL,cM⟩:=bL.cells;have bC:ZO ⟨c,z,Z,V⟩ X=ZO (Yd A ((d.take j).map Ac.bare)) X.bare:=by
    obtain ⟨a7,a8,a9,ba⟩:=q.o.says;rw [<-Nc,a7,a8,a9,ba]
   have bD:YR ⟨c,z,zi Z,zg V⟩ X.bare=YR (Yd A ((d.take j).map Ac.bare)) X.bare:=by
    obtain ⟨a7,a8,a9,ba⟩:=q.o.says;rw [a7,a8,a9,ba]
   rw [bC,bD] at ao;have aZ:Yd A ((d.take (j+1)).map Ac.bare)=VN (Yd A ((d.take j).map Ac.bare)) X.bare:=by
    rw [List.take_add_one,ag,List.map_append];exact Pt _ _ _
   obtain ⟨I,bH⟩:=qA (Yd A ((d.take j).map Ac.bare));obtain ⟨C,r⟩:=qA (ZO I X.bare);rw [bH] at ao aZ ak;rw [r] at ao;have b6:=zh ao;have bo:=zh aZ;have bn:=zh r;have b8:=zh bG;clear bC bD ao aZ bH r br bL H ag ar bz bG;go_upto_region 10 with fail
   rw [<-aq];clear aq bt aP ck cl cm co cp cq;go_wp2_with fail
   refine b6.o.mono ?_;rintro e w6 ⟨aC,aG,bb,bd,bc,aM,aO,aN,rfl,W,y⟩;have a3:=y.size;obtain ⟨aA,af⟩:=qB (w6.alloc (.cells (zS aC aG bb bd bc aM aO aN) 40));have aB:zL w6 aA:=(by rw [af];exact zr _ _);have bi:zj aA w6.heap.size (zI aC) (zI aG) (.slice bb bd bc) (.slice aM aO aN):=(by rw [af];exact zj.new w6 _ _ _ _);have aw:=zh ((ak.o.later y).later aB);have b7:=zh (W.later aB);clear be bf bg bh bX bY bZ b0 cJ cK cL cM W y;obtain ⟨be,bf,bg,bh⟩:=aw.o.box.cells;have cY:∀ k,aA.frozen? (zA B k)=false:=fun k=>frozen_of_row aA B k _ _ aw.o.box;obtain ⟨bX,bY,bZ,b0⟩:=bi.cells;have cP:=zh a3;by_cases ad:C=0
   ·have cx:(C==0)=true:=(by simpa using ad);have av:=zh ad;clear ad;go_upto_region 11 with fail
    rw [<-af];clear af aB bi a3;go_wp2_with fail
    go_roundg (d.length-(j+1))
    case rel =>
     rcases b7.o with ⟨an,_⟩ | ⟨_,bQ,bs,aS,bu,f,cs,ct,cv⟩
     ·exact absurd av.o an
     refine ⟨j+1,aC,aG,bb,bd,bc,bQ,aM,aO,aN,bs,by go_num,by omega,rfl,?_⟩;have cE:aC=(YR I X.bare).c/\aG=(YR I X.bare).n/\zi bQ=(YR I X.bare).l/\zg bs=(YR I X.bare).b:=⟨bu,f,cs,ct⟩;have aQ:Yd A ((d.take (j+1)).map Ac.bare)=YR I X.bare:=by
      rw [bo.o];unfold VN;rw [if_pos (by rw [bn.o];exact av.o)]
     rw [aQ];exact aw.o.store aS (cv.mono (by have:=b8.o;omega)) cE
    case measure=>omega
   have cx:(C==0)=false:=(by simpa using ad);have av:=zh ad;clear ad;go_upto_region 11 with fail
   rw [<-af];clear af aB bi a3;go_wp2_with fail
   go_roundg (d.length-(j+1))
   case rel =>
    refine ⟨j+1,c,z,J,M,L,Z,D,F,E,V,by go_num,by omega,rfl,?_⟩;have aQ:Yd A ((d.take (j+1)).map Ac.bare)=I:=by
     rw [bo.o];unfold VN;rw [if_neg (by rw [bn.o];exact av.o)]
    rw [aQ];exact aw.o
   case measure=>omega
  obtain rfl:j=d.length:=by omega
  obtain ⟨be,bf,bg,bh⟩:=q.o.box.cells;obtain ⟨bS,bT,bU,bV⟩:=q.o.res.cells;have bW:∀ k,wr.frozen? (zA S k)=false:=fun k=>frozen_of_row wr S k _ _ q.o.res;go_wp2;have aj:=zk wr S 40 _ _ _ _ (zI c) (zI z) (.slice J M L) (.slice D F E) q.o.res;have f:S<=S:=Nat.le_refl _;have cz:=((((q.o.below.setCell (p:=(zA S 0)) f (zI c)).setCell (p:=(zA S 1)) f (zI z)).setCell (p:=(zA S 2)) f (.slice J M L)).setCell (p:=(zA S 3)) f (.slice D F E));refine bodyPost_ret (v:=.tuple #[.agg (zS c z J M L D F E),zI d.length,zI 0]) (zq Tryz.results15 _ _ S 40 (zS c z J M L D F E) (0,0) _ rfl aj.1 Tryz.underlying40 rfl (by kernel_rfl)) rfl ⟨c,z,J,M,L,D,F,E,?_,Or.inr ⟨s.o.1,Z,V,?_,?_⟩,?_⟩
  ·rw [s.o.1,s.o.2.1]
  ·exact q.o.st.stand q.o.blk (fun k cA=>aj.2 k (by omega))
  ·rw [s.o.2.2];have au:=q.o.says;rw [List.take_length] at au;exact ⟨au.1,au.2.1,au.2.2.1,au.2.2.2,q.o.blk.new (fun k cA=>by rw [aJ.o];omega)⟩
  rw [aJ.o];exact cz
theorem Yt (w:World):RunsIn w none 0 0 []:=⟨rfl,Nat.le_refl _,by omega,by omega,fun h=>absurd h (Nat.lt_irrefl _),fun h=>absurd h (Nat.lt_irrefl _)⟩
def G6 (g:Nat):Ac:=⟨1,0,IY g 3 4,none,0,0,[]⟩
def OY (k n:Int):Ac:=⟨k,n,⟨0,0,0,0,none,0,0,[]⟩,none,0,0,[]⟩
def sA:ByteArray:=⟨#[1,0,3,2,30,4,2,4,3,5,6,0]⟩
def sB:ByteArray:=⟨#[3,3,0,0,0,0,0,0]⟩
def sC:ByteArray:=⟨#[1]⟩
theorem G7 (g:Nat):Sc (G6 g)=0:=by kernel_rfl
theorem G8 (g:Nat):Ud (G6 g)=sA:=by kernel_rfl
theorem G9:Sc (OY 3 3)=0:=by kernel_rfl
theorem Fa:Ud (OY 3 3)=sB:=by kernel_rfl
theorem Fb:Sc (OY 0 256)=3:=by kernel_rfl
theorem Fc:Ud (OY 0 256)=ByteArray.empty:=by kernel_rfl
theorem FM:(yN (sA++sB++sC) 60 0).1.length=2:=by kernel_rfl
theorem FL:(yN (sA++sB++sC) 60 0).2=20:=by kernel_rfl
theorem FN:(sA++sB++sC).size=21:=by kernel_rfl
theorem GM (c:Nat):VK (fL c 0 6) (sA++sB)=0:=by kernel_rfl
theorem FI (c:Nat):US (fL c 0 6) (sA++sB)=2:=by kernel_rfl
theorem FK (c:Nat):(UT (fL c 0 6) (sA++sB)).c=3:=by kernel_rfl
theorem FJ (c:Nat):(UT (fL c 0 6) (sA++sB)).b.length=1:=by kernel_rfl
theorem Fs (X:Ac) (q:X.bare∈(yN (sA++sB) 60 0).1):GS X:=by
 have o:(yN (sA++sB) 60 0).1.all (fun y=>y.kind==1||y.kind==3)=true:=by kernel_rfl
 have p:=List.all_eq_true.1 o X.bare q;intro w c n j m k l a e d b h g hn;by_cases i:X.kind=1
 ·exact GJ w c n j m k l a e d b h X g hn i
 have r:X.kind=3:=by
  have f:(X.kind==1||X.kind==3)=true:=p;simp only [Bool.or_eq_true,beq_iff_eq] at f;exact f.resolve_left i
 exact GK w c n j m k l a e d b h X g hn r
theorem Zx.laters {w w':World} {v:Value} (h:Zx w v) (a:Below w.heap.size w w'):Zx w' v:=h.below rfl a
theorem UD (w:World) (v:Value) (V:Zx w v):zC 13 #[] w fun e w'=>e=.returned (.bool true)/\Below w.heap.size w w':=by
 have C:=zh V;clear V;obtain ⟨d,x⟩:=qB (sA);obtain ⟨f,y⟩:=qB (sB);have zA:d.size=12:=by rw [x];rfl
 have zB:f.size=8:=by rw [y];rfl
 have b:=zh x;have c:=zh y;clear x y;go_enter Tryz.func13,Tryz.ntmps13;go_wp2_with fail
 refine (NO w 4).mono ?_;rintro e aR ⟨rfl,Q,a⟩;have ad:=zh a;have j:=Vy aR (G6 (w.heap.size+1)) ⟨Q,Yt _⟩;rw [G7,G8,<-b.o] at j;have am:=zh j;clear Q a j;go_wp2_with fail
 refine am.o.mono ?_;rintro e aS ⟨rfl,a⟩;have ag:=zh (za ad.o a);have k:=Vy aS (OY 3 3) ⟨Yt _,Yt _⟩;rw [G9,Fa,<-c.o] at k;have an:=zh k;clear a k;go_wp2_with fail
 refine an.o.mono ?_;rintro e aT ⟨rfl,a⟩;have A:=zh (za ag.o a);have ao:=zh (SR aT (d++f++sC) v (C.o.laters A.o));clear a;go_wp2_with fail
 refine ao.o.mono ?_;rintro e aU ⟨a,⟨t,rfl⟩ | ⟨t,u,D,m,rfl,S,aL,R,I,N⟩⟩
 ·exfalso;rw [b.o,c.o,FN] at t;omega
 have ah:=zh (za A.o a);have h:yN (d++f++sC) 60 0=(D.map Ac.bare,m):=R.is I N;rw [b.o,c.o] at h;have P:m=20:=by have:=FL;rw [h] at this;exact this
 have O:D.length=2:=by have:=FM;rw [h] at this;simpa using this
 obtain ⟨a4,a5,rfl⟩:=Xr S;rw [O,P];clear a t S aL R I N h P O;go_wp2_with fail
 refine (Q7 aU).mono ?_;rintro e aV ⟨rfl,g,a⟩;have B:=zh (za ah.o a);have ap:=zh (SQ aV _ 4 4 _ g.qs (d++f) v (C.o.laters B.o) (by rw [b.o,c.o];exact Fs));clear g a;go_wp2_with fail
 refine ap.o.mono ?_;rintro e w6 ⟨aE,W,X,Z,Y,F,aC,G,rfl,J,a⟩;rw [b.o,c.o,GM,FI];rw [b.o,c.o,GM] at J;have ai:=zh (za B.o a);rcases J with ⟨aH,_⟩ | ⟨_,aZ,aY,U,M,hn,aM,L,_⟩
 ·exact absurd rfl aH
 have aK:aE=3:=M.trans (FK _);have aJ:aC=1:=by
  have H:=congrArg List.length L;rw [zF,FJ] at H;rw [U.2.len,H]
 subst aK;subst aJ;obtain ⟨p,aI⟩:=qA (w6.heap.size);obtain ⟨r,i⟩:=qB (w6.alloc (.cells (zS 3 W X Z Y F 1 G) 40));have E:zL w6 r:=by rw [i];exact zr _ _
 have ab:zj r p (zI 3) (zI W) (.slice X Z Y) (.slice F 1 G):=by rw [i,<-aI];exact zj.new w6 _ _ _ _
 have aj:=zh (za ai.o E);have aw:=zh ab;have l:=Vy r (OY 0 256) ⟨Yt _,Yt _⟩;rw [Fb,Fc] at l;have aq:=zh l;clear U M hn aM L a E ab l;go_upto_region 5 with fail
 rw [<-i];clear i;go_wp2_with fail
 refine aq.o.mono ?_;rintro e aW ⟨rfl,a⟩;have ak:=zh (za aj.o a);have ax:=zh (aw.o.later a);clear a;go_wp2_with fail
 refine (Ix aW).mono ?_;rintro e aX ⟨c1,aF,aG,rfl,g,a,_⟩;have al:=zh (za ak.o a);have ay:=zh (ax.o.later a);have n:=GI aX 5 6 _ 4 4 _ _ 2 2 _ g.st (OY 0 0) ⟨Yt _,Yt _⟩ (by show 0<=_;omega) (show ¬((0:Int)=1) by decide) (show ¬((0:Int)=2) by decide) (show ¬((0:Int)=3) by decide) (show ¬((0:Int)=4) by decide);rw [show ZO ⟨5,6,FZ c1 10,FY aF aG⟩ (OY 0 0)=7 by kernel_rfl] at n;have ar:=zh n;clear g a n;go_wp2_with fail
 refine ar.o.mono ?_;rintro e aa ⟨c2,aN,aO,aQ,aP,aA,aD,aB,rfl,_,a⟩;have ae:=zh (za al.o a);have au:=zh (ay.o.later a);obtain ⟨az,z⟩:=qB (aa.alloc (.cells (zS c2 aN aO aQ aP aA aD aB) 40));have s:zL aa az:=by rw [z];exact zr _ _
 have af:=zh (za ae.o s);have av:=zh (au.o.later s);obtain ⟨a0,a1,a2,a3⟩:=av.o.cells;clear a s;go_upto_region 7 with fail
 rw [<-z];clear z;go_wp2;go_ret;exact ⟨rfl,af.o⟩
theorem VX {X:Bk} (a:meets X.rq X.bs=true) (u:Nat):∀ {k:Nat},k<=X.bs.length->0<=yo X u k/\yo X u k<=50*k
 | 0,_=>by simp [yo]
 | k+1,h=>by
  have d:=VX a u (k:=k) (by omega);obtain ⟨_,_,_,_,_,_,b,c⟩:=YC a (k:=k) (by omega);rw [yo];unfold VM
  split <;> omega
theorem LE (w:World) (X:Bk) (m:zH w X.rq) (d:RunsIn w X.ba X.bn X.bc X.bs) (ag:meets X.rq X.bs=true) (aU:X.bs.length<=3) (t:Nat) (a3:t<=48) :
 zC 151 #[.agg #[zI X.id,zI X.rq.queue,zI X.rq.fr,zI X.rq.un,zI X.rq.kind,.slice X.rq.pa X.rq.pn X.rq.pc,.slice X.ba X.bn X.bc],zI t] w fun e w'=>e=.returned (zI (yo X t X.bs.length))/\Below w.heap.size w w':=by
 obtain ⟨S,az⟩:=qA (w.heap.size);obtain ⟨C,u⟩:=qB (w.alloc (.cells (zB X) 60));have b1:zL w C:=by rw [u];exact zr _ _
 have ai:ww C S X:=by rw [u,<-az];exact heap_alloc_new w _
 have am:=zh m;have aj:=zh d;have P:=zh ag;have an:=zh ai;have N:=zh b1;have O:=zh d.len;have aX:=d.le;have aW:=d.capb;have aV:X.bn<=3:=by have:=d.len;omega
 have Q:=zh (show X.rq.pn=X.rq.ps.length from RunsIn.len m);have a2:=RunsIn.le m;have a1:=RunsIn.capb m;clear b1 ai m d ag;go_enter Tryz.func151,Tryz.ntmps151;go_upto_region 1 with fail
 rw [<-u];clear u;go_wp2_with fail
 go_loopg [5,6] X.bn (fun ax (v p:Value) wr=>∃ (k:Nat),v=zI (yo X t k)/\p=zI k/\k<=X.bn/\ax=X.bn-k/\zL C wr)
 case atStart=>exact ⟨0,rfl,rfl,Nat.zero_le _,by simp,Below.refl _ _⟩
 case round =>
  obtain ⟨k,rfl,rfl,aZ,rfl,l⟩:=hrel;have al:=zh l;have I:ww wr S X:=an.o.later l;by_cases aF:k<X.bn
  ·have a0:(k:Int)<X.bn:=(by omega);have aE:k<X.bs.length:=(by have:=O.o;omega);obtain ⟨aS,aT,ap,aq,ar,au,av,aw⟩:=YC P.o aE;have aA:=VX P.o t (k:=k) (by omega);have H:=za N.o l;obtain ⟨aM,aN,ad,ae⟩:=(aj.o.later H).cells (by omega);obtain ⟨a4,a5,ah,af⟩:=RunsIn.cells (RunsIn.later am.o H) (by have:=Q.o;omega);obtain ⟨j,y⟩:∃ j:Nat,zp X.bs k=(j:Int):=⟨(zp X.bs k).toNat,by omega⟩;have aD:j<X.rq.pn:=(by have:=Q.o;omega);have aY:(j:Int)<X.rq.pn:=(by omega);obtain ⟨a,h⟩:=qA (rN X.bs k);obtain ⟨L,i⟩:=qA (lenOf X.rq X.bs k);obtain ⟨M,r⟩:=qA (IL X.rq X.bs k);obtain ⟨D,E⟩:=ae k aF;obtain ⟨F,G⟩:=af j aD;rw [y] at D;rw [h] at E;have Y:zp X.rq.ps j=L:=(by rw [<-i];unfold lenOf;rw [y];rfl);have Z:rN X.rq.ps j=M:=(by rw [<-r];unfold IL;rw [y];rfl);rw [Y] at F;rw [Z] at G;rw [h,i] at aq;rw [h] at ap;rw [i] at ar au;rw [r] at av aw;obtain ⟨R,b1,U,V,W,n,g⟩:=I.cells;rw [ad] at g;rw [ah] at n;obtain ⟨B,s⟩:=qA (yo X t k);rw [s] at aA ⊢;have aL:=zh s;have A:=zh (show yo X t (k+1)=B+if a<=(t:Int)/\(t:Int)<a+L then M else 0 from by rw [yo,s];unfold VM;rw [h,i,r]);obtain ⟨c,ay⟩:=qA (wr.heap.size);have f:zL wr (wr.alloc (.cells #[zI 0,zI 0] 64)):=zr _ _;have aJ:=cell_later f n;have aK:=cell_later f g;have aG:=cell_later f D;have aH:=cell_later f F;have aI:=cell_later f G;clear ae af y h i r Y Z ad ah s l I H f;go_upto_region 5 with fail
   go_region
   apply_assumption;go_upto_region 6 with fail
   obtain ⟨b,x⟩:=qB ((wr.alloc (.cells #[zI L,zI M] 64)).drew);have q:zL wr b:=(by rw [x];exact (zr _ _).drew);have J:b.heap[c]?=some (.cells #[zI L,zI M] 64 (0,0)):=(by rw [x,<-ay];exact heap_alloc_new wr _);have aO:b.cell? (zA c 0)=some (zI L):=(by rw [cell_of_row b c 0 _ _ _ J];rfl);have aP:b.cell? (zA c 1)=some (zI M):=(by rw [cell_of_row b c 1 _ _ _ J];rfl);have aQ:=cell_later q g;have aR:=cell_later q E;have z:=zh (za al.o q);rw [<-x];clear x q J aJ aK aG aH aI R b1 U V W n g D E F G;by_cases aa:a<=(t:Int)
   ·have aB:decide (a<=(t:Int))=true:=(by simpa using aa);by_cases ab:(t:Int)<a+L
    ·have aC:decide ((t:Int)<a+L)=true:=(by simpa using ab);go_quiet (fail)
     go_wp2;go_roundg (X.bn-(k+1))
     case measure=>omega
     refine ⟨k+1,?_,by go_num,by omega,rfl,_root_.Go.below_drewN z.o _⟩;rw [A.o,if_pos (show a<=(t:Int)/\(t:Int)<a+L by omega)]
    have aC:decide ((t:Int)<a+L)=false:=(by simpa using ab);go_quiet (fail)
    go_wp2;go_roundg (X.bn-(k+1))
    case measure=>omega
    refine ⟨k+1,?_,by go_num,by omega,rfl,_root_.Go.below_drewN z.o _⟩;rw [A.o,if_neg (show ¬(a<=(t:Int)/\(t:Int)<a+L) by omega),Int.add_zero]
   have aB:decide (a<=(t:Int))=false:=(by simpa using aa);go_quiet (fail)
   go_wp2;go_roundg (X.bn-(k+1))
   case measure=>omega
   refine ⟨k+1,?_,by go_num,by omega,rfl,_root_.Go.below_drewN z.o _⟩;rw [A.o,if_neg (show ¬(a<=(t:Int)/\(t:Int)<a+L) by omega),Int.add_zero]
  obtain rfl:X.bn=k:=by omega
  obtain ⟨R,b1,U,V,W,n,g⟩:=I.cells;have ak:=zh (za N.o l);go_wp2;go_ret;exact ⟨by rw [<-O.o];rfl,ak.o⟩
theorem SK (w:World) (a:Option Addr) (n z:Nat) (l:QL) (q:Int) (h:QsIn w a n z l) (f:Right l) (S:q<n) :
 zC 157 #[.slice a n z,zI q] w fun e w'=>∃ v,e=.returned v/\zG w' w.heap.size v (zK l q)/\Below w.heap.size w w':=by
 have d:=zh h.len;have ae:=h.capb;have af:=h.le;have y:=zh f;have O:0<n:=by have:=f.pos;have:=d.o;omega
 have ab:n<=5:=by have:=f.five;have:=d.o;omega
 clear f;obtain ⟨b,Y,rfl,C⟩:=h.cells O;have x:=zh C;clear C;obtain ⟨X,M,U,V,W⟩:=info_parts Tryz.info3;go_enter Tryz.func157,Tryz.ntmps157;go_wp2;go_loopw [1,5] (fun u v wr=>∃ (p:Int) (c:List Int),u=zI p/\p<n/\c++zK l p=zK l q/\zG wr w.heap.size v c/\zL w wr) (fun u _ _=>(intOf u+1).toNat)
 case atStart=>exact ⟨q,[],rfl,S,by simp,World.ownsRow_nil _ _ _ _,Below.refl _ _⟩
 case round =>
  obtain ⟨p,c,rfl,ah,D,F,t⟩:=hrel;have k:=zh D;have r:=zh F;have j:=zh t;have L:w.heap.size<=wr.heap.size:=t.size;clear D F t;by_cases Q:0<=p
  ·obtain ⟨P,rfl⟩:=Int.eq_ofNat_of_zero_le Q;have B:P<n:=(by omega);have ad:(P:Int)<n:=(by omega);have R:=y.o.par P (by have:=d.o;omega);have i:=zh (Y8 y.o (q:=(P:Int)) (by omega) (by have:=d.o;omega));rw [Int.toNat_natCast] at i;have ag:c.length+1<=5:=by
    have A:=WY l q;rw [<-k.o,i.o] at A;simp at A;omega
   obtain ⟨m,g⟩:=qA ((qu l P).parent);rw [g] at R i;have c1:=cell_later j.o (x.o P B).2.1;rw [g] at c1;have J:=zh g;clear g;have H:True:=trivial;go_wp2_with (at_builtin;have _t:=H;refine wpList_append_own _ rfl _ _ 47 rfl w.heap.size 3 X (zI 0) 1 8 Tryz.underlying47 M U V W rfl (by decide) _ _ _ rfl (r.o.alloc _) (zA wr.heap.size 0) 1 1 [zI P] rfl rfl ?c1 ?c2 ?c3 ?c4 ?c5 ?_;clear H)
   case c1=>exact Gt _ _ _
   case c2=>exact Gu _
   case c3=>simp only [maxLen];omega
   case c4=>omega
   case c5=>simp;omega
   intro ai Z G E _;have s:=zh (Jc j.o L r.o G E);clear G E;have aa:Z.cell? (zA b (Y+P*3+1))=some (zI m):=(cell_later s.o.2.1 (x.o P B).2.1).trans (by rw [J.o]);go_wp2;go_roundw
   case rel=>exact ⟨m,c++[(P:Int)],rfl,by omega,by rw [<-k.o,i.o];simp,s.o.1,s.o.2.1⟩
   case measure=>simp [intOf];omega
  have N:=WZ (l:=l) (q:=p) (by omega);have I:Zh (c=zK l q):=by have:=k.o;rw [N,List.append_nil] at this;exact this
  go_wp2;go_ret;exact ⟨_,rfl,by rw [<-I.o];exact r.o,j.o⟩
theorem TK (w:World) (a:Option Addr) (n t:Nat) (l:QL) (k q:Int) (h:QsIn w a n t l) (y:Right l) (L:k<n) :
 zC 150 #[.slice a n t,zI k,zI q] w fun e w'=>e=.returned (.bool (yG l k q))/\Below w.heap.size w w':=by
 have J:=zh y;clear y;go_enter Tryz.func150,Tryz.ntmps150;go_wp2_with fail
 refine (SK w a n t l k h J.o L).mono ?_;rintro e U ⟨v,rfl,H,A⟩;obtain ⟨N,O,rfl,p⟩:=H.parts;have s:=zh p;have r:=zh A;have C:=WY l k;have P:=p.capb;have D:=p.le;have f:Zh (yG l k q=WS (zK l k) q (zK l k).length):=rfl;obtain ⟨zs,d⟩:=qA (zK l k);rw [d] at s C D f ⊢;obtain ⟨m,F⟩:=qA (zs.length);rw [F] at s C D f ⊢;clear p A H d F;by_cases M:0<m
 ·obtain ⟨b,S,rfl,B⟩:=s.o.cells M;have I:=zh B;clear B;go_wp2_with fail
  go_loop [8] (fun i=>∃ j:Nat,i=zI j/\j<=m/\WS zs q j=false) (fun i=>m-(intOf i).toNat)
  case atStart=>exact ⟨0,rfl,by omega,rfl⟩
  obtain ⟨j,rfl,Q,G⟩:=hrel;have u:=zh G;clear G;by_cases E:j<m
  ·have R:(j:Int)<m:=(by omega);have c:=I.o j E;obtain ⟨z,d⟩:=qA (zs.getD j 0);rw [d] at c;have x:=zh d;clear d;cases g:(z==q) with
   | true =>
    go_wp2;go_ret;exact ⟨zm (by rw [f.o,Rm (k:=j) (by rw [x.o];exact g) m E]),r.o⟩
   | false =>
    go_wp2;go_round
    case rel=>exact ⟨j+1,by go_num,by omega,by rw [WS,u.o,x.o,g];rfl⟩
    case measure=>simp [intOf];omega
  obtain rfl:m=j:=by omega
  go_wp2;go_ret;exact ⟨zm (by rw [f.o,u.o]),r.o⟩
 ·obtain rfl:m=0:=by omega
  go_wp2_with fail
  go_loop [8] (fun i=>i=zI 0) (fun _=>0)
  case atStart=>rfl
  subst hrel;go_wp2;go_ret;exact ⟨zm (by rw [f.o];rfl),r.o⟩
theorem LD (w:World) (C:Option Addr) (m D:Nat) (l:QL) (N:Option Addr) (a O:Nat) (b:BL) (h:zY w C m D l N a O b) (i:Clean l b) (q t:Nat) (ak:t<=48) :
 zC 99 #[.slice C m D,.slice N a O,zI q,zI t] w fun e w'=>e=.returned (zI (xh l b q t b.length))/\Below w.heap.size w w':=by
 have ad:=zh h;have J:=zh i;have I:=zh h.2.len;have U:=h.1.len;have ae:=zh U;have aD:=h.2.le;have aC:=h.2.capb;have aB:a<=12:=by have:=i.few;have:=h.2.len;omega
 have Z:=zh (yY i.tree);clear h i U;go_enter Tryz.func99,Tryz.ntmps99;go_wp2_with fail
 go_loopg [9,10] a (fun af (v p:Value) wr=>∃ (k:Nat),v=zI (xh l b q t k)/\p=zI k/\k<=a/\af=a-k/\0<=xh l b q t k/\xh l b q t k<=150*k/\zL w wr)
 case atStart=>exact ⟨0,rfl,rfl,Nat.zero_le _,by simp,by simp [xh],by simp [xh],Below.refl _ _⟩
 case round =>
  obtain ⟨k,rfl,rfl,aE,rfl,al,am,s⟩:=hrel;have H:=zh s;by_cases z:k<a
  ·have aF:(k:Int)<a:=(by omega);have g:=ad.o.later s;obtain ⟨az,aA,ah,S⟩:=g.2.cells (by omega);subst ah;obtain ⟨X,f⟩:=qA (bk b k);obtain ⟨n,c1,c2,c3,c4,c5,r⟩:=S k z;rw [f] at n c1 c2 c3 c4 c5 r;have A:=g.2.rqs k z;have u:=g.2.bites k z;rw [f] at A u;have x:=J.o.each k (by have:=I.o;omega);rw [f] at x;obtain ⟨j,aG,aH⟩:=y8 J.o.tree x;have Y:=zh j;have P:X.bs.length<=3:=Ym j;have ai:=VX j t (Nat.le_refl X.bs.length);have d:Zh (xh l b q t (k+1)=xh l b q t k+if (q:Int)∈zK l X.rq.queue then yo X t X.bs.length else 0):=zh (by rw [xh,f]);have aa:=zh A;have W:=zh u;have ab:=zh g;have G:=zh P;have aj:X.rq.queue<m:=(by have:=ae.o;omega);have ay:=zh f;clear j x S A u g f s P;obtain ⟨L,ag⟩:=qA (xh l b q t k);rw [ag] at al am d ⊢;go_wp2_with fail
   refine (TK _ C m D l X.rq.queue q ab.o.1 Z.o aj).mono ?_;rintro e an ⟨rfl,c⟩;have E:=zh (c);have ao:=cell_later c n;have ap:=cell_later c c1;have aq:=cell_later c c2;have ar:=cell_later c c3;have au:=cell_later c c4;have av:=cell_later c c5;have aw:=cell_later c r;have F:=zh (za H.o c);clear c n c1 c2 c3 c4 c5 r;cases B:yG l X.rq.queue q with
   | true =>
    have y:(q:Int)∈zK l X.rq.queue:=Wu.1 B;rw [if_pos y] at d;go_wp2_with fail
    refine (LE an X (aa.o.later E.o) (W.o.later E.o) Y.o G.o t ak).mono ?_;rintro e aI ⟨rfl,R⟩;obtain ⟨M,Q⟩:=qA (yo X t X.bs.length);rw [Q] at ai d ⊢;have ax:=G.o;have V:=zh (za F.o R);clear R Q;go_wp2;go_roundg (a-(k+1))
    case measure=>omega
    refine ⟨k+1,by rw [d.o],by go_num,by omega,rfl,by rw [d.o];omega,by rw [d.o];omega,V.o⟩
   | false =>
    have y:¬(q:Int)∈zK l X.rq.queue:=fun h=>by rw [Wu.2 h] at B;exact absurd B (by simp)
    rw [if_neg y] at d;go_wp2;go_roundg (a-(k+1))
    case measure=>omega
    refine ⟨k+1,by rw [d.o,Int.add_zero],by go_num,by omega,rfl,by rw [d.o];omega,by rw [d.o];omega,F.o⟩
  obtain rfl:a=k:=by omega
  go_wp2;go_ret;exact ⟨by rw [<-I.o];rfl,H.o⟩
def ya (f:Nat->Int):Array Value:=((List.range 48).map fun i=>Value.int .i64 (f i)).toArray
theorem ZS (f:Nat->Int):(ya f).size=48:=by simp [ya]
theorem Vp (f:Nat->Int) (i:Nat) (h:i<48):(ya f)[i]?=some (zI (f i)):=by
 simp [ya,h]
theorem Wv {f g:Nat->Int} (h:∀ i,i<48->f i=g i):ya f=ya g:=by
 unfold ya
 congr 1
 apply List.map_congr_left;intro i a;rw [h i (List.mem_range.1 a)]
def JK (f:Nat->Int) (t:Nat) (x:Int) (i:Nat):Int:=if i=t then x else f i
theorem Hd (f:Nat->Int) (t:Nat) (x:Int):(ya f).setIfInBounds t (zI x)=ya (JK f t x):=by
 apply Array.ext_getElem?;intro i;rw [Array.getElem?_setIfInBounds];by_cases a:i<48
 ·by_cases e:t=i
  ·subst e;rw [if_pos rfl,Vp _ _ a,if_pos (by rw [ZS];exact a)];simp [JK]
  rw [if_neg e,Vp _ _ a,Vp _ _ a];rw [show JK f t x i=f i from if_neg (fun h=>e h.symm)]
 have b:∀ f,(ya f)[i]?=none:=fun f=>by rw [Array.getElem?_eq_none_iff,ZS];omega
 rw [b,b];by_cases e:t=i
 ·rw [if_pos e,if_neg (by rw [ZS];omega)]
 rw [if_neg e]
theorem NY (f:Nat->Int):(ya f).all (·.oneCell')=true:=by
 rw [Array.all_eq_true_iff_forall_mem];intro v a;simp only [ya,List.mem_toArray,List.mem_map] at a;obtain ⟨i,_,rfl⟩:=a;rfl
theorem Tt:ya (fun _=>0)=#[Value.int .i64 0,zI 0,zI 0,zI 0,zI 0,zI 0,zI 0,zI 0,zI 0,zI 0,zI 0,zI 0,zI 0,zI 0,zI 0,zI 0,zI 0,zI 0,zI 0,zI 0,zI 0,zI 0,zI 0,zI 0,zI 0,zI 0,zI 0,zI 0,zI 0,zI 0,zI 0,zI 0,zI 0,zI 0,zI 0,zI 0,zI 0,zI 0,zI 0,zI 0,zI 0,zI 0,zI 0,zI 0,zI 0,zI 0,zI 0,zI 0]:=rfl
def ZU (w:World) (g:Nat) (f:Nat->Int):Prop:=w.heap[g]?=some (.cells (ya f) 126 (0,0))
theorem ZU.cell {w:World} {g:Nat} {f:Nat->Int} (h:ZU w g f) {i:Nat} (a:i<48):w.cell? (zA g i)=some (zI (f i)):=by
 rw [cell_of_row w g i _ _ _ h,Vp f i a]
theorem ZU.frozen {w:World} {g:Nat} {f:Nat->Int} (h:ZU w g f) (i:Nat):w.frozen? (zA g i)=false:=frozen_of_row w g i _ _ h
theorem ZU.lt {w:World} {g:Nat} {f:Nat->Int} (h:ZU w g f):g<w.heap.size:=(Array.getElem?_eq_some_iff.1 h).1
theorem ZU.set {w:World} {g:Nat} {f:Nat->Int} (h:ZU w g f) (t:Nat) (x:Int):ZU (w.setCell (zA g t) (zI x)) g (JK f t x):=by
 unfold ZU;rw [heap_setCell_same w g t _ _ _ h,Hd]
theorem ZU.other {w:World} {g:Nat} {f:Nat->Int} (h:ZU w g f) {a:Addr} (b:g≠a.block) (v:Value):ZU (w.setCell a v) g f:=by
 unfold ZU;rw [heap_setCell_other w a g v b];exact h
theorem ZU.new (w:World) (f:Nat->Int):ZU (w.alloc (.cells (ya f) 126)) w.heap.size f:=heap_alloc_new w _
theorem ZU.alloc {w:World} {g:Nat} {f:Nat->Int} (h:ZU w g f) (o:Obj):ZU (w.alloc o) g f:=by
 unfold ZU;rw [Below.heap_alloc w o g h.lt];exact h
theorem ZU.later {w w':World} {g:Nat} {f:Nat->Int} (h:ZU w g f) (a:Below w.heap.size w w'):ZU w' g f:=by
 unfold ZU;rw [a.block g h.lt];exact h
theorem Tryz.size61:(Tryz.prog.info? 126).map (·.size)=some 48:=by kernel_rfl
theorem size61 (f:Nat->Int):(Tryz.prog.info? 126).map (·.size)=some (ya f).size:=by rw [ZS];exact Tryz.size61
theorem Ly {f v:Nat->Int} {t:Nat} {x:Int} (h:∀ i,i<t->f i=v i) (a:x=v t):∀ i,i<t+1->JK f t x i=v i:=by
 intro i b;by_cases e:i=t
 ·subst e;rw [JK,if_pos rfl];exact a
 rw [JK,if_neg e];exact h i (by omega)
theorem NW {l:zd} (f:zW l) {t k:Nat} (h:k<l.length) (c:zp l k<=t) (d:k+1<l.length->(t:Int)<=zp l (k+1)) :
 (k+1<l.length/\zp l (k+1)=t->yH l t (k+1))/\(¬(k+1<l.length/\zp l (k+1)=t)->yH l t k):=by
 refine ⟨fun ⟨b,i⟩=>⟨b,by omega,fun a=>by have:=f.lt a;omega⟩,fun g=>⟨h,c,fun a=>?_⟩⟩;have:=d a;by_cases e:zp l (k+1)=t
 ·exact absurd ⟨a,e⟩ g
 ·omega
theorem Lt (w:World) (b L n I:Nat) (l:zd) (h:RunsIn w (zO b L) n I l) (C:zW l) :
 zC 71 #[.slice (zO b L) n I] w fun e w'=>e=.returned (.agg (ya (zn l)))/\Below w.heap.size w w':=by
 have c:Zh (n=l.length):=h.len;have E:0<n:=by rw [c.o];exact C.1
 obtain ⟨S,ae,e,D⟩:=h.cells E;cases e
 have r:=zh D;have Z:b<w.heap.size:=block_lt_of_cell (D 0 E).1;have ad:=h.le;have U:=h.bound;have m:=zh C;clear D C;go_enter Tryz.func71,Tryz.ntmps71;go_wp2;go_loopw [4,5] (fun R a wr=>∃ (t k:Nat) (f:Nat->Int),a=zI t/\t<=48/\R=zI k/\k<n/\zp l k<=t/\(k+1<n->(t:Int)<=zp l (k+1))/\(∀ i,i<t->f i=zn l i)/\ZU wr w.heap.size (fun _=>0)/\ZU wr (w.heap.size+1) f/\zL w wr) (fun _ a _=>48-(intOf a).toNat)
 case atStart =>
  refine ⟨0,0,fun _=>0,rfl,by omega,rfl,E,by rw [m.o.at0];exact Int.le_refl _,fun X=>by have:=m.o.nonneg (i:=1) (by have:=c.o;omega);exact this,fun i Y=>by omega,?_,?_,?_⟩
  ·rw [<-Tt];exact (ZU.new w _).alloc _
  ·rw [<-Tt];have:=ZU.new (w.alloc (.cells (ya fun _=>0) 126)) (fun _=>0);rwa [World.size_alloc] at this
  exact (zr _ _).alloc (by simp) _
 case round =>
  obtain ⟨t,k,f,rfl,aa,rfl,x,G,H,u,q,g,s⟩:=hrel;by_cases Q:t<48
  ·have ab:(t:Int)<48:=(by omega);have A:Zh (ZU wr (w.heap.size+1) f):=g;have B:Zh (ZU wr w.heap.size (fun _=>0)):=q;have af:=g.cell Q;have ag:=g.frozen t;have d:=zh s;have z:=zh u;have a:=zh (NW m.o (by have:=c.o;omega) G (fun h=>H (by have:=c.o;omega)));clear u q g s G H;by_cases p:k+1<n
   ·have P:(k:Int)+1<n:=(by omega);have V:=cell_later d.o (r.o (k+1) p).1;have N:=cell_later d.o (r.o k x).2;have W:=cell_later d.o (r.o (k+1) p).2;by_cases j:zp l (k+1)=(t:Int)
    ·have O:(zp l (k+1)==(t:Int))=true:=(by simp [j]);have y:=zh j;clear j;go_wp2;go_roundw
     case rel=>exact ⟨t+1,k+1,_,by go_num,by omega,by go_num,p,by have:=y.o;omega,fun h=>by have:=(a.o.1 ⟨by have:=c.o;omega,y.o⟩).2.2 (by have:=c.o;omega);omega,Ly z.o ((a.o.1 ⟨by have:=c.o;omega,y.o⟩).val m.o.rises),B.o.other (by simp) _,A.o.set t _,d.o.setCell (by simp) _⟩
     case measure=>simp [intOf];omega
    have O:(zp l (k+1)==(t:Int))=false:=(by simp [j]);go_wp2;go_roundw
    case rel=>exact ⟨t+1,k,_,by go_num,by omega,rfl,x,by have:=(a.o.2 (fun h=>j h.2)).2.1;omega,fun h=>by have:=(a.o.2 (fun h=>j h.2)).2.2 (by have:=c.o;omega);omega,Ly z.o ((a.o.2 (fun h=>j h.2)).val m.o.rises),B.o.other (by simp) _,A.o.set t _,d.o.setCell (by simp) _⟩
    case measure=>simp [intOf];omega
   have P:¬(k:Int)+1<n:=(by omega);have N:=cell_later d.o (r.o k x).2;go_wp2;go_roundw
   case rel=>exact ⟨t+1,k,_,by go_num,by omega,rfl,x,by have:=(a.o.2 (fun h=>p (by have:=c.o;omega))).2.1;omega,fun h=>absurd h p,Ly z.o ((a.o.2 (fun h=>p (by have:=c.o;omega))).val m.o.rises),B.o.other (by simp) _,A.o.set t _,d.o.setCell (by simp) _⟩
   case measure=>simp [intOf];omega
  obtain rfl:t=48:=by omega
  have J:ya f=ya (zn l):=Wv u;unfold ZU at q g;rw [J] at g;have F:=zh q;have M:=zh g;have d:=zh s;clear q g s u J;go_wp2_with (first
   | refine wpList_load_row rfl 126 (.tmp 3) rfl (w.heap.size+1) rfl 126 (ya (zn l)) (0,0) _ M.o Tryz.underlying126 rfl (size61 _) ?_
   | refine wpList_store_row rfl 126 (.tmp 2) (.tmp 34) rfl w.heap.size (ya (zn l)) rfl rfl 126 _ F.o (size61 _) (by rw [ZS,ZS]) (NY _) ?_)
  exact bodyPost_ret (v:=.agg (ya (zn l))) (results_cell_row Tryz.results71 _ _ w.heap.size 126 (ya (zn l)) (0,0) _ rfl (setRow_heap _ _ _ _ _ _ F.o) Tryz.underlying126 rfl (size61 _)) rfl ⟨rfl,below_setRow d.o (Nat.le_refl _) _⟩
theorem T8 (f:Nat->Int) (t:Int) (d:0<=t) (e:t<48) (w:World):(Instr.index 126 (.agg (ya f)) (zI t)).run Tryz.prog w=.ok (zI (f t.toNat)) w:=by
 have hg:=Vp f t.toNat (by omega);have c:=Tryz.underlying126;have a:=Tryz.underlying3;have b:(sizeOf 3).run Tryz.prog w=.ok 1 w:=by kernel_rfl
 simp only [Instr.index,Sem.run_bind,asIntOf,Sem.run_pure,Result.andThen_ok,run_underlying c];rw [if_pos (by constructor <;> omega)];simp only [Sem.run_bind,b,Result.andThen_ok,part,isAgg,run_underlying a,Nat.mul_one,hg];rfl
theorem R9 (w:World) (a:Option Addr) (n c:Nat) (l:zd) (h:RunsIn w a n c l) (d:zW l) :
 zC 71 #[.slice a n c] w fun e w'=>e=.returned (.agg (ya (zn l)))/\Below w.heap.size w w':=by
 obtain ⟨b,f,rfl,_⟩:=h.cells (by rw [h.len];exact d.1);exact Lt w b f n c l h d
end Go.Proofs.YtckpdfkobdgjeaaGreatDoor
