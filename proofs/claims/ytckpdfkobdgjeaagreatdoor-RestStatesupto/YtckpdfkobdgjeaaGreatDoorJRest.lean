/- RestStates: its walk: what came is written over, and nothing that was handed in is touched, nor what comes next. -/
import Derived.Test.YtckpdfkobdgjeaaGreatDoorJAll29
import Derived.Test.YtckpdfkobdgjeaaGreatDoorJAll27
import Derived.Test.YtckpdfkobdgjeaaGreatDoorJAll19
import Derived.Test.YtckpdfkobdgjeaaGreatDoorJAll20
import Derived.Test.YtckpdfkobdgjeaaGreatDoorJAll22
namespace Go.Proofs.YtckpdfkobdgjeaaGreatDoor
set_option maxRecDepth 100000
set_option maxHeartbeats 16000000
open Go.RowKit
set_option linter.unusedSectionVars false
variable [Inhabited Mk]
theorem Eu (w:World) (a b c d f g h i j k l m:Value) {e:World} (n:e=(w.alloc (.cells #[a,b,c,d] 40)).alloc (.cells #[f,g,h,i,j,k,l,m] 27)) :
 zj e w.heap.size a b c d/\wj e (w.heap.size+1) f g h i j k l m/\Below w.heap.size w e/\e.heap.size=w.heap.size+2:=by
 subst n;refine ⟨(Below.heap_alloc _ _ _ (by simp)).trans (heap_alloc_new w _),?_,(zr _ _).alloc (by simp) _,by simp⟩;have:=heap_alloc_new (w.alloc (.cells #[a,b,c,d] 40)) (.cells #[f,g,h,i,j,k,l,m] 27);rwa [World.size_alloc] at this
theorem wj.later {w w':World} {B:Nat} {a b c d e f g h:Value} (x:wj w B a b c d e f g h) (i:Below w.heap.size w w'):wj w' B a b c d e f g h:=(i.block _ (Array.getElem?_eq_some_iff.1 x).1).trans x
theorem Ek (fB:Vv) (w:World) (dB:(default:Mk).k<=w.heap.size) (c n:Int) (ab:Option Addr) (B ad:Nat) (l:QL) (U:Option Addr) (A V:Nat) (b:BL) (h:zY w ab B ad l U A V b) (x:Ac) (dV:wl w x) (ch:x.cn<=1048576) (v:Value) (dU:Zx w v) :
 zC 8 #[.agg (zS c n ab B ad U A V),.agg #[zI x.kind,zI x.n,zI x.rq.queue,zI x.rq.fr,zI x.rq.un,zI x.rq.kind,.slice x.rq.pa x.rq.pn x.rq.pc,.slice x.ca x.cn x.cc]] w fun e w'=>e=.returned (.bool true)/\Below w.heap.size w w':=by
 obtain ⟨S,dG⟩:=qA (w.heap.size);obtain ⟨fo,bq⟩:=qB ((w.alloc (.cells (zS c n ab B ad U A V) 40)).alloc (.cells #[zI x.kind,zI x.n,zI x.rq.queue,zI x.rq.fr,zI x.rq.un,zI x.rq.kind,.slice x.rq.pa x.rq.pn x.rq.pc,.slice x.ca x.cn x.cc] 27));obtain ⟨bC,cz,cb,ct⟩:=Eu w _ _ _ _ _ _ _ _ _ _ _ _ bq;have cS:=zh fun X (J:Below w.heap.size w X)=>UD X v (dU.laters J);have e6:=zh (wD fo c n ab B ad l U A V b (h.later cb));rw [dG] at bC cz ct;have aT:=zh h;have aw:=zh dV;have fp:=zh bC;have fq:=zh cz;have ee:=zh cb;have eU:=zh bq;have gh:=zh dG;have gi:=zh ct;have cH:=zh dB;obtain ⟨t,c1,c2,c3⟩:=bC.cells;rw [bq] at t c1 c2 c3;clear bC cz cb bq h dV ct dU dB;go_enter Tryz.func8,Tryz.ntmps8;go_wp2_with fail
 rw [<-eU.o];refine e6.o.mono ?_;rintro e ec ⟨cE,rfl,dy,bv⟩;have ew:=zh dy;have da:=zh (fp.o.later bv);have fs:=zh (fq.o.later bv);have bh:=zh (za ee.o bv);clear bv dy t c1 c2 c3;by_cases cu:cE=0
 case neg =>
  have gv:(cE != 0)=true:=by simpa using cu
  clear cu;go_wp2_with fail
  refine (cS.o ec bh.o).mono ?_;rintro e gx ⟨rfl,dH⟩;have aQ:=zh (za bh.o dH);clear dH;go_wp2;go_ret;exact ⟨rfl,aQ.o⟩
 subst cu;have cr:=ew.o.1 rfl;have dP:=YJ cr;have cs:=aT.o.later bh.o;have fb:=zh (WK ec c n ab B ad l U A V b cs (Yn cs cr.clean));have eJ:=zh dP;obtain ⟨t,c1,c2,c3⟩:=da.o.cells;clear cr dP cs;go_wp2_with fail
 refine fb.o.mono ?_;rintro e aL ⟨g,bA,dW,bl,bB,b1,rfl,b4,fE,fF,dO,dI,bz⟩;clear fE fF;obtain ⟨ai,bt⟩:=qB (aL.alloc (.cells (zS c n (some ⟨g,0,none⟩) B bA bl A bB) 40));have aZ:Below aL.heap.size aL ai:=by rw [bt];exact zr _ _
 have cM:Zh (zj ai aL.heap.size (zI c) (zI n) (.slice (zO g 0) B bA) (.slice bl A bB)):=zh (by rw [bt];exact zj.new aL _ _ _ _);have e4:=zh (show zY ai (zO g 0) B bA dW bl A bB b1 from zY.later ⟨y6 b4.qs,ym b4.bks⟩ aZ);have eB:=zh dO;have er:=zh dI;have bi:=zh (za (za bh.o bz) aZ);have db:=zh ((da.o.later bz).later aZ);have dc:=zh ((fs.o.later bz).later aZ);have cO:=zh (GT ai c n ab B ad l U A V b (aT.o.later bi.o) x (aw.o.later bi.o) ch);obtain ⟨cY,b6⟩:=qA (aL.heap.size);have bP:=zh bt;rw [b6] at cM;have eK:=zh b6;obtain ⟨cF,bZ⟩:=qA (ZO ⟨c,n,l,b⟩ x);obtain ⟨c8,b9⟩:=qA (YR ⟨c,n,zi l,zg b⟩ x.bare);rw [bZ,b9] at cO;have cG:=zh bZ;have cJ:=zh b9;clear b4 dO dI bz aZ bt bZ b9 t c1 c2 c3 b6;go_upto_region 4 with fail
 rw [<-bP.o,eK.o];obtain ⟨bm,bn,bo,bp⟩:=db.o.cells;obtain ⟨aW,aX,aA,aB,aC,aD,aE,aY⟩:=dc.o.cells;go_wp2_with fail
 refine cO.o.mono ?_;rintro e aM ⟨dm,dX,d4,ae,d7,de,W,dh,rfl,dE,dL⟩;obtain ⟨P,b5⟩:=qA (aM.heap.size);obtain ⟨Q,b7⟩:=qA (ai.heap.size);obtain ⟨R,bu⟩:=qB (aM.alloc (.cells (zS dm dX d4 ae d7 de W dh) 40));have a0:Below aM.heap.size aM R:=by rw [bu];exact zr _ _
 have cA:zj R P (zI dm) (zI dX) (.slice d4 ae d7) (.slice de W dh):=by rw [bu,<-b5];exact zj.new aM _ _ _ _
 obtain ⟨fR,fv,ao,b3⟩:=EC dE;have cf:=za dL a0;rw [b7] at b3 cf;have aU:=zh ao;have ag:=zh (ao.later a0);have aS:=zh b3;have aV:=zh cA;have en:=zh cf;have ax:=zh b5;have cI:=zh b7;have aR:Zh ((default:Mk).k<=Q):=zh (by have:=cH.o;have:=bi.o.size;have:=cI.o;omega);have f:=zh (Wiped.refl Q P R);have eY:=zh bu;obtain ⟨aj,ak,Y,Z⟩:=cA.cells;have gp:=ao.2.le;have go:=ao.2.capb;have gu:=ao.1.le;have gt:=ao.1.capb;clear b5 b7 bu a0 cA ao b3 cf dL dE bm bn bo bp aW aX aA aB aC aD aE aY;go_upto_region 5 with fail
 rw [<-eY.o,ax.o];go_wp2_with fail
 go_loopg [8] W (fun I (p:Value) O=>∃ k:Nat,p=zI k/\k<=W/\I=W-k/\Wiped Q P R O)
 case atStart=>exact ⟨0,rfl,Nat.zero_le _,rfl,f.o⟩
 case round =>
  clear f aj ak Y Z;obtain ⟨k,rfl,fC,rfl,ap⟩:=hrel;have f:=zh ap;obtain ⟨aj,ak,Y,Z⟩:=(show zj wr P _ _ _ _ from ap.box.trans aV.o).cells;clear ap;by_cases D:k<W
  ·obtain ⟨H,a1,aa,a8⟩:=ag.o.2.cells (by omega);have ba:=aU.o.2.lt (by omega) aa;rw [ax.o] at ba;have an:=aS.o.bks (by omega) H a1 aa;have G:=zh an;have E:Zh (H≠P):=zh (by omega);have bG:=zh (wA (ag.o.2.thaw (by omega) H a1 aa) aR.o an);obtain ⟨t,c1,c2,c3,c4,c5,aG⟩:=a8 k D;have au:=ag.o.2.bites k D;have ar:=aU.o.2.bites k D;have cy:=ag.o.2.rqs k D;have aI:=aU.o.2.rqs k D;have cv:=aS.o.bs k D;have cx:=aS.o.ps k D;obtain ⟨X,J⟩:=qA (bk fv k);rw [J] at t c1 c2 c3 c4 c5 aG au ar cy aI cv cx;have aN:=zh t;have aO:=zh c1;have av:=zh c2;have cC:=zh c3;have cD:=zh c4;have bD:=zh c5;have bE:=zh aG;have bK:=zh au;have es:=zh ar;have bO:Zh (RunsIn R X.rq.pa X.rq.pn X.rq.pc X.rq.ps):=zh cy;have eS:Zh (RunsIn aM X.rq.pa X.rq.pn X.rq.pc X.rq.ps):=zh aI;have eD:=zh cv;have eF:=zh cx;subst aa;have cm:(k:Int)<W:=(by omega);have fD:¬((k:Int)<0):=(by omega);clear a8 ba an t c1 c2 c3 c4 c5 aG au ar cy aI cv cx J;go_wp2_with fail
   go_loopg [9] X.bn (fun I (p:Value) O=>∃ i:Nat,p=zI i/\i<=X.bn/\I=X.bn-i/\Wiped Q P R O)
   case atStart=>exact ⟨0,rfl,Nat.zero_le _,rfl,f.o⟩
   obtain ⟨i,rfl,ck,rfl,a⟩:=hrel;obtain ⟨cB,M,C,a2,L⟩:=wf (a.cell _ _ _ bE.o);obtain ⟨aj,ak,Y,Z⟩:=(show zj wr P _ _ _ _ from a.box.trans aV.o).cells;by_cases co:i<M
   ·obtain ⟨rfl,rfl,rfl⟩:=L.resolve_right (by omega);obtain ⟨s,N,q,m⟩:=bK.o.cells (by omega);have r:=eD.o (by omega) s N q;have af:=es.o.lt (by omega) q;rw [ax.o] at af;have y:=wA (bK.o.thaw (by omega) s N q) aR.o r;obtain ⟨bd,bf⟩:=zf (a.cell _ _ _ (m i (by omega)).1);obtain ⟨be,bg⟩:=zf (a.cell _ _ _ (m i (by omega)).2);have bY:∀ j,wr.frozen? (zA s j)=false:=fun j=>(a.froz s j).trans (y j);have ah:=zh ((a.set (u:=zI 0) r (by omega) (m i (by omega)).1 (wb.int _ _)).set (u:=zI 0) r (by omega) (m i (by omega)).2 (wb.int _ _));rw [q] at a2;have cg:=bK.o.bound;have am:(i:Int)<X.bn:=(by omega);have cl:¬((i:Int)<0):=(by omega);clear a L r af y m q;go_wp2;go_roundg (X.bn-(i+1))
    case measure=>omega
    case rel=>exact ⟨i+1,by go_num,by omega,rfl,ah.o⟩
   have am:¬((i:Int)<M):=(by omega);have f:=zh a;clear a L;go_wp2_with fail
   go_loopg [10] X.rq.pn (fun I (p:Value) O=>∃ i:Nat,p=zI i/\i<=X.rq.pn/\I=X.rq.pn-i/\Wiped Q P R O)
   case atStart=>exact ⟨0,rfl,Nat.zero_le _,rfl,f.o⟩
   obtain ⟨i,rfl,ck,rfl,a⟩:=hrel;obtain ⟨cB,M,C,a2,L⟩:=wf (a.cell _ _ _ bD.o);obtain ⟨aj,ak,Y,Z⟩:=(show zj wr P _ _ _ _ from a.box.trans aV.o).cells;by_cases co:i<M
   ·obtain ⟨rfl,rfl,rfl⟩:=L.resolve_right (by omega);obtain ⟨s,N,q,m⟩:=bO.o.cells (by omega);have r:=eF.o (by omega) s N q;have af:=eS.o.lt (by omega) q;rw [ax.o] at af;have y:=wA (bO.o.thaw (by omega) s N q) aR.o r;obtain ⟨bd,bf⟩:=zf (a.cell _ _ _ (m i (by omega)).1);obtain ⟨be,bg⟩:=zf (a.cell _ _ _ (m i (by omega)).2);have bY:∀ j,wr.frozen? (zA s j)=false:=fun j=>(a.froz s j).trans (y j);have ah:=zh ((a.set (u:=zI 0) r (by omega) (m i (by omega)).1 (wb.int _ _)).set (u:=zI 0) r (by omega) (m i (by omega)).2 (wb.int _ _));rw [q] at a2;have cg:=bO.o.bound;have am:(i:Int)<X.rq.pn:=(by omega);have cl:¬((i:Int)<0):=(by omega);clear a L r af y m q;go_wp2;go_roundg (X.rq.pn-(i+1))
    case measure=>omega
    case rel=>exact ⟨i+1,by go_num,by omega,rfl,ah.o⟩
   have am:¬((i:Int)<M):=(by omega);have f:=zh a;clear a L;obtain ⟨bd,bf⟩:=zf (f.o.cell _ _ _ aN.o);obtain ⟨be,bg⟩:=zf (f.o.cell _ _ _ aO.o);obtain ⟨gy,f8⟩:=zf (f.o.cell _ _ _ av.o);obtain ⟨gz,gB⟩:=zf (f.o.cell _ _ _ cC.o);obtain ⟨gA,gC⟩:=zf (f.o.cell _ _ _ cD.o);obtain ⟨ga,gk,gd,gD,_⟩:=wf (f.o.cell _ _ _ bD.o);obtain ⟨gb,gl,ge,gE,_⟩:=wf (f.o.cell _ _ _ bE.o);have fA:∀ j,wr.frozen? (zA H j)=false:=fun j=>(f.o.froz H j).trans (bG.o j);have bQ:=zh (((((((f.o.set (u:=zI 0) G.o E.o aN.o (wb.int _ _)).set (u:=zI 0) G.o E.o aO.o (wb.int _ _)).set (u:=zI 0) G.o E.o av.o (wb.int _ _)).set (u:=zI 0) G.o E.o cC.o (wb.int _ _)).set (u:=zI 0) G.o E.o cD.o (wb.int _ _)).set (u:=.slice none 0 0) G.o E.o bD.o (wb.nil _ _ _)).set (u:=.slice none 0 0) G.o E.o bE.o (wb.nil _ _ _));go_wp2;go_roundg (W-(k+1))
   case measure=>omega
   case rel=>exact ⟨k+1,by go_num,by omega,rfl,bQ.o⟩
  obtain rfl:k=W:=by omega
  have cm:¬((k:Int)<k):=by omega
  go_wp2_with fail
  go_loopg [11] ae (fun I (p:Value) O=>∃ k:Nat,p=zI k/\k<=ae/\I=ae-k/\Wiped Q P R O)
  case atStart=>exact ⟨0,rfl,Nat.zero_le _,rfl,f.o⟩
  obtain ⟨k,rfl,fC,rfl,ap⟩:=hrel;have f:=zh ap;obtain ⟨aj,ak,Y,Z⟩:=(show zj wr P _ _ _ _ from ap.box.trans aV.o).cells;clear ap;by_cases D:k<ae
  ·obtain ⟨H,a1,aa,a8⟩:=ag.o.1.cells (by omega);have ba:=aU.o.1.lt (by omega) aa;rw [ax.o] at ba;have an:=aS.o.qs (by omega) H a1 aa;have G:=zh an;have E:Zh (H≠P):=zh (by omega);have bG:=zh (wA (ag.o.1.thaw (by omega) H a1 aa) aR.o an);obtain ⟨t,c1,c2⟩:=a8 k D;have au:=ag.o.1.caps k D;have ar:=aU.o.1.caps k D;have cw:=aS.o.caps k D;obtain ⟨X,J⟩:=qA (qu fR k);rw [J] at t c1 c2 au ar cw;have aN:=zh t;have aO:=zh c1;have av:=zh c2;have bL:=zh au;have ev:=zh ar;have eE:=zh cw;subst aa;have cm:(k:Int)<ae:=(by omega);have fD:¬((k:Int)<0):=(by omega);clear a8 ba an t c1 c2 au ar cw J;go_wp2_with fail
   go_loopg [12] X.cn (fun I (p:Value) O=>∃ i:Nat,p=zI i/\i<=X.cn/\I=X.cn-i/\Wiped Q P R O)
   case atStart=>exact ⟨0,rfl,Nat.zero_le _,rfl,f.o⟩
   obtain ⟨i,rfl,ck,rfl,a⟩:=hrel;obtain ⟨cB,M,C,a2,L⟩:=wf (a.cell _ _ _ av.o);obtain ⟨aj,ak,Y,Z⟩:=(show zj wr P _ _ _ _ from a.box.trans aV.o).cells;by_cases co:i<M
   ·obtain ⟨rfl,rfl,rfl⟩:=L.resolve_right (by omega);obtain ⟨s,N,q,m⟩:=bL.o.cells (by omega);have r:=eE.o (by omega) s N q;have af:=ev.o.lt (by omega) q;rw [ax.o] at af;have y:=wA (bL.o.thaw (by omega) s N q) aR.o r;obtain ⟨bd,bf⟩:=zf (a.cell _ _ _ (m i (by omega)).1);obtain ⟨be,bg⟩:=zf (a.cell _ _ _ (m i (by omega)).2);have bY:∀ j,wr.frozen? (zA s j)=false:=fun j=>(a.froz s j).trans (y j);have ah:=zh ((a.set (u:=zI 0) r (by omega) (m i (by omega)).1 (wb.int _ _)).set (u:=zI 0) r (by omega) (m i (by omega)).2 (wb.int _ _));rw [q] at a2;have cg:=bL.o.bound;have am:(i:Int)<X.cn:=(by omega);have cl:¬((i:Int)<0):=(by omega);clear a L r af y m q;go_wp2;go_roundg (X.cn-(i+1))
    case measure=>omega
    case rel=>exact ⟨i+1,by go_num,by omega,rfl,ah.o⟩
   have am:¬((i:Int)<M):=(by omega);have f:=zh a;clear a L;obtain ⟨bd,bf⟩:=Ex (f.o.cell _ _ _ aN.o);obtain ⟨be,bg⟩:=zf (f.o.cell _ _ _ aO.o);obtain ⟨f9,gj,gc,f8,_⟩:=wf (f.o.cell _ _ _ av.o);have fA:∀ j,wr.frozen? (zA H j)=false:=fun j=>(f.o.froz H j).trans (bG.o j);have bP:=zh (((f.o.set (u:=.string ⟨#[]⟩) G.o E.o aN.o (wb.str _ _)).set (u:=zI 0) G.o E.o aO.o (wb.int _ _)).set (u:=.slice none 0 0) G.o E.o av.o (wb.nil _ _ _));go_wp2;go_roundg (ae-(k+1))
   case measure=>omega
   case rel=>exact ⟨k+1,by go_num,by omega,rfl,bP.o⟩
  obtain rfl:k=ae:=by omega
  have cm:¬((k:Int)<k):=by omega
  have aH:Below ai.heap.size ai wr:=by rw [cI.o];exact en.o.trans f.o.below
  have eo:=zh (za bi.o aH);have fl:=zh (db.o.later aH);have fm:=zh (dc.o.later aH);have fn:=zh (cM.o.later aH);have e1:=zh (e4.o.later aH);obtain ⟨az,a5⟩:=qB (wr.alloc (.cells #[zI 0,zI 5,zI 3,zI 9] 55));have aF:Below wr.heap.size wr az:=by rw [a5];exact zr _ _
  have cj:RunsIn az (zO wr.heap.size 0) 2 2 [(0,5),(3,9)]:=by rw [a5];exact R7 wr _ _ 2 rfl rfl (by decide)
  have bJ:=zh (za eo.o aF);obtain ⟨cX,dF⟩:=qA (yq [(0,5),(3,9)] x.rq);obtain ⟨bF,dA⟩:=qA ((if yq [(0,5),(3,9)] x.rq=0 then Zf x.rq [(0,5),(3,9)] else ([],false)));have cP:=zh (JR az x.rq (aw.o.later bJ.o).1 _ 2 2 _ cj);have cT:=zh fun X fa (J:Below w.heap.size w X) (ci:RunsIn X fa 2 2 [(0,5),(3,9)])=>JR X x.rq (aw.o.later J).1 fa 2 2 _ ci;have cU:=zh fun X fa (J:Below w.heap.size w X) (ci:RunsIn X fa 2 2 [(0,5),(3,9)])=>Ej X x.rq (aw.o.later J).1 fa 2 2 _ ci;rw [dA,dF] at cP cT cU;have bN:=zh cj;have fj:=zh (fl.o.later aF);have c9:=zh (fm.o.later aF);have fk:=zh (fn.o.later aF);have e2:=zh (e1.o.later aF);obtain ⟨aW,aX,aA,aB,aC,aD,aE,aY⟩:=c9.o.cells;rw [a5] at aA aB aC aD aE;have bQ:=zh a5;clear aH aF cj a5 dF dA aW aX aY;go_wp2_with fail
  rw [<-bQ.o];refine cP.o.mono ?_;rintro e ed ⟨gm,aq,gn,rfl,bb,dM⟩;obtain ⟨F,dz⟩:=qA (wr.heap.size);rw [dz] at bN ⊢;have ep:=zh dM;obtain ⟨ay,b8⟩:=qA (az.heap.size);rw [b8] at bb;have bj:=zh bb;have eT:=zh b8;have gr:F<ay:=by have:=bN.o.lt (by omega) rfl;omega
  have gs:=bb.1.le;have gq:=bb.1.capb;have eC:Zh ((default:Mk).k<=ay):=zh (by have:=cH.o;have:=bJ.o.size;omega);have f:=zh (Wiped.refl ay 0 ed);clear bb dM dz b8 aA aB aC aD aE aj ak Y Z;go_wp2_with fail
  go_loopg [17] aq (fun I (p:Value) O=>∃ i:Nat,p=zI i/\i<=aq/\I=aq-i/\Wiped ay 0 ed O)
  case atStart=>exact ⟨0,rfl,Nat.zero_le _,rfl,f.o⟩
  obtain ⟨i,rfl,ck,rfl,a⟩:=hrel;by_cases co:i<aq
  ·obtain ⟨s,N,q,m⟩:=bj.o.1.cells (by omega);have r:=(bj.o.2 s N q).1;have y:=wA (bj.o.1.thaw (by omega) s N q) eC.o r;obtain ⟨bd,bf⟩:=zf (a.cell _ _ _ (m i (by omega)).1);obtain ⟨be,bg⟩:=zf (a.cell _ _ _ (m i (by omega)).2);have bY:∀ j,wr.frozen? (zA s j)=false:=fun j=>(a.froz s j).trans (y j);have ah:=zh ((a.set (u:=zI 9) r (by omega) (m i (by omega)).1 (wb.int _ _)).set (u:=zI 0) r (by omega) (m i (by omega)).2 (wb.int _ _));have cg:=bj.o.1.bound;have am:(i:Int)<aq:=(by omega);have cl:¬((i:Int)<0):=(by omega);subst q;clear a r y m;go_wp2;go_roundg (aq-(i+1))
   case measure=>omega
   case rel=>exact ⟨i+1,by go_num,by omega,rfl,ah.o⟩
  obtain rfl:i=aq:=by omega
  have am:¬((i:Int)<i):=by omega
  have al:Below az.heap.size az wr:=ep.o.trans (by rw [eT.o];exact a.below);have aQ:=zh (za bJ.o al);have c6:=zh (fj.o.later al);have c7:=zh (c9.o.later al);have fi:=zh (fk.o.later al);have eA:=zh (bN.o.later al);have e3:=zh (e2.o.later al);have cQ:=zh (GT wr c n ab B ad l U A V b (aT.o.later aQ.o) x (aw.o.later aQ.o) ch);rw [cG.o,cJ.o] at cQ;obtain ⟨t,c1,c2,c3⟩:=c6.o.cells;obtain ⟨aW,aX,aA,aB,aC,aD,aE,aY⟩:=c7.o.cells;clear a al;go_wp2_with fail
  refine cQ.o.mono ?_;rintro e aJ ⟨c5,dZ,d5,ea,d8,df,dk,di,rfl,dC,dJ⟩;obtain ⟨bR,a3⟩:=qB (aJ.alloc (.cells (zS c5 dZ d5 ea d8 df dk di) 40));have bU:Below aJ.heap.size aJ bR:=by rw [a3];exact zr _ _
  have cK:Zh (zj bR aJ.heap.size (zI c5) (zI dZ) (.slice d5 ea d8) (.slice df dk di)):=zh (by rw [a3];exact zj.new aJ _ _ _ _);have d:=za dJ bU;have bI:=zh (za aQ.o d);have cZ:=zh (c6.o.later d);have c0:=zh (c7.o.later d);have fh:=zh (fi.o.later d);have ex:=zh (eA.o.later d);have eZ:=zh (e3.o.later d);have eG:=zh (dC.later bU);have cR:=zh (Hu fB bR c n ab B ad l U A V b (aT.o.later bI.o) eJ.o x (aw.o.later bI.o) ch);rw [cG.o,cJ.o] at cR;obtain ⟨bm,bn,bo,bp⟩:=cZ.o.cells;obtain ⟨y,dr,ds,dt,du,dv,dw,dx⟩:=c0.o.cells;rw [a3] at bm bn bo bp y dr ds dt du dv dw dx;have eV:=zh a3;clear dC dJ bU d a3 t c1 c2 c3 aW aX aA aB aC aD aE aY;go_wp2_with fail
  rw [<-eV.o];refine cR.o.mono ?_;rintro e aK ⟨aG,d0,d6,eb,d9,dg,dl,dj,rfl,dD,dK⟩;obtain ⟨gf,b0⟩:∃ bH,aJ.heap.size=bH:=⟨_,rfl⟩;rw [b0] at cK;rw [b0];obtain ⟨bS,a4⟩:=qB (aK.alloc (.cells (zS aG d0 d6 eb d9 dg dl dj) 40));have bV:Below aK.heap.size aK bS:=by rw [a4];exact zr _ _
  have cL:Zh (zj bS aK.heap.size (zI aG) (zI d0) (.slice d6 eb d9) (.slice dg dl dj)):=zh (by rw [a4];exact zj.new aK _ _ _ _);have d:=za dK bV;have aP:=zh (za bI.o d);have ff:=zh (cZ.o.later d);have cW:=zh (c0.o.later d);have fg:=zh (fh.o.later d);have e5:=zh (cK.o.later d);have bM:=zh (ex.o.later d);have e0:=zh (eZ.o.later d);have eH:=zh (eG.o.later d);have eI:=zh (dD.later bV);have fc:=zh (cT.o bS _ aP.o bM.o);obtain ⟨t,c1,c2,c3,c4,dp,dq,bX⟩:=cW.o.cells;rw [a4] at c2 c3 c4 dp dq;have eW:=zh a4;clear dD dK bV d a4 bm bn bo bp y dr ds dt du dv dw dx t c1 bX b0;go_wp2_with fail
  rw [<-eW.o];refine fc.o.mono ?_;rintro e f3 ⟨ft,fY,fP,rfl,dQ,a6⟩;obtain ⟨gg,b2⟩:∃ bH,aK.heap.size=bH:=⟨_,rfl⟩;rw [b2] at cL;rw [b2];have eg:=zh (za aP.o a6);have fd:=zh (cU.o f3 _ eg.o (bM.o.later a6));have cV:=cW.o.later a6;obtain ⟨t,c1,Y,Z,fx,fy,fz,bX⟩:=cV.cells;have ef:=zh a6;have eM:=zh dQ;clear cV dQ a6 t c1 bX c2 c3 c4 dp dq b2;go_wp2_with fail
  refine fd.o.mono ?_;rintro e f4 ⟨fu,dY,fQ,rfl,dR,cd⟩;have d:=za ef.o cd;have eh:=zh (za aP.o d);have eP:=zh dR.1;have eN:=zh (eM.o.1.later cd);have et:=zh d;clear dR cd d Y Z fx fy fz;go_wp2_with fail
  refine (cS.o f4 eh.o).mono ?_;rintro e f5 ⟨rfl,bw⟩;have d:=za et.o bw;have ei:=zh (za aP.o d);have fe:=zh (ZW f5 c n ab B ad l U A V b (aT.o.later ei.o) c n _ B bA dW bl A bB b1 (e0.o.later d) rfl rfl eB.o.symm er.o.symm);obtain ⟨fG,fH,fI,fJ⟩:=(ff.o.later d).cells;obtain ⟨fK,fM,fN,fO⟩:=(fg.o.later d).cells;have eu:=zh d;have eQ:=zh (eP.o.later bw);have eO:=zh (eN.o.later bw);clear d bw;go_wp2_with fail
  refine fe.o.mono ?_;rintro e f6 ⟨rfl,bx⟩;have d:=za eu.o bx;have ej:=zh (za aP.o d);obtain ⟨fS,a0,fT,fw,dS,dT,d1,d2,d3,aI⟩:=EA (eH.o.later d) (eI.o.later d);have e7:=zh (ZW f6 _ _ _ _ _ fS _ _ _ a0 dS _ _ _ _ _ fT _ _ _ fw dT d1 d2 d3 aI);obtain ⟨fU,fV,fW,fX⟩:=(e5.o.later d).cells;obtain ⟨fZ,f0,f1,f2⟩:=(cL.o.later d).cells;have cp:=eO.o.later bx;have cq:=eQ.o.later bx;obtain rfl:dY=fY:=by rw [cp.len,cq.len]
  have eL:=zh cp;have eR:=zh cq;have ey:=zh (bM.o.later d);clear d bx dS dT d1 d2 d3 aI fG fH fI fJ fK fM fN fO cp cq;go_wp2_with fail
  refine e7.o.mono ?_;rintro e f7 ⟨rfl,a7⟩;have e8:=zh (SS f7 ft fu dY fP fQ bF.1 (eL.o.later a7) (eR.o.later a7));have ez:=zh (ey.o.later a7);have ek:=zh (za ej.o a7);clear a7 fU fV fW fX fZ f0 f1 f2;go_wp2_with fail
  refine e8.o.mono ?_;rintro e bc ⟨rfl,a9⟩;have ce:=yM a9;obtain ⟨bT,br⟩:=qB (bc.alloc (.cells #[zI 0,zI 5,zI 3,zI 9] 55));have bW:Below bc.heap.size bc bT:=by rw [br];exact zr _ _
  have dN:RunsIn bT (zO bc.heap.size 0) 2 2 [(0,5),(3,9)]:=by rw [br];exact R7 bc _ _ 2 rfl rfl (by decide)
  have el:=zh (za (za ek.o ce) bW);have e9:=zh (Qt bT _ _ 2 2 2 _ ((ez.o.later ce).later bW) dN);have eX:=zh br;clear a9 ce br bW dN;go_wp2_with fail
  rw [<-eX.o];refine e9.o.mono ?_;rintro e gw ⟨rfl,a9⟩;have em:=zh (za el.o (yM a9));clear a9;go_wp2;go_ret;exact ⟨rfl,em.o⟩
end Go.Proofs.YtckpdfkobdgjeaaGreatDoor
