/- LogKept: the walk of its own function. -/
import Derived.Test.YtckpdfkobdgjeaaGreatDoorHX
import Derived.Test.YtckpdfkobdgjeaaGreatDoorHAll31
import Derived.Test.YtckpdfkobdgjeaaGreatDoorHAll30
namespace Go.Proofs.YtckpdfkobdgjeaaGreatDoor
set_option maxRecDepth 100000
set_option maxHeartbeats 8000000
open Go.RowKit
theorem MM (c:Int) (n:Nat) (w:World) (g:-9223372036854775808<=c) (h:c<=9223372036854775807) (hn:0<n) (k:n<=5000) :
 zC 19 #[zI c,zI n] w fun e w'=>e=.returned (zI (We c n))/\w'=w:=by
 have j:(0:Int)<n:=by omega
 have f:¬(n:Int)=0:=by omega
 by_cases d:c<0
 ·have b:-((c+1).tmod n)=((We c n:Nat):Int):=by
   rw [We,if_pos d,<-Int.neg_tmod,Int.tmod_eq_emod_of_nonneg (by omega),Int.toNat_of_nonneg (Int.emod_nonneg _ f)]
  have a:=zh b;clear b;go_enter Tryz.func19,Tryz.ntmps19;go_wp2;go_ret;exact ⟨yK a.o,rfl⟩
 ·have i:0<=c:=by omega
  have a:Zh (c % n=((We c n:Nat):Int)):=by
   show c % n=((We c n:Nat):Int);rw [We,if_neg d];exact (Int.toNat_of_nonneg (Int.emod_nonneg _ f)).symm
  go_enter Tryz.func19,Tryz.ntmps19;go_wp2;go_ret;exact ⟨yK a.o,rfl⟩
def VO (l:List Ac) (n:Nat):List Int:=(List.range n).map fun i=>((Zs (l.take (i+1))).size:Int)
theorem Rc (l:List Ac) (n:Nat):(VO l n).length=n:=by simp [VO]
theorem Ky (l:List Ac) (n:Nat):VO l (n+1)=VO l n++[((Zs (l.take (n+1))).size:Int)]:=by simp [VO,List.range_succ]
theorem Gc (l:List Ac) {n i:Nat} (h:i<n):(VO l n).getD i 0=((Zs (l.take (i+1))).size:Int):=by simp [VO,List.getD,h]
theorem N8 {x:Ac} (h:Sc x=0):(Ud x).size<=200:=by
 have a:=h;unfold Sc at a
 split at a
 ·cases a
 split at a
 ·cases a
 rename_i h1 h2;unfold Ud;rw [if_pos h,VD];unfold wG;simp only [List.length_append,List.length_cons,List.length_nil,ZQ];omega
theorem QX {l:List Ac}:∀ n,n<=l.length->(∀ x∈l.take n,Sc x=0)->(Zs (l.take n)).size<=200*n
 | 0,_,_=>by rw [List.take_zero];exact Nat.le_refl _
 | n+1,h,hE=>by
  have c:=QX (l:=l) n (by omega) (fun x a=>hE x (by rw [List.take_succ_eq_append_getElem (show n<l.length by omega)];exact List.mem_append_left _ a));have b:=N8 (hE l[n] (by rw [List.take_succ_eq_append_getElem (show n<l.length by omega)];exact List.mem_append_right _ (List.mem_singleton.2 rfl)));rw [XR (show n<l.length by omega),ByteArray.size_append];omega
theorem AcsIn.take {w:World} {a:Option Addr} {n cap:Nat} {l:List Ac} (h:AcsIn w a n cap l) {k:Nat} (j:k<=n):AcsIn w a k cap (l.take k):=by
 have m:=h.len;have o:=h.le;refine ⟨by simp;omega,by omega,h.capb,fun p=>?_,fun x e=>h.each x (List.mem_of_mem_take e)⟩;obtain ⟨g,f,c,d⟩:=h.cells (by omega);refine ⟨g,f,c,fun i X b=>d i X ?_⟩;rw [List.getElem?_take] at b
 split at b
 ·exact b
 cases b
theorem O4 {s:ByteArray} {k j:Nat} (b:k<=s.size) (a:j<k):byt (s.extract 0 k) j=byt s j:=by
 unfold byt;rw [dif_pos (by rw [ByteArray.size_extract];omega),dif_pos (by omega),ByteArray.getElem_extract];simp
theorem Mo (cR:Vv) (w:World) (a:Option Addr) (n cap:Nat) (l:QL) (h:QsIn w a n cap l) (Z:Option Addr) (A aa:Nat) (t:List Ac) (aC:AcsIn w Z A aa t) (al:Int) (cZ:-9223372036854775808<=al) (c0:al<=9223372036854775807) (v:Value) (bv:Zx w v) :
 zC 5 #[.slice a n cap,.slice Z A aa,zI al] w fun e w'=>e=.returned (.bool true)/\Below w.heap.size w w':=by
 have bM:=zh h;have aN:=zh aC;have cz:=zh bv;have du:=aC.capb;have dv:=aC.le;have aj:=zh aC.len;have ax:=zh fun X (ao:Below w.heap.size w X)=>UD X v (bv.laters ao);obtain ⟨T,bi⟩:=qA (z9 l);have bR:=zh (Yw w a n cap l h);rw [bi] at bR;have a3:=zh bi;obtain ⟨S,cU⟩:=qA (w.heap.size);have aR:=zh cU;clear h aC bv bi;by_cases cM:20<A
 ·have a9:(20:Int)<A:=by omega
  have cK:decide ((20:Int)<A)=true:=decide_eq_true a9;clear cM;go_enter Tryz.func5,Tryz.ntmps5;go_wp2_with fail
  refine (ax.o w (Below.refl _ _)).mono ?_;rintro e bB ⟨rfl,f⟩;have ad:=zh f;clear f;go_wp2;go_ret;exact ⟨rfl,ad.o⟩
 have a9:¬((20:Int)<A):=by omega
 have cK:decide ((20:Int)<A)=false:=decide_eq_false a9;go_enter Tryz.func5,Tryz.ntmps5;go_wp2_with fail
 refine bR.o.mono ?_;rintro e ck ⟨rfl,f⟩;have a1:=zh f;clear f;by_cases bj:T=0
 case neg =>
  have dw:(T != 0)=true:=by simpa using bj
  clear bj;go_wp2_with fail
  refine (ax.o ck a1.o).mono ?_;rintro e bB ⟨rfl,f⟩;have ad:=zh (za a1.o f);clear f;go_wp2;go_ret;exact ⟨rfl,ad.o⟩
 subst bj;have cm:Zh (Below S w ck):=zh (by rw [<-aR.o];exact a1.o);go_wp2_with fail
 go_loopg [7,8,9] A (fun bb (dg u8 dh:Value) a0=>∃ (j:Nat) (aA:Option Addr) (aB:Nat),dg=.string (Zs (t.take j))/\u8=.slice aA j aB/\dh=zI j/\j<=A/\bb=A-j/\(∀ x∈t.take j,Sc x=0)/\zG a0 S (.slice aA j aB) (VO t j)/\Below S w a0)
 case atStart=>exact ⟨0,none,0,rfl,rfl,rfl,Nat.zero_le _,by simp,fun x E=>by simp at E,World.ownsRow_nil _ _ _ _,cm.o⟩
 case round =>
  obtain ⟨j,aA,aB,rfl,rfl,rfl,dC,rfl,aI,bq,bo⟩:=hrel;have aE:Below w.heap.size w wr:=by rw [aR.o];exact bo
  have cv:=zh aI;have bL:=zh bq;have aQ:=zh aE;have aW:j<=t.length:=by have:=aj.o;omega
  have c6:=QX j aW aI;have dm:=zh aW;obtain ⟨s,ah⟩:=qA (Zs (t.take j));rw [ah] at c6 ⊢;have cx:=zh ah;by_cases c5:j<A
  ·have dE:(j:Int)<A:=(by omega);have dF:¬((j:Int)<0):=(by omega);have aX:j<t.length:=(by have:=aj.o;omega);obtain ⟨X,ao⟩:∃ X,t[j]?=some X:=⟨t[j],List.getElem?_eq_getElem aX⟩;have b5:X∈t:=List.mem_of_getElem? ao;obtain ⟨dr,dJ,c7,cj⟩:=aN.o.cells (by omega);have N:=fun c9 H aL=>cell_later aE (cj j X ao c9 H aL);have am:=N 0 _ rfl;have a5:=N 1 _ rfl;have a6:=N 2 _ rfl;have a7:=N 3 _ rfl;have a8:=N 4 _ rfl;have cG:=N 5 _ rfl;have cH:=N 6 _ rfl;have cI:=N 7 _ rfl;simp only [Nat.add_zero] at am;subst c7;have bV:=zh (Vy wr X ((aN.o.each X b5).later aE));have b4:t[j]=X:=Option.some.inj ((List.getElem?_eq_getElem aX).symm.trans ao);have bQ:=zh b4;obtain ⟨F,bd⟩:=qA (Sc X);obtain ⟨b,bm⟩:=qA (Ud X);rw [bd,bm] at bV;have bJ:=zh bd;have bI:=zh bm;clear aI bq bo aE aW ah ao b5 cj N bd bm b4;go_wp2_with fail
   refine bV.o.mono ?_;rintro e ai ⟨rfl,aU⟩;have aO:=zh (za aQ.o aU);clear am a5 a6 a7 a8 cG cH cI;by_cases be:F=0
   case neg =>
    have dt:(F != 0)=true:=(by simpa using be);clear be aU;go_wp2_with fail
    refine (ax.o ai aO.o).mono ?_;rintro e bB ⟨rfl,f⟩;have ad:=zh (za aO.o f);clear f;go_wp2;go_ret;exact ⟨rfl,ad.o⟩
   subst be;have cY:=N8 bJ.o;rw [bI.o] at cY;have cd:Zs (t.take (j+1))=s++b:=(by rw [XR aX,bQ.o,cx.o,bI.o]);have dG:(s++b).size=s.size+b.size:=ByteArray.size_append;have br:=zy bL.o aU;obtain ⟨bC,aY⟩:=qB (ai.alloc (.cells #[zI ((s.size:Int)+(b.size:Int))] 3));have ap:Below ai.heap.size ai bC:=(by rw [aY];exact zr _ _);have cW:S<=ai.heap.size:=(by have:=aO.o.size;have:=aR.o;omega);obtain ⟨cL,kd,au,bu,bp,aq,c4⟩:=ZC bC S (.slice aA j aB) (VO t j) ((s.size:Int)+(b.size:Int)) (zy br ap) ai.heap.size (by rw [aY];exact heap_alloc_new ai _) (by rw [Rc];omega) (by have:=ap.size;omega);rw [Rc] at bu bp;have cu:=zh bp;have cq:Zh (Below S w au):=zh (by
    have B:Below S w bC:=by
     have:=za aO.o ap;rw [aR.o] at this;exact this
    refine B.trans ⟨aq.os,aq.tape,aq.output,aq.size,fun k dD=>aq.block k (by have:=ap.size;omega) (fun e=>by have:=((zy br ap).lt k e.symm).1;omega)⟩)
   have bO:=zh cd;rw [aY] at bu;clear aY ap br bp aq c4 cd aU cW;go_wp2_with (at_builtin;refine Lib.wpList_append_run _ rfl _ _ _ _ rfl _ _ rfl rfl _ _ bu ?_)
   go_roundg (A-(j+1))
   case measure=>omega
   refine ⟨j+1,zO cL 0,kd,by rw [bO.o],rfl,by go_num,by omega,by omega,fun x E=>?_,by rw [Ky,bO.o,ByteArray.size_append,Int.natCast_add];exact cu.o,cq.o⟩;rw [List.take_succ_eq_append_getElem aX] at E;rcases List.mem_append.1 E with E | E
   ·exact cv.o x E
   obtain rfl:x=t[j]:=(by simpa using E);rw [bQ.o];exact bJ.o
  obtain rfl:j=A:=by omega
  have bl:t.take j=t:=List.take_of_length_le (by have:=aj.o;omega);have bH:Zh (∀ x∈t,Sc x=0):=zh (by rw [<-bl];exact aI);have bN:Zh (Zs t=s):=zh (by rw [<-bl];exact ah);clear aI bq bo aE aW ah bl c5;obtain ⟨aZ,rfl⟩:=qB (wr);by_cases cX:4096<s.size
  ·have bz:(4096:Int)<s.size:=(by omega);have df:decide ((4096:Int)<s.size)=true:=decide_eq_true bz;clear cX;go_wp2_with fail
   refine (ax.o aZ aQ.o).mono ?_;rintro e bB ⟨rfl,f⟩;have ad:=zh (za aQ.o f);clear f;go_wp2;go_ret;exact ⟨rfl,ad.o⟩
  have bz:¬((4096:Int)<s.size):=by omega
  have df:decide ((4096:Int)<s.size)=false:=decide_eq_false bz;obtain ⟨z,c8⟩:=qA (s.size+1);have dH:IntKind.i64.wrap ((s.size:Int)+1)=(z:Int):=by rw [IntKind.wrap_i64];omega
  have bT:=zh (MM al z aZ cZ c0 (by omega) (by omega));obtain ⟨C,b2⟩:=qA (We al z);have cS:C<=s.size:=by have:=Ks (c:=al) (n:=z) (by omega);omega
  rw [b2] at bT;clear c8 b2;go_wp2_with fail
  refine bT.o.mono ?_;rintro e w6 ⟨rfl,cg⟩;rw [cg];clear cg;go_wp2_with fail
  go_loopg [13] j (fun bb (p:Value) a0=>∃ i:Nat,p=zI i/\i<=j/\bb=j-i/\(∀ q,q<i->(Zs (t.take (q+1))).size<=C)/\Below aZ.heap.size aZ a0)
  case atStart=>exact ⟨0,rfl,Nat.zero_le _,by simp,fun q bs=>absurd bs (Nat.not_lt_zero _),Below.refl _ _⟩
  obtain ⟨i,rfl,dx,rfl,ca,aV⟩:=hrel;have cn:=zh aV;have bK:=zh ca;have b7:=za aQ.o aV;have a2:=zh b7;have ch:zG wr S (.slice aA j aB) (VO t j):=zy bL.o aV;obtain ⟨dq,dI,am,aF⟩:=zG.parts ch;clear ch;rw [Rc] at am aF;simp only [Value.slice.injEq] at am;obtain ⟨rfl,_,rfl⟩:=am;have dA:=aF.le;have dB:=aF.capb;obtain ⟨ab,b0⟩:=qA (decide (i<j/\(Zs (t.take (i+1))).size<=C));have aP:=zh b0;have cs:=zh aF;clear b0 aF ca aV b7;go_upto_region 17 with fail
  go_cut [71] (fun p au=>wr=au/\p=.bool ab)
  case first =>
   by_cases aH:i<j
   ·have bw:(i:Int)<j:=(by omega);have dc:decide ((i:Int)<j)=true:=decide_eq_true bw;have dL:¬((i:Int)<0):=(by omega);obtain ⟨ds,dK,c3,b9⟩:=cs.o.cells (by omega);subst c3;have b8:=b9 i aH;rw [Gc t aH] at b8;have aD:=aP.o;obtain ⟨y,ci⟩:=qA ((Zs (t.take (i+1))).size);rw [ci] at b8 aD;clear ci b9;by_cases aG:y<=C
    ·have bx:(y:Int)<=C:=(by omega);have de:decide ((y:Int)<=C)=true:=decide_eq_true bx;have av:Zh (ab=true):=zh (by rw [<-aD];exact decide_eq_true ⟨aH,aG⟩);clear aD;go_wp2_with fail
     go_meet;exact ⟨rfl,by rw [av.o]⟩
    have bx:¬((y:Int)<=C):=(by omega);have de:decide ((y:Int)<=C)=false:=decide_eq_false bx;have av:Zh (ab=false):=zh (by rw [<-aD];exact decide_eq_false fun h=>aG h.2);clear aD;go_wp2_with fail
    go_meet;exact ⟨rfl,by rw [av.o]⟩
   have bw:¬((i:Int)<j):=(by omega);have dc:decide ((i:Int)<j)=false:=decide_eq_false bw;have av:Zh (ab=false):=zh (by rw [<-aP.o];exact decide_eq_false fun h=>aH h.1);go_wp2_with fail
   go_meet;exact ⟨rfl,by rw [av.o]⟩
  obtain ⟨rfl,rfl⟩:=hcut;cases ab with
  | true =>
   obtain ⟨aH,aG⟩:=of_decide_eq_true aP.o;have ct:=zh aG;clear aG;go_wp2_with fail
   go_roundg (j-(i+1))
   case measure=>omega
   refine ⟨i+1,by go_num,by omega,by omega,fun q bs=>?_,cn.o⟩;by_cases e:q<i
   ·exact bK.o q e
   obtain rfl:q=i:=(by omega);exact ct.o
  | false =>
   have cr:Zh (i=t.length\/C<(Zs (t.take (i+1))).size):=zh (by
    have h:=of_decide_eq_false aP.o;by_cases e:i<j
    ·exact Or.inr (Nat.lt_of_not_le fun x=>h ⟨e,x⟩)
    exact Or.inl (by have:=aj.o;omega))
   obtain ⟨H,aL⟩:=qA (s.extract 0 C);have cf:H.size=C:=(by rw [<-aL,ByteArray.size_extract];omega);have bt:yN H 60 0=((t.take i).map Ac.bare,(Zs (t.take i)).size):=by
    refine I0 bH.o (by rw [bN.o];omega) (fun q bs=>by rw [<-aL,bN.o];exact O4 cS (by omega)) (by have:=aj.o;omega) (by omega) ?_ (by rw [cf];exact cr.o);by_cases b3:i=0
    ·subst b3;exact Nat.zero_le _
    have:=bK.o (i-1) (by omega);rw [show i-1+1=i by omega] at this;omega
   have ag:VK l H=0:=(by unfold VK;rw [if_pos a3.o,if_neg (by omega)]);have aJ:US l H=(i:Int):=by
    unfold US;rw [if_pos ag,bt];have:((t.take i).map Ac.bare).length=i:=(by simp;have:=aj.o;omega);simp only [this]
   obtain ⟨W,bh⟩:=qA (Yd ⟨0,0,zi l,[]⟩ ((t.take i).map Ac.bare));have aK:UT l H=W:=(by unfold UT;rw [bt,bh]);have cC:=zh (Tz wr a n cap l (bM.o.later a2.o) H v (cz.o.laters a2.o));have cw:=zh (And.intro ag (And.intro aJ aK));have bP:=zh bh;have cy:=zh aL;clear cf bt ag aJ bh aK;go_wp2_with fail
   try rw [cy.o]
   refine cC.o.mono ?_;rintro e aM ⟨c,G,O,U,Q,ba,bn,bc,rfl,bf,f⟩;obtain ⟨ag,aJ,aK⟩:=cw.o;rw [ag,aK] at bf;rw [ag,aJ];obtain ⟨ay,cT⟩:=qA (aM.heap.size);obtain ⟨D,aT⟩:=qB (aM.alloc (.cells (zS c G O U Q ba bn bc) 40));have a4:Below aM.heap.size aM D:=(by rw [aT];exact zr _ _);have cl:zj D ay (zI c) (zI G) (.slice O U Q) (.slice ba bn bc):=(by rw [aT,<-cT];exact zj.new aM _ _ _ _);have az:=za (za a2.o f) a4;obtain ⟨ar,ak,ae⟩:∃ ar ak,zY D O U Q ar ba bn bc ak/\c=W.c/\G=W.n/\zi ar=W.l/\zg ak=W.b:=by
    rcases bf.later a4 with ⟨u,_⟩ | ⟨_,da,cE,B,aS,cO,cP,cQ,_⟩
    ·exact absurd rfl u
    exact ⟨da,cE,B,aS,cO,cP,cQ⟩
   have cc:zU c G ar ak=0:=by
    have hg:=(GoodSt.recs (TJ a3.o) ((t.take i).map Ac.bare)).e;rw [bP.o,<-ae.2.1,<-ae.2.2.1,<-ae.2.2.2.1,<-ae.2.2.2.2,xQ] at hg;exact hg
   have cB:=zh fun Y (an:Below D.heap.size D Y)=>ax.o Y (za az an);have bS:=zh fun Y (an:Below D.heap.size D Y)=>wY Y c G O U Q ar ba bn bc ak (ae.1.later an);rw [cc] at bS;have bU:=zh fun Y (an:Below D.heap.size D Y)=>JZ cR Y a n cap l (bM.o.later (za az an)) a3.o Z i aa (t.take i) ((aN.o.take (by omega)).later (za az an)) (fun x E=>by
    have cb:=List.mem_of_mem_take E;have B:=FQ (bH.o x cb);have aS:=(aN.o.each x cb).2.len;omega)
   rw [bP.o] at bU;have aw:=zh ae;obtain ⟨bW,bX,bY,bZ⟩:=cl.cells;have bD:=zh bW;have bE:=zh bX;have bF:=zh bY;have bG:=zh bZ;have cA:=zh aT;have cp:=zh az;have dy:(i:Int)<=j:=(by omega);have b3:¬((i:Int)<0):=(by omega);have dz:(i:Int)<=aa:=(by omega);clear bf f a4 cl az ae cc aT bW bX bY bZ ag aJ aK;go_upto_region 20 with fail
   rw [<-cA.o];go_cut [6] (fun p au=>∃ cD:World,cD=au/\p=.bool true/\Below D.heap.size D au)
   case first =>
    refine zV ((Tryz.f5.body.bind fun c=>yi c 20).getD #[]) (by kernel_rfl) [zl (.bool true),zl (.bool true),zl (zI 0),zl (.bool true),zl (.bool true),zl (.bool true),zl (zI i),zl (zI i),zl (.bool true),zl (.bool true),zl (.bool true),zl (.agg (zS c G O U Q ba bn bc)),zl (zI 0),zl (.bool true),zl (.bool true),zl (.bool true),zl (.agg (zS c G O U Q ba bn bc)),zl (.slice a n cap),zl (.slice Z j aa),zl (zI i),zl (.slice Z i aa),⟨fun v X=>∃ c1 M P V R I L J,v=.agg (zS c1 M P V R I L J)/\X9 X 0 0 W c1 M P V R I L J,fun _ X dp ⟨c1,M,P,V,R,I,L,J,B,aS⟩ f=>⟨c1,M,P,V,R,I,L,J,B,aS.later f⟩⟩,zl (.bool true),zl (.bool true),zl (.bool true)] [(1,true),(5,true),(10,true),(15,true)] (by kernel_rfl) (by kernel_rfl) (by kernel_rfl) ?hg ?hstep ?hfin
    case hg =>
     intro g hg v w h;simp only [List.mem_cons,List.not_mem_nil,or_false] at hg;rcases hg with rfl | rfl | rfl | rfl <;> exact h
    case hstep =>
     refine zc.cons 1 rfl ?_ ?_
     ·intro T w' f r m;refine Or.inr ⟨13,#[],by go_simp,?_⟩;refine (cB.o w' f).mono ?_;rintro e bA ⟨rfl,af⟩;exact ⟨_,rfl,rfl,af⟩
     refine zc.cons 2 rfl ?_ ?_
     ·intro T w' f r m;have u:T.getD 83 undef=_:=m 0 83;exact zs (by go_simp) rfl
     refine zc.cons 3 rfl ?_ ?_
     ·intro T w' f r m;have u:T.getD 16 undef=zI 0:=r 16;exact zs (by go_simp) rfl
     refine zc.cons 4 rfl ?_ ?_
     ·intro T w' f r m;have u:T.getD 85 undef=_:=m 2 85;exact zs (by go_simp) rfl
     refine zc.cons 5 rfl ?_ ?_
     ·intro T w' f r m;have u:T.getD 84 undef=_:=m 1 84;have B:T.getD 86 undef=_:=m 3 86;exact zs (by go_simp) rfl
     refine zc.cons 6 rfl ?_ ?_
     ·intro T w' f r m;have u:T.getD 87 undef=_:=m 4 87;exact zs (by go_simp) rfl
     refine zc.cons 7 rfl ?_ ?_
     ·intro T w' f r m;have u:T.getD 15 undef=zI i:=r 15;exact zs (by go_simp) rfl
     refine zc.cons 8 rfl ?_ ?_
     ·intro T w' f r m;have u:T.getD 13 undef=zI i:=r 13;exact zs (by go_simp) rfl
     refine zc.cons 9 rfl ?_ ?_
     ·intro T w' f r m;have u:T.getD 89 undef=_:=m 6 89;have B:T.getD 90 undef=_:=m 7 90;exact zs (by go_simp) rfl
     refine zc.cons 10 rfl ?_ ?_
     ·intro T w' f r m;have u:T.getD 88 undef=_:=m 5 88;have B:T.getD 91 undef=_:=m 8 91;exact zs (by go_simp) rfl
     refine zc.cons 11 rfl ?_ ?_
     ·intro T w' f r m;have u:T.getD 92 undef=_:=m 9 92;exact zs (by go_simp) rfl
     refine zc.cons 12 rfl ?_ ?_
     ·intro T w' f r m;have u:T.getD 14 undef=.pointer (zO ay 0):=r 14;have di:=cell_later f bD.o;have dj:=cell_later f bE.o;have dk:=cell_later f bF.o;have dl:=cell_later f bG.o;exact zs (by go_simp) rfl
     refine zc.cons 13 rfl ?_ ?_
     ·intro T w' f r m;have u:T.getD 94 undef=_:=m 11 94;refine Or.inr ⟨20,#[.agg (zS c G O U Q ba bn bc)],by go_simp,?_⟩;refine (bS.o w' f).mono ?_;rintro e bA ⟨rfl,af⟩;exact ⟨_,rfl,rfl,af⟩
     refine zc.cons 14 rfl ?_ ?_
     ·intro T w' f r m;have u:T.getD 95 undef=_:=m 12 95;exact zs (by go_simp) rfl
     refine zc.cons 15 rfl ?_ ?_
     ·intro T w' f r m;have u:T.getD 93 undef=_:=m 10 93;have B:T.getD 96 undef=_:=m 13 96;exact zs (by go_simp) rfl
     refine zc.cons 16 rfl ?_ ?_
     ·intro T w' f r m;have u:T.getD 97 undef=_:=m 14 97;exact zs (by go_simp) rfl
     refine zc.cons 17 rfl ?_ ?_
     ·intro T w' f r m;have u:T.getD 14 undef=.pointer (zO ay 0):=r 14;have di:=cell_later f bD.o;have dj:=cell_later f bE.o;have dk:=cell_later f bF.o;have dl:=cell_later f bG.o;exact zs (by go_simp) rfl
     refine zc.cons 18 rfl ?_ ?_
     ·intro T w' f r m;have u:T.getD 0 undef=.slice a n cap:=r 0;exact zs (by go_simp) rfl
     refine zc.cons 19 rfl ?_ ?_
     ·intro T w' f r m;have u:T.getD 1 undef=.slice Z j aa:=r 1;exact zs (by go_simp) rfl
     refine zc.cons 20 rfl ?_ ?_
     ·intro T w' f r m;have u:T.getD 13 undef=zI i:=r 13;exact zs (by go_simp) rfl
     refine zc.cons 21 rfl ?_ ?_
     ·intro T w' f r m;have u:T.getD 101 undef=_:=m 18 101;have B:T.getD 102 undef=_:=m 19 102;cases Z <;> exact zs (by go_simp) rfl
     refine zc.cons 22 rfl ?_ ?_
     ·intro T w' f r m;have u:T.getD 100 undef=_:=m 17 100;have B:T.getD 103 undef=_:=m 20 103;refine Or.inr ⟨17,#[.slice a n cap,.slice Z i aa],by go_simp,?_⟩;refine (bU.o w' f).mono ?_;rintro e bA ⟨c1,M,P,V,R,I,L,J,rfl,bg,af⟩;exact ⟨_,rfl,⟨c1,M,P,V,R,I,L,J,rfl,bg.mono (Nat.zero_le _)⟩,af⟩
     refine zc.cons 23 rfl ?_ ?_
     ·intro T w' f r m;obtain ⟨c1,M,P,V,R,I,L,J,B,bg⟩:=m 21 104;have u:T.getD 99 undef=_:=m 16 99;rcases bg with ⟨c2,_⟩ | ⟨_,db,b1,cV,a5,a6,a7,a8,_⟩
      case inl=>exact absurd rfl c2
      refine Or.inr ⟨18,#[.agg (zS c G O U Q ba bn bc),.agg (zS c1 M P V R I L J)],by go_simp,?_⟩;refine (ZW w' c G O U Q ar ba bn bc ak (aw.o.1.later f) c1 M P V R db I L J b1 cV (aw.o.2.1.trans a5.symm) (aw.o.2.2.1.trans a6.symm) (aw.o.2.2.2.1.trans a7.symm) (aw.o.2.2.2.2.trans a8.symm)).mono ?_;rintro e bA ⟨rfl,af⟩;exact ⟨_,rfl,rfl,af⟩
     refine zc.cons 24 rfl ?_ ?_
     ·intro T w' f r m;have u:T.getD 98 undef=_:=m 15 98;have B:T.getD 105 undef=_:=m 22 105;exact zs (by go_simp) rfl
     refine zc.cons 25 rfl ?_ ?_
     ·intro T w' f r m;have u:T.getD 106 undef=_:=m 23 106;exact zs (by go_simp) rfl
     exact trivial
    intro T w' f ah r m;have cF:T.getD 6 undef=.bool true:=m 24 6;rw [yb (tt 6 [false,true,true,true,true,true,true,true,true,true,true,true,true,true,true,true,true,true,true,true,true,true,true,true,true,true,true,true,true,true,true,true,true,true,true,true,true,true,true,true,true,true,true,true,true,true,true,true,true,true,true,true,true,true,true,true,true,true,true,true,true,true,true,true,true,true,true,true,true,true,true,true,true,true,true,true,true,false,false,false,false,false,false,false,false,false,false,false,false,false,false,false,false,false,false,false,false,false,false,false,false] 0) (by kernel_rfl) ah @r];obtain ⟨us,ce⟩:∃ us:Nat->Value,(fun d=>T.getD d undef)=us:=⟨_,rfl⟩;rw [ce];have cJ:us 6=.bool true:=(by rw [<-ce];exact cF);apply_assumption;simp only [xj,tt,List.replicate,List.cons_append,List.nil_append];go_meet;exact ⟨_,rfl,cJ,f⟩
   obtain ⟨dM,rfl,rfl,b6⟩:=hcut;have co:=zh (za cp.o b6);clear b6;go_wp2;go_ret;exact ⟨rfl,co.o⟩
end Go.Proofs.YtckpdfkobdgjeaaGreatDoor
