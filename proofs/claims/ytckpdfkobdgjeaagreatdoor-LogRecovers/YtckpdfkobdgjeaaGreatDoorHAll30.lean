/- Several texts in one: RefD, RefE, LogR, LogW, Bulk. -/
import Derived.JoinedCond
import Derived.Test.YtckpdfkobdgjeaaGreatDoorHRefC
import Derived.Test.YtckpdfkobdgjeaaGreatDoorHAll22
import Derived.Test.YtckpdfkobdgjeaaGreatDoorHSame
import Derived.Test.YtckpdfkobdgjeaaGreatDoorHAll28
import Derived.Test.YtckpdfkobdgjeaaGreatDoorHAll1
namespace Go.Proofs.YtckpdfkobdgjeaaGreatDoor
set_option maxRecDepth 100000
set_option maxHeartbeats 8000000
open Go.RowKit
open Go.ChangeShapes Go.WideShapes Go.ChangeAt Go.RowKit
theorem Sq (t:ByteArray) (m j:Nat) (a:m<=t.size):byt (t.extract m t.size) j=byt t (m+j):=by
 unfold byt;by_cases h:m+j<t.size
 ·rw [dif_pos h,dif_pos (by rw [ByteArray.size_extract];omega),ByteArray.getElem_extract]
 rw [dif_neg h,dif_neg (by rw [ByteArray.size_extract];omega)]
theorem Na (t:ByteArray) (m:Nat):(t.extract m t.size).size=t.size-m:=by rw [ByteArray.size_extract];omega
theorem Pz {t:ByteArray} {m:Nat} (h:m<=t.size):(whole (t.extract m t.size) 0↔whole t m)/\pN (t.extract m t.size) 0=pN t m/\pA (t.extract m t.size) 0+m=pA t m/\cN (t.extract m t.size) 0=cN t m/\xx (t.extract m t.size) 0+m=xx t m:=by
 have d:byt (t.extract m t.size) (0+6)=byt t (m+6):=by rw [Nat.zero_add];exact Sq t m 6 h
 have f:pN (t.extract m t.size) 0=pN t m:=by unfold pN;rw [d]
 have a:pA (t.extract m t.size) 0+m=pA t m:=by unfold pA;rw [f];omega
 have g:byt (t.extract m t.size) (pA (t.extract m t.size) 0)=byt t (pA t m):=by rw [Sq t m _ h,<-a,Nat.add_comm]
 have e:cN (t.extract m t.size) 0=cN t m:=by unfold cN;rw [g]
 have i:xx (t.extract m t.size) 0+m=xx t m:=by unfold xx;rw [e,<-a];omega
 refine ⟨?_,f,a,e,i⟩;unfold whole;rw [d,g,Na]
 constructor
 ·rintro ⟨j,b,k,c,l⟩;exact ⟨by omega,b,by omega,c,by omega⟩
 rintro ⟨j,b,k,c,l⟩;exact ⟨by omega,b,by omega,c,by omega⟩
theorem LY {t:ByteArray} {m k n:Nat} (a:m<=t.size):Ye (t.extract m t.size) k n=Ye t (m+k) n:=RS fun j _=>by rw [Sq t m _ a,Nat.add_assoc]
theorem Mr (w:World) (t:ByteArray):zC 12 #[.string t] w fun e w'=>J8 w w' e t:=by
 obtain ⟨S,aW⟩:=qA (w.heap.size);have an:=zh aW;by_cases a3:4096<t.size
 ·have a4:(4096:Int)<t.size:=by omega
  go_enter Tryz.func12,Tryz.ntmps12;go_wp2;go_ret3
  exact ⟨Below.refl _ _,Or.inl ⟨a3,rfl⟩⟩
 have a4:¬(4096:Int)<t.size:=by omega
 go_enter Tryz.func12,Tryz.ntmps12;go_wp2_with fail
 go_loopg [5,6] 60 (fun aV (aL p:Value) wr=>∃ (l:List Ac) (m:Nat),p=zI m/\l.length<=60/\aV=60-l.length/\wr.ownsRow S 27 8 aL l.length (YB l)/\(∀ x∈l,wl wr x/\wX S x aL)/\Zr t 0 l m/\Below S w wr)
 case atStart=>exact ⟨[],0,rfl,by simp,by simp,World.ownsRow_nil _ _ _ _,by simp,rfl,Below.refl _ _⟩
 obtain ⟨l,m,rfl,az,rfl,Q,ab,P,v⟩:=hrel;obtain ⟨a,c,a5⟩:=Xr Q;subst a5;have O:m<=t.size:=P.le (Nat.zero_le _);by_cases a8:l.length<60
 ·have aZ:(l.length:Int)<60:=by omega
  obtain ⟨s,E⟩:=qB (t.extract m t.size);have aI:s.size<=4096:=by rw [E,Na];omega
  have aS:=zh (Kg wr s aI);have J:=zh Q;have z:=zh ab;have W:=zh P;have F:=zh v;have am:=zh E;have a9:(m:Int)<=t.size:=by omega
  have hcut:∀ L,(Instr.slice 9 (.string t) (some (zI m)) none none).run Tryz.prog L=.ok (.string s) L:=fun L=>by
   rw [E];go_simp
  clear Q ab P v E aI;go_wp2_with fail
  refine aS.o.mono ?_;rintro e r (⟨R,aJ,aK,ao,ap,rfl,aD,aw,aF,ay,B⟩ | ⟨R,rfl,B⟩)
  ·obtain ⟨c1,c2,c3,c4,c5⟩:=Pz O;have H:=am.o;rw [<-H] at c1 c2 c3 c4 c5;have I:whole t m:=c1.1 R;obtain ⟨X,q⟩:∃ X:Ac,X=⟨byt s 0,byt s 1,⟨byt s 2,byt s 3,byt s 4,byt s 5,aJ,pN s 0,aK,Ye s 7 (pN s 0)⟩,ao,cN s 0,ap,Ye s (pA s 0+1) (cN s 0)⟩:=⟨_,rfl⟩;have ai:wl r X:=(by rw [q];exact ⟨aD,aw⟩);have ar:AcAt t m X:=by
    have v:∀ j,byt s j=byt t (m+j):=fun j=>by rw [H];exact Sq t m j O
    have aT:Ye s 7 (pN s 0)=Ye t (m+7) (pN t m):=(by rw [c2,H,LY O]);have aU:Ye s (pA s 0+1) (cN s 0)=Ye t (pA t m+1) (cN t m):=by
     rw [c4,H,LY O,<-H,<-c3]
     congr 1
     omega
    rw [q];exact ⟨v 0,v 1,v 2,v 3,v 4,v 5,aT,aU⟩
   have aE:∀ b d,X.rq.pa=zO b d->wr.heap.size<=b:=(by rw [q];exact aF);have ax:∀ b d,X.ca=zO b d->wr.heap.size<=b:=(by rw [q];exact ay);rw [show byt s 0=X.kind by rw [q],show byt s 1=X.n by rw [q],show byt s 2=X.rq.queue by rw [q],show byt s 3=X.rq.fr by rw [q],show byt s 4=X.rq.un by rw [q],show byt s 5=X.rq.kind by rw [q],show Value.slice aJ (pN s 0) aK=.slice X.rq.pa X.rq.pn X.rq.pc by rw [q],show Value.slice ao (cN s 0) ap=.slice X.ca X.cn X.cc by rw [q]];obtain ⟨A,aa⟩:=qA (xx s 0);rw [aa];rw [aa] at c5;have a6:0<A:=(by rw [<-aa];unfold xx pA;omega);have bb:((A:Int)==0)=false:=by
    have:¬(A:Int)=0:=(by omega);simpa using this
   have aY:=I.2.2.2.2;have ba:m+A<=t.size:=(by omega);clear q aD aw aF ay;have E:=F.o.size;have aH:=B.size;obtain ⟨Y,N⟩:=qB ((r.alloc (.cells #[zI X.kind,zI X.n,zI X.rq.queue,zI X.rq.fr,zI X.rq.un,zI X.rq.kind,.slice X.rq.pa X.rq.pn X.rq.pc,.slice X.ca X.cn X.cc] 27)).alloc (.cells #[zI X.kind,zI X.n,zI X.rq.queue,zI X.rq.fr,zI X.rq.un,zI X.rq.kind,.slice X.rq.pa X.rq.pn X.rq.pc,.slice X.ca X.cn X.cc] 27));have G:zL r Y:=(by rw [N];exact (zr _ _).alloc (by simp) _);have a2:Y.heap.size=r.heap.size+2:=(by rw [N];simp);have aq:Y.heap[r.heap.size+1]?=some (.cells (xW X).toArray 27 (0,0)):=by
    have:=heap_alloc_new (r.alloc (.cells #[zI X.kind,zI X.n,zI X.rq.queue,zI X.rq.fr,zI X.rq.un,zI X.rq.kind,.slice X.rq.pa X.rq.pn X.rq.pc,.slice X.ca X.cn X.cc] 27)) (.cells #[zI X.kind,zI X.n,zI X.rq.queue,zI X.rq.fr,zI X.rq.un,zI X.rq.kind,.slice X.rq.pa X.rq.pn X.rq.pc,.slice X.ca X.cn X.cc] 27);rw [World.size_alloc] at this;rw [N];exact this
   have aG:=zT (zT J.o B) G;have ad:∀ y,(Value.slice a l.length c).ownBlock=some y->S<=y/\y<wr.heap.size:=fun y e=>J.o.lt y e;obtain ⟨g,k,al,ak,aC,C,ah⟩:=RT Y S (.slice a l.length c) l aG X (r.heap.size+1) aq (by omega) (by omega);have aj:∀ y:Ac,wl r y->wX S y (.slice a l.length c)->wl al y:=fun y f D=>(f.later G).of_blocks (fun i b d e=>C.block b (RunsIn.lt (f.later G).1 i e) (fun u=>(D.1 i b d e).2 u.symm)) (fun i b d e=>C.block b ((f.later G).2.lt i e) (fun u=>(D.2 i b d e).2 u.symm));have af:wX S X (.slice a l.length c):=⟨fun _ b d e=>by have:=aE b d e;exact ⟨by omega,fun u=>by have:=(ad b u).2;omega⟩,fun _ b d e=>by have:=ax b d e;exact ⟨by omega,fun u=>by have:=(ad b u).2;omega⟩⟩;have ag:∀ y:Ac,wl r y->wX S y (.slice a l.length c)->wX S y (.slice (zO g 0) (l.length+1) k):=fun y f D=>⟨fun i b d e=>⟨(D.1 i b d e).1,fun u=>by
    have ae:g=b:=(by simpa [Value.ownBlock] using u);have Z:=RunsIn.lt f.1 i e;rcases ah with M | M
    ·exact (D.1 i b d e).2 (by rw [M,ae])
    ·omega⟩,fun i b d e=>⟨(D.2 i b d e).1,fun u=>by
    have ae:g=b:=(by simpa [Value.ownBlock] using u);have Z:=f.2.lt i e;rcases ah with M | M
    ·exact (D.2 i b d e).2 (by rw [M,ae])
    omega⟩⟩
   have aB:∀ y∈l++[X],wl al y/\wX S y (.slice (zO g 0) (l.length+1) k):=fun y f=>by
    rcases List.mem_append.1 f with f | f
    ·have Z:=(z.o y f).1.later B;exact ⟨aj y Z (z.o y f).2,ag y Z (z.o y f).2⟩
    obtain rfl:=List.mem_singleton.1 f;exact ⟨aj _ ai af,ag _ ai af⟩
   have av:Below S w al:=((F.o.trans (B.mono (by omega))).trans (G.mono (by omega))).trans ⟨C.os,C.tape,C.output,C.size,fun j a7=>C.block j (by omega) (fun e=>by have:=(ad j e.symm).1;omega)⟩;have aO:=zh aB;have aM:=zh av;have aQ:=zh aC;have aR:=zh (show Zr t 0 (l++[X]) (m+A) from by
    have:=W.o.snoc I ar;rw [<-c5,Nat.add_comm] at this;exact this)
   rw [N] at ak;have a1:=ak 31;clear N G a2 aq aG ad ak C ah aj af ag aB av aC B ai ar aE ax R E aH I c1 c2 c3 c4 c5 aY H aa;go_wp2_with (at_builtin;refine Lib.wpList_append_run _ rfl _ _ _ _ rfl _ _ rfl rfl _ _ a1 ?_)
   go_roundg (60-(l.length+1))
   case rel=>exact ⟨l++[X],m+A,by go_num,by simp;omega,by simp,by simpa using aQ.o,by simpa using aO.o,aR.o,aM.o⟩
   case measure=>simp;omega
  have I:¬whole t m:=fun h=>R (by have:=(Pz O).1;rw [<-am.o] at this;exact this.2 h);have V:=zh B;have aP:=zh I;clear B R I;go_wp2;go_ret3
  have E:=F.o.size;have aH:=V.o.size;have au:zL r (r.alloc (.cells #[zI 0,zI 0,zI 0,zI 0,zI 0,zI 0,zN,zN] 27)):=zr _ _;have a0:=zT (zT J.o V.o) au;have aX:Below S w r:=F.o.trans (V.o.mono (by omega));refine ⟨by rw [an.o];exact aX.alloc (by omega) _,Or.inr ⟨by omega,_,l,m,rfl,Vi a0 (by omega),fun x U=>⟨((z.o x U).1.later V.o).later au,wX.mono (z.o x U).2 (by omega)⟩,W.o,az,Or.inr aP.o⟩⟩
 obtain aA:l.length=60:=by omega
 have J:=zh Q;have z:=zh ab;have W:=zh P;have F:=zh v;have aZ:¬(l.length:Int)<60:=by omega
 have aN:=zh aA;clear Q ab P v aA;go_wp2;go_ret3
 exact ⟨by rw [an.o];exact F.o,Or.inr ⟨by omega,_,l,m,rfl,Vi J.o (by omega),fun x U=>⟨(z.o x U).1,wX.mono (z.o x U).2 (by omega)⟩,W.o,az,Or.inl aN.o⟩⟩
theorem Ie {w:World} {B c:Nat} {a:Option Addr} {l:List Ac} {n:Nat} (h:w.ownsRow B 27 8 (.slice a n c) l.length (YB l)):n=l.length/\n<=c/\c<=9223372036854775807/\(0<n->∃ g,a=zO g 0):=by
 rcases h.2 with ⟨e,d⟩ | ⟨b,cap,j,e,k,hg,f,i,m,o⟩
 ·simp only [Value.slice.injEq] at e;obtain ⟨_,rfl,rfl⟩:=e;exact ⟨d.symm,Nat.le_refl _,by omega,fun h=>absurd h (Nat.lt_irrefl _)⟩
 simp only [Value.slice.injEq] at e;obtain ⟨rfl,rfl,rfl⟩:=e;exact ⟨rfl,f,by unfold maxLen at i;omega,fun _=>⟨b,rfl⟩⟩
theorem ZW (w:World) (c n:Int) (m:Option Addr) (r p:Nat) (l:QL) (ba:Option Addr) (bn bc:Nat) (b:BL) (h:zY w m r p l ba bn bc b) (s v:Int) (o:Option Addr) (d q:Nat) (k:QL) (g:Option Addr) (a i:Nat) (f:BL) (j:zY w o d q k g a i f) (z:c=s) (hn:n=v) (u:zi l=zi k) (t:zg b=zg f) :
 zC 18 #[.agg (zS c n m r p ba bn bc),.agg (zS s v o d q g a i)] w fun e w'=>e=.returned (.bool true)/\Below w.heap.size w w':=by
 subst z;subst hn;have x:d=r:=by
  have:=congrArg List.length u;rw [yv,yv,<-h.1.len,<-j.1.len] at this;exact this.symm
 have y:a=bn:=by
  have:=congrArg List.length t;rw [zF,zF,<-h.2.len,<-j.2.len] at this;exact this.symm
 subst x;subst y;exact Sh w c n m d p l ba a bc b h o q k g i f j u t
theorem G5 {w:World} {B:Nat} {a:Option Addr} {c:Nat} {l:List Ac} (h:w.ownsRow B 27 8 (.slice a l.length c) l.length (YB l)) (p:∀ x∈l,wl w x):AcsIn w a l.length c l:=by
 obtain ⟨_,f,k,m⟩:=Ie h;refine ⟨rfl,f,k,fun q=>?_,p⟩;obtain ⟨g,rfl⟩:=m q;refine ⟨g,0,rfl,fun i X n j s r=>?_⟩;obtain ⟨d,e,_,_,o⟩:=OW h n;have b:g=d:=by injection e with e;injection e
 subst b;rw [Nat.zero_add];exact o j s r
theorem Gp (w:World):QsIn w none 0 0 []:=⟨rfl,Nat.le_refl _,by omega,fun h=>absurd h (Nat.lt_irrefl _),fun i h=>absurd h (Nat.not_lt_zero _),fun i h=>absurd h (Nat.not_lt_zero _)⟩
theorem Ss (w:World):zY w none 0 0 [] none 0 0 []:=⟨Gp w,Wl w⟩
theorem SM (b0:Vv) (w:World) (a:Option Addr) (n cap:Nat) (l:QL) (h:QsIn w a n cap l) (t:ByteArray) (v:Value) (aQ:Zx w v) :
 zC 4 #[.slice a n cap,.string t] w fun e w'=>e=.returned (.bool true)/\Below w.heap.size w w':=by
 have aY:=zh h;have bR:=zh aQ;have bX:=zh (Tz w a n cap l h t v aQ);clear h aQ;go_enter Tryz.func4,Tryz.ntmps4;go_wp2_with fail
 refine bX.o.mono ?_;rintro e aB ⟨c,V,av,az,ax,ba,bn,bc,rfl,be,B⟩;obtain ⟨y,b4⟩:=qA (aB.heap.size);obtain ⟨aH,ao⟩:=qB (aB.alloc (.cells (zS c V av az ax ba bn bc) 40));have aJ:zL aB aH:=by rw [ao];exact zr _ _
 have bH:zj aH y (zI c) (zI V) (.slice av az ax) (.slice ba bn bc):=by rw [ao,<-b4];exact zj.new aB _ _ _ _
 have aS:=zh (za B aJ);have bT:=zh bH;have aV:=zh (be.later aJ);have a0:=zh (Yw aH a n cap l (aY.o.later aS.o));obtain ⟨T,aM⟩:=qA (z9 l);obtain ⟨u,an⟩:=qA (VK l t);obtain ⟨J,aK⟩:=qA (US l t);rw [aM] at a0;rw [an] at aV;rw [an,aK];have ag:=zh aM;have D:=zh an;have aD:=zh aK;clear be B aJ bH aM an aK;go_upto_region 2 with fail
 rw [<-ao];clear ao;go_wp2_with fail
 refine a0.o.mono ?_;rintro e cb ⟨rfl,B⟩;have bJ:=zh (za aS.o B);have bU:=zh (bT.o.later B);have bL:=zh (aV.o.later B);have bY:=zh (Mr cb t);clear B;go_wp2_with fail
 refine bY.o.mono ?_;rintro e s Q;have aT:=zh (za bJ.o Q.1);have aZ:=zh (bU.o.later Q.1);have aW:=zh (bL.o.later Q.1);have aG:=zh fun X (b5:zL w X)=>UD X v (bR.o.laters b5);obtain ⟨P,bf⟩:=qA (s.heap.size);obtain ⟨j,ap⟩:=qB (s.alloc (.cells zZ 40));have ai:zL s j:=by rw [ap];exact zr _ _
 have bI:zj j P (zI 0) (zI 0) zN zN:=by rw [ap,<-bf];exact zj.new s _ _ _ _
 have aF:=zh (aZ.o.later ai);have ah:=zh bI;have aX:=zh (aW.o.later ai);have C:=zh (za aT.o ai);have E:=zh ap;have aE:=zh bf;have cl:y<P:=by have:=(Array.getElem?_eq_some_iff.1 aZ.o).1;omega
 clear ai bI ap;by_cases F:T=0
 case neg =>
  have cm:(T==0)=false:=by simpa using F
  have f:u=T:=by
   have b:=D.o;have bb:=ag.o;unfold VK at b;rw [if_neg (by rw [bb];exact F)] at b;omega
  have M:J=0:=by
   have b:=aD.o;unfold US at b;rw [D.o,if_neg (by rw [f];exact F)] at b;exact b.symm
  rcases aX.o with ⟨_,rfl,rfl,rfl,rfl,rfl,rfl,rfl,rfl⟩ | ⟨q,_⟩
  case inr=>exact absurd (f.symm.trans q) F
  subst f;subst M;have b2:(u==u)=true:=by simp
  rcases Q with ⟨_,⟨A,rfl⟩ | ⟨A,b8,g,m,rfl,_⟩⟩
  all_goals
   clear A F;go_upto_region 7 with fail
   rw [<-E.o];go_wp2_with fail
   refine (aG.o j C.o).mono ?_;rintro e i ⟨rfl,d⟩;obtain ⟨W,Y,Z,aa⟩:=(aF.o.later d).cells;obtain ⟨ab,ad,ae,af⟩:=(ah.o.later d).cells;have H:=zh (za C.o d);have I:=zh (ZW i 0 0 none 0 0 [] none 0 0 [] (Ss i) 0 0 none 0 0 [] none 0 0 [] (Ss i) rfl rfl rfl rfl);clear d;go_wp2_with fail
   refine I.o.mono ?_;rintro e bG ⟨rfl,r⟩;have G:=zh (za H.o r);clear r W Y Z aa ab ad ae af;go_wp2;go_ret;exact ⟨rfl,G.o⟩
 subst F;rcases Q with ⟨_,⟨A,rfl⟩ | ⟨A,b8,g,m,rfl,aP,aN,aO,bd,bo⟩⟩
 ·have f:u=2:=by
   have b:=D.o;unfold VK at b;rw [if_pos ag.o,if_pos A] at b;exact b.symm
  have M:J=0:=by
   have b:=aD.o;unfold US at b;rw [D.o,if_neg (by rw [f];decide)] at b;exact b.symm
  rcases aX.o with ⟨_,rfl,rfl,rfl,rfl,rfl,rfl,rfl,rfl⟩ | ⟨q,_⟩
  case inr=>rw [f] at q;cases q
  subst f;subst M;clear A;go_upto_region 7 with fail
  rw [<-E.o];go_wp2_with fail
  refine (aG.o j C.o).mono ?_;rintro e i ⟨rfl,d⟩;obtain ⟨W,Y,Z,aa⟩:=(aF.o.later d).cells;obtain ⟨ab,ad,ae,af⟩:=(ah.o.later d).cells;have H:=zh (za C.o d);have I:=zh (ZW i 0 0 none 0 0 [] none 0 0 [] (Ss i) 0 0 none 0 0 [] none 0 0 [] (Ss i) rfl rfl rfl rfl);clear d;go_wp2_with fail
  refine I.o.mono ?_;rintro e bG ⟨rfl,r⟩;have G:=zh (za H.o r);clear r W Y Z aa ab ad ae af;go_wp2;go_ret;exact ⟨rfl,G.o⟩
 obtain ⟨b9,ca,rfl⟩:=Xr aP;have aL:yN t 60 0=(g.map Ac.bare,m):=aO.is bd bo;have f:u=0:=by
  have b:=D.o;unfold VK at b;rw [if_pos ag.o,if_neg (by omega)] at b;exact b.symm
 have M:J=g.length:=by
  have b:=aD.o;unfold US at b;rw [D.o,if_pos f,aL] at b;simp only [List.length_map] at b;exact b.symm
 have bg:UT l t=Yd ⟨0,0,zi l,[]⟩ (g.map Ac.bare):=by unfold UT;rw [aL]
 rcases aW.o with ⟨q,_⟩ | ⟨_,bB,b1,a5,a6,a7,a8,a9,_⟩
 ·exact absurd f q
 subst f;subst M;have bp:∀ x∈g,x.cn<=1048576:=fun x ar=>by
  have b:=(aN x ar).1.2.len;have bb:=(aO.few x ar).2;omega
 have bi:=(G5 aP (fun x ar=>(aN x ar).1)).later (show zL s j by rw [E.o];exact zr _ _);have bZ:=zh (JZ b0 j a n cap l (aY.o.later C.o) ag.o b9 g.length ca g bi bp);obtain ⟨cc,cd,ce,cf⟩:=ah.o.cells;have bM:=zh a5;have bO:=zh (And.intro a6 (And.intro a7 (And.intro a8 (And.intro a9 bg))));have b2:((g.length:Int)==(g.length:Int))=true:=by simp
 have bt:j.heap.size=P+1:=by rw [E.o,<-aE.o];simp
 have bQ:=zh bt;clear aP aN aO bo aL A bp bi a5 a6 a7 a8 a9 bg bd bt;go_upto_region 7 with fail
 rw [<-E.o];go_wp2_with fail
 refine bZ.o.mono ?_;rintro e aC ⟨am,au,aw,aA,ay,aj,al,ak,rfl,b3,S⟩;have bh:=aF.o.later S;have aq:=ah.o.later S;rcases b3 with ⟨q,_⟩ | ⟨_,aR,aI,bu,bv,bw,bx,bz,bA⟩
 ·exact absurd rfl q
 have U:=zk aC P 40 _ _ _ _ (zI am) (zI au) (.slice aw aA ay) (.slice aj al ak) aq;obtain ⟨z,R⟩:=qB ((((aC.setCell ⟨P,0,none⟩ (zI am)).setCell ⟨P,1,none⟩ (zI au)).setCell ⟨P,2,none⟩ (.slice aw aA ay)).setCell ⟨P,3,none⟩ (.slice aj al ak));rw [<-R] at U;have b6:=bQ.o;have bs:zj z y (zI c) (zI V) (.slice av az ax) (.slice ba bn bc):=(U.2 y (by omega)).trans bh;have bq:zY z aw aA ay aR aj al ak aI:=bu.keep bA (fun k co=>U.2 k (by omega));have O:w.heap.size<=P:=by have:=aT.o.size;have:=aE.o;omega
 have bm:zL w z:=by
  rw [R];exact ((((za C.o S).setCell (p:=(zA P 0)) O _).setCell (p:=(zA P 1)) O _).setCell (p:=(zA P 2)) O _).setCell (p:=(zA P 3)) O _
 obtain ⟨cg,ch,ci,cj⟩:=aq.cells;have ck:∀ k,aC.frozen? (zA P k)=false:=fun k=>frozen_of_row aC P k _ _ aq;have bj:zL s j:=by rw [E.o];exact zr _ _
 have N:s.heap.size<=P:=by have:=aE.o;omega
 have bl:zL s z:=by
  rw [R];exact ((((za bj S).setCell (p:=(zA P 0)) N _).setCell (p:=(zA P 1)) N _).setCell (p:=(zA P 2)) N _).setCell (p:=(zA P 3)) N _
 have bN:=zh (bM.o.later bl);have bK:=zh bq;have bV:=zh bs;have bW:=zh U.1;have aU:=zh bm;have bS:=zh R;have br:c=am/\V=au/\zi bB=zi aR/\zg b1=zg aI:=by
  obtain ⟨bC,bD,bE,bF,b7⟩:=bO.o;rw [b7] at bC bD bE bF;exact ⟨by rw [bC,bv],by rw [bD,bw],by rw [bE,bx],by rw [bF,bz]⟩
 have bP:=zh br;clear S bh aq bu bv bw bx bz bA U R b6 bs bq bm bj bl br N O cc cd ce cf;go_wp2_with fail
 rw [<-bS.o];clear cg ch ci cj ck;refine (aG.o z aU.o).mono ?_;rintro e i ⟨rfl,d⟩;obtain ⟨W,Y,Z,aa⟩:=zj.cells (zj.later (show zj z y _ _ _ _ from bV.o) d);obtain ⟨ab,ad,ae,af⟩:=zj.cells (zj.later (show zj z P _ _ _ _ from bW.o) d);have H:=zh (za aU.o d);obtain ⟨a1,a2,a3,a4⟩:=bP.o;have I:=zh (ZW i c V av az ax bB ba bn bc b1 (bN.o.later d) am au aw aA ay aR aj al ak aI (bK.o.later d) a1 a2 a3 a4);clear d a1 a2 a3 a4;go_wp2_with fail
 refine I.o.mono ?_;rintro e bG ⟨rfl,r⟩;have G:=zh (za H.o r);clear r W Y Z aa ab ad ae af;go_wp2;go_ret;exact ⟨rfl,G.o⟩
end Go.Proofs.YtckpdfkobdgjeaaGreatDoor
