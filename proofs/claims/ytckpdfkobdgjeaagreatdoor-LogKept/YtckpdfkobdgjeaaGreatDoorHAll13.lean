/- Several texts in one: CutQ, CutR, CutL. -/
import Derived.Test.YtckpdfkobdgjeaaGreatDoorHAll12
namespace Go.Proofs.YtckpdfkobdgjeaaGreatDoor
set_option maxRecDepth 100000
set_option maxHeartbeats 8000000
open Go.RowKit Go.Shelf
attribute [local go_sem] Oper.semAt_some
open Go.RowKit
theorem Oz (m:Nat) (t:1<=m) (c B n k:Nat) (a:Option Addr) (b:BL) (q:n=b.length) (o:n<=12) (w:World) (f:w.ownsRow B 60 7 (.slice a n k) n (ze b)) (d:w.cell? (zA c 0)=some (.slice a n k)) :
 SeqStopsK Fence.wide m Tryz.prog 190 #[.pointer (zO c 0)] (fun x:BN n=>#[zI (x.1:Int),Fi (bk b x.1)]) (Below w.heap.size) (fun v=>v=dn n n) (fun u=>∃ k,k<=n/\u=dn n k) n w:=by
 rcases f.2 with ⟨e,rfl⟩ | ⟨g,cap,A,e,_⟩
 ·intro l h y i p _ _ C j;exact (Ow m l c k a h i (cell_later p d) j).mono fun e z ⟨r,s⟩=>⟨r,.inl ⟨_,rfl,s⟩⟩
 ·simp only [Value.slice.injEq] at e;obtain ⟨rfl,_,rfl⟩:=e;exact Oy m t c g B n k b q o w f d
theorem TS {w d b:World} {row:Option Nat} {c:Nat} (v:Value) (a:Below w.heap.size w d) (hg:d.grownBy b row) (g:w.heap.size<=c):w.grownBy (b.setCell (zA c 0) v) row :=
 ⟨hg.os.trans a.os,hg.tape.trans a.tape,hg.output.trans a.output,by rw [show (b.setCell (zA c 0) v).heap.size=b.heap.size by simp [World.setCell]];exact Nat.le_trans a.size hg.size,
  fun k e f=>(Below.heap_setCell b (zA c 0) v k (by simp only;omega)).trans ((hg.block k (Nat.lt_of_lt_of_le e a.size) f).trans (a.block k e))⟩
theorem xE {w a D:World} {row c:Option Nat} (h:w.grownBy a row) (hg:a.grownBy D c) (f:∀ j,c=some j->w.heap.size<=j):w.grownBy D row :=
 ⟨hg.os.trans h.os,hg.tape.trans h.tape,hg.output.trans h.output,Nat.le_trans h.size hg.size,fun k b d=>(hg.block k (Nat.lt_of_lt_of_le b h.size) (fun e=>by have:=f k e.symm;omega)).trans (h.block k b d)⟩
def FC (b:BL) (x:Bk) (n:Nat) (w3:World) (pre:List (BN n)) (W:World):Prop:=(∀ y∈pre,x.id<=(bk b y.1).id)/\Below w3.heap.size w3 W
def zzFSx (b:BL) (x:Bk) (n B R:Nat) (row:Option Nat) (w:World) (cd:Code) (pre:List (BN n)) (W:World):Prop :=
 cd=.ret/\∃ ini y g' k',pre=ini++[y]/\(∀ z∈ini,x.id<=(bk b z.1).id)/\(bk b y.1).id<x.id/\W.cell? (zA R 0)=some (.slice (zO g' 0) (n+1) k')/\W.ownsRow B 60 7 (.slice (zO g' 0) (n+1) k') (n+1) (ze (yL b (y.1+1) x))/\w.grownBy W row/\(row=some g'\/w.heap.size<=g')
theorem LZ (w:World) (B n k:Nat) (a:Option Addr) (b:BL) (x:Bk) (hn:n=b.length) (aD:n<=12) (a3:w.ownsRow B 60 7 (.slice a n k) n (ze b)) (a0:B<=w.heap.size) :
 zC 146 #[.slice a n k,.agg #[zI x.id,zI x.rq.queue,zI x.rq.fr,zI x.rq.un,zI x.rq.kind,.slice x.rq.pa x.rq.pn x.rq.pc,.slice x.ba x.bn x.bc]] w fun e w'=>PI w w' e B n (Value.slice a n k).ownBlock (Zj b x):=by
 obtain ⟨S,a1⟩:=qA (w.heap.size);obtain ⟨G,X⟩:=qB (w.alloc (.cells #[.slice a n k] 38));obtain ⟨H,Y⟩:=qB (G.alloc (.cells (zB x) 60));obtain ⟨l,Z⟩:=qB (H.alloc (.cells #[zN] 38));have aN:G.heap.size=S+1:=by rw [X];simp [a1]
 have aO:H.heap.size=S+1+1:=by rw [Y];simp [aN]
 have a7:l.heap.size=S+1+1+1:=by rw [Z];simp [aO]
 have b1:zL w G:=by rw [X];exact zr _ _
 have ar:zL G H:=by rw [Y];exact zr _ _
 have af:zL H l:=by rw [Z];exact zr _ _
 have aP:Boxed l S 38 (.slice a n k):=by
  have:Boxed G S 38 (.slice a n k):=by rw [X,<-a1];exact Boxed.new w _ _
  exact (af.block _ (by omega)).trans ((ar.block _ (by omega)).trans this)
 have a9:ww l (S+1) x:=by
  have:ww H (S+1) x:=by rw [Y,<-aN];exact heap_alloc_new G _
  exact this.later af
 have a8:Boxed l (S+1+1) 38 zN:=by rw [Z,<-aO];exact Boxed.new H _ _
 have aH:zL w l:=za (za b1 ar) af;have bl:=zh (OA l a n k);have bf:=zh (zy a3 aH);have bd:=zh aH;have bi:=zh aP;have bj:=zh a9;have bh:=zh a8;have U:=zh a7;have aG:l=((w.alloc (.cells #[.slice a n k] 38)).alloc (.cells (zB x) 60)).alloc (.cells #[zN] 38):=by rw [Z,Y,X]
 have bg:=zh aG;have Q:=zh hn;have ag:=aP.cell;rw [aG] at ag;have a2:∀ g,(Value.slice a n k).ownBlock=some g->g<S:=fun g hg=>by
  have:=(a3.lt g hg).2;omega
 have O:=zh a2;clear X Y Z aN aO a7 b1 ar af aP a9 a8 aH aG a2 hn;refine (callsIn_wide (n:=4)).1 ?_;refine callsIn_of_wp_marks Tryz.func146 rfl trivial ?_ rfl;simp only [Tryz.ntmps146,List.size_toArray,List.length_cons,List.length_nil,Nat.reduceAdd,Nat.reduceSub,Array.replicate_succ,Array.replicate_zero,List.push_toArray,List.append_toArray,List.nil_append,List.cons_append]
 gi_wp2_with fail
 rw [<-bg.o];refine ⟨trivial,(callsIn_wide.2 bl.o).mono ?_⟩;rintro e u ⟨rfl,a4⟩;rw [U.o];have an:=zh a4;have P:zL l u:=by rw [an.o];exact zr _ _
 have a6:u.heap.size=S+1+1+1+1:=by rw [an.o];simp [U.o]
 have aY:u.cell? (zA (S+1+1+1) 0)=some (.slice a n k):=by
  have:Boxed u (S+1+1+1) 38 (.slice a n k):=by rw [an.o,<-U.o];exact Boxed.new l _ _
  exact this.cell
 have C:=zh (za bd.o P);have am:=zh (zy bf.o P);have aT:Zh (Boxed u S 38 (.slice a n k)):=zh ((P.block _ (by have:=U.o;omega)).trans bi.o);have aU:=zh (bj.o.later P);have aS:Zh (Boxed u (S+1+1) 38 zN):=zh ((P.block _ (by have:=U.o;omega)).trans bh.o);have v:=zh a6;have bb:=zh aY;clear a4 ag P a6 aY
 gi_wp2_with fail
 refine wpIn_rangeFunc_ownH (F:=Fence.wide) rfl (by omega) (gf:=190) (lb:=#[.pointer (zO (S+1+1+1) 0)]) rfl trivial (enters_of Tryz.func190 (by kernel_rfl) rfl)
  (Oz _ (by omega) (S+1+1+1) B n k a b Q.o aD u am.o bb.o)
  belowK_t (belowK_b (Nat.le_refl _)) (Below.refl _ _) (fun _=>rfl)
  (FC b x n u) (zzFSx b x n B (S+1+1) (Value.slice a n k).ownBlock w)
  (show OwnFrom u.heap.size (FC b x n u) from OwnFrom.and (ownFrom_pure _ _) (ownFrom_below (Nat.le_refl _) (Nat.le_refl _)))
  (fun bo s aQ D row aK hg M=>by
   obtain ⟨bw,a5,y,f,k',V,aw,ax,ay,ah,az,aA⟩:=aK;refine ⟨bw,a5,y,f,k',V,aw,ax,cell_kept ay hg (fun r e=>(M r e).2),?_,xE az hg (fun j e=>Nat.le_trans C.o.size (M j e).1),aA⟩;rcases ah.2 with ⟨_,bQ⟩ | ⟨g,cap,bP,aZ,_,bx,_⟩
   ·omega
   refine ah.kept hg (Or.inr fun e=>?_);have bq:f=g:=(by simp only [Value.slice.injEq,Option.some.injEq,Addr.mk.injEq] at aZ;exact aZ.1.1);subst bq;obtain ⟨_,o,t,aJ⟩:=M f (show row=some f from e.symm);rw [bx] at t;cases t
   cases aJ)
  ⟨fun y z=>absurd z (List.not_mem_nil),Below.refl _ _⟩
  (fun y aq c=>∃ A,u.heap.size<=A/\ww c A (bk b y.1)/\aq={ tmps:=#[.slice a n k,.agg (zB x),.pointer (zO S 0),.pointer (zO (S+1) 0),.pointer (zO (S+1+1) 0),zI (y.1:Int),.pointer (zO A 0),.slice a n k,.func (.func 190) #[] #[.pointer (zO (S+1+1+1) 0)],zI (y.1:Int),.agg (zB (bk b y.1)),undef,undef,undef,undef,undef,undef,undef,undef,undef,undef,undef,undef,undef,undef,undef],defers:=[] })
  (fun y aq s aQ D row aK hg M=>by
   obtain ⟨A,aC,W,aE⟩:=aK;refine ⟨A,aC,(hg.block A (Array.getElem?_eq_some_iff.1 W).1 (fun e=>?_)).trans W,aE⟩;obtain ⟨_,o,t,aJ⟩:=M A e.symm;have bs:aQ.heap[A]?=_:=W;rw [bs] at t;cases t
   cases aJ)
  ?assign ?body ?done ?stop
 case assign =>
  rintro bz aM y c bO q J;simp only [Fi]
  gi_wp2
  exact J _ _ ((KeepsOthers.alloc _ _).from _) ((Below.refl _ c).alloc q.2.size _) ⟨q.1,q.2.alloc q.2.size _⟩ ⟨c.heap.size,q.2.size,heap_alloc_new c _,rfl⟩
 case body =>
  rintro bz aM y aq c bU ⟨r,M⟩ ⟨ab,p⟩ ⟨A,bR,aW,rfl⟩ bV;obtain ⟨i,q⟩:=y;have aL:=v.o;have ag:=(show Boxed c S 38 (.slice a n k) from (p.block _ (by omega)).trans aT.o).cell;have aX:=aU.o.later p;obtain ⟨bA,bB,bC,bD,bE,bF,bG⟩:=aX.cells;obtain ⟨bH,bI,bJ,bK,bL,bM,bN⟩:=aW.cells;have ae:=zh ab;have d:=zh p;have au:Zh (Boxed c (S+1+1) 38 zN):=zh ((p.block _ (by omega)).trans aS.o);obtain ⟨ap,ai⟩:=qA (bk b i);rw [ai] at bH bI bJ bK bL bM bN;simp only [ai];have aV:=zh ai;clear ab p aX aW M aL ai;by_cases g:ap.id<x.id
  ·have ao:=SI (c.alloc (.cells (zB x) 60)) B c.heap.size (.slice a n k) b n x Q.o aD (zy am.o (d.o.alloc d.o.size _)) (Nat.le_trans a0 (Nat.le_trans C.o.size (Nat.le_trans d.o.size (by simp)))) (heap_alloc_new c _) (fun e=>by have aC:=O.o _ e;have W:=d.o.size;have aE:=v.o;omega) (i+1) (by omega);rw [show ((i+1:Nat):Int)=(i:Int)+1 by omega] at ao;have al:=zh ao;have bS:i<12:=(by omega);clear ao
   gi_wp2_with fail
   refine ⟨trivial,(Xz al.o).mono ?_⟩;rintro e I ⟨f,k',rfl,t,L,aa⟩;have ak:Zh ((Value.slice a n k).ownBlock=some f\/w.heap.size<=f):=zh (aa.imp id (fun h=>Nat.le_trans (za C.o (d.o.alloc d.o.size _)).size h));have E:Boxed I (S+1+1) 38 zN:=(L.block _ (by have:=d.o.size;have:=v.o;simp;omega) (fun e=>by have:=O.o _ e.symm;omega)).trans ((Below.heap_alloc c _ _ (by have:=d.o.size;have:=v.o;omega)).trans au.o);have av:=E.cell;have bm:=E.frozen;have aj:=zh E;have R:=zh t;have ad:=zh L;clear t L E aa
   gi_wp2
   refine ⟨?_,rfl,aM,⟨i,q⟩,f,k',rfl,ae.o,show (bk b i).id<x.id by rw [aV.o];exact g,World.cell?_setCell_same' _ _ _ (by rw [av];rfl),R.o.kept (grownBy_setCell' I (S+1+1) _) (Or.inr fun e=>aj.o.not_row (by decide) R.o e.symm),TS _ (za C.o (d.o.alloc d.o.size _)) ad.o (by show w.heap.size<=S+1+1;omega),ak.o⟩;refine ((KeepsOthers.alloc c _).from _).trans ((KeepsFrom.of_grownBy ad.o (fun j e=>by have:=O.o j e;have:=v.o;omega)).trans ((KeepsOthers.setCell _ _ _).from _))
  gi_wp2
  refine ⟨KeepsFrom.refl _ _,Below.refl _ _,fun y z=>?_,d.o⟩;rw [List.mem_append] at z;rcases z with z | z
  ·exact ae.o y z
  rw [List.mem_singleton] at z;subst z;show x.id<=(bk b i).id;rw [aV.o];omega
 case done =>
  rintro D bW c bt rfl ⟨ab,p⟩ J;have aL:=v.o;have ag:=(show Boxed c S 38 (.slice a n k) from (p.block _ (by omega)).trans aT.o).cell;obtain ⟨bA,bB,bC,bD,bE,bF,bG⟩:=(aU.o.later p).cells;have ae:=zh ab;have d:=zh p;have aR:=zh J;have au:Zh (Boxed c (S+1+1) 38 zN):=zh ((p.block _ (by omega)).trans aS.o);have al:=zh (SI (c.alloc (.cells (zB x) 60)) B c.heap.size (.slice a n k) b n x Q.o aD (zy am.o (d.o.alloc d.o.size _)) (Nat.le_trans a0 (Nat.le_trans C.o.size (Nat.le_trans d.o.size (by simp)))) (heap_alloc_new c _) (fun e=>by have aC:=O.o _ e;have W:=d.o.size;have aE:=v.o;omega) 0 (Nat.zero_le _));clear ab p aL J
  gi_wp2_with fail
  refine ⟨trivial,(callsIn_wide.2 al.o).mono ?_⟩;rintro e I ⟨f,k',rfl,t,L,aa⟩;have ak:Zh ((Value.slice a n k).ownBlock=some f\/w.heap.size<=f):=zh (aa.imp id (fun h=>Nat.le_trans (za C.o (d.o.alloc d.o.size _)).size h));have E:Boxed I (S+1+1) 38 zN:=(L.block _ (by have:=d.o.size;have:=v.o;simp;omega) (fun e=>by have:=O.o _ e.symm;omega)).trans ((Below.heap_alloc c _ _ (by have:=d.o.size;have:=v.o;omega)).trans au.o);have av:=E.cell;have bm:=E.frozen;have aj:=zh E;have R:=zh t;have ad:=zh L;have bu:D<c.heap.size:=(Array.getElem?_eq_some_iff.1 aR.o).1;have bv:I.heap[D]?=some (.deferred (some [])):=(L.block D (by simp;omega) (fun e=>by have:=O.o D e.symm;have:=v.o;omega)).trans ((Below.heap_alloc c _ D bu).trans aR.o);clear t L E aa
  gi_wp2
  have aF:=(KeepsOthers.setCell I (zA (S+1+1) 0) (.slice (zO f 0) (n+1) k')).same D _ bv rfl;refine ⟨by simp,.inl ⟨_,_,rfl,run_takeDeferred aF,?_⟩⟩;have aI:=cell_kept (World.cell?_setCell_same' I (zA (S+1+1) 0) (.slice (zO f 0) (n+1) k') (by rw [av];rfl)) (grownBy_putObj' _ D (.deferred none)) (fun r e=>by cases e;exact ⟨_,aF,rfl⟩);have aB:Zj b x=yL b 0 x:=by
   unfold Zj;rw [<-Q.o,To fun i q=>Int.not_lt.2 (ae.o ⟨i,q⟩ (Ra (Nat.le_refl _) q (by omega)))]
  have be:=R.o.kept (grownBy_setCell' I (S+1+1) (.slice (zO f 0) (n+1) k')) (Or.inr fun e=>aj.o.not_row (by decide) R.o e.symm);refine ⟨.slice (zO f 0) (n+1) k',?_,f,k',rfl,?_,?_,ak.o⟩
  ·simp [results,Tryz.f146,go_sem,aI]
  ·rw [aB];exact ownsRow_putObj be _ aF rfl
  exact xE (TS _ (za C.o (d.o.alloc d.o.size _)) ad.o (by show w.heap.size<=S+1+1;omega)) (grownBy_putObj' _ D _) (fun j e=>by cases e;have:=C.o.size;omega)
 case stop =>
  rintro D bo aM c bt ⟨j,bT,rfl⟩ ⟨rfl,a5,y,f,k',V,aw,ax,ay,ah,az,aA⟩ J
  gi_wp2
  refine ⟨by simp,.inl ⟨_,_,rfl,run_takeDeferred J,?_⟩⟩;have aI:=cell_kept ay (grownBy_putObj' _ D (.deferred none)) (fun r e=>by cases e;exact ⟨_,J,rfl⟩);obtain ⟨N,rfl⟩:∃ N,j=N+1:=by
   cases j with
   | zero=>simp [dn] at V
   | succ N=>exact ⟨N,rfl⟩
  rw [dn,dif_pos (by omega)] at V;obtain ⟨rfl,bp⟩:=List.append_inj' V rfl;obtain ⟨y,z⟩:=y;have br:n-1-N=y:=by simpa using bp
  subst br;have aB:Zj b x=yL b (n-1-N+1) x:=by
   unfold Zj;rw [<-Q.o,P9 (m:=n-1-N) (by omega) ax fun i q hn=>Int.not_lt.2 (aw ⟨i,hn⟩ (Ra (by omega) hn (by omega)))]
  refine ⟨.slice (zO f 0) (n+1) k',?_,f,k',rfl,?_,?_,aA⟩
  ·simp [results,Tryz.f146,go_sem,aI]
  ·rw [aB];exact ownsRow_putObj ah _ J rfl
  exact xE az (grownBy_putObj' _ D _) (fun j e=>by cases e;have:=C.o.size;omega)
def ZD (X:Bk) (c:Int):Bool:=!zQ (fun i=>!decide (rN X.bs i<c)) X.bs.length
def Rq.from (r:Rq) (c:Int):Rq:=⟨r.queue,max r.fr c,r.un,r.kind,r.pa,r.pn,r.pc,r.ps⟩
def y9 (c:Int) (l:QL) (b:BL) (X:Bk):zd×Bool:=if ZD X c=true then ([],false) else yU l b (X.rq.from c)
theorem Og (w:World) (S:Nat) (c:Int) (f:w.cell? (zA S 0)=some (zI c)) (x y:Int) :
 zC 181 #[.agg #[zI x,zI y],.pointer (zO S 0)] w fun e w'=>e=.returned (.bool (decide (y<c)))/\Below w.heap.size w w':=by
 obtain ⟨b,a⟩:=qB (w.alloc (.cells #[zI x,zI y] 62));have d:zL w b:=by rw [a];exact zr _ _
 have i:=cell_later d f;rw [a] at i;have g:=zh d;have h:=zh a;clear d a f;go_enter Tryz.func181,Tryz.ntmps181;go_wp2;go_ret;rw [<-h.o];exact ⟨rfl,g.o⟩
theorem NR (w:World) (c n:Int) (j:Option Addr) (m k:Nat) (l:QL) (ba:Option Addr) (bn bc:Nat) (b:BL) (h:zY w j m k l ba bn bc b) (X:Bk) (ak:zH w X.rq) (U:RunsIn w X.ba X.bn X.bc X.bs) (ax:0<X.bs.length) :
 zC 147 #[.agg (zS c n j m k ba bn bc),.agg #[zI X.id,zI X.rq.queue,zI X.rq.fr,zI X.rq.un,zI X.rq.kind,.slice X.rq.pa X.rq.pn X.rq.pc,.slice X.ba X.bn X.bc]] w fun e w'=>ZB w w' e (y9 c l b X):=by
 obtain ⟨S,ag⟩:=qA (w.heap.size);obtain ⟨d,q⟩:=qB (w.alloc (.cells (zS c n j m k ba bn bc) 40));obtain ⟨f,v⟩:=qB (d.alloc (.cells (zB X) 60));have an:d.heap.size=S+1:=by rw [q];simp [ag]
 have b1:zL w d:=by rw [q];exact zr _ _
 have N:zL d f:=by rw [v];exact zr _ _
 have W:zj f S (zI c) (zI n) (.slice j m k) (.slice ba bn bc):=by
  have:zj d S (zI c) (zI n) (.slice j m k) (.slice ba bn bc):=by rw [q,<-ag];exact zj.new w _ _ _ _
  exact this.later N
 have Y:ww f (S+1) X:=by rw [v,<-an];exact heap_alloc_new d _
 have Q:zL w f:=za b1 N;have P:f=(w.alloc (.cells (zS c n j m k ba bn bc) 40)).alloc (.cells (zB X) 60):=by rw [v,q]
 have am:=U.len;have J:=WG 181 #[.pointer (zO S 0)] (fun _ y=>!decide (y<c)) (fun args w=>by go_simp) f X.ba X.bn X.bc X.bs (U.later Q) (by omega) (fun w' ay x y=>by
  rw [Bool.not_not];exact Og w' S c (cell_later ay W.cells.1) x y)
 have af:(!zQ (fun i=>!decide (rN X.bs i<c)) X.bn)=ZD X c:=by unfold ZD;rw [am]
 rw [af] at J;have ab:=zh fun ad (ah:zL w ad)=>XN ad c n j m k l ba bn bc b (h.later ah) (X.rq.from c) (zH.later ak ah);have s:=zh J;have aa:=zh P;have Z:=zh Q;have av:=zh W;have aw:=zh Y;obtain ⟨z,A,B,C,D,E,F⟩:=Y.cells;rw [P] at z A B C D E F;clear q v an b1 N W Y Q P am J af h ak U ax;cases g:ZD X c with
 | true =>
  have p:y9 c l b X=([],false):=by unfold y9;rw [if_pos g]
  rw [p];rw [g] at s;clear g p;go_enter Tryz.func147,Tryz.ntmps147;go_wp2_with fail
  rw [<-aa.o];refine s.o.mono ?_;rintro e r ⟨rfl,a⟩;have G:=zh (za Z.o a);clear a z A B C D E F;go_wp2;go_ret2
  exact ⟨none,0,0,rfl,Tr _ _,G.o⟩
 | false =>
  have p:y9 c l b X=yU l b (X.rq.from c):=by unfold y9;rw [if_neg (by rw [g];decide)]
  rw [p];rw [g] at s;obtain ⟨V,aj⟩:=qA (yU l b (X.rq.from c));rw [aj] at ab ⊢;clear g p aj;go_enter Tryz.func147,Tryz.ntmps147;go_wp2_with fail
  rw [<-aa.o];refine s.o.mono ?_;rintro e r ⟨rfl,a⟩;have G:=zh (za Z.o a);have I:=zh (av.o.later a);have au:=zh (aw.o.later a);clear a z A B C D E F;obtain ⟨aI,aJ,aK,aL⟩:=I.o.cells;obtain ⟨z,A,B,C,D,E,F⟩:=au.o.cells;obtain ⟨M,O⟩:=qB (r.alloc (.cells (zR X.rq) 24));obtain ⟨t,u⟩:=qB (r.alloc (.cells #[zI X.rq.queue,zI (max X.rq.fr c),zI X.rq.un,zI X.rq.kind,.slice X.rq.pa X.rq.pn X.rq.pc] 24));have ai:zL r M:=by rw [O];exact zr _ _
  have R:zL r t:=by rw [u];exact zr _ _
  obtain ⟨az,aA,aB,aC⟩:=(I.o.later ai).cells;obtain ⟨aD,aE,aF,aG⟩:=(I.o.later R).cells;rw [O] at az aA aB aC;have H:=zh (za G.o R);have ar:=zh u;rw [u] at aD aE aF aG;have ae:X.rq.from c=⟨X.rq.queue,max X.rq.fr c,X.rq.un,X.rq.kind,X.rq.pa,X.rq.pn,X.rq.pc,X.rq.ps⟩:=rfl;have L:=ab.o t H.o;rw [ae] at L;have aq:=zh L;clear O u ai R L ae;go_wp2_with fail
  rw [<-ar.o];refine aq.o.mono ?_;rintro e aH ⟨fa,fm,fc,rfl,al,a⟩;have ap:Zh (wk w.heap.size aH fa fm fc V.1):=zh (al.mono H.o.size);have ao:=zh (za H.o a);clear a al;go_wp2;go_ret2
  exact ⟨fa,fm,fc,rfl,ap.o,ao.o⟩
theorem Fv {f:zd} (b:zW f) {t:Int} (a:0<=t) (c:t<48):Yv f t=(zn f t.toNat,0):=by
 unfold Yv;rw [if_pos (zX.2 b),if_pos (by simp [yW];omega)];unfold zn;rw [Int.toNat_of_nonneg a]
theorem IF {l:QL} {b:BL} (h:Clean l b) {q:Nat} (d:q<l.length):zW (UA l b q)/\∀ t:Nat,t<48->zn (UA l b q) t=zn (qu l q).runs t-xh l b q t b.length:=by
 obtain ⟨c1,c2⟩:=Yx h.tree (p:=q) d;obtain ⟨g,c⟩:=ZT h b.length (Nat.le_refl _) q;have i:=h.few;obtain ⟨e,_,f⟩:=Sr (jn:=fun x y=>x-y) c1 g (fun t a=>by have:=c2 t;have:=c t a;omega);refine ⟨e,fun t a=>?_⟩;show zn (xl (fun x y=>x-y) _ _).1 t=_;rw [f t a,(c t a).1]
theorem UL {l:QL} {b:BL} (h:Clean l b) {q:Nat} (d:q<l.length) {t:Int} (a:0<=t) (c:t<48):yw l b t q=true↔zn (qu l q).runs t.toNat<xh l b q t.toNat b.length:=by
 obtain ⟨e,f⟩:=IF h d;unfold yw;rw [Fv e a c,decide_eq_true_iff];show zn (UA l b q) t.toNat<0↔_;rw [f _ (by omega)];omega
theorem IU {l:QL} {b:BL} (h:Clean l b) {q:Nat} (d:q<l.length) {t:Int} (a:0<=t) (c:t<48):yw l b t q=false↔xh l b q t.toNat b.length<=zn (qu l q).runs t.toNat:=by
 rw [<-Bool.not_eq_true,UL h d a c];omega
theorem XX {l:QL} {b:BL} (h:Clean l b) {q:Nat} (a:q<l.length) {t:Int} (c:0<=t) (d:t<48) (f:yw l b t q=true):0<b.length:=by
 have e:=(UL h a c d).1 f;have g:=((Yx h.tree (p:=q) a).2 t.toNat).1;cases b with
 | nil=>simp [xh] at e;omega
 | cons _ _=>simp
theorem WT (l:QL) (b:BL) (t q:Int):∀ n,0<n->wC l b t q n<n
 | 0,h=>by omega
 | n+1,_=>by
  rw [wC]
  split
  ·exact Nat.lt_succ_self n
  by_cases e:n=0
  ·subst e;exact Nat.zero_lt_one
  exact Nat.lt_succ_of_lt (WT l b t q n (by omega))
def wU (b:BL) (i:Nat):BL:=b.take i++b.drop (i+1)
theorem XS {b:BL} {i:Nat} (h:i<b.length):(wU b i).length=b.length-1:=by simp [wU];omega
theorem Pe {b:BL} {i:Nat} {x:Bk} (h:x∈wU b i):x∈b:=wK h
theorem Nq {b:BL} {i:Nat} {x y:Bk} (h:y∈yL b i x):y=x\/y∈b:=by
 unfold yL at h;rw [List.mem_append,List.mem_cons] at h;rcases h with h | h | h
 ·exact Or.inr (List.mem_of_mem_take h)
 ·exact Or.inl h
 exact Or.inr (List.mem_of_mem_drop h)
theorem UO {b:BL} {x y:Bk} (h:y∈Zj b x):y=x\/y∈b:=Nq h
theorem Z7 (b:BL) (x:Bk):(Zj b x).length=b.length+1:=YH x (Oa b x.id b.length)
inductive Lit (c:Int) (l:QL) (b0:BL):BL->BL->Prop
 | start:Lit c l b0 b0 []
 | step {b aw:BL} {t:Int} {q:Nat}:Lit c l b0 b aw->XO c l b l.length t q true->Lit c l b0 (wU b (wC l b t q b.length)) (Zj aw (bk b (wC l b t q b.length)))
theorem Lit.clean {c:Int} {l:QL} {d b f:BL} (h:Lit c l d b f) (n:Clean l d) (v:0<=c):Clean l b/\(∀ x∈b,x∈d)/\(∀ x∈f,x∈d)/\b.length+f.length=d.length:=by
 induction h with
 | start=>exact ⟨n,fun x h=>h,fun x h=>absurd h (List.not_mem_nil),by simp⟩
 | @step b f t q _ hf ih =>
  obtain ⟨g,j,m,w⟩:=ih;rcases hf with ⟨e,_⟩ | ⟨_,z,u,k,o,y,p,_,_⟩
  ·cases e
  have s:q=k:=by omega
  subst s;have r:=XX g o (by omega) u p;have i:=WT l b t q b.length r;refine ⟨Tc g (by rw [XS i];have:=g.few;omega) (fun x a=>Pe a),fun x a=>j x (Pe a),fun x a=>?_,?_⟩
  ·rcases UO a with rfl | a
   ·exact j _ (yx i)
   exact m x a
  rw [XS i,Z7];omega
def Ui (g:Nat) (w:World):World:=w.putObj g (.deferred none)
theorem Vb (g:Nat) (w:World):(Ui g w).heap.size=w.heap.size:=World.putObj_size
theorem Va {g:Nat} {w:World} {p:Addr} {v:Value} (h:(Ui g w).cell? p=some v):w.cell? p=some v:=by
 by_cases e:p.block=g
 ·exfalso;unfold World.cell? at h;by_cases a:g<w.heap.size
  ·rw [e,show (Ui g w).heap[g]?=some (.deferred none) from World.putObj_heap_same a] at h;cases h
  rw [e,Array.getElem?_eq_none (by rw [Vb];omega)] at h;cases h
 exact (World.cell?_of_block (w:=w) (w':=Ui g w) (World.putObj_heap_other e)).symm.trans h
theorem RunsIn.on {g:Nat} {w:World} {a:Option Addr} {n cap:Nat} {l:zd} (h:RunsIn (Ui g w) a n cap l):RunsIn w a n cap l:=by
 refine ⟨h.len,h.le,h.bound,h.capb,fun f=>?_⟩;obtain ⟨b,j,e,c⟩:=h.cells f;exact ⟨b,j,e,fun i d=>⟨Va (c i d).1,Va (c i d).2⟩⟩
theorem QsIn.on {g:Nat} {w:World} {a:Option Addr} {n cap:Nat} {l:QL} (h:QsIn (Ui g w) a n cap l):QsIn w a n cap l:=by
 refine ⟨h.len,h.le,h.capb,fun f=>?_,fun i c=>(h.caps i c).on,h.names⟩;obtain ⟨b,j,e,d⟩:=h.cells f;exact ⟨b,j,e,fun i c=>⟨Va (d i c).1,Va (d i c).2.1,Va (d i c).2.2⟩⟩
theorem Yo {g:Nat} {w a:World} (h:w.grownBy a (some g)):Below (Ui g w).heap.size (Ui g w) (Ui g a):=by
 refine ⟨h.os,h.tape,h.output,by rw [Vb,Vb];exact h.size,fun k b=>?_⟩;rw [Vb] at b;by_cases e:k=g
 ·subst e;rw [show (Ui k a).heap[k]?=some (.deferred none) from World.putObj_heap_same (Nat.lt_of_lt_of_le b h.size),show (Ui k w).heap[k]?=some (.deferred none) from World.putObj_heap_same b]
 rw [show (Ui g a).heap[k]?=a.heap[k]? from World.putObj_heap_other e,show (Ui g w).heap[k]?=w.heap[k]? from World.putObj_heap_other e];exact h.block k b (fun c=>e (Option.some.inj c))
def wT (w:World) (x:Bk):Prop:=zH w x.rq/\RunsIn w x.ba x.bn x.bc x.bs
theorem wT.on {g:Nat} {w:World} {x:Bk} (h:wT (Ui g w) x):wT w x:=⟨RunsIn.on h.1,RunsIn.on h.2⟩
theorem wT.later {w w':World} {x:Bk} (h:wT w x) (a:Below w.heap.size w w'):wT w' x:=⟨zH.later h.1 a,h.2.later a⟩
theorem S3 {d:World} {B g m k:Nat} {b:BL} (e:m=b.length) (h:d.ownsRow B 60 7 (.slice (zO g 0) m k) m (ze b)) (a:∀ x∈b,wT d x):BksIn d (zO g 0) m k b:=by
 obtain ⟨f,j,c⟩:=VH e h;exact ⟨e,f,j,fun _=>⟨g,0,rfl,fun i a=>⟨c i a 0 _ rfl,c i a 1 _ rfl,c i a 2 _ rfl,c i a 3 _ rfl,c i a 4 _ rfl,c i a 5 _ rfl,c i a 6 _ rfl⟩⟩,fun i h=>(a _ (yx (by omega))).1,fun i h=>(a _ (yx (by omega))).2⟩
end Go.Proofs.YtckpdfkobdgjeaaGreatDoor
