/- Several texts in one: CutY, CutZ, ChgA. -/
import Derived.Test.YtckpdfkobdgjeaaGreatDoorHAll16
namespace Go.Proofs.YtckpdfkobdgjeaaGreatDoor
set_option maxRecDepth 100000
set_option maxHeartbeats 8000000
open Go.RowKit
theorem Wo {w:World} {B a n z:Nat} {e:TypeId} {v:Value} {b:List Value} (h:w.ownsRow B e z v n b) (i:a<=B):w.ownsRow a e z v n b:=by
 refine ⟨h.1,?_⟩;rcases h.2 with d | ⟨g,cap,c,rfl,f,rest⟩
 ·exact .inl d
 exact .inr ⟨g,cap,c,rfl,by omega,rest⟩
def VL (w:World) (B:Nat) (a b c d:Value):World:=(((w.setCell (zA B 0) a).setCell (zA B 1) b).setCell (zA B 2) c).setCell (zA B 3) d
theorem X7 {w:World} {B:Nat} {e f g i:Value} (h:zj w B e f g i) (a b c d:Value):zj (VL w B a b c d) B a b c d:=(zk w B 40 _ _ _ _ a b c d h).1
theorem Jw (w:World) (B:Nat) (a b c d:Value):(VL w B a b c d).heap.size=w.heap.size:=by simp [VL,World.setCell]
theorem Zk {w:World} {B:Nat} {g i j l:Value} (h:zj w B g i j l) (a b c d:Value):w.grownBy (VL w B a b c d) (some B) :=
 ⟨rfl,rfl,rfl,by rw [Jw];exact Nat.le_refl _,fun k _ f=>(zk w B 40 _ _ _ _ a b c d h).2 k (fun e=>f (by rw [e]))⟩
structure YInv (w wy:World) (S B1 B:Nat) (c n:Int) (g k1 tn:Nat) (l3:QL) (aa:Option Addr) (bn k3:Nat) (b':BL):Prop where
 box:zj wy B (zI c) (zI n) (.slice (zO g 0) tn k1) (.slice aa bn k3)
 res:zj wy (S+1) (zI 0) (zI 0) zN zN
 qs:QsIn wy (zO g 0) tn k1 l3
 qrow:B1<=g/\g≠B/\∀ gb,aa=zO gb 0->g≠gb
 caps:∀ i,i<tn->0<(qu l3 i).cn->∀ k off,(qu l3 i).ca=zO k off->B1<=k/\k≠B/\∀ gb,aa=zO gb 0->k≠gb
 row:wy.ownsRow B1 60 7 (.slice aa bn k3) bn (ze b')
 inner:∀ x∈b',wT wy x
 ps:∀ x∈b',0<x.rq.pn->∀ k off,x.rq.pa=zO k off->B1<=k/\k≠B/\∀ gb,aa=zO gb 0->k≠gb
 bs:∀ x∈b',0<x.bn->∀ k off,x.ba=zO k off->B1<=k/\k≠B/\∀ gb,aa=zO gb 0->k≠gb
 below:Below w.heap.size w wy
 sz:w.heap.size=S
 b1:S+2<=B1/\B1<=B
 bsz:B<wy.heap.size
 bl:bn=b'.length
theorem YInv.off {w j:World} {S l B:Nat} {c n:Int} {g s u:Nat} {t:QL} {a bn z:Nat} {m:BL} (h:YInv w j S l B c n g s u t (zO a 0) bn z m) :
 QsIn (YP [S+1,B,a] j) (zO g 0) u s t/\∀ x∈m,wT (YP [S+1,B,a] j) x:=by
 have C:=h.b1;have key:∀ k,(l<=k/\k≠B/\∀ p,some ((zA a 0):Addr)=zO p 0->k≠p)->k∉[S+1,B,a]:=by
  intro k q r;have v:=q.2.2 a rfl;simp only [List.mem_cons,List.not_mem_nil,or_false] at r;rcases r with e | e | e
  ·omega
  ·exact q.2.1 e
  exact v e
 refine ⟨h.qs.offL _ (fun _ k b e=>?_) (fun i y d k b e=>key k (h.caps i y d k b e)),fun x f=>⟨RunsIn.offL (h.inner x f).1 _ fun d k b e=>key k (h.ps x f d k b e),RunsIn.offL (h.inner x f).2 _ fun d k b e=>key k (h.bs x f d k b e)⟩⟩;have o:g=k:=by
  injection e with e;injection e with o A
 rw [<-o];exact key g h.qrow
theorem YInv.done {w V w6:World} {S W B:Nat} {c n:Int} {g o p:Nat} {t l:QL} {H bn ax:Nat} {v b:BL} {q:Nat} {rs:zd} (h:YInv w V S W B c n g o p t (zO H 0) bn ax v)
 {b1 u a:BL} {mv dr:List Int} {f s:Nat} {R:Option Addr} {mk:Nat} {J:Option Addr} {L:Nat} {aC:Value} (ap:But [S+1,B,H] V w6) (C:zj w6 B (zI c) (zI n) (.slice (zO g 0) p o) aC) (af:zj w6 (S+1) (zI 0) (zI 0) zN zN)
 (aq:zi t=zi (yP l q rs)) (ao:zg v=zg b) (ar:Lit c t v b1 u) (Q:∀ x∈b1,x∈v) (ag:∀ x∈u,x∈v) (au:∀ U,c<=U->U<48->∀ k,k<t.length->yw t b1 U k=false) (av:Stl c t b1 u u.length a mv dr) (P:w6.ownsRow W 60 7 (.slice (zO f 0) a.length s) a.length (ze a)) {Y:Nat} (aD:w.heap.size<=Y) (O:∀ x∈a,WI Y b1 u w6 x)
 (ae:zG w6 w.heap.size (.slice R mv.length mk) mv) (ab:zG w6 w.heap.size (.slice J dr.length L) dr) (aF:w.heap.size<=H) :
 JO w (VL (VL w6 B (zI c) (zI n) (.slice (zO g 0) p o) (.slice (zO f 0) a.length s)) (S+1) (zI c) (zI n) (.slice (zO g 0) p o) (.slice (zO f 0) a.length s)) (.returned (.tuple #[.agg (zS c n (zO g 0) p o (zO f 0) a.length s),.slice R mv.length mk,.slice J dr.length L,zI 0])) c n p l b q rs:=by
 obtain ⟨an,aa⟩:=h.off;have aE:=h.b1;have aG:=h.sz;obtain ⟨r,ah⟩:=qB (VL w6 B (zI c) (zI n) (.slice (some ⟨g,0,none⟩) p o) (.slice (some ⟨f,0,none⟩) a.length s));rw [<-ah];have y:w6.grownBy r (some B):=by rw [ah];exact Zk C _ _ _ _
 have E:zj r (S+1) (zI 0) (zI 0) zN zN:=(y.block (S+1) (Array.getElem?_eq_some_iff.1 af).1 (fun e=>by have:=Option.some.inj e;omega)).trans af;obtain ⟨G,ai⟩:=qB (VL r (S+1) (zI c) (zI n) (.slice (some ⟨g,0,none⟩) p o) (.slice (some ⟨f,0,none⟩) a.length s));rw [<-ai];have A:r.grownBy G (some (S+1)):=by rw [ai];exact Zk E _ _ _ _
 have I:But [S+1,B,H] V G:=ap.trans ((But.grown y (by simp)).trans (But.grown A (by simp)));have aA:Stay w6 r:=Stay.grown y (fun k e=>by cases e;exact Ti C (Or.inr (Or.inl rfl)));have aB:Stay r G:=Stay.grown A (fun k e=>by cases e;exact Ti E (Or.inr (Or.inl rfl)));have ak:=P.kept y (Or.inr fun e=>C.not_row P e.symm);have az:=ak.kept A (Or.inr fun e=>E.not_row ak e.symm);have aj:=ae.keep y (Or.inr fun e=>yc C ae (by decide) e.symm);have Z:=ab.keep y (Or.inr fun e=>yc C ab (by decide) e.symm);have ay:=aj.keep A (Or.inr fun e=>yc E aj (by decide) e.symm);have al:=Z.keep A (Or.inr fun e=>yc E Z (by decide) e.symm);refine ⟨g,o,t,zO f 0,s,a,v,b1,u,mv,dr,R,mk,J,L,rfl,⟨(an.later (ZI I)).onL,S3 rfl az fun x aw=>?_⟩,aq,ao,ar,au,av,ay,al,h.below.trans (I.far (by have:=h.bsz;omega) fun k ad=>?_),?_⟩
 ·rcases O x aw with F | ⟨⟨X,N,e⟩,j,_⟩
  ·exact ((aa x (Q x F)).later (ZI I)).onL
  refine ⟨?_,((j.stay aA).stay aB).1⟩;rw [e];exact (((aa X (ag X N)).later (ZI I)).onL).1
 ·simp only [List.mem_cons,List.not_mem_nil,or_false] at ad;rcases ad with e | e | e <;> omega
 ·refine ⟨fun _ d m e=>?_,fun i D j d m e=>?_,fun _ d m e=>?_,fun i D j d m e=>?_,fun i D j d m e=>?_⟩
  ·have z:=h.qrow.1;have M:g=d:=(by injection e with e;injection e with M);omega
  ·have z:=(h.caps i D j d m e).1;omega
  ·have z:=(P.lt f rfl).1;have M:f=d:=(by injection e with e;injection e with M);omega
  ·rcases O _ (yx D) with F | ⟨⟨X,N,am⟩,_⟩
   ·have z:=(h.ps _ (Q _ F) j d m e).1;omega
   rw [am] at j e;have z:=(h.ps _ (ag X N) j d m e).1;omega
  rcases O _ (yx D) with F | ⟨_,_,hn⟩
  ·have z:=(h.bs _ (Q _ F) j d m e).1;omega
  have z:=hn d m e;omega
theorem YInv.later {w b m:World} {S d B:Nat} {c n:Int} {g i l:Nat} {k:QL} {e:Option Addr} {bn j:Nat} {f:BL} (h:YInv w b S d B c n g i l k e bn j f) (a:Below b.heap.size b m):YInv w m S d B c n g i l k e bn j f :=
 ⟨h.box.later a,h.res.later a,h.qs.later a,h.qrow,h.caps,zy h.row a,fun x o=>(h.inner x o).later a,h.ps,h.bs,za h.below a,h.sz,h.b1,Nat.lt_of_lt_of_le h.bsz a.size,h.bl⟩
theorem Wl (w:World):BksIn w none 0 0 []:=⟨rfl,Nat.le_refl _,by omega,fun h=>by omega,fun i h=>by omega,fun i h=>by omega⟩
theorem YInv.done0 {w t w6:World} {S y B:Nat} {c n:Int} {g a d:Nat} {j l:QL} {b:BL} {q:Nat} {rs:zd} (h:YInv w t S y B c n g a d j none 0 0 [])
 (O:But [S+1,B] t w6) (N:zj w6 B (zI c) (zI n) (.slice (zO g 0) d a) zN) (E:zj w6 (S+1) (zI 0) (zI 0) zN zN)
 (P:zi j=zi (yP l q rs)) (M:zg []=zg b) (Q:∀ x,c<=x->x<48->∀ k,k<j.length->yw j [] x k=false) :
 JO w (VL (VL w6 B (zI c) (zI n) (.slice (zO g 0) d a) zN) (S+1) (zI c) (zI n) (.slice (zO g 0) d a) zN) (.returned (.tuple #[.agg (zS c n (zO g 0) d a none 0 0),zN,zN,zI 0])) c n d l b q rs:=by
 have V:=h.b1;have W:=h.sz;have key:∀ k,(y<=k/\k≠B/\∀ A,(none:Option Addr)=zO A 0->k≠A)->k∉[S+1,B]:=by
  intro k r D;simp only [List.mem_cons,List.not_mem_nil,or_false] at D;rcases D with e | e
  ·omega
  exact r.2.1 e
 have L:QsIn (YP [S+1,B] t) (zO g 0) d a j:=by
  refine h.qs.offL _ (fun _ k o e=>?_) (fun i f v k o e=>key k (h.caps i f v k o e));have p:g=k:=by
   injection e with e;injection e with p U
  rw [<-p];exact key g h.qrow
 obtain ⟨m,F⟩:=qB (VL w6 B (zI c) (zI n) (.slice (some ⟨g,0,none⟩) d a) zN);rw [<-F];have z:w6.grownBy m (some B):=by rw [F];exact Zk N _ _ _ _
 have R:zj m (S+1) (zI 0) (zI 0) zN zN:=(z.block (S+1) (Array.getElem?_eq_some_iff.1 E).1 (fun e=>by have:=Option.some.inj e;omega)).trans E;obtain ⟨s,G⟩:=qB (VL m (S+1) (zI c) (zI n) (.slice (some ⟨g,0,none⟩) d a) zN);rw [<-G];have H:m.grownBy s (some (S+1)):=by rw [G];exact Zk R _ _ _ _
 have C:But [S+1,B] t s:=O.trans ((But.grown z (by simp)).trans (But.grown H (by simp)));refine ⟨g,a,j,none,0,[],[],[],[],[],[],none,0,none,0,rfl,⟨(L.later (ZI C)).onL,Wl _⟩,P,M,Lit.start,Q,Stl.start,World.ownsRow_nil _ _ _ _,World.ownsRow_nil _ _ _ _,h.below.trans (C.far (by have:=h.bsz;omega) fun k r=>?_),?_⟩
 ·simp only [List.mem_cons,List.not_mem_nil,or_false] at r;rcases r with e | e <;> omega
 ·refine ⟨fun _ u o e=>?_,fun i f v u o e=>?_,fun I=>absurd I (Nat.lt_irrefl _),fun i f=>absurd f (Nat.not_lt_zero _),fun i f=>absurd f (Nat.not_lt_zero _)⟩
  ·have J:=h.qrow.1;have p:g=u:=(by injection e with e;injection e with p);omega
  have J:=(h.caps i f v u o e).1;omega
theorem PD (w:World) (c n:Int) (f:Option Addr) (i g:Nat) (l:QL) (ba:Option Addr) (bn bc:Nat) (b:BL) (h:zY w f i g l ba bn bc b) (q:Int) (N:Option Addr) (P O:Nat) (s:zU c n l b≠0) :
 zC 55 #[.agg (zS c n f i g ba bn bc),zI q,.slice N P O] w fun e w'=>e=.returned (.tuple #[.agg zZ,zN,zN,zI (zU c n l b)])/\Below w.heap.size w w':=by
 obtain ⟨S,C⟩:=qA (w.heap.size);obtain ⟨r,t⟩:=qB ((w.alloc (.cells (zS c n f i g ba bn bc) 40)).alloc (.cells zZ 40));obtain ⟨z,A,x,D⟩:=ZK w _ _ _ _ t;rw [C] at z A D;have m:=wY r c n f i g l ba bn bc b (h.later x);have J:=zh A;have E:=zh x;have I:=zh t;have H:=zh C;obtain ⟨L,c1,c2,c3⟩:=z.cells;obtain ⟨a,B⟩:=qA (zU c n l b);rw [B] at m s ⊢;have Q:(a != 0)=true:=by simp [s]
 have G:=zh m;clear t z A x h D m B s;go_enter Tryz.func55,Tryz.ntmps55;go_wp2_with fail
 rw [<-I.o];refine G.o.mono ?_;rintro e y ⟨rfl,u⟩;have j:=zh (J.o.later u);have F:=zh (za E.o u);clear u L c1 c2 c3;obtain ⟨R,U,V,W⟩:=j.o.cells;have X:∀ k,y.frozen? (zA (S+1) k)=false:=fun k=>frozen_of_row y (S+1) k _ _ j.o;go_wp2_with fail
 have M:=zk y (S+1) 40 _ _ _ _ (zI 0) (zI 0) zN zN j.o;have d:w.heap.size<=S+1:=by have:=H.o;omega
 refine bodyPost_ret (v:=.tuple #[.agg zZ,zN,zN,zI a]) (yF Tryz.results55 _ _ (S+1) 40 zZ (0,0) _ rfl M.1 Tryz.underlying40 rfl (by kernel_rfl)) rfl ⟨rfl,?_⟩;exact ((((F.o.setCell (p:=(zA (S+1) 0)) d _).setCell (p:=(zA (S+1) 1)) d _).setCell (p:=(zA (S+1) 2)) d _).setCell (p:=(zA (S+1) 3)) d _)
theorem OD (w:World) (c n:Int) (g:Option Addr) (d i:Nat) (l:QL) (ba:Option Addr) (bn bc:Nat) (b:BL) (h:zY w g d i l ba bn bc b) (q:Int) (Q:Option Addr) (U R:Nat) (D:zU c n l b=0) (E:¬(0<=q/\q<d)) :
 zC 55 #[.agg (zS c n g d i ba bn bc),zI q,.slice Q U R] w fun e w'=>e=.returned (.tuple #[.agg zZ,zN,zN,zI 6])/\Below w.heap.size w w':=by
 obtain ⟨S,C⟩:=qA (w.heap.size);obtain ⟨s,t⟩:=qB ((w.alloc (.cells (zS c n g d i ba bn bc) 40)).alloc (.cells zZ 40));obtain ⟨j,y,u,G⟩:=ZK w _ _ _ _ t;rw [C] at j y G;have r:=wY s c n g d i l ba bn bc b (h.later u);rw [D] at r;have N:=zh j;have O:=zh y;have H:=zh u;have L:=zh t;have J:=zh C;obtain ⟨B,c1,c2,c3⟩:=j.cells;have I:=zh r;clear t j y u h G r D;go_enter Tryz.func55,Tryz.ntmps55;go_wp2_with fail
 rw [<-L.o];refine I.o.mono ?_;rintro e x ⟨rfl,f⟩;have m:=zh (O.o.later f);have z:=zh (za H.o f);have M:=zh (N.o.later f);clear f B c1 c2 c3;obtain ⟨B,c1,c2,c3⟩:=M.o.cells;obtain ⟨Y,Z,aa,ab⟩:=m.o.cells;have ad:∀ k,x.frozen? (zA (S+1) k)=false:=fun k=>frozen_of_row x (S+1) k _ _ m.o;have F:=zk x (S+1) 40 _ _ _ _ (zI 0) (zI 0) zN zN m.o;have a:w.heap.size<=S+1:=by have:=J.o;omega
 have A:=zh F;clear F;by_cases P:q<0
 ·clear E;go_wp2_with fail
  refine bodyPost_ret (v:=.tuple #[.agg zZ,zN,zN,zI 6]) (yF Tryz.results55 _ _ (S+1) 40 zZ (0,0) _ rfl A.o.1 Tryz.underlying40 rfl (by kernel_rfl)) rfl ⟨rfl,?_⟩;exact ((((z.o.setCell (p:=(zA (S+1) 0)) a _).setCell (p:=(zA (S+1) 1)) a _).setCell (p:=(zA (S+1) 2)) a _).setCell (p:=(zA (S+1) 3)) a _)
 ·have V:(d:Int)<=q:=by omega
  have W:¬q<0:=P;have X:0<=q:=by omega
  clear E;go_wp2_with fail
  refine bodyPost_ret (v:=.tuple #[.agg zZ,zN,zN,zI 6]) (yF Tryz.results55 _ _ (S+1) 40 zZ (0,0) _ rfl A.o.1 Tryz.underlying40 rfl (by kernel_rfl)) rfl ⟨rfl,?_⟩;exact ((((z.o.setCell (p:=(zA (S+1) 0)) a _).setCell (p:=(zA (S+1) 1)) a _).setCell (p:=(zA (S+1) 2)) a _).setCell (p:=(zA (S+1) 3)) a _)
theorem Md (w:World) (c n:Int) (aM:Option Addr) (f aN:Nat) (l:QL) (ba:Option Addr) (bn bc:Nat) (b:BL) (h:zY w aM f aN l ba bn bc b) (q:Nat) (dK:q<f) (ay:Option Addr) (t az:Nat) (rs:zd) (al:RunsIn w ay t az rs) (dp:t<=1048576) (z:zU c n l b=0) :
 zC 55 #[.agg (zS c n aM f aN ba bn bc),zI q,.slice ay t az] w fun e w'=>(z9 (yP l q rs)≠0/\e=.returned (.tuple #[.agg zZ,zN,zN,zI (z9 (yP l q rs))])/\Below w.heap.size w w')\/(z9 (yP l q rs)=0/\JO w w' e c n f l b q rs):=by
 obtain ⟨ai,bG⟩:=qA (z9 (yP l q rs));rw [bG];have cV:=zh bG;clear bG;have bJ:=yZ z;have bU:=XT h bJ.clean;have dC:=zh h.2.len;have dD:=zh h.1.len;have bt:=zh bJ;have dM:f<=1000:=bU.t1;obtain ⟨S,cv⟩:=qA (w.heap.size);obtain ⟨bz,bK⟩:=qB ((w.alloc (.cells (zS c n aM f aN ba bn bc) 40)).alloc (.cells zZ 40));obtain ⟨a7,b3,bO,bY⟩:=ZK w _ _ _ _ bK;rw [cv] at a7 b3 bY;have bw:=wY bz c n aM f aN l ba bn bc b (h.later bO);rw [z] at bw;have cl:=zh fun X (bL:zL w X)=>Vw X c n aM f aN l ba bn bc b (h.later bL) bU;have cm:=zh fun X (bL:zL w X)=>Sy X ay t az rs (al.later bL) dp;have cq:=zh a7;have cr:=zh b3;have b6:=zh bO;have cg:=zh bK;have bs:=zh cv;have c4:=zh bY;obtain ⟨bA,c1,c2,c3⟩:=a7.cells;have cc:=zh bw;have dJ:(q:Int)<f:=by omega
 have dI:(0:Int)<=q:=by omega
 clear bK a7 b3 bO h bY bw z bJ bU al;go_enter Tryz.func55,Tryz.ntmps55;go_wp2_with fail
 rw [<-cg.o];refine cc.o.mono ?_;rintro e a6 ⟨rfl,j⟩;have bv:=zh (cq.o.later j);have ci:=zh (cr.o.later j);have b7:=zh (za b6.o j);have cX:Zh (S+2<=a6.heap.size):=by have:=j.size;have:=c4.o;show S+2<=a6.heap.size;omega
 clear j bA c1 c2 c3;obtain ⟨bA,c1,c2,c3⟩:=bv.o.cells;go_wp2_with fail
 refine (cl.o a6 b7.o).mono ?_;rintro e aA ⟨g,r,L,Y,O,aE,rfl,ag,cE,cw,cy,aT,j⟩;obtain ⟨W,aF⟩:=qB (aA.alloc (.cells (zS c n (some ⟨g,0,none⟩) f r Y bn O) 40));have aG:zL aA W:=by rw [aF];exact zr _ _
 have aL:W.heap.size=aA.heap.size+1:=by rw [aF];simp
 have a0:zj W aA.heap.size (zI c) (zI n) (.slice (zO g 0) f r) (.slice Y bn O):=by rw [aF];exact zj.new aA _ _ _ _
 obtain ⟨R,ct⟩:=qA (a6.heap.size);obtain ⟨B,bF⟩:=qA (aA.heap.size);have hg:R<=g/\g<B:=by have:=ag.qs.row.lt g rfl;omega
 have df:R<=B:=by have:=j.size;omega
 have dg:S+2<=R:=by have:=cX.o;omega
 have bq:=zh ag;have ce:=zh (ag.qs.later aG);have cS:=zh (za b7.o j);have ck:=zh ((ci.o.later j).later aG);have bf:=zh (za cS.o aG);have b9:=zh aG;rw [bF] at a0 aL;have cj:=zh a0;have cd:=zh cE;have b8:=zh cw;have cT:=zh cy;have bg:=zh aT;have ch:=zh aF;have cf:=zh aL;have aB:=zh bF;have aO:=zh ct;have cH:q<L.length:=by omega
 have b5:=zh a0.cells.2.2.1;clear j aG aL a0 ag cy aT aF bF ct bA c1 c2 c3 cE cw;obtain ⟨du,dv,dw,dx⟩:=bv.o.cells;go_wp2_with fail
 rw [aB.o];rw [<-ch.o];refine wN ((Tryz.f55.body.bind fun c=>yi c 7).getD #[]) (by kernel_rfl) [zl (.pointer (zO B 2)),zl (.slice (zO g 0) f r),zl (zI q),zl (.slice ay t az),⟨fun v c7=>∃ u C,v=.slice u t C/\RunsIn c7 u t C rs/\∀ b s,u=zO b s->W.heap.size<=b,fun _ _ _ ⟨u,C,y,H,aj⟩ j=>⟨u,C,y,H.later j,aj⟩⟩,zl (.pointer (zO g (q*3))),zl (.pointer (zO g (q*3+2))),zl undef] 7 (by kernel_rfl) (by kernel_rfl) (by kernel_rfl) ?hstep
 case hstep =>
  refine zc.cons 1 rfl ?_ ?_
  ·intro T w' j N J D;rw [if_neg (by decide)];have af:T.getD 11 undef=.pointer (zO B 0):=J 11;exact zs (by go_simp) rfl
  refine zc.cons 2 rfl ?_ ?_
  ·intro T w' j N J D;rw [if_neg (by decide)];have af:T.getD 34 undef=_:=D 0 34;have dE:=cell_later j b5.o;exact zs (by go_simp) rfl
  refine zc.cons 3 rfl ?_ ?_
  ·intro T w' j N J D;rw [if_neg (by decide)];have af:T.getD 1 undef=zI q:=J 1;exact zs (by go_simp) rfl
  refine zc.cons 4 rfl ?_ ?_
  ·intro T w' j N J D;rw [if_neg (by decide)];have af:T.getD 2 undef=.slice ay t az:=J 2;exact zs (by go_simp) rfl
  refine zc.cons 5 rfl ?_ ?_
  ·intro T w' j N J D;rw [if_neg (by decide)];have af:T.getD 37 undef=_:=D 3 37;refine Or.inr ⟨94,#[.slice ay t az],by go_simp,?_⟩;refine (cm.o w' (za bf.o j)).mono ?_;rintro e dO ⟨u,C,rfl,al,aT,aJ⟩;exact ⟨_,rfl,⟨u,C,rfl,al.1,fun b s e=>by have:=aJ b s e;have:=j.size;omega⟩,aT⟩
  refine zc.cons 6 rfl ?_ ?_
  ·intro T w' j N J D;rw [if_neg (by decide)];have af:T.getD 35 undef=_:=D 1 35;have y:T.getD 36 undef=_:=D 2 36;exact zs (by go_simp) rfl
  refine zc.cons 7 rfl ?_ ?_
  ·intro T w' j N J D;rw [if_neg (by decide)];have af:T.getD 39 undef=_:=D 5 39;exact zs (by go_simp) rfl
  refine zc.cons 8 rfl ?_ ?_
  ·intro T w' j N J D;rw [if_pos rfl]
   replace N:=N.resolve_right (fun h=>h rfl)
   have y:T.getD 40 undef=_:=D 6 40;obtain ⟨u,C,af,al,aJ⟩:=D 4 38;have ag:=ce.o.later j;have cF:=cd.o;have aY:=ag.row;rw [<-cF] at aY;have b4:w'.cell? (zA g (q*3+2))=some (.slice (qu L q).ca (qu L q).cn (qu L q).cc):=(by rw [aY.cellAt (q*3+2) (by omega),Ys L q 2 (by omega) (by omega)];rfl);have dB:∀ k,w'.frozen? (zA g k)=false:=fun k=>aY.frozenAt k;have aL:=cf.o;have aZ:=ag.store cd.o cH al (fun _ b s e=>by have:=aJ b s e;omega);have bW:∀ k,k≠g->k<W.heap.size->(w'.setCell (zA g (q*3+2)) (.slice u t C)).heap[k]?=W.heap[k]?:=fun k aX dl=>by
    rw [heap_setCell_other _ (zA g (q*3+2)) k _ aX];exact j.block k dl
   have cx:zL w (w'.setCell (zA g (q*3+2)) (.slice u t C)):=(za bf.o j).setCell (p:=(zA g (q*3+2))) (by have:=bs.o;have:=hg.1;simp only;omega) _;have ds:W.heap.size<=(w'.setCell (zA g (q*3+2)) (.slice u t C)).heap.size:=(by have:=j.size;simp only [World.setCell,Array.size_modify];omega);have aU:=(bq.o.bks.later b9.o).later j;have aD:Zh (YInv w (w'.setCell (zA g (q*3+2)) (.slice u t C)) S R B c n g r f (L.set q ⟨(qu L q).name,(qu L q).parent,u,t,C,rs⟩) Y bn O aE):=by
    have I:=bq.o;have cG:∀ a,Y=zO a 0->a<B/\g≠a:=fun a e=>by
     subst e;have y:=I.bks.row.lt a rfl;have H:=xc.1 (I.apart a rfl).1;exact ⟨by have:=aB.o;omega,H⟩
    have cQ:∀ x∈aE,(0<x.rq.pn->∀ k s,x.rq.pa=zO k s->R<=k/\k≠B/\∀ a,Y=zO a 0->k≠a)/\(0<x.bn->∀ k s,x.ba=zO k s->R<=k/\k≠B/\∀ a,Y=zO a 0->k≠a):=by
     intro x E;obtain ⟨i,U,rfl⟩:=yT E;refine ⟨fun z k s e=>?_,fun z k s e=>?_⟩
     ·have y:=I.newP i U z k s e;have H:=RunsIn.lt (I.bks.rqs i U) z e;have aj:=I.bks.farP i U z k s e;exact ⟨by have:=aO.o;omega,by have:=aB.o;omega,fun a Z aP=>aj (by rw [Z,aP];rfl)⟩
     have y:=I.newB i U z k s e;have H:=(I.bks.bites i U).lt z e;have aj:=I.bks.farB i U z k s e;exact ⟨by have:=aO.o;omega,by have:=aB.o;omega,fun a Z aP=>aj (by rw [Z,aP];rfl)⟩
    refine zh ⟨(bW B (by omega) (by omega)).trans cj.o,(bW (S+1) (by omega) (by omega)).trans ck.o,y6 aZ,⟨hg.1,by omega,fun a e=>(cG a e).2⟩,fun i U z k s e=>?_,?_,fun x E=>?_,fun x E=>(cQ x E).1,fun x E=>(cQ x E).2,cx,bs.o,⟨dg,df⟩,by omega,b8.o⟩
    ·rw [Vg _ cH] at z e;by_cases cs:i=q
     ·rw [if_pos cs] at z e;have y:=aJ k s e;exact ⟨by omega,by omega,fun a Z aP=>by have:=(cG a Z).1;omega⟩
     rw [if_neg cs] at z e;have bR:i<L.length:=(by omega);have y:=I.newC i bR z k s e;have H:=(I.qs.caps i bR).lt z e;refine ⟨by have:=aO.o;omega,by have:=aB.o;omega,fun a Z=>?_⟩;subst Z;exact (I.apart a rfl).2 i bR z k s e
    ·have y:=aU.row;rw [<-b8.o] at y;have H:w'.grownBy (w'.setCell (zA g (q*3+2)) (.slice u t C)) (some g):=⟨rfl,rfl,rfl,by simp [World.setCell],fun k _ cJ=>Below.heap_setCell _ _ _ k (fun e=>cJ (by rw [e]))⟩;have aj:=y.kept H (by
      cases e:(Value.slice Y bn O).ownBlock with
      | none=>exact Or.inl rfl
      | some a =>
       refine Or.inr fun Z=>?_;have:=(I.apart a e).1;exact this (by rw [Z];rfl))
     have:=aO.o;rw [<-this];exact aj
    obtain ⟨i,U,rfl⟩:=yT E;exact ⟨RunsIn.set_slice (aU.rqs i U) b4 _,(aU.bites i U).set_slice b4 _⟩
   clear aY ag;refine ⟨w'.setCell (zA g (q*3+2)) (.slice u t C),by go_simp,?_⟩;show _;rw [yb (tt 34 [false,false,false,false,false,false,false] 22) (by kernel_rfl) N @J];obtain ⟨us,cP⟩:∃ us:Nat->Value,(fun d=>T.getD d undef)=us:=⟨_,rfl⟩;rw [cP];clear cP J N D;simp only [xj,tt,List.replicate,List.cons_append,List.nil_append];have aC:=zh (U9 cT.o q u t C rs);obtain ⟨b2,bZ⟩:=qA (w'.setCell ⟨g,q*3+2,none⟩ (.slice u t C));obtain ⟨ah,bS⟩:=qA (L.set q ⟨(qu L q).name,(qu L q).parent,u,t,C,rs⟩);rw [bZ,bS] at aD;rw [bS] at aC;rw [bZ];clear aZ bW cx ds bZ bS b4 dB al j af y cF aJ aU bq ce cj ck b9 bf ch cf b5 cm cl bv ci cq cr cg cc b6 du dv dw dx aL;have bx:=wF b2 _ f r ah aD.o.qs;have bQ:z9 ah=ai:=(by rw [<-xi,aC.o,xi];exact cV.o);rw [bQ] at bx;have cU:=zh bQ;have cW:=zh bx;obtain ⟨a1,a2,a3,a4⟩:=aD.o.box.cells;clear bx bQ;go_wp2_with fail
   refine cW.o.mono ?_;rintro e V ⟨rfl,j⟩;have m:=zh (aD.o.later j);clear aD j a1 a2 a3 a4;obtain ⟨a1,a2,a3,a4⟩:=m.o.box.cells;by_cases aw:ai=0
   ·have ar:Zh (Clean ah aE):=zh (Yh (Wg bt.o.clean bg.o) (cU.o.trans aw) (by
     have y:=congrArg List.length aC.o;rw [yv,yv,Zd] at y;exact y))
    have bP:=bt.o.c0;have cz:=bt.o.c48;have cu:∀ k,V.frozen? (zA B k)=false:=fun k=>frozen_of_row V B k _ _ m.o.box;have dG:(ai != 0)=false:=(by simp [aw]);have dh:(Y=none/\bn=0/\O=0)\/∃ a,Y=zO a 0:=by
     rcases m.o.row.2 with ⟨e,_⟩ | ⟨a,dN,dF,e,_⟩
     ·simp only [Value.slice.injEq] at e;exact Or.inl e
     simp only [Value.slice.injEq] at e;exact Or.inr ⟨a,e.1⟩
    rcases dh with ⟨rfl,rfl,rfl⟩ | ⟨a,rfl⟩
    ·have dm:aE=[]:=List.length_eq_zero_iff.1 m.o.bl.symm;subst dm;have bo:=zh (Nv V c n (zO g 0) f r ah none 0 ar.o bP cz ⟨m.o.qs,Wl _⟩);go_wp2_with fail
     refine bo.o.mono ?_;rintro e P ⟨rfl,aR⟩;have di:=m.o.b1;have F:=m.o.box.later aR;have am:=m.o.res.later aR;obtain ⟨A,M⟩:=qB ((((P.setCell ⟨B,0,none⟩ (zI c)).setCell ⟨B,1,none⟩ (zI n)).setCell ⟨B,2,none⟩ (.slice (some ⟨g,0,none⟩) f r)).setCell ⟨B,3,none⟩ zN);have ak:zj A B (zI c) (zI n) (.slice (zO g 0) f r) zN:=(by rw [M];exact X7 F _ _ _ _);have ab:P.grownBy A (some B):=(by rw [M];exact Zk F _ _ _ _);have aK:zj A (S+1) (zI 0) (zI 0) zN zN:=(ab.block (S+1) (Array.getElem?_eq_some_iff.1 am).1 (fun e=>by have:=Option.some.inj e;omega)).trans am;have aa:But [S+1,B] V A:=(But.below aR).trans (But.grown ab (by simp));have bp:=zh (Lr A c n (zO g 0) f r none 0 0);have bi:=zh ak;have br:=zh aK;have bh:=zh aa;have bu:=zh M;obtain ⟨bB,bC,bD,bE⟩:=F.cells;have db:∀ k,P.frozen? (zA B k)=false:=fun k=>frozen_of_row P B k _ _ F;obtain ⟨an,ao,ap,aq⟩:=ak.cells;rw [M] at an ao ap aq;have dj:B≠S+1:=(by omega);clear aR F am ak aK ab aa M a1 a2 a3 a4 cu;go_wp2_with fail
     rw [<-bu.o];refine bp.o.mono ?_;rintro e Q ⟨rfl,aS⟩;have G:=bi.o.later aS;have ad:=br.o.later aS;have bm:=zh (m.o.done0 (w6:=Q) (l:=l) (b:=b) (q:=q) (rs:=rs) (bh.o.trans (But.below aS)) G ad aC.o bg.o (fun cR y H k aX=>UM ar.o aX (by omega) H));obtain ⟨bB,bC,bD,bE⟩:=G.cells;have dc:∀ k,Q.frozen? (zA B k)=false:=fun k=>frozen_of_row Q B k _ _ G;have aH:=X7 G (zI c) (zI n) (.slice (zO g 0) f r) zN;have aI:=Zk G (zI c) (zI n) (.slice (zO g 0) f r) zN;have ae:zj _ (S+1) (zI 0) (zI 0) zN zN:=(aI.block (S+1) (Array.getElem?_eq_some_iff.1 ad).1 (fun e=>by have:=Option.some.inj e;omega)).trans ad;have bj:=zh (X7 ae (zI c) (zI n) (.slice (zO g 0) f r) zN);obtain ⟨an,ao,ap,aq⟩:=aH.cells;obtain ⟨a8,a9,bb,bd⟩:=ae.cells;have be:∀ k,(VL Q B (zI c) (zI n) (.slice (zO g 0) f r) zN).frozen? (zA (S+1) k)=false:=fun k=>frozen_of_row _ (S+1) k _ _ ae;simp only [VL] at an ao ap aq a8 a9 bb bd be;clear aS G ad aH aI ae;go_wp2;exact bodyPost_ret (v:=.tuple #[.agg (zS c n (zO g 0) f r none 0 0),zN,zN,zI 0]) (yF Tryz.results55 _ _ (S+1) 40 (zS c n (zO g 0) f r none 0 0) (0,0) _ rfl bj.o Tryz.underlying40 rfl (by kernel_rfl)) rfl (Or.inr ⟨aw,bm.o⟩)
    ·skip
     obtain ⟨bI,bH⟩:=m.o.off;have co:=Nw V c n (zO g 0) f r ah R a O bn aE m.o.bl ar.o bP cz (QsIn.onL (ks:=[S+1,B]) bI) (fun x E=>wT.onL (ks:=[S+1,B]) (bH x E)) m.o.row;have bo:=zh co;have c0:=zh bI;have cb:=zh bH;clear co bI bH;go_wp2_with fail
     refine bo.o.mono ?_;rintro e P ⟨b1,c9,c8,dt,rfl,bT,cK,bV,bM,aV⟩;have dk:=m.o.bsz;have di:=m.o.b1;have dH:=(m.o.row.lt a rfl);have cB:a≠B:=fun e=>by
      subst e;exact m.o.box.not_row m.o.row rfl
     have cC:a≠S+1:=(by omega);have F:zj P B (zI c) (zI n) (.slice (zO g 0) f r) (.slice (zO a 0) bn O):=(aV.block B dk (fun e=>cB (Option.some.inj e).symm)).trans m.o.box;have am:zj P (S+1) (zI 0) (zI 0) zN zN:=(aV.block (S+1) (by omega) (fun e=>cC (Option.some.inj e).symm)).trans m.o.res;obtain ⟨A,M⟩:=qB ((((P.setCell ⟨B,0,none⟩ (zI c)).setCell ⟨B,1,none⟩ (zI n)).setCell ⟨B,2,none⟩ (.slice (some ⟨g,0,none⟩) f r)).setCell ⟨B,3,none⟩ (.slice (some ⟨a,0,none⟩) b1.length O));have ak:zj A B (zI c) (zI n) (.slice (zO g 0) f r) (.slice (zO a 0) b1.length O):=(by rw [M];exact X7 F _ _ _ _);have ab:P.grownBy A (some B):=(by rw [M];exact Zk F _ _ _ _);have aK:zj A (S+1) (zI 0) (zI 0) zN zN:=(ab.block (S+1) (Array.getElem?_eq_some_iff.1 am).1 (fun e=>by have:=Option.some.inj e;omega)).trans am;have aa:But [S+1,B,a] V A:=(But.grown aV (by simp)).trans (But.grown ab (by simp));obtain ⟨dz,b0,a5,dA⟩:=bT.clean ar.o bP;have cL:=bV.kept ab (Or.inr fun e=>F.not_row bV e.symm);have bN:=bM.kept ab (Or.inr fun e=>F.not_row bM e.symm);have dL:V.heap.size<=A.heap.size:=aa.size;have cp:=Ls A c n (zO g 0) f r ah R a O b1 c9 c8 dt (QsIn.onL (ks:=[S+1,B]) (c0.o.later (ZI aa))) (by have:=ar.o.few;omega) (fun x E=>wT.onL (ks:=[S+1,B]) ((cb.o x (b0 x E)).later (ZI aa))) (fun x E=>wT.onL (ks:=[S+1,B]) ((cb.o x (a5 x E)).later (ZI aa))) (fun x E=>(YY (Uu ar.o (a5 x E)).1).2.2.2) cL (Wo bN (by omega)) (fun e=>by have:=(bN.lt a e).1;omega) (by omega);have bp:=zh cp;have cY:=zh bT;have cZ:=zh cK;have c5:=zh b0;have c6:=zh a5;have bi:=zh ak;have br:=zh aK;have bh:=zh aa;have bu:=zh M;obtain ⟨bB,bC,bD,bE⟩:=F.cells;have db:∀ k,P.frozen? (zA B k)=false:=fun k=>frozen_of_row P B k _ _ F;obtain ⟨an,ao,ap,aq⟩:=ak.cells;rw [M] at an ao ap aq;have dj:B≠S+1:=(by omega);clear cp bT cK bV bM aV F am ak aK ab aa dz b0 a5 dA cL bN M a1 a2 a3 a4 cu;go_wp2_with fail
     rw [<-bu.o];refine bp.o.mono ?_;rintro e Q ⟨au,mv,dr,av,ax,dy,mk,da,de,rfl,cO,cM,cD,cI,cA,dq,aW⟩;have G:zj Q B (zI c) (zI n) (.slice (zO g 0) f r) (.slice (zO a 0) b1.length O):=(aW.block B (by omega) (fun e=>cB (Option.some.inj e).symm)).trans bi.o;have ad:zj Q (S+1) (zI 0) (zI 0) zN zN:=(aW.block (S+1) (by omega) (fun e=>cC (Option.some.inj e).symm)).trans br.o;have bX:w.heap.size<=A.heap.size:=(by have:=m.o.below.size;omega);have bm:=zh (m.o.done (w6:=Q) (l:=l) (b:=b) (q:=q) (rs:=rs) (bh.o.trans (But.grown aW (by simp))) G ad aC.o bg.o cY.o c5.o c6.o (fun cR y H k aX=>cZ.o cR y H k (by have:=m.o.qs.len;omega)) cO cM bX cD (Wo cI bX) (Wo cA bX) (by have:=m.o.sz;omega));obtain ⟨bB,bC,bD,bE⟩:=G.cells;have dc:∀ k,Q.frozen? (zA B k)=false:=fun k=>frozen_of_row Q B k _ _ G;have aH:=X7 G (zI c) (zI n) (.slice (zO g 0) f r) (.slice (zO av 0) au.length ax);have aI:=Zk G (zI c) (zI n) (.slice (zO g 0) f r) (.slice (zO av 0) au.length ax);have ae:zj _ (S+1) (zI 0) (zI 0) zN zN:=(aI.block (S+1) (Array.getElem?_eq_some_iff.1 ad).1 (fun e=>by have:=Option.some.inj e;omega)).trans ad;have bj:=zh (X7 ae (zI c) (zI n) (.slice (zO g 0) f r) (.slice (zO av 0) au.length ax));obtain ⟨an,ao,ap,aq⟩:=aH.cells;obtain ⟨a8,a9,bb,bd⟩:=ae.cells;have be:∀ k,(VL Q B (zI c) (zI n) (.slice (zO g 0) f r) (.slice (zO av 0) au.length ax)).frozen? (zA (S+1) k)=false:=fun k=>frozen_of_row _ (S+1) k _ _ ae;simp only [VL] at an ao ap aq a8 a9 bb bd be;clear cO cM cD cI cA dq aW G ad aH aI ae;go_wp2;exact bodyPost_ret (v:=.tuple #[.agg (zS c n (zO g 0) f r (zO av 0) au.length ax),.slice dy mv.length mk,.slice da dr.length de,zI 0]) (yF Tryz.results55 _ _ (S+1) 40 (zS c n (zO g 0) f r (zO av 0) au.length ax) (0,0) _ rfl bj.o Tryz.underlying40 rfl (by kernel_rfl)) rfl (Or.inr ⟨aw,bm.o⟩)
   have cJ:(ai != 0)=true:=(by simp [aw]);obtain ⟨a8,a9,bb,bd⟩:=m.o.res.cells;have be:∀ k,V.frozen? (zA (S+1) k)=false:=fun k=>frozen_of_row V (S+1) k _ _ m.o.res;go_wp2_with fail
   have aZ:=zk V (S+1) 40 _ _ _ _ (zI 0) (zI 0) zN zN m.o.res;have aQ:w.heap.size<=S+1:=(by have:=bs.o;omega);refine bodyPost_ret (v:=.tuple #[.agg zZ,zN,zN,zI ai]) (yF Tryz.results55 _ _ (S+1) 40 zZ (0,0) _ rfl aZ.1 Tryz.underlying40 rfl (by kernel_rfl)) rfl (Or.inl ⟨aw,rfl,?_⟩);exact ((((m.o.below.setCell (p:=(zA (S+1) 0)) aQ _).setCell (p:=(zA (S+1) 1)) aQ _).setCell (p:=(zA (S+1) 2)) aQ _).setCell (p:=(zA (S+1) 3)) aQ _)
  exact trivial
end Go.Proofs.YtckpdfkobdgjeaaGreatDoor
