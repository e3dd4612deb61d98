/- Several texts in one: CutY, CutZ, ChgA, ChgB. -/
import Derived.Test.YtckpdfkobdgjeaaGreatDoorJAll14
namespace Go.Proofs.YtckpdfkobdgjeaaGreatDoor
set_option maxRecDepth 100000
set_option maxHeartbeats 8000000
open Go.RowKit
set_option linter.unusedSectionVars false
variable [Inhabited Mk]
theorem Wo {w:World} {B a n z:Nat} {e:TypeId} {v:Value} {b:List Value} (h:w.ownsRow B e z v n b) (j:a<=B):w.ownsRow a e z v n b:=by
 refine ⟨h.1,?_⟩;rcases h.2 with f | ⟨g,c,d,rfl,i,rest⟩
 ·exact .inl f
 exact .inr ⟨g,c,d,rfl,by omega,rest⟩
def VL (w:World) (B:Nat) (a b c d:Value):World:=(((w.setCell (zA B 0) a).setCell (zA B 1) b).setCell (zA B 2) c).setCell (zA B 3) d
theorem X7 {w:World} {B:Nat} {e f g i:Value} (h:zj w B e f g i) (a b c d:Value):zj (VL w B a b c d) B a b c d:=(zk w B 40 _ _ _ _ a b c d h).1
theorem Jw (w:World) (B:Nat) (a b c d:Value):(VL w B a b c d).heap.size=w.heap.size:=by simp [VL,World.setCell]
theorem Zk {w:World} {B:Nat} {g i j l:Value} (h:zj w B g i j l) (a b c d:Value):w.grownBy (VL w B a b c d) (some B) :=
 ⟨rfl,rfl,rfl,by rw [Jw];exact Nat.le_refl _,fun k _ f=>(zk w B 40 _ _ _ _ a b c d h).2 k (fun e=>f (by rw [e]))⟩
structure YInv (w wy:World) (S B1 B:Nat) (c n:Int) (g k1 tn:Nat) (l3:QL) (aa:Option Addr) (bn k3:Nat) (b':BL):Prop where
 box:zj wy B (zI c) (zI n) (.slice (zO g 0) tn k1) (.slice aa bn k3)
 res:zj wy (S+1) (zI 0) (zI 0) zN zN
 qs:QsIn wy (zO g 0) tn k1 l3
 qrow:B1<=g/\g≠B/\∀ gb,aa=zO gb 0->g≠gb
 caps:∀ i,i<tn->0<(qu l3 i).cn->∀ k off,(qu l3 i).ca=zO k off->B1<=k/\k≠B/\∀ gb,aa=zO gb 0->k≠gb
 row:wy.ownsRow B1 60 7 (.slice aa bn k3) bn (ze b')
 inner:∀ x∈b',wT wy x
 ps:∀ x∈b',0<x.rq.pn->∀ k off,x.rq.pa=zO k off->B1<=k/\k≠B/\∀ gb,aa=zO gb 0->k≠gb
 bs:∀ x∈b',0<x.bn->∀ k off,x.ba=zO k off->B1<=k/\k≠B/\∀ gb,aa=zO gb 0->k≠gb
 below:Below w.heap.size w wy
 sz:w.heap.size=S
 b1:S+2<=B1/\B1<=B
 bsz:B<wy.heap.size
 bl:bn=b'.length
theorem YInv.off {w j:World} {S l B:Nat} {c n:Int} {g s u:Nat} {t:QL} {a v A:Nat} {m:BL} (h:YInv w j S l B c n g s u t (zO a 0) v A m) :
 QsIn (YP [S+1,B,a] j) (zO g 0) u s t/\∀ x∈m,wT (YP [S+1,B,a] j) x:=by
 have D:=h.b1;have key:∀ k,(l<=k/\k≠B/\∀ p,some ((zA a 0):Addr)=zO p 0->k≠p)->k∉[S+1,B,a]:=by
  intro k q r;have y:=q.2.2 a rfl;simp only [List.mem_cons,List.not_mem_nil,or_false] at r;rcases r with e | e | e
  ·omega
  ·exact q.2.1 e
  exact y e
 refine ⟨h.qs.offL _ (fun _ k b e=>?_) (fun i z d k b e=>key k (h.caps i z d k b e)),fun x f=>⟨RunsIn.offL (h.inner x f).1 _ fun d k b e=>key k (h.ps x f d k b e),RunsIn.offL (h.inner x f).2 _ fun d k b e=>key k (h.bs x f d k b e)⟩⟩;have o:g=k:=by
  injection e with e;injection e with o C
 rw [<-o];exact key g h.qrow
theorem YInv.done {w V w6:World} {S W B:Nat} {c n:Int} {g o p:Nat} {t l:QL} {I al ay:Nat} {y b:BL} {q:Nat} {rs:zd} (h:YInv w V S W B c n g o p t (zO I 0) al ay y)
 {b1 v a:BL} {mv dr:List Int} {f s:Nat} {U:Option Addr} {mk:Nat} {L:Option Addr} {M:Nat} {aD:Value} (aq:But [S+1,B,I] V w6) (D:zj w6 B (zI c) (zI n) (.slice (zO g 0) p o) aD) (af:zj w6 (S+1) (zI 0) (zI 0) zN zN)
 (ar:zi t=zi (yP l q rs)) (ap:zg y=zg b) (au:Lit c t y b1 v) (R:∀ x∈b1,x∈y) (ag:∀ x∈v,x∈y) (av:∀ u,c<=u->u<48->∀ k,k<t.length->yw t b1 u k=false) (aw:Stl c t b1 v v.length a mv dr) (Q:w6.ownsRow W 60 7 (.slice (zO f 0) a.length s) a.length (ze a)) {Y:Nat} (aE:w.heap.size<=Y) (P:∀ x∈a,WI Y b1 v w6 x)
 (ae:zG w6 w.heap.size (.slice U mv.length mk) mv) (ab:zG w6 w.heap.size (.slice L dr.length M) dr) (aG:w.heap.size<=I) :
 JO w (VL (VL w6 B (zI c) (zI n) (.slice (zO g 0) p o) (.slice (zO f 0) a.length s)) (S+1) (zI c) (zI n) (.slice (zO g 0) p o) (.slice (zO f 0) a.length s)) (.returned (.tuple #[.agg (zS c n (zO g 0) p o (zO f 0) a.length s),.slice U mv.length mk,.slice L dr.length M,zI 0])) c n p l b q rs:=by
 obtain ⟨ao,aa⟩:=h.off;have aF:=h.b1;have aH:=h.sz;obtain ⟨r,ah⟩:=qB (VL w6 B (zI c) (zI n) (.slice (some ⟨g,0,none⟩) p o) (.slice (some ⟨f,0,none⟩) a.length s));rw [<-ah];have z:w6.grownBy r (some B):=by rw [ah];exact Zk D _ _ _ _
 have F:zj r (S+1) (zI 0) (zI 0) zN zN:=(z.block (S+1) (Array.getElem?_eq_some_iff.1 af).1 (fun e=>by have:=Option.some.inj e;omega)).trans af;obtain ⟨H,ai⟩:=qB (VL r (S+1) (zI c) (zI n) (.slice (some ⟨g,0,none⟩) p o) (.slice (some ⟨f,0,none⟩) a.length s));rw [<-ai];have C:r.grownBy H (some (S+1)):=by rw [ai];exact Zk F _ _ _ _
 have J:But [S+1,B,I] V H:=aq.trans ((But.grown z (by simp)).trans (But.grown C (by simp)));have aB:Stay w6 r:=Stay.grown z (fun k e=>by cases e;exact Ti D (Or.inr (Or.inl rfl)));have aC:Stay r H:=Stay.grown C (fun k e=>by cases e;exact Ti F (Or.inr (Or.inl rfl)));have ak:=Q.kept z (Or.inr fun e=>D.not_row Q e.symm);have aA:=ak.kept C (Or.inr fun e=>F.not_row ak e.symm);have aj:=ae.keep z (Or.inr fun e=>yc D ae (by decide) e.symm);have Z:=ab.keep z (Or.inr fun e=>yc D ab (by decide) e.symm);have az:=aj.keep C (Or.inr fun e=>yc F aj (by decide) e.symm);have am:=Z.keep C (Or.inr fun e=>yc F Z (by decide) e.symm);refine ⟨g,o,t,zO f 0,s,a,y,b1,v,mv,dr,U,mk,L,M,rfl,⟨(ao.later (ZI J)).onL,S3 rfl aA fun x ax=>?_⟩,ar,ap,au,av,aw,az,am,h.below.trans (J.far (by have:=h.bsz;omega) fun k ad=>?_),?_⟩
 ·rcases P x ax with G | ⟨⟨X,O,e⟩,j,_⟩
  ·exact ((aa x (R x G)).later (ZI J)).onL
  refine ⟨?_,((j.stay aB).stay aC).1⟩;rw [e];exact (((aa X (ag X O)).later (ZI J)).onL).1
 ·simp only [List.mem_cons,List.not_mem_nil,or_false] at ad;rcases ad with e | e | e <;> omega
 ·refine ⟨fun _ d m e=>?_,fun i E j d m e=>?_,fun _ d m e=>?_,fun i E j d m e=>?_,fun i E j d m e=>?_⟩
  ·have A:=h.qrow.1;have N:g=d:=(by injection e with e;injection e with N);omega
  ·have A:=(h.caps i E j d m e).1;omega
  ·have A:=(Q.lt f rfl).1;have N:f=d:=(by injection e with e;injection e with N);omega
  ·rcases P _ (yx E) with G | ⟨⟨X,O,an⟩,_⟩
   ·have A:=(h.ps _ (R _ G) j d m e).1;omega
   rw [an] at j e;have A:=(h.ps _ (ag X O) j d m e).1;omega
  rcases P _ (yx E) with G | ⟨_,_,hn⟩
  ·have A:=(h.bs _ (R _ G) j d m e).1;omega
  have A:=hn d m e;omega
theorem YInv.later {w b o:World} {S d B:Nat} {c n:Int} {g j m:Nat} {l:QL} {e:Option Addr} {i k:Nat} {f:BL} (h:YInv w b S d B c n g j m l e i k f) (a:Below b.heap.size b o):YInv w o S d B c n g j m l e i k f :=
 ⟨h.box.later a,h.res.later a,h.qs.later a,h.qrow,h.caps,zy h.row a,fun x p=>(h.inner x p).later a,h.ps,h.bs,za h.below a,h.sz,h.b1,Nat.lt_of_lt_of_le h.bsz a.size,h.bl⟩
theorem Wl (w:World):BksIn w none 0 0 []:=⟨rfl,Nat.le_refl _,by omega,fun h=>by omega,fun i h=>by omega,fun i h=>by omega,fun h=>by omega⟩
theorem YInv.done0 {w t w6:World} {S y B:Nat} {c n:Int} {g a d:Nat} {j l:QL} {b:BL} {q:Nat} {rs:zd} (h:YInv w t S y B c n g a d j none 0 0 [])
 (O:But [S+1,B] t w6) (N:zj w6 B (zI c) (zI n) (.slice (zO g 0) d a) zN) (E:zj w6 (S+1) (zI 0) (zI 0) zN zN)
 (P:zi j=zi (yP l q rs)) (M:zg []=zg b) (Q:∀ u,c<=u->u<48->∀ k,k<j.length->yw j [] u k=false) :
 JO w (VL (VL w6 B (zI c) (zI n) (.slice (zO g 0) d a) zN) (S+1) (zI c) (zI n) (.slice (zO g 0) d a) zN) (.returned (.tuple #[.agg (zS c n (zO g 0) d a none 0 0),zN,zN,zI 0])) c n d l b q rs:=by
 have V:=h.b1;have W:=h.sz;have key:∀ k,(y<=k/\k≠B/\∀ A,(none:Option Addr)=zO A 0->k≠A)->k∉[S+1,B]:=by
  intro k r D;simp only [List.mem_cons,List.not_mem_nil,or_false] at D;rcases D with e | e
  ·omega
  exact r.2.1 e
 have L:QsIn (YP [S+1,B] t) (zO g 0) d a j:=by
  refine h.qs.offL _ (fun _ k o e=>?_) (fun i f x k o e=>key k (h.caps i f x k o e));have p:g=k:=by
   injection e with e;injection e with p U
  rw [<-p];exact key g h.qrow
 obtain ⟨m,F⟩:=qB (VL w6 B (zI c) (zI n) (.slice (some ⟨g,0,none⟩) d a) zN);rw [<-F];have z:w6.grownBy m (some B):=by rw [F];exact Zk N _ _ _ _
 have R:zj m (S+1) (zI 0) (zI 0) zN zN:=(z.block (S+1) (Array.getElem?_eq_some_iff.1 E).1 (fun e=>by have:=Option.some.inj e;omega)).trans E;obtain ⟨s,G⟩:=qB (VL m (S+1) (zI c) (zI n) (.slice (some ⟨g,0,none⟩) d a) zN);rw [<-G];have H:m.grownBy s (some (S+1)):=by rw [G];exact Zk R _ _ _ _
 have C:But [S+1,B] t s:=O.trans ((But.grown z (by simp)).trans (But.grown H (by simp)));refine ⟨g,a,j,none,0,[],[],[],[],[],[],none,0,none,0,rfl,⟨(L.later (ZI C)).onL,Wl _⟩,P,M,Lit.start,Q,Stl.start,World.ownsRow_nil _ _ _ _,World.ownsRow_nil _ _ _ _,h.below.trans (C.far (by have:=h.bsz;omega) fun k r=>?_),?_⟩
 ·simp only [List.mem_cons,List.not_mem_nil,or_false] at r;rcases r with e | e <;> omega
 ·refine ⟨fun _ v o e=>?_,fun i f x v o e=>?_,fun I=>absurd I (Nat.lt_irrefl _),fun i f=>absurd f (Nat.not_lt_zero _),fun i f=>absurd f (Nat.not_lt_zero _)⟩
  ·have J:=h.qrow.1;have p:g=v:=(by injection e with e;injection e with p);omega
  have J:=(h.caps i f x v o e).1;omega
theorem PD (w:World) (c n:Int) (j:Option Addr) (r m:Nat) (l:QL) (d:Option Addr) (g f:Nat) (b:BL) (h:zY w j r m l d g f b) (q:Int) (Q:Option Addr) (U R:Nat) (x:zU c n l b≠0) :
 zC 55 #[.agg (zS c n j r m d g f),zI q,.slice Q U R] w fun e w'=>e=.returned (.tuple #[.agg zZ,zN,zN,zI (zU c n l b)])/\Below w.heap.size w w':=by
 obtain ⟨S,F⟩:=qA (w.heap.size);obtain ⟨u,y⟩:=qB ((w.alloc (.cells (zS c n j r m d g f) 40)).alloc (.cells zZ 40));obtain ⟨C,D,A,G⟩:=ZK w _ _ _ _ y;rw [F] at C D G;have t:=wY u c n j r m l d g f b (h.later A);have N:=zh D;have H:=zh A;have M:=zh y;have L:=zh F;obtain ⟨O,c1,c2,c3⟩:=C.cells;obtain ⟨a,E⟩:=qA (zU c n l b);rw [E] at t x ⊢;have V:(a != 0)=true:=by simp [x]
 have J:=zh t;clear y C D A h G t E x;go_enter Tryz.func55,Tryz.ntmps55;go_wp2_with fail
 rw [<-M.o];refine J.o.mono ?_;rintro e B ⟨rfl,z⟩;have s:=zh (N.o.later z);have I:=zh (za H.o z);clear z O c1 c2 c3;obtain ⟨W,X,Y,Z⟩:=s.o.cells;have aa:∀ k,B.frozen? (zA (S+1) k)=false:=fun k=>frozen_of_row B (S+1) k _ _ s.o;go_wp2_with fail
 have P:=zk B (S+1) 40 _ _ _ _ (zI 0) (zI 0) zN zN s.o;have i:w.heap.size<=S+1:=by have:=L.o;omega
 refine bodyPost_ret (v:=.tuple #[.agg zZ,zN,zN,zI a]) (yF Tryz.results55 _ _ (S+1) 40 zZ (0,0) _ rfl P.1 Tryz.underlying40 rfl (by kernel_rfl)) rfl ⟨rfl,?_⟩;exact ((((I.o.setCell (p:=(zA (S+1) 0)) i _).setCell (p:=(zA (S+1) 1)) i _).setCell (p:=(zA (S+1) 2)) i _).setCell (p:=(zA (S+1) 3)) i _)
theorem OD (w:World) (c n:Int) (m:Option Addr) (d r:Nat) (l:QL) (f:Option Addr) (i g:Nat) (b:BL) (h:zY w m d r l f i g b) (q:Int) (V:Option Addr) (X W:Nat) (G:zU c n l b=0) (H:¬(0<=q/\q<d)) :
 zC 55 #[.agg (zS c n m d r f i g),zI q,.slice V X W] w fun e w'=>e=.returned (.tuple #[.agg zZ,zN,zN,zI 6])/\Below w.heap.size w w':=by
 obtain ⟨S,F⟩:=qA (w.heap.size);obtain ⟨x,y⟩:=qB ((w.alloc (.cells (zS c n m d r f i g) 40)).alloc (.cells zZ 40));obtain ⟨s,B,z,J⟩:=ZK w _ _ _ _ y;rw [F] at s B J;have u:=wY x c n m d r l f i g b (h.later z);rw [G] at u;have Q:=zh s;have R:=zh B;have L:=zh z;have O:=zh y;have N:=zh F;obtain ⟨E,c1,c2,c3⟩:=s.cells;have M:=zh u;clear y s B z h J u G;go_enter Tryz.func55,Tryz.ntmps55;go_wp2_with fail
 rw [<-O.o];refine M.o.mono ?_;rintro e A ⟨rfl,j⟩;have t:=zh (R.o.later j);have C:=zh (za L.o j);have P:=zh (Q.o.later j);clear j E c1 c2 c3;obtain ⟨E,c1,c2,c3⟩:=P.o.cells;obtain ⟨ab,ad,ae,af⟩:=t.o.cells;have ag:∀ k,A.frozen? (zA (S+1) k)=false:=fun k=>frozen_of_row A (S+1) k _ _ t.o;have I:=zk A (S+1) 40 _ _ _ _ (zI 0) (zI 0) zN zN t.o;have a:w.heap.size<=S+1:=by have:=N.o;omega
 have D:=zh I;clear I;by_cases U:q<0
 ·clear H;go_wp2_with fail
  refine bodyPost_ret (v:=.tuple #[.agg zZ,zN,zN,zI 6]) (yF Tryz.results55 _ _ (S+1) 40 zZ (0,0) _ rfl D.o.1 Tryz.underlying40 rfl (by kernel_rfl)) rfl ⟨rfl,?_⟩;exact ((((C.o.setCell (p:=(zA (S+1) 0)) a _).setCell (p:=(zA (S+1) 1)) a _).setCell (p:=(zA (S+1) 2)) a _).setCell (p:=(zA (S+1) 3)) a _)
 ·have Y:(d:Int)<=q:=by omega
  have Z:¬q<0:=U;have aa:0<=q:=by omega
  clear H;go_wp2_with fail
  refine bodyPost_ret (v:=.tuple #[.agg zZ,zN,zN,zI 6]) (yF Tryz.results55 _ _ (S+1) 40 zZ (0,0) _ rfl D.o.1 Tryz.underlying40 rfl (by kernel_rfl)) rfl ⟨rfl,?_⟩;exact ((((C.o.setCell (p:=(zA (S+1) 0)) a _).setCell (p:=(zA (S+1) 1)) a _).setCell (p:=(zA (S+1) 2)) a _).setCell (p:=(zA (S+1) 3)) a _)
theorem Md (w:World) (c n:Int) (aQ:Option Addr) (f aR:Nat) (l:QL) (aH:Option Addr) (I aI:Nat) (b:BL) (h:zY w aQ f aR l aH I aI b) (q:Nat) (dK:q<f) (aA:Option Addr) (t aB:Nat) (rs:zd) (an:RunsIn w aA t aB rs) (dp:t<=1048576) (A:zU c n l b=0) :
 zC 55 #[.agg (zS c n aQ f aR aH I aI),zI q,.slice aA t aB] w fun e w'=>(z9 (yP l q rs)≠0/\e=.returned (.tuple #[.agg zZ,zN,zN,zI (z9 (yP l q rs))])/\Below w.heap.size w w')\/(z9 (yP l q rs)=0/\JO w w' e c n f l b q rs):=by
 obtain ⟨ak,bH⟩:=qA (z9 (yP l q rs));rw [bH];have cV:=zh bH;clear bH;have bK:=yZ A;have bV:=XT h bK.clean;have dC:=zh h.2.len;have dD:=zh h.1.len;have bu:=zh bK;have dM:f<=1000:=bV.t1;obtain ⟨S,cw⟩:=qA (w.heap.size);obtain ⟨bA,bL⟩:=qB ((w.alloc (.cells (zS c n aQ f aR aH I aI) 40)).alloc (.cells zZ 40));obtain ⟨bb,b4,bP,bZ⟩:=ZK w _ _ _ _ bL;rw [cw] at bb b4 bZ;have bx:=wY bA c n aQ f aR l aH I aI b (h.later bP);rw [A] at bx;have cm:=zh fun X (bM:zL w X)=>Vw X c n aQ f aR l aH I aI b (h.later bM) bV;have co:=zh fun X (bM:zL w X)=>Sy X aA t aB rs (an.later bM) dp;have cr:=zh bb;have cs:=zh b4;have b7:=zh bP;have ch:=zh bL;have bt:=zh cw;have c4:=zh bZ;obtain ⟨bB,c1,c2,c3⟩:=bb.cells;have cd:=zh bx;have dJ:(q:Int)<f:=by omega
 have dI:(0:Int)<=q:=by omega
 clear bL bb b4 bP h bZ bx A bK bV an;go_enter Tryz.func55,Tryz.ntmps55;go_wp2_with fail
 rw [<-ch.o];refine cd.o.mono ?_;rintro e ba ⟨rfl,j⟩;have bw:=zh (cr.o.later j);have cj:=zh (cs.o.later j);have b8:=zh (za b7.o j);have cX:Zh (S+2<=ba.heap.size):=by have:=j.size;have:=c4.o;show S+2<=ba.heap.size;omega
 clear j bB c1 c2 c3;obtain ⟨bB,c1,c2,c3⟩:=bw.o.cells;go_wp2_with fail
 refine (cm.o ba b8.o).mono ?_;rintro e aC ⟨g,r,N,aa,Q,aG,rfl,ai,cF,cx,cz,aX,j⟩;obtain ⟨Z,aJ⟩:=qB (aC.alloc (.cells (zS c n (some ⟨g,0,none⟩) f r aa I Q) 40));have aK:zL aC Z:=by rw [aJ];exact zr _ _
 have aP:Z.heap.size=aC.heap.size+1:=by rw [aJ];simp
 have a4:zj Z aC.heap.size (zI c) (zI n) (.slice (zO g 0) f r) (.slice aa I Q):=by rw [aJ];exact zj.new aC _ _ _ _
 obtain ⟨V,cu⟩:=qA (ba.heap.size);obtain ⟨B,bG⟩:=qA (aC.heap.size);have hg:V<=g/\g<B:=by have:=ai.qs.row.lt g rfl;omega
 have df:V<=B:=by have:=j.size;omega
 have dg:S+2<=V:=by have:=cX.o;omega
 have br:=zh ai;have cf:=zh (ai.qs.later aK);have cS:=zh (za b8.o j);have cl:=zh ((cj.o.later j).later aK);have bh:=zh (za cS.o aK);have cb:=zh aK;rw [bG] at a4 aP;have ck:=zh a4;have ce:=zh cF;have b9:=zh cx;have cT:=zh cz;have bi:=zh aX;have ci:=zh aJ;have cg:=zh aP;have aD:=zh bG;have aS:=zh cu;have cI:q<N.length:=by omega
 have b6:=zh a4.cells.2.2.1;clear j aK aP a4 ai cz aX aJ bG cu bB c1 c2 c3 cF cx;obtain ⟨du,dv,dw,dx⟩:=bw.o.cells;go_wp2_with fail
 rw [aD.o];rw [<-ci.o];refine wN ((Tryz.f55.body.bind fun c=>yi c 7).getD #[]) (by kernel_rfl) [zl (.pointer (zO B 2)),zl (.slice (zO g 0) f r),zl (zI q),zl (.slice aA t aB),⟨fun v c7=>∃ y D,v=.slice y t D/\RunsIn c7 y t D rs/\∀ b s,y=zO b s->Z.heap.size<=b,fun _ _ _ ⟨y,D,z,J,al⟩ j=>⟨y,D,z,J.later j,al⟩⟩,zl (.pointer (zO g (q*3))),zl (.pointer (zO g (q*3+2))),zl undef] 7 (by kernel_rfl) (by kernel_rfl) (by kernel_rfl) ?hstep
 case hstep =>
  refine zc.cons 1 rfl ?_ ?_
  ·intro T w' j P M E;rw [if_neg (by decide)];have ah:T.getD 11 undef=.pointer (zO B 0):=M 11;exact zs (by go_simp) rfl
  refine zc.cons 2 rfl ?_ ?_
  ·intro T w' j P M E;rw [if_neg (by decide)];have ah:T.getD 34 undef=_:=E 0 34;have dE:=cell_later j b6.o;exact zs (by go_simp) rfl
  refine zc.cons 3 rfl ?_ ?_
  ·intro T w' j P M E;rw [if_neg (by decide)];have ah:T.getD 1 undef=zI q:=M 1;exact zs (by go_simp) rfl
  refine zc.cons 4 rfl ?_ ?_
  ·intro T w' j P M E;rw [if_neg (by decide)];have ah:T.getD 2 undef=.slice aA t aB:=M 2;exact zs (by go_simp) rfl
  refine zc.cons 5 rfl ?_ ?_
  ·intro T w' j P M E;rw [if_neg (by decide)];have ah:T.getD 37 undef=_:=E 3 37;refine Or.inr ⟨94,#[.slice aA t aB],by go_simp,?_⟩;refine (co.o w' (za bh.o j)).mono ?_;rintro e dO ⟨y,D,rfl,an,aX,aN⟩;exact ⟨_,rfl,⟨y,D,rfl,an.1,fun b s e=>by have:=aN b s e;have:=j.size;omega⟩,aX⟩
  refine zc.cons 6 rfl ?_ ?_
  ·intro T w' j P M E;rw [if_neg (by decide)];have ah:T.getD 35 undef=_:=E 1 35;have z:T.getD 36 undef=_:=E 2 36;exact zs (by go_simp) rfl
  refine zc.cons 7 rfl ?_ ?_
  ·intro T w' j P M E;rw [if_neg (by decide)];have ah:T.getD 39 undef=_:=E 5 39;exact zs (by go_simp) rfl
  refine zc.cons 8 rfl ?_ ?_
  ·intro T w' j P M E;rw [if_pos rfl]
   replace P:=P.resolve_right (fun h=>h rfl)
   have z:T.getD 40 undef=_:=E 6 40;obtain ⟨y,D,ah,an,aN⟩:=E 4 38;have ai:=cf.o.later j;have cG:=ce.o;have a2:=ai.row;rw [<-cG] at a2;have b5:w'.cell? (zA g (q*3+2))=some (.slice (qu N q).ca (qu N q).cn (qu N q).cc):=(by rw [a2.cellAt (q*3+2) (by omega),Ys N q 2 (by omega) (by omega)];rfl);have dB:∀ k,w'.frozen? (zA g k)=false:=fun k=>a2.frozenAt k;have aP:=cg.o;have a3:=ai.store ce.o cI an (fun _ b s e=>by have:=aN b s e;omega);have bX:∀ k,k≠g->k<Z.heap.size->(w'.setCell (zA g (q*3+2)) (.slice y t D)).heap[k]?=Z.heap[k]?:=fun k a1 dl=>by
    rw [heap_setCell_other _ (zA g (q*3+2)) k _ a1];exact j.block k dl
   have cy:zL w (w'.setCell (zA g (q*3+2)) (.slice y t D)):=(za bh.o j).setCell (p:=(zA g (q*3+2))) (by have:=bt.o;have:=hg.1;simp only;omega) _;have ds:Z.heap.size<=(w'.setCell (zA g (q*3+2)) (.slice y t D)).heap.size:=(by have:=j.size;simp only [World.setCell,Array.size_modify];omega);have aY:=(br.o.bks.later cb.o).later j;have aF:Zh (YInv w (w'.setCell (zA g (q*3+2)) (.slice y t D)) S V B c n g r f (N.set q ⟨(qu N q).name,(qu N q).parent,y,t,D,rs⟩) aa I Q aG):=by
    have L:=br.o;have cH:∀ a,aa=zO a 0->a<B/\g≠a:=fun a e=>by
     subst e;have z:=L.bks.row.lt a rfl;have J:=xc.1 (L.apart a rfl).1;exact ⟨by have:=aD.o;omega,J⟩
    have cR:∀ x∈aG,(0<x.rq.pn->∀ k s,x.rq.pa=zO k s->V<=k/\k≠B/\∀ a,aa=zO a 0->k≠a)/\(0<x.bn->∀ k s,x.ba=zO k s->V<=k/\k≠B/\∀ a,aa=zO a 0->k≠a):=by
     intro x F;obtain ⟨i,W,rfl⟩:=yT F;refine ⟨fun A k s e=>?_,fun A k s e=>?_⟩
     ·have z:=L.newP i W A k s e;have J:=RunsIn.lt (L.bks.rqs i W) A e;have al:=L.bks.farP i W A k s e;exact ⟨by have:=aS.o;omega,by have:=aD.o;omega,fun a ab aT=>al (by rw [ab,aT];rfl)⟩
     have z:=L.newB i W A k s e;have J:=(L.bks.bites i W).lt A e;have al:=L.bks.farB i W A k s e;exact ⟨by have:=aS.o;omega,by have:=aD.o;omega,fun a ab aT=>al (by rw [ab,aT];rfl)⟩
    refine zh ⟨(bX B (by omega) (by omega)).trans ck.o,(bX (S+1) (by omega) (by omega)).trans cl.o,y6 a3,⟨hg.1,by omega,fun a e=>(cH a e).2⟩,fun i W A k s e=>?_,?_,fun x F=>?_,fun x F=>(cR x F).1,fun x F=>(cR x F).2,cy,bt.o,⟨dg,df⟩,by omega,b9.o⟩
    ·rw [Vg _ cI] at A e;by_cases ct:i=q
     ·rw [if_pos ct] at A e;have z:=aN k s e;exact ⟨by omega,by omega,fun a ab aT=>by have:=(cH a ab).1;omega⟩
     rw [if_neg ct] at A e;have bS:i<N.length:=(by omega);have z:=L.newC i bS A k s e;have J:=(L.qs.caps i bS).lt A e;refine ⟨by have:=aS.o;omega,by have:=aD.o;omega,fun a ab=>?_⟩;subst ab;exact (L.apart a rfl).2 i bS A k s e
    ·have z:=aY.row;rw [<-b9.o] at z;have J:w'.grownBy (w'.setCell (zA g (q*3+2)) (.slice y t D)) (some g):=⟨rfl,rfl,rfl,by simp [World.setCell],fun k _ cK=>Below.heap_setCell _ _ _ k (fun e=>cK (by rw [e]))⟩;have al:=z.kept J (by
      cases e:(Value.slice aa I Q).ownBlock with
      | none=>exact Or.inl rfl
      | some a =>
       refine Or.inr fun ab=>?_;have:=(L.apart a e).1;exact this (by rw [ab];rfl))
     have:=aS.o;rw [<-this];exact al
    obtain ⟨i,W,rfl⟩:=yT F;exact ⟨RunsIn.set_slice (aY.rqs i W) b5 _,(aY.bites i W).set_slice b5 _⟩
   clear a2 ai;refine ⟨w'.setCell (zA g (q*3+2)) (.slice y t D),by go_simp,?_⟩;show _;rw [yb (tt 34 [false,false,false,false,false,false,false] 22) (by kernel_rfl) P @M];obtain ⟨us,cQ⟩:∃ us:Nat->Value,(fun d=>T.getD d undef)=us:=⟨_,rfl⟩;rw [cQ];clear cQ M P E;simp only [xj,tt,List.replicate,List.cons_append,List.nil_append];have aE:=zh (U9 cT.o q y t D rs);obtain ⟨b3,b0⟩:=qA (w'.setCell ⟨g,q*3+2,none⟩ (.slice y t D));obtain ⟨aj,bT⟩:=qA (N.set q ⟨(qu N q).name,(qu N q).parent,y,t,D,rs⟩);rw [b0,bT] at aF;rw [bT] at aE;rw [b0];clear a3 bX cy ds b0 bT b5 dB an j ah z cG aN aY br cf ck cl cb bh ci cg b6 co cm bw cj cr cs ch cd b7 du dv dw dx aP;have bz:=wF b3 _ f r aj aF.o.qs;have bR:z9 aj=ak:=(by rw [<-xi,aE.o,xi];exact cV.o);rw [bR] at bz;have cU:=zh bR;have cW:=zh bz;obtain ⟨a5,a6,a7,a8⟩:=aF.o.box.cells;clear bz bR;go_wp2_with fail
   refine cW.o.mono ?_;rintro e Y ⟨rfl,j⟩;have m:=zh (aF.o.later j);clear aF j a5 a6 a7 a8;obtain ⟨a5,a6,a7,a8⟩:=m.o.box.cells;by_cases ay:ak=0
   ·have av:Zh (Clean aj aG):=zh (Yh (Wg bu.o.clean bi.o) (cU.o.trans ay) (by
     have z:=congrArg List.length aE.o;rw [yv,yv,Zd] at z;exact z))
    have bQ:=bu.o.c0;have cA:=bu.o.c48;have cv:∀ k,Y.frozen? (zA B k)=false:=fun k=>frozen_of_row Y B k _ _ m.o.box;have dG:(ak != 0)=false:=(by simp [ay]);have dh:(aa=none/\I=0/\Q=0)\/∃ a,aa=zO a 0:=by
     rcases m.o.row.2 with ⟨e,_⟩ | ⟨a,dN,dF,e,_⟩
     ·simp only [Value.slice.injEq] at e;exact Or.inl e
     simp only [Value.slice.injEq] at e;exact Or.inr ⟨a,e.1⟩
    rcases dh with ⟨rfl,rfl,rfl⟩ | ⟨a,rfl⟩
    ·have dm:aG=[]:=List.length_eq_zero_iff.1 m.o.bl.symm;subst dm;have bp:=zh (Nv Y c n (zO g 0) f r aj none 0 av.o bQ cA ⟨m.o.qs,Wl _⟩);go_wp2_with fail
     refine bp.o.mono ?_;rintro e R ⟨rfl,aV⟩;have di:=m.o.b1;have G:=m.o.box.later aV;have ao:=m.o.res.later aV;obtain ⟨C,O⟩:=qB ((((R.setCell ⟨B,0,none⟩ (zI c)).setCell ⟨B,1,none⟩ (zI n)).setCell ⟨B,2,none⟩ (.slice (some ⟨g,0,none⟩) f r)).setCell ⟨B,3,none⟩ zN);have am:zj C B (zI c) (zI n) (.slice (zO g 0) f r) zN:=(by rw [O];exact X7 G _ _ _ _);have ae:R.grownBy C (some B):=(by rw [O];exact Zk G _ _ _ _);have aO:zj C (S+1) (zI 0) (zI 0) zN zN:=(ae.block (S+1) (Array.getElem?_eq_some_iff.1 ao).1 (fun e=>by have:=Option.some.inj e;omega)).trans ao;have ad:But [S+1,B] Y C:=(But.below aV).trans (But.grown ae (by simp));have bq:=zh (Lr C c n (zO g 0) f r none 0 0);have bm:=zh am;have bs:=zh aO;have bj:=zh ad;have bv:=zh O;obtain ⟨bC,bD,bE,bF⟩:=G.cells;have db:∀ k,R.frozen? (zA B k)=false:=fun k=>frozen_of_row R B k _ _ G;obtain ⟨ap,aq,ar,au⟩:=am.cells;rw [O] at ap aq ar au;have dj:B≠S+1:=(by omega);clear aV G ao am aO ae ad O a5 a6 a7 a8 cv;go_wp2_with fail
     rw [<-bv.o];refine bq.o.mono ?_;rintro e U ⟨rfl,aW⟩;have H:=bm.o.later aW;have af:=bs.o.later aW;have bo:=zh (m.o.done0 (w6:=U) (l:=l) (b:=b) (q:=q) (rs:=rs) (bj.o.trans (But.below aW)) H af aE.o bi.o (fun u z J k a1=>UM av.o a1 (by omega) J));obtain ⟨bC,bD,bE,bF⟩:=H.cells;have dc:∀ k,U.frozen? (zA B k)=false:=fun k=>frozen_of_row U B k _ _ H;have aL:=X7 H (zI c) (zI n) (.slice (zO g 0) f r) zN;have aM:=Zk H (zI c) (zI n) (.slice (zO g 0) f r) zN;have ag:zj _ (S+1) (zI 0) (zI 0) zN zN:=(aM.block (S+1) (Array.getElem?_eq_some_iff.1 af).1 (fun e=>by have:=Option.some.inj e;omega)).trans af;have bn:=zh (X7 ag (zI c) (zI n) (.slice (zO g 0) f r) zN);obtain ⟨ap,aq,ar,au⟩:=aL.cells;obtain ⟨bc,bd,be,bf⟩:=ag.cells;have bg:∀ k,(VL U B (zI c) (zI n) (.slice (zO g 0) f r) zN).frozen? (zA (S+1) k)=false:=fun k=>frozen_of_row _ (S+1) k _ _ ag;simp only [VL] at ap aq ar au bc bd be bf bg;clear aW H af aL aM ag;go_wp2;exact bodyPost_ret (v:=.tuple #[.agg (zS c n (zO g 0) f r none 0 0),zN,zN,zI 0]) (yF Tryz.results55 _ _ (S+1) 40 (zS c n (zO g 0) f r none 0 0) (0,0) _ rfl bn.o Tryz.underlying40 rfl (by kernel_rfl)) rfl (Or.inr ⟨ay,bo.o⟩)
    ·skip
     obtain ⟨bJ,bI⟩:=m.o.off;have cp:=Nw Y c n (zO g 0) f r aj V a Q I aG m.o.bl av.o bQ cA (QsIn.onL (ks:=[S+1,B]) bJ) (fun x F=>wT.onL (ks:=[S+1,B]) (bI x F)) m.o.row;have bp:=zh cp;have c0:=zh bJ;have cc:=zh bI;clear cp bJ bI;go_wp2_with fail
     refine bp.o.mono ?_;rintro e R ⟨b1,c9,c8,dt,rfl,bU,cL,bW,bN,aZ⟩;have dk:=m.o.bsz;have di:=m.o.b1;have dH:=(m.o.row.lt a rfl);have cC:a≠B:=fun e=>by
      subst e;exact m.o.box.not_row m.o.row rfl
     have cD:a≠S+1:=(by omega);have G:zj R B (zI c) (zI n) (.slice (zO g 0) f r) (.slice (zO a 0) I Q):=(aZ.block B dk (fun e=>cC (Option.some.inj e).symm)).trans m.o.box;have ao:zj R (S+1) (zI 0) (zI 0) zN zN:=(aZ.block (S+1) (by omega) (fun e=>cD (Option.some.inj e).symm)).trans m.o.res;obtain ⟨C,O⟩:=qB ((((R.setCell ⟨B,0,none⟩ (zI c)).setCell ⟨B,1,none⟩ (zI n)).setCell ⟨B,2,none⟩ (.slice (some ⟨g,0,none⟩) f r)).setCell ⟨B,3,none⟩ (.slice (some ⟨a,0,none⟩) b1.length Q));have am:zj C B (zI c) (zI n) (.slice (zO g 0) f r) (.slice (zO a 0) b1.length Q):=(by rw [O];exact X7 G _ _ _ _);have ae:R.grownBy C (some B):=(by rw [O];exact Zk G _ _ _ _);have aO:zj C (S+1) (zI 0) (zI 0) zN zN:=(ae.block (S+1) (Array.getElem?_eq_some_iff.1 ao).1 (fun e=>by have:=Option.some.inj e;omega)).trans ao;have ad:But [S+1,B,a] Y C:=(But.grown aZ (by simp)).trans (But.grown ae (by simp));obtain ⟨dz,b2,a9,dA⟩:=bU.clean av.o bQ;have cM:=bW.kept ae (Or.inr fun e=>G.not_row bW e.symm);have bO:=bN.kept ae (Or.inr fun e=>G.not_row bN e.symm);have dL:Y.heap.size<=C.heap.size:=ad.size;have cq:=Ls C c n (zO g 0) f r aj V a Q b1 c9 c8 dt (QsIn.onL (ks:=[S+1,B]) (c0.o.later (ZI ad))) (by have:=av.o.few;omega) (fun x F=>wT.onL (ks:=[S+1,B]) ((cc.o x (b2 x F)).later (ZI ad))) (fun x F=>wT.onL (ks:=[S+1,B]) ((cc.o x (a9 x F)).later (ZI ad))) (fun x F=>(YY (Uu av.o (a9 x F)).1).2.2.2) cM (Wo bO (by omega)) (fun e=>by have:=(bO.lt a e).1;omega) (by omega);have bq:=zh cq;have cY:=zh bU;have cZ:=zh cL;have c5:=zh b2;have c6:=zh a9;have bm:=zh am;have bs:=zh aO;have bj:=zh ad;have bv:=zh O;obtain ⟨bC,bD,bE,bF⟩:=G.cells;have db:∀ k,R.frozen? (zA B k)=false:=fun k=>frozen_of_row R B k _ _ G;obtain ⟨ap,aq,ar,au⟩:=am.cells;rw [O] at ap aq ar au;have dj:B≠S+1:=(by omega);clear cq bU cL bW bN aZ G ao am aO ae ad dz b2 a9 dA cM bO O a5 a6 a7 a8 cv;go_wp2_with fail
     rw [<-bv.o];refine bq.o.mono ?_;rintro e U ⟨aw,mv,dr,ax,az,dy,mk,da,de,rfl,cP,cO,cE,cJ,cB,dq,a0⟩;have H:zj U B (zI c) (zI n) (.slice (zO g 0) f r) (.slice (zO a 0) b1.length Q):=(a0.block B (by omega) (fun e=>cC (Option.some.inj e).symm)).trans bm.o;have af:zj U (S+1) (zI 0) (zI 0) zN zN:=(a0.block (S+1) (by omega) (fun e=>cD (Option.some.inj e).symm)).trans bs.o;have bY:w.heap.size<=C.heap.size:=(by have:=m.o.below.size;omega);have bo:=zh (m.o.done (w6:=U) (l:=l) (b:=b) (q:=q) (rs:=rs) (bj.o.trans (But.grown a0 (by simp))) H af aE.o bi.o cY.o c5.o c6.o (fun u z J k a1=>cZ.o u z J k (by have:=m.o.qs.len;omega)) cP cO bY cE (Wo cJ bY) (Wo cB bY) (by have:=m.o.sz;omega));obtain ⟨bC,bD,bE,bF⟩:=H.cells;have dc:∀ k,U.frozen? (zA B k)=false:=fun k=>frozen_of_row U B k _ _ H;have aL:=X7 H (zI c) (zI n) (.slice (zO g 0) f r) (.slice (zO ax 0) aw.length az);have aM:=Zk H (zI c) (zI n) (.slice (zO g 0) f r) (.slice (zO ax 0) aw.length az);have ag:zj _ (S+1) (zI 0) (zI 0) zN zN:=(aM.block (S+1) (Array.getElem?_eq_some_iff.1 af).1 (fun e=>by have:=Option.some.inj e;omega)).trans af;have bn:=zh (X7 ag (zI c) (zI n) (.slice (zO g 0) f r) (.slice (zO ax 0) aw.length az));obtain ⟨ap,aq,ar,au⟩:=aL.cells;obtain ⟨bc,bd,be,bf⟩:=ag.cells;have bg:∀ k,(VL U B (zI c) (zI n) (.slice (zO g 0) f r) (.slice (zO ax 0) aw.length az)).frozen? (zA (S+1) k)=false:=fun k=>frozen_of_row _ (S+1) k _ _ ag;simp only [VL] at ap aq ar au bc bd be bf bg;clear cP cO cE cJ cB dq a0 H af aL aM ag;go_wp2;exact bodyPost_ret (v:=.tuple #[.agg (zS c n (zO g 0) f r (zO ax 0) aw.length az),.slice dy mv.length mk,.slice da dr.length de,zI 0]) (yF Tryz.results55 _ _ (S+1) 40 (zS c n (zO g 0) f r (zO ax 0) aw.length az) (0,0) _ rfl bn.o Tryz.underlying40 rfl (by kernel_rfl)) rfl (Or.inr ⟨ay,bo.o⟩)
   have cK:(ak != 0)=true:=(by simp [ay]);obtain ⟨bc,bd,be,bf⟩:=m.o.res.cells;have bg:∀ k,Y.frozen? (zA (S+1) k)=false:=fun k=>frozen_of_row Y (S+1) k _ _ m.o.res;go_wp2_with fail
   have a3:=zk Y (S+1) 40 _ _ _ _ (zI 0) (zI 0) zN zN m.o.res;have aU:w.heap.size<=S+1:=(by have:=bt.o;omega);refine bodyPost_ret (v:=.tuple #[.agg zZ,zN,zN,zI ak]) (yF Tryz.results55 _ _ (S+1) 40 zZ (0,0) _ rfl a3.1 Tryz.underlying40 rfl (by kernel_rfl)) rfl (Or.inl ⟨ay,rfl,?_⟩);exact ((((m.o.below.setCell (p:=(zA (S+1) 0)) aU _).setCell (p:=(zA (S+1) 1)) aU _).setCell (p:=(zA (S+1) 2)) aU _).setCell (p:=(zA (S+1) 3)) aU _)
  exact trivial
theorem Yp (l:QL) (b:BL) (t:Int) (q:Nat):yw (zi l) (zg b) t q=yw l b t q:=by
 unfold yw UA;rw [zF,YZ,Z8];rfl
theorem NZ (X:Bk) (t:Int):Yb X.bare t=Yb X t:=by kernel_rfl
theorem QF (l:QL) (p q:Int):yG (zi l) p q=yG l p q:=by
 unfold yG;rw [WX]
theorem M2 (l:QL) (b:BL) (t q:Int) (i:Nat):Zz (zi l) (zg b) t q i=Zz l b t q i:=by
 unfold Zz;rw [xp,NZ];show (yG (zi l) (bk b i).rq.queue q&&_)=_;rw [QF]
theorem VZ (l:QL) (b:BL) (t q:Int):∀ n,wC (zi l) (zg b) t q n=wC l b t q n
 | 0=>rfl
 | n+1=>by rw [wC,wC,M2,VZ l b t q n]
theorem Po (b:BL) (a:Int):∀ n,XY (zg b) a n=XY b a n
 | 0=>rfl
 | n+1=>by
  rw [XY,XY,Po b a n,xp];rfl
theorem VE (b:BL) (x:Bk):zg (Zj b x)=Zj (zg b) x.bare:=by
 unfold Zj yL;show (List.map Bk.bare _)=_;rw [zF,show (x.bare).id=x.id from rfl,Po];simp only [zg,List.map_append,List.map_cons,List.map_take,List.map_drop]
theorem Xn (b:BL) (i:Nat):zg (wU b i)=wU (zg b) i:=by
 unfold wU;simp only [zg,List.map_append,List.map_take,List.map_drop]
theorem Qz {c:Int} {l:QL} {b:BL} {n:Nat} {t q:Int} {f:Bool} (h:XO c l b n t q f):XO c (zi l) (zg b) n t q f:=by
 rcases h with ⟨e,g,j,m⟩ | ⟨e,g,j,k,m,p,r,s,v⟩
 ·exact Or.inl ⟨e,g,j,fun u a d k w=>by rw [Yp];exact m u a d k w⟩
 exact Or.inr ⟨e,g,j,k,m,p,by rw [Yp];exact r,fun i o=>by rw [Yp];exact s i o,fun u a d i o=>by rw [Yp];exact v u a d i o⟩
theorem Lit.bare {c:Int} {l:QL} {d b a:BL} (h:Lit c l d b a):Lit c (zi l) (zg d) (zg b) (zg a):=by
 induction h with
 | start=>exact Lit.start
 | @step b a t q _ hf ih =>
  rw [Xn,VE,<-xp];have f:=Qz hf;have e:=Lit.step ih (by rw [yv];exact f);rw [zF,VZ] at e;exact e
def Wy (l:QL) (b:BL) (t:Int):Nat->Nat->Option Nat
 | 0,_=>none
 | n+1,q=>if yw l b t q=true then some q else Wy l b t n (q+1)
def Vc (l:QL) (b:BL):Nat->Int->Option (Int×Nat)
 | 0,_=>none
 | n+1,t=>match Wy l b t l.length 0 with
  | some q=>some (t,q)
  | none=>Vc l b n (t+1)
theorem V6 {l:QL} {b:BL} {t:Int}:∀ {n q:Nat},(∀ i,q<=i->i<q+n->yw l b t i=false)->Wy l b t n q=none
 | 0,_,_=>rfl
 | n+1,q,h=>by
  rw [Wy,h q (Nat.le_refl _) (by omega),if_neg (by decide)];exact V6 fun i a c=>h i (by omega) (by omega)
theorem RM {l:QL} {b:BL} {t:Int} {k:Nat} (a:yw l b t k=true):∀ {n q:Nat},q<=k->k<q+n->(∀ i,q<=i->i<k->yw l b t i=false)->Wy l b t n q=some k
 | 0,_,h1,h2,_=>by omega
 | n+1,q,h1,h2,h3=>by
  rw [Wy];by_cases e:q=k
  ·subst e;rw [if_pos a]
  rw [h3 q (Nat.le_refl _) (by omega),if_neg (by decide)];exact RM a (by omega) (by omega) fun i d c=>h3 i (by omega) c
theorem RN {l:QL} {b:BL}:∀ {n:Nat} {t:Int},(∀ u,t<=u->u<t+n->∀ i,i<l.length->yw l b u i=false)->Vc l b n t=none
 | 0,_,_=>rfl
 | n+1,t,h=>by
  rw [Vc,V6 fun i _ d=>h t (Int.le_refl _) (by omega) i (by omega)];exact RN fun u a c=>h u (by omega) (by omega)
theorem RO {l:QL} {b:BL} {s:Int} {k:Nat} (d:yw l b s k=true) (g:k<l.length) (a:∀ i,i<k->yw l b s i=false):∀ {n:Nat} {t:Int},t<=s->s<t+n->(∀ u,t<=u->u<s->∀ i,i<l.length->yw l b u i=false)->Vc l b n t=some (s,k)
 | 0,_,h1,h2,_=>by omega
 | n+1,t,h1,h2,h3=>by
  rw [Vc];by_cases e:t=s
  ·subst e;rw [RM d (Nat.zero_le _) (by omega) fun i _ c=>a i c]
  rw [V6 fun i _ c=>h3 t (Int.le_refl _) (by omega) i (by omega)];exact RO d g a (by omega) (by omega) fun u h f=>h3 u (by omega) f
def Ny (c:Int) (l:QL):Nat->BL->BL->BL×BL
 | 0,b,aw=>(b,aw)
 | k+1,b,aw=>match Vc l b (48-c).toNat c with
  | none=>(b,aw)
  | some (t,q)=>Ny c l k (wU b (wC l b t q b.length)) (Zj aw (bk b (wC l b t q b.length)))
theorem IH {c:Int} {l:QL} {d b a:BL} (h:Lit c l d b a):∀ k,Ny c l (a.length+k) d []=Ny c l k b a:=by
 induction h with
 | start=>intro k;rw [List.length_nil,Nat.zero_add]
 | @step b a t q _ hf ih =>
  intro k;rw [Z7,Nat.add_assoc,Nat.add_comm 1 k,ih (k+1),Ny];rcases hf with ⟨e,_⟩ | ⟨_,o,r,j,i,p,m,f,g⟩
  ·cases e
  have n:q=j:=by omega
  subst n;rw [RO m i f o (by omega) g]
theorem Gl {c:Int} {l:QL} {d b a:BL} (h:Lit c l d b a) (g:∀ u,c<=u->u<48->∀ q,q<l.length->yw l b u q=false) {m:Nat} (n:a.length<=m):Ny c l m d []=(b,a):=by
 obtain ⟨k,rfl⟩:∃ k,m=a.length+k:=⟨m-a.length,by omega⟩;rw [IH h k];cases k with
 | zero=>rfl
 | succ k=>rw [Ny,RN fun u e j i f=>g u e (by omega) i f]
theorem O2 (X:Bk) (c:Int):ZD X.bare c=ZD X c:=by kernel_rfl
theorem XF (l:QL) (b:BL) (r:Rq):yU (zi l) (zg b) r.bare=yU l b r:=by
 unfold yU;show (if Zq (zi l) (zg b) r.queue=0 then (if yq (xH (zi l) (zg b) r.queue) r.bare=0 then Zf r.bare (xH (zi l) (zg b) r.queue) else ([],false)) else ([],false))=_;rw [Ll,Lm,MR];rfl
theorem Ws (c:Int) (l:QL) (b:BL) (X:Bk):y9 c (zi l) (zg b) X.bare=y9 c l b X:=by
 unfold y9;rw [O2,show X.bare.rq.from c=(X.rq.from c).bare from rfl,XF]
def QG (c:Int) (l:QL):BL->BL->List Int->List Int->BL×List Int×List Int
 | [],b,mv,dr=>(b,mv,dr)
 | X::r,b,mv,dr=>if (y9 c l b X).2=true then QG c l r (Zj b ⟨X.id,X.rq,none,0,0,(y9 c l b X).1⟩) (mv++[X.id]) dr else QG c l r b mv (dr++[X.id])
theorem I9 {c:Int} {l:QL} {b1 a b:BL} {j:Nat} {mv dr:List Int} (h:Stl c l b1 a j b mv dr):QG c (zi l) (zg a) (zg b1) [] []=QG c (zi l) (zg (a.drop j)) (zg b) mv dr:=by
 induction h with
 | start=>rfl
 | @moved j b mv dr fa fm fc _ hj hr ih =>
  rw [ih,show a.drop j=bk a j::a.drop (j+1) by rw [wI hj];exact (List.getElem_cons_drop hj).symm];show QG c (zi l) ((bk a j).bare::zg (a.drop (j+1))) _ _ _=_;rw [QG,Ws,if_pos hr,VE];rfl
 | @dropped j b mv dr _ hj hr ih =>
  rw [ih,show a.drop j=bk a j::a.drop (j+1) by rw [wI hj];exact (List.getElem_cons_drop hj).symm];show QG c (zi l) ((bk a j).bare::zg (a.drop (j+1))) _ _ _=_;rw [QG,Ws,if_neg (by rw [hr];decide)];rfl
theorem GH {c:Int} {l:QL} {b1 a b:BL} {mv dr:List Int} (h:Stl c l b1 a a.length b mv dr):QG c (zi l) (zg a) (zg b1) [] []=(zg b,mv,dr):=by
 rw [I9 h,List.drop_length];rfl
def Sk (c:Int) (l:QL) (b:BL):BL×List Int×List Int:=QG c l (Ny c l 12 b []).2 (Ny c l 12 b []).1 [] []
theorem Uw {c:Int} {l:QL} {d b1 a b:BL} {mv dr:List Int} (e:Clean l d) (j:0<=c) (h:Lit c l d b1 a) (n:∀ u,c<=u->u<48->∀ q,q<l.length->yw l b1 u q=false) (o:Stl c l b1 a a.length b mv dr):Sk c (zi l) (zg d)=(zg b,mv,dr):=by
 have r:=(h.clean e j).2.2.2;have p:=e.few;have k:=Gl h.bare (fun u g i q f=>by rw [Yp];exact n u g i q (by rw [yv] at f;exact f)) (m:=12) (by rw [zF];omega);unfold Sk;rw [k];exact GH o
end Go.Proofs.YtckpdfkobdgjeaaGreatDoor
