/- Several texts in one: LogN, LogO. -/
import Derived.Test.YtckpdfkobdgjeaaGreatDoorJAll18
namespace Go.Proofs.YtckpdfkobdgjeaaGreatDoor
set_option maxRecDepth 100000
set_option maxHeartbeats 4000000
open Go.RowKit
set_option linter.unusedSectionVars false
variable [Inhabited Mk]
theorem Zy (w:World) (a b c d h i j k l m n o:Value) {e:World} (r:e=((w.alloc (.cells #[a,b,c,d] 40)).alloc (.cells #[h,i,j,k,l,m,n,o] 27)).alloc (.cells zZ 40)) :
 zj e w.heap.size a b c d/\wj e (w.heap.size+1) h i j k l m n o/\zj e (w.heap.size+2) (zI 0) (zI 0) zN zN/\Below w.heap.size w e/\e.heap.size=w.heap.size+3:=by
 obtain ⟨f,p⟩:=qB (w.alloc (.cells #[a,b,c,d] 40));obtain ⟨g,q⟩:=qB (f.alloc (.cells #[h,i,j,k,l,m,n,o] 27));rw [<-p,<-q] at r;have u:f.heap.size=w.heap.size+1:=by rw [p];simp
 have v:g.heap.size=w.heap.size+2:=by rw [q];simp [u]
 have b1:zL w f:=by rw [p];exact zr _ _
 have t:zL f g:=by rw [q];exact zr _ _
 have s:zL g e:=by rw [r];exact zr _ _
 have x:zj f w.heap.size a b c d:=by rw [p];exact zj.new w a b c d
 have y:wj g (w.heap.size+1) h i j k l m n o:=by rw [q,<-u];exact heap_alloc_new f _
 have z:zj e (w.heap.size+2) (zI 0) (zI 0) zN zN:=by rw [r,<-v];exact zj.new g _ _ _ _
 exact ⟨(x.later t).later s,(s.block _ (by omega)).trans y,z,za (za b1 t) s,by rw [r];simp [v]⟩
theorem GJ (w:World) (c n:Int) (Q:Option Addr) (U R:Nat) (l:QL) (I:Option Addr) (L J:Nat) (b:BL) (h:zY w Q U R l I L J b) (x:Ac) (ad:wl w x) (_hcn:x.cn<=1048576) (aC:x.kind=1) :
 zC 21 #[.agg (zS c n Q U R I L J),.agg #[zI x.kind,zI x.n,zI x.rq.queue,zI x.rq.fr,zI x.rq.un,zI x.rq.kind,.slice x.rq.pa x.rq.pn x.rq.pc,.slice x.ca x.cn x.cc]] w fun e w'=>∃ y z A C B r t s,e=.returned (.tuple #[.agg (zS y z A C B r t s),zI (ZO ⟨c,n,l,b⟩ x)])/\X9 w' w.heap.size (ZO ⟨c,n,l,b⟩ x) (YR ⟨c,n,zi l,zg b⟩ x.bare) y z A C B r t s/\Below w.heap.size w w':=by
 obtain ⟨kd,H,⟨q,f,u,j,a,g,d,i⟩,D,F,E,cs⟩:=x;have aA:RunsIn w a g d i:=ad.1;have aR:RunsIn w D F E cs:=ad.2;simp only at aC;simp only;obtain ⟨S,ax⟩:=qA (w.heap.size);obtain ⟨aO,aa⟩:=qB (((w.alloc (.cells (zS c n Q U R I L J) 40)).alloc (.cells #[zI kd,zI H,zI q,zI f,zI u,zI j,.slice a g d,.slice D F E] 27)).alloc (.cells zZ 40));obtain ⟨ae,af,ag,P,ab⟩:=Zy w _ _ _ _ _ _ _ _ _ _ _ _ aa;rw [ax] at ae af ag ab;obtain ⟨ar,c1,c2,c3⟩:=ae.cells;obtain ⟨aj,ak,al,am,an,ao,ap,aq⟩:=af.cells;have aP:=zh ag;have aJ:=zh P;have ah:=zh aa;have aS:=zh ax;have aN:=zh ab;subst aC;have Y:=zh (Mx aO c n Q U R l I L J b (h.later P) ⟨q,f,u,j,a,g,d,i⟩ (aA.later P));have av:ZO ⟨c,n,l,b⟩ ⟨1,H,⟨q,f,u,j,a,g,d,i⟩,D,F,E,cs⟩=Zp c n l b ⟨q,f,u,j,a,g,d,i⟩:=by unfold ZO;simp only [if_pos]
 have az:YR ⟨c,n,zi l,zg b⟩ (Ac.bare ⟨1,H,⟨q,f,u,j,a,g,d,i⟩,D,F,E,cs⟩)=⟨c,n+1,zi l,zg b++[⟨n,Rq.bare ⟨q,f,u,j,a,g,d,i⟩,none,0,0,(yU l b ⟨q,f,u,j,a,g,d,i⟩).1⟩]⟩:=by
  unfold YR;rw [if_pos (show (Ac.bare ⟨1,H,⟨q,f,u,j,a,g,d,i⟩,D,F,E,cs⟩).kind=1 from rfl)];simp only;rw [show (Ac.bare ⟨1,H,⟨q,f,u,j,a,g,d,i⟩,D,F,E,cs⟩).rq=Rq.bare ⟨q,f,u,j,a,g,d,i⟩ from rfl,XF];rfl
 rw [av,az];clear aa ae af ag P h ab ad aA aR av az;rw [ah.o] at ar c1 c2 c3 aj ak al am an ao ap aq;obtain ⟨X,au⟩:=qA (Zp c n l b ⟨q,f,u,j,a,g,d,i⟩);rw [au] at Y ⊢;obtain ⟨ai,ay⟩:∃ ai:St,(⟨c,n+1,zi l,zg b++[⟨n,Rq.bare ⟨q,f,u,j,a,g,d,i⟩,none,0,0,(yU l b ⟨q,f,u,j,a,g,d,i⟩).1⟩]⟩:St)=ai:=⟨_,rfl⟩;rw [ay] at Y ⊢;clear au ay;go_enter Tryz.func21,Tryz.ntmps21;go_wp2_with fail
 rw [<-ah.o];refine Y.o.mono ?_;rintro e V ⟨y,z,A,C,B,r,t,s,aW,rfl,aw,O⟩;have aU:=O.size;have aV:=aN.o;have aK:=zh (za aJ.o O);have aH:=aP.o.later O;obtain ⟨m,N⟩:=qB (V.alloc (.cells (zS y z A C B r t s) 40));have G:zL V m:=by rw [N];exact zr _ _
 have aI:zj m V.heap.size (zI y) (zI z) (.slice A C B) (.slice r t s):=by rw [N];exact zj.new V _ _ _ _
 have aM:=zh (aw.later G);have aL:=zh (za aK.o G);have W:=aH.later G;have a2:=G.size;obtain ⟨a3,a4,a5,a6⟩:=aI.cells;obtain ⟨aD,aE,aF,aG⟩:=W.cells;have a1:∀ k,m.frozen? (zA (S+1+1) k)=false:=fun k=>frozen_of_row m (S+2) k _ _ W;have aX:m.cell? (zA (S+1+1) 0)=some (zI 0):=aD;have aY:m.cell? (zA (S+1+1) 1)=some (zI 0):=aE;have aZ:m.cell? (zA (S+1+1) 2)=some zN:=aF;have a0:m.cell? (zA (S+1+1) 3)=some zN:=aG;have aQ:=zh W;clear aH W aw O ar c1 c2 c3 aj ak al am an ao ap aq aD aE aF aG;go_upto_region 4 with fail
 rw [<-N];clear N G aI;go_wp2_with fail
 have aB:=zk m (S+2) 40 _ _ _ _ (zI y) (zI z) (.slice A C B) (.slice r t s) aQ.o;have M:w.heap.size<=S+2:=by omega
 refine bodyPost_ret (v:=.tuple #[.agg (zS y z A C B r t s),zI X]) (zt Tryz.results21 _ _ (S+2) 40 (zS y z A C B r t s) (0,0) _ rfl aB.1 Tryz.underlying40 rfl (by kernel_rfl)) rfl ⟨y,z,A,C,B,r,t,s,rfl,?_,?_⟩
 ·exact (aM.o.keep (fun k aT=>aB.2 k (by omega))).mono (by omega)
 ·exact ((((aL.o.setCell (p:=(zA (S+2) 0)) M _).setCell (p:=(zA (S+2) 1)) M _).setCell (p:=(zA (S+2) 2)) M _).setCell (p:=(zA (S+2) 3)) M _)
theorem Fw (w:World) (c n:Int) (R:Option Addr) (V U:Nat) (l:QL) (L:Option Addr) (N M:Nat) (b:BL) (h:zY w R V U l L N M b) (x:Ac) (ae:wl w x) (_hcn:x.cn<=1048576) (aD:x.kind=2) :
 zC 21 #[.agg (zS c n R V U L N M),.agg #[zI x.kind,zI x.n,zI x.rq.queue,zI x.rq.fr,zI x.rq.un,zI x.rq.kind,.slice x.rq.pa x.rq.pn x.rq.pc,.slice x.ca x.cn x.cc]] w fun e w'=>∃ m r s y t g j i,e=.returned (.tuple #[.agg (zS m r s y t g j i),zI (ZO ⟨c,n,l,b⟩ x)])/\X9 w' w.heap.size (ZO ⟨c,n,l,b⟩ x) (YR ⟨c,n,zi l,zg b⟩ x.bare) m r s y t g j i/\Below w.heap.size w w':=by
 obtain ⟨kd,a,⟨q,f,u,G,C,E,D,F⟩,z,B,A,cs⟩:=x;have aU:RunsIn w C E D F:=ae.1;have aT:RunsIn w z B A cs:=ae.2;simp only at aD;simp only;obtain ⟨S,az⟩:=qA (w.heap.size);obtain ⟨aR,aa⟩:=qB (((w.alloc (.cells (zS c n R V U L N M) 40)).alloc (.cells #[zI kd,zI a,zI q,zI f,zI u,zI G,.slice C E D,.slice z B A] 27)).alloc (.cells zZ 40));obtain ⟨ag,ah,ai,ab,ad⟩:=Zy w _ _ _ _ _ _ _ _ _ _ _ _ aa;rw [az] at ag ah ai ad;obtain ⟨av,c1,c2,c3⟩:=ag.cells;obtain ⟨al,am,an,ao,ap,aq,ar,au⟩:=ah.cells;have aS:=zh ai;have aO:=zh ab;have aj:=zh aa;have aV:=zh az;have aQ:=zh ad;subst aD;have X:=zh (Mb aR c n R V U l L N M b (h.later ab) a);have ax:ZO ⟨c,n,l,b⟩ ⟨2,a,⟨q,f,u,G,C,E,D,F⟩,z,B,A,cs⟩=xy c n l b a:=by unfold ZO;simp only [if_neg (show ¬((2:Int)=1) by decide),if_pos]
 have aB:YR ⟨c,n,zi l,zg b⟩ (Ac.bare ⟨2,a,⟨q,f,u,G,C,E,D,F⟩,z,B,A,cs⟩)=⟨c,n,zi l,wU (zg b) ((yS b a).getD 0)⟩:=by
  unfold YR;rw [if_neg (show ¬((Ac.bare ⟨2,a,⟨q,f,u,G,C,E,D,F⟩,z,B,A,cs⟩).kind=1) from (show ¬((2:Int)=1) by decide))];rw [if_pos (show (Ac.bare ⟨2,a,⟨q,f,u,G,C,E,D,F⟩,z,B,A,cs⟩).kind=2 from rfl)];simp only;rw [WM];rfl
 rw [ax,aB];clear aa ag ah ai ab h ad ae aU aT ax aB;rw [aj.o] at av c1 c2 c3 al am an ao ap aq ar au;obtain ⟨W,aw⟩:=qA (xy c n l b a);rw [aw] at X ⊢;obtain ⟨ak,aA⟩:∃ ak:St,(⟨c,n,zi l,wU (zg b) ((yS b a).getD 0)⟩:St)=ak:=⟨_,rfl⟩;rw [aA] at X ⊢;clear aw aA;go_enter Tryz.func21,Tryz.ntmps21;go_wp2_with fail
 rw [<-aj.o];refine X.o.mono ?_;rintro e af ⟨m,r,s,y,t,g,j,i,rfl,ay,Q⟩;have aX:=Q.size;have aY:=aQ.o;have aP:=zh (za aO.o Q);have aN:=aS.o.later Q;have J:=zh ay;have I:=aP;have H:=aN;obtain ⟨d,P⟩:=qB (af);have aZ:af.heap.size<=af.heap.size:=Nat.le_refl _;rw [<-P] at H J I;obtain ⟨aI,aJ,aK,aL⟩:=H.cells;have aM:∀ k,d.frozen? (zA (S+1+1) k)=false:=fun k=>frozen_of_row d (S+2) k _ _ H;have aE:d.cell? (zA (S+1+1) 0)=some (zI 0):=aI;have aF:d.cell? (zA (S+1+1) 1)=some (zI 0):=aJ;have aG:d.cell? (zA (S+1+1) 2)=some zN:=aK;have aH:d.cell? (zA (S+1+1) 3)=some zN:=aL;have Z:=zh H;clear aN H ay Q av c1 c2 c3 al am an ao ap aq ar au aI aJ aK aL;rw [P] at aE aF aG aH aM Z J I;go_wp2_with fail
 rw [<-P] at aE aF aG aH aM Z J I ⊢;clear P;have aC:=zk d (S+2) 40 _ _ _ _ (zI m) (zI r) (.slice s y t) (.slice g j i) Z.o;have O:w.heap.size<=S+2:=by omega
 refine bodyPost_ret (v:=.tuple #[.agg (zS m r s y t g j i),zI W]) (zt Tryz.results21 _ _ (S+2) 40 (zS m r s y t g j i) (0,0) _ rfl aC.1 Tryz.underlying40 rfl (by kernel_rfl)) rfl ⟨m,r,s,y,t,g,j,i,rfl,?_,?_⟩
 ·exact (J.o.keep (fun k aW=>aC.2 k (by omega))).mono (by omega)
 ·exact ((((I.o.setCell (p:=(zA (S+2) 0)) O _).setCell (p:=(zA (S+2) 1)) O _).setCell (p:=(zA (S+2) 2)) O _).setCell (p:=(zA (S+2) 3)) O _)
theorem GK (w:World) (c n:Int) (P:Option Addr) (R Q:Nat) (l:QL) (I:Option Addr) (L J:Nat) (b:BL) (h:zY w P R Q l I L J b) (x:Ac) (ad:wl w x) (_hcn:x.cn<=1048576) (aB:x.kind=3) :
 zC 21 #[.agg (zS c n P R Q I L J),.agg #[zI x.kind,zI x.n,zI x.rq.queue,zI x.rq.fr,zI x.rq.un,zI x.rq.kind,.slice x.rq.pa x.rq.pn x.rq.pc,.slice x.ca x.cn x.cc]] w fun e w'=>∃ m r s y t g j i,e=.returned (.tuple #[.agg (zS m r s y t g j i),zI (ZO ⟨c,n,l,b⟩ x)])/\X9 w' w.heap.size (ZO ⟨c,n,l,b⟩ x) (YR ⟨c,n,zi l,zg b⟩ x.bare) m r s y t g j i/\Below w.heap.size w w':=by
 obtain ⟨kd,a,⟨q,f,u,G,C,E,D,F⟩,z,B,A,cs⟩:=x;have aR:RunsIn w C E D F:=ad.1;have aQ:RunsIn w z B A cs:=ad.2;simp only at aB;simp only;obtain ⟨S,ax⟩:=qA (w.heap.size);obtain ⟨aN,Z⟩:=qB (((w.alloc (.cells (zS c n P R Q I L J) 40)).alloc (.cells #[zI kd,zI a,zI q,zI f,zI u,zI G,.slice C E D,.slice z B A] 27)).alloc (.cells zZ 40));obtain ⟨ae,af,ag,aa,ab⟩:=Zy w _ _ _ _ _ _ _ _ _ _ _ _ Z;rw [ax] at ae af ag ab;obtain ⟨ar,c1,c2,c3⟩:=ae.cells;obtain ⟨aj,ak,al,am,an,ao,ap,aq⟩:=af.cells;have aO:=zh ag;have aI:=zh aa;have ah:=zh Z;have aS:=zh ax;have aM:=zh ab;subst aB;have X:=zh (Ib aN c n P R Q l I L J b (h.later aa) a);have av:ZO ⟨c,n,l,b⟩ ⟨3,a,⟨q,f,u,G,C,E,D,F⟩,z,B,A,cs⟩=we c n l b a:=by unfold ZO;simp only [if_neg (show ¬((3:Int)=1) by decide),if_neg (show ¬((3:Int)=2) by decide),if_pos]
 have az:YR ⟨c,n,zi l,zg b⟩ (Ac.bare ⟨3,a,⟨q,f,u,G,C,E,D,F⟩,z,B,A,cs⟩)=⟨a,n,zi l,xU (zg b) a⟩:=by
  unfold YR;rw [if_neg (show ¬((Ac.bare ⟨3,a,⟨q,f,u,G,C,E,D,F⟩,z,B,A,cs⟩).kind=1) from (show ¬((3:Int)=1) by decide))];rw [if_neg (show ¬((Ac.bare ⟨3,a,⟨q,f,u,G,C,E,D,F⟩,z,B,A,cs⟩).kind=2) from (show ¬((3:Int)=2) by decide))];rw [if_pos (show (Ac.bare ⟨3,a,⟨q,f,u,G,C,E,D,F⟩,z,B,A,cs⟩).kind=3 from rfl)];rfl
 rw [av,az];clear Z ae af ag aa h ab ad aR aQ av az;rw [ah.o] at ar c1 c2 c3 aj ak al am an ao ap aq;obtain ⟨W,au⟩:=qA (we c n l b a);rw [au] at X ⊢;obtain ⟨ai,ay⟩:∃ ai:St,(⟨a,n,zi l,xU (zg b) a⟩:St)=ai:=⟨_,rfl⟩;rw [ay] at X ⊢;clear au ay;go_enter Tryz.func21,Tryz.ntmps21;go_wp2_with fail
 rw [<-ah.o];refine X.o.mono ?_;rintro e U ⟨m,r,s,y,t,g,j,i,aW,rfl,aw,O⟩;have aU:=O.size;have aV:=aM.o;have aJ:=zh (za aI.o O);have aG:=aO.o.later O;obtain ⟨d,N⟩:=qB (U.alloc (.cells (zS m r s y t g j i) 40));have H:zL U d:=by rw [N];exact zr _ _
 have aH:zj d U.heap.size (zI m) (zI r) (.slice s y t) (.slice g j i):=by rw [N];exact zj.new U _ _ _ _
 have aL:=zh (aw.later H);have aK:=zh (za aJ.o H);have V:=aG.later H;have a2:=H.size;obtain ⟨a3,a4,a5,a6⟩:=aH.cells;obtain ⟨aC,aD,aE,aF⟩:=V.cells;have a1:∀ k,d.frozen? (zA (S+1+1) k)=false:=fun k=>frozen_of_row d (S+2) k _ _ V;have aX:d.cell? (zA (S+1+1) 0)=some (zI 0):=aC;have aY:d.cell? (zA (S+1+1) 1)=some (zI 0):=aD;have aZ:d.cell? (zA (S+1+1) 2)=some zN:=aE;have a0:d.cell? (zA (S+1+1) 3)=some zN:=aF;have aP:=zh V;clear aG V aw O ar c1 c2 c3 aj ak al am an ao ap aq aC aD aE aF;go_upto_region 9 with fail
 rw [<-N];clear N H aH;go_wp2_with fail
 have aA:=zk d (S+2) 40 _ _ _ _ (zI m) (zI r) (.slice s y t) (.slice g j i) aP.o;have M:w.heap.size<=S+2:=by omega
 refine bodyPost_ret (v:=.tuple #[.agg (zS m r s y t g j i),zI W]) (zt Tryz.results21 _ _ (S+2) 40 (zS m r s y t g j i) (0,0) _ rfl aA.1 Tryz.underlying40 rfl (by kernel_rfl)) rfl ⟨m,r,s,y,t,g,j,i,rfl,?_,?_⟩
 ·exact (aL.o.keep (fun k aT=>aA.2 k (by omega))).mono (by omega)
 ·exact ((((aK.o.setCell (p:=(zA (S+2) 0)) M _).setCell (p:=(zA (S+2) 1)) M _).setCell (p:=(zA (S+2) 2)) M _).setCell (p:=(zA (S+2) 3)) M _)
theorem Fx (w:World) (c n:Int) (Q:Option Addr) (U R:Nat) (l:QL) (I:Option Addr) (L J:Nat) (b:BL) (h:zY w Q U R l I L J b) (x:Ac) (ad:wl w x) (aB:x.cn<=1048576) (aD:x.kind=4) :
 zC 21 #[.agg (zS c n Q U R I L J),.agg #[zI x.kind,zI x.n,zI x.rq.queue,zI x.rq.fr,zI x.rq.un,zI x.rq.kind,.slice x.rq.pa x.rq.pn x.rq.pc,.slice x.ca x.cn x.cc]] w fun e w'=>∃ m r s y t g j i,e=.returned (.tuple #[.agg (zS m r s y t g j i),zI (ZO ⟨c,n,l,b⟩ x)])/\X9 w' w.heap.size (ZO ⟨c,n,l,b⟩ x) (YR ⟨c,n,zi l,zg b⟩ x.bare) m r s y t g j i/\Below w.heap.size w w':=by
 obtain ⟨kd,a,⟨q,f,u,G,C,E,D,F⟩,z,B,A,cs⟩:=x;have aS:RunsIn w C E D F:=ad.1;have aA:RunsIn w z B A cs:=ad.2;simp only at aD;simp only at aB ⊢;obtain ⟨S,ax⟩:=qA (w.heap.size);obtain ⟨aP,aa⟩:=qB (((w.alloc (.cells (zS c n Q U R I L J) 40)).alloc (.cells #[zI kd,zI a,zI q,zI f,zI u,zI G,.slice C E D,.slice z B A] 27)).alloc (.cells zZ 40));obtain ⟨ae,af,ag,P,ab⟩:=Zy w _ _ _ _ _ _ _ _ _ _ _ _ aa;rw [ax] at ae af ag ab;obtain ⟨ar,c1,c2,c3⟩:=ae.cells;obtain ⟨aj,ak,al,am,an,ao,ap,aq⟩:=af.cells;have aQ:=zh ag;have aK:=zh P;have ah:=zh aa;have aT:=zh ax;have aO:=zh ab;subst aD;have Y:=zh (Me aP c n Q U R l I L J b (h.later P) a z B A cs (aA.later P) aB);have av:ZO ⟨c,n,l,b⟩ ⟨4,a,⟨q,f,u,G,C,E,D,F⟩,z,B,A,cs⟩=ZG c n l b a cs:=by unfold ZO;simp only [if_neg (show ¬((4:Int)=1) by decide),if_neg (show ¬((4:Int)=2) by decide),if_neg (show ¬((4:Int)=3) by decide),if_pos]
 have az:YR ⟨c,n,zi l,zg b⟩ (Ac.bare ⟨4,a,⟨q,f,u,G,C,E,D,F⟩,z,B,A,cs⟩)=⟨c,n,zi (yP l a.toNat cs),(Sk c (zi (yP l a.toNat cs)) (zg b)).1⟩:=by
  unfold YR;rw [if_neg (show ¬((Ac.bare ⟨4,a,⟨q,f,u,G,C,E,D,F⟩,z,B,A,cs⟩).kind=1) from (show ¬((4:Int)=1) by decide))];rw [if_neg (show ¬((Ac.bare ⟨4,a,⟨q,f,u,G,C,E,D,F⟩,z,B,A,cs⟩).kind=2) from (show ¬((4:Int)=2) by decide))];rw [if_neg (show ¬((Ac.bare ⟨4,a,⟨q,f,u,G,C,E,D,F⟩,z,B,A,cs⟩).kind=3) from (show ¬((4:Int)=3) by decide))];simp only;rw [VV];rfl
 rw [av,az];clear aa ae af ag P h ab ad aS aA av az;rw [ah.o] at ar c1 c2 c3 aj ak al am an ao ap aq;obtain ⟨X,au⟩:=qA (ZG c n l b a cs);rw [au] at Y ⊢;obtain ⟨ai,ay⟩:∃ ai:St,(⟨c,n,zi (yP l a.toNat cs),(Sk c (zi (yP l a.toNat cs)) (zg b)).1⟩:St)=ai:=⟨_,rfl⟩;rw [ay] at Y ⊢;clear au ay;go_enter Tryz.func21,Tryz.ntmps21;go_wp2_with fail
 rw [<-ah.o];refine Y.o.mono ?_;rintro e V ⟨m,r,s,y,t,g,j,i,a0,a1,a2,aU,aV,aW,rfl,aw,O⟩;have aY:=O.size;have aZ:=aO.o;have aL:=zh (za aK.o O);have aI:=aQ.o.later O;obtain ⟨d,N⟩:=qB (V.alloc (.cells (zS m r s y t g j i) 40));have H:zL V d:=by rw [N];exact zr _ _
 have aJ:zj d V.heap.size (zI m) (zI r) (.slice s y t) (.slice g j i):=by rw [N];exact zj.new V _ _ _ _
 have aN:=zh (aw.later H);have aM:=zh (za aL.o H);have W:=aI.later H;have a8:=H.size;obtain ⟨a9,ba,bb,bc⟩:=aJ.cells;obtain ⟨aE,aF,aG,aH⟩:=W.cells;have a7:∀ k,d.frozen? (zA (S+1+1) k)=false:=fun k=>frozen_of_row d (S+2) k _ _ W;have a3:d.cell? (zA (S+1+1) 0)=some (zI 0):=aE;have a4:d.cell? (zA (S+1+1) 1)=some (zI 0):=aF;have a5:d.cell? (zA (S+1+1) 2)=some zN:=aG;have a6:d.cell? (zA (S+1+1) 3)=some zN:=aH;have aR:=zh W;clear aI W aw O ar c1 c2 c3 aj ak al am an ao ap aq aE aF aG aH;go_upto_region 12 with fail
 rw [<-N];clear N H aJ;go_wp2_with fail
 have aC:=zk d (S+2) 40 _ _ _ _ (zI m) (zI r) (.slice s y t) (.slice g j i) aR.o;have M:w.heap.size<=S+2:=by omega
 refine bodyPost_ret (v:=.tuple #[.agg (zS m r s y t g j i),zI X]) (zt Tryz.results21 _ _ (S+2) 40 (zS m r s y t g j i) (0,0) _ rfl aC.1 Tryz.underlying40 rfl (by kernel_rfl)) rfl ⟨m,r,s,y,t,g,j,i,rfl,?_,?_⟩
 ·exact (aN.o.keep (fun k aX=>aC.2 k (by omega))).mono (by omega)
 ·exact ((((aM.o.setCell (p:=(zA (S+2) 0)) M _).setCell (p:=(zA (S+2) 1)) M _).setCell (p:=(zA (S+2) 2)) M _).setCell (p:=(zA (S+2) 3)) M _)
theorem GI (w:World) (c n:Int) (I:Option Addr) (L J:Nat) (l:QL) (r:Option Addr) (t s:Nat) (b:BL) (_h:zY w I L J l r t s b) (x:Ac) (E:wl w x) (_hcn:x.cn<=1048576) (h:¬x.kind=1) (i:¬x.kind=2) (j:¬x.kind=3) (m:¬x.kind=4) :
 zC 21 #[.agg (zS c n I L J r t s),.agg #[zI x.kind,zI x.n,zI x.rq.queue,zI x.rq.fr,zI x.rq.un,zI x.rq.kind,.slice x.rq.pa x.rq.pn x.rq.pc,.slice x.ca x.cn x.cc]] w fun e w'=>∃ ad ah ap ar aq Z ab aa,e=.returned (.tuple #[.agg (zS ad ah ap ar aq Z ab aa),zI (ZO ⟨c,n,l,b⟩ x)])/\X9 w' w.heap.size (ZO ⟨c,n,l,b⟩ x) (YR ⟨c,n,zi l,zg b⟩ x.bare) ad ah ap ar aq Z ab aa/\Below w.heap.size w w':=by
 obtain ⟨kd,ai,⟨q,f,u,ao,F,H,G,aj⟩,y,A,z,cs⟩:=x;have az:RunsIn w F H G aj:=E.1;have ay:RunsIn w y A z cs:=E.2;simp only at h i j m;simp only;obtain ⟨S,B⟩:=qA (w.heap.size);obtain ⟨a,C⟩:=qB (((w.alloc (.cells (zS c n I L J r t s) 40)).alloc (.cells #[zI kd,zI ai,zI q,zI f,zI u,zI ao,.slice F H G,.slice y A z] 27)).alloc (.cells zZ 40));obtain ⟨M,N,d,ag,D⟩:=Zy w _ _ _ _ _ _ _ _ _ _ _ _ C;rw [B] at M N d D;obtain ⟨ae,c1,c2,c3⟩:=M.cells;obtain ⟨P,Q,R,U,V,W,X,Y⟩:=N.cells;have ax:=zh d;have au:=zh ag;have O:=zh C;have aB:=zh B;have av:=zh D;have af:ZO ⟨c,n,l,b⟩ ⟨kd,ai,⟨q,f,u,ao,F,H,G,aj⟩,y,A,z,cs⟩=7:=by unfold ZO;simp only [if_neg h,if_neg i,if_neg j,if_neg m]
 rw [af];have b1:(kd==1)=false:=by simpa using h
 have aC:(kd==2)=false:=by simpa using i
 have aD:(kd==3)=false:=by simpa using j
 have aE:(kd==4)=false:=by simpa using m
 obtain ⟨ak,al,am,an⟩:=d.cells;have aK:∀ k,a.frozen? (zA (S+1+1) k)=false:=fun k=>frozen_of_row a (S+2) k _ _ d;have aG:a.cell? (zA (S+1+1) 0)=some (zI 0):=ak;have aH:a.cell? (zA (S+1+1) 1)=some (zI 0):=al;have aI:a.cell? (zA (S+1+1) 2)=some zN:=am;have aJ:a.cell? (zA (S+1+1) 3)=some zN:=an;clear C M N d ag D E az ay af ak al am an h i j m;rw [O.o] at ae c1 c2 c3 P Q R U V W X Y;go_enter Tryz.func21,Tryz.ntmps21;go_upto_region 1 with fail
 rw [<-O.o] at ae c1 c2 c3 P Q R U V W X Y ⊢;go_wp2_with fail
 have aA:=zk a (S+2) 40 _ _ _ _ (zI 0) (zI 0) zN zN ax.o;have aF:=av.o;have g:w.heap.size<=S+2:=by omega
 refine bodyPost_ret (v:=.tuple #[.agg zZ,zI 7]) (zt Tryz.results21 _ _ (S+2) 40 zZ (0,0) _ rfl aA.1 Tryz.underlying40 rfl (by kernel_rfl)) rfl ⟨0,0,none,0,0,none,0,0,rfl,Or.inl ⟨by decide,rfl,rfl,rfl,rfl,rfl,rfl,rfl,rfl⟩,?_⟩;have hfin:=((((au.o.setCell (p:=(zA (S+2) 0)) g (zI 0)).setCell (p:=(zA (S+2) 1)) g (zI 0)).setCell (p:=(zA (S+2) 2)) g zN).setCell (p:=(zA (S+2) 3)) g zN)
 first
 | exact hfin
 | (rw [B] at hfin;exact hfin)
theorem GT (w:World) (c n:Int) (g:Option Addr) (j i:Nat) (l:QL) (a:Option Addr) (f d:Nat) (b:BL) (h:zY w g j i l a f d b) (x:Ac) (m:wl w x) (k:x.cn<=1048576) :
 zC 21 #[.agg (zS c n g j i a f d),.agg #[zI x.kind,zI x.n,zI x.rq.queue,zI x.rq.fr,zI x.rq.un,zI x.rq.kind,.slice x.rq.pa x.rq.pn x.rq.pc,.slice x.ca x.cn x.cc]] w fun e w'=>∃ r y z B A o q p,e=.returned (.tuple #[.agg (zS r y z B A o q p),zI (ZO ⟨c,n,l,b⟩ x)])/\X9 w' w.heap.size (ZO ⟨c,n,l,b⟩ x) (YR ⟨c,n,zi l,zg b⟩ x.bare) r y z B A o q p/\Below w.heap.size w w':=by
 by_cases s:x.kind=1
 ·exact GJ w c n g j i l a f d b h x m k s
 by_cases t:x.kind=2
 ·exact Fw w c n g j i l a f d b h x m k t
 by_cases u:x.kind=3
 ·exact GK w c n g j i l a f d b h x m k u
 by_cases v:x.kind=4
 ·exact Fx w c n g j i l a f d b h x m k v
 exact GI w c n g j i l a f d b h x m k s t u v
theorem OB (w:World) (a:Option Addr) (n j:Nat) (l:QL) (h:QsIn w a n j l) (u:z9 l≠0) :
 zC 40 #[.slice a n j] w fun e w'=>e=.returned (.tuple #[.agg zZ,zI (z9 l)])/\Below w.heap.size w w':=by
 obtain ⟨S,t⟩:=qA (w.heap.size);obtain ⟨b,c⟩:=qB (w.alloc (.cells zZ 40));have q:zL w b:=by rw [c];exact zr _ _
 have x:zj b S (zI 0) (zI 0) zN zN:=by rw [c,<-t];exact zj.new w _ _ _ _
 have y:b.heap.size=S+1:=by rw [c,<-t];simp
 have i:=wF b a n j l (h.later q);obtain ⟨d,s⟩:=qA (z9 l);rw [s] at i u ⊢;have G:(d != 0)=true:=by simpa using u
 have B:=zh i;have E:=zh c;have z:=zh q;have C:=zh x;have D:=zh y;clear i c q x y h s;go_enter Tryz.func40,Tryz.ntmps40;go_wp2_with fail
 rw [<-E.o];refine B.o.mono ?_;rintro e r ⟨rfl,m⟩;have H:=D.o;have A:=zh (za z.o m);have g:=zh (C.o.later m);obtain ⟨I,J,L,M⟩:=g.o.cells;have N:∀ k,r.frozen? (zA S k)=false:=fun k=>frozen_of_row r S k _ _ g.o;clear m;go_wp2_with fail
 have F:=zk r S 40 _ _ _ _ (zI 0) (zI 0) zN zN g.o;have f:w.heap.size<=S:=by omega
 refine bodyPost_ret (v:=.tuple #[.agg zZ,zI d]) (zt Tryz.results40 _ _ S 40 zZ (0,0) _ rfl F.1 Tryz.underlying40 rfl (by kernel_rfl)) rfl ⟨rfl,?_⟩;exact ((((A.o.setCell (p:=(zA S 0)) f _).setCell (p:=(zA S 1)) f _).setCell (p:=(zA S 2)) f _).setCell (p:=(zA S 3)) f _)
theorem L9 (w:World) (a:Option Addr) (n s:Nat) (l:QL) (h:QsIn w a n s l) (A:z9 l=0) :
 zC 40 #[.slice a n s] w fun e w'=>∃ g k j,e=.returned (.tuple #[.agg (zS 0 0 (zO g 0) n k none 0 0),zI 0])/\OwnQs w' w.heap.size (.slice (zO g 0) n k) j/\n=j.length/\zi j=zi l/\Below w.heap.size w w'/\(∀ i,i<n->0<(qu j i).cn->∀ b r,(qu j i).ca=zO b r->w.heap.size<=b):=by
 obtain ⟨af,an,O⟩:=S5 h A;obtain ⟨S,G⟩:=qA (w.heap.size);obtain ⟨m,q⟩:=qB (w.alloc (.cells zZ 40));have z:zL w m:=by rw [q];exact zr _ _
 have L:m.heap[S]?=some (.cells zZ 40 (0,0)):=by rw [q,<-G];exact heap_alloc_new w _
 have N:m.heap.size=S+1:=by rw [q,<-G];simp
 have y:=wF m a n s l (h.later z);rw [A] at y;have U:=zh y;have V:=zh fun X (ad:zL w X)=>SO X a n s l (h.later ad) af (by omega) (fun i u=>by have:=O i u;omega);have ab:=zh q;have P:=zh z;have Z:=zh L;have aa:=zh N;clear y q z L N h A O;go_enter Tryz.func40,Tryz.ntmps40;go_wp2_with fail
 rw [<-ab.o];refine U.o.mono ?_;rintro e ag ⟨rfl,d⟩;have x:=zh (za P.o d);have C:=zh d;clear d;go_wp2_with fail
 refine (V.o ag x.o).mono ?_;rintro e c ⟨g,k,j,rfl,F,I,H,d,ak,J⟩;have al:=aa.o;have am:=C.o.size;have f:c.heap[S]?=some (.cells zZ 40 (0,0)):=by rw [d.block S (by omega),C.o.block S (by omega)];exact Z.o
 have ao:c.cell? (zA S 0)=some (zI 0):=by rw [cell_of_row c S 0 _ _ _ f];rfl
 have ap:c.cell? (zA S 1)=some (zI 0):=by rw [cell_of_row c S 1 _ _ _ f];rfl
 have aq:c.cell? (zA S 2)=some zN:=by rw [cell_of_row c S 2 _ _ _ f];rfl
 have ar:c.cell? (zA S 3)=some zN:=by rw [cell_of_row c S 3 _ _ _ f];rfl
 have au:∀ k,c.frozen? (zA S k)=false:=fun k=>frozen_of_row c S k _ _ f;have Y:=zh f;have W:=zh F;have D:=zh I;have R:=zh H;have Q:=zh (za x.o d);have E:=zh J;clear f F I H d J;go_wp2_with fail
 have M:=zk c S 40 _ _ _ _ (zI 0) (zI 0) (.slice (zO g 0) n k) zN Y.o;have t:w.heap.size<=S:=by omega
 refine bodyPost_ret (v:=.tuple #[.agg (zS 0 0 (zO g 0) n k none 0 0),zI 0]) (zt Tryz.results40 _ _ S 40 (zS 0 0 (zO g 0) n k none 0 0) (0,0) _ rfl M.1 Tryz.underlying40 rfl (by kernel_rfl)) rfl ⟨g,k,j,rfl,?_,D.o,R.o,?_,?_⟩
 ·have aj:=D.o;refine OwnQs.base (W.o.blocks (fun i u B b r e=>E.o i (by omega) B b r e) fun ae ah ai=>M.2 ae (by omega)) (by omega)
 ·exact ((((Q.o.setCell (p:=(zA S 0)) t _).setCell (p:=(zA S 1)) t _).setCell (p:=(zA S 2)) t _).setCell (p:=(zA S 3)) t _)
 ·intro i u B b r e;have:=E.o i u B b r e;have:=x.o.size;omega
theorem OV:∀ (l:List Ac) (i k:Nat) {X:Ac},l[i]?=some X->k<8->(YB l)[i*8+k]?=(xW X)[k]?
 | [],i,k,X,h,_=>by simp at h
 | x::l,0,k,X,h,hk=>by
  rw [List.getElem?_cons_zero] at h;cases h
  rw [YB,List.getElem?_append_left (by simp [xW];omega),Nat.zero_mul,Nat.zero_add]
 | x::l,i+1,k,X,h,hk=>by
  rw [List.getElem?_cons_succ] at h;have:=OV l i k h hk;rw [YB,List.getElem?_append_right (by simp [xW];omega),<-this]
  congr 1
  simp [xW];omega
theorem OW {w:World} {B c:Nat} {a:Option Addr} {l:List Ac} (h:w.ownsRow B 27 8 (.slice a l.length c) l.length (YB l)) {i:Nat} {X:Ac} (f:l[i]?=some X):∃ g,a=zO g 0/\l.length<=c/\c<=9223372036854775807/\∀ j u,(xW X)[j]?=some u->w.cell? (zA g (i*8+j))=some u:=by
 have v:i<l.length:=(List.getElem?_eq_some_iff.1 f).1;rcases h.2 with ⟨e,s⟩ | ⟨b,q,r,e,t,hg,n,o,x,p⟩
 ·omega
 simp only [Value.slice.injEq,true_and] at e;obtain ⟨rfl,rfl⟩:=e;refine ⟨b,rfl,n,by unfold maxLen at o;omega,fun j u k=>?_⟩;have m:j<8:=(List.getElem?_eq_some_iff.1 k).1;rw [cell_of_row w b _ _ _ _ hg,<-Array.getElem?_toList];have d:=OV l i j f m;rw [<-p,List.getElem?_take,if_pos (by omega)] at d;rw [d];exact k
structure BlkSt (P:Nat->Prop) (ta:Option Addr) (tn:Nat) (l:QL) (ba:Option Addr) (bn:Nat) (b:BL):Prop where
 qs:0<tn->∀ g off,ta=zO g off->P g
 caps:∀ i,i<tn->0<(qu l i).cn->∀ g off,(qu l i).ca=zO g off->P g
 bks:0<bn->∀ g off,ba=zO g off->P g
 ps:∀ i,i<bn->0<(bk b i).rq.pn->∀ g off,(bk b i).rq.pa=zO g off->P g
 bs:∀ i,i<bn->0<(bk b i).bn->∀ g off,(bk b i).ba=zO g off->P g
theorem NewSt.blk {B:Nat} {P:Nat->Prop} {m:Option Addr} {n:Nat} {l:QL} {f:Option Addr} {j:Nat} {b:BL} (h:NewSt B m n l f j b) (d:∀ k,B<=k->P k):BlkSt P m n l f j b :=
 ⟨fun a g o e=>d _ (h.qs a g o e),fun i a c g o e=>d _ (h.caps i a c g o e),fun a g o e=>d _ (h.bks a g o e),fun i a c g o e=>d _ (h.ps i a c g o e),fun i a c g o e=>d _ (h.bs i a c g o e)⟩
theorem BlkSt.new {B:Nat} {P:Nat->Prop} {m:Option Addr} {n:Nat} {l:QL} {f:Option Addr} {j:Nat} {b:BL} (h:BlkSt P m n l f j b) (d:∀ k,P k->B<=k):NewSt B m n l f j b :=
 ⟨fun a g o e=>d _ (h.qs a g o e),fun i a c g o e=>d _ (h.caps i a c g o e),fun a g o e=>d _ (h.bks a g o e),fun i a c g o e=>d _ (h.ps i a c g o e),fun i a c g o e=>d _ (h.bs i a c g o e)⟩
theorem zY.stand {w w':World} {P:Nat->Prop} {o:Option Addr} {p r:Nat} {l:QL} {m:Option Addr} {n q:Nat} {b:BL} (h:zY w o p r l m n q b) (d:BlkSt P o p l m n b) (j:∀ k,P k->w'.heap[k]?=w.heap[k]?):zY w' o p r l m n q b :=
 ⟨h.1.keep (fun a g c e=>j g (d.qs a g c e)) (fun i f a g c e=>j g (d.caps i f a g c e)),h.2.keep (fun a g c e=>j g (d.bks a g c e)) (fun i f a g c e=>j g (d.ps i f a g c e)) (fun i f a g c e=>j g (d.bs i f a g c e))⟩
structure RecInv (w wr:World) (S B:Nat) (s:St) (u:Value) (acts:List Ac) (c n:Int) (ta:Option Addr) (tn tc:Nat) (l:QL) (ba:Option Addr) (bn bc:Nat) (b:BL):Prop where
 box:zj wr B (zI c) (zI n) (.slice ta tn tc) (.slice ba bn bc)
 res:zj wr S (zI 0) (zI 0) zN zN
 st:zY wr ta tn tc l ba bn bc b
 blk:BlkSt (fun k=>S<k/\k≠B) ta tn l ba bn b
 says:c=s.c/\n=s.n/\zi l=s.l/\zg b=s.b
 row:wr.ownsRow (B+1) 27 8 u acts.length (YB acts)
 each:∀ x∈acts,wl wr x/\wX (B+1) x u
 below:Below S w wr
 sb:S<B
theorem RecInv.size {w wr:World} {S B:Nat} {s:St} {u:Value} {a:List Ac} {c n:Int} {g:Option Addr} {j i:Nat} {l:QL} {d:Option Addr} {f e:Nat} {b:BL} (h:RecInv w wr S B s u a c n g j i l d f e b):B<wr.heap.size:=(Array.getElem?_eq_some_iff.1 h.box).1
theorem RecInv.later {w wr o:World} {S B:Nat} {s:St} {u:Value} {d:List Ac} {c n:Int} {j:Option Addr} {m k:Nat} {l:QL} {e:Option Addr} {g f:Nat} {b:BL} (h:RecInv w wr S B s u d c n j m k l e g f b) (a:Below wr.heap.size wr o):RecInv w o S B s u d c n j m k l e g f b :=
 ⟨h.box.later a,h.res.later a,h.st.later a,h.blk,h.says,zT h.row a,fun x i=>⟨(h.each x i).1.later a,(h.each x i).2⟩,h.below.trans (a.mono (by have:=h.size;have:=h.sb;omega)),h.sb⟩
theorem RecInv.store {w wr:World} {S B:Nat} {s r:St} {u:Value} {E:List Ac} {c n:Int} {W:Option Addr} {Y X:Nat} {l:QL} {I:Option Addr} {L J:Nat} {b:BL} (h:RecInv w wr S B s u E c n W Y X l I L J b)
 {o q:Int} {i:Option Addr} {j t:Nat} {z:QL} {d:Option Addr} {f m:Nat} {v:BL} (R:zY wr i j t z d f m v) (F:NewSt (B+1) i j z d f v) (U:o=r.c/\q=r.n/\zi z=r.l/\zg v=r.b) :
 RecInv w ((((wr.setCell (zA B 0) (zI o)).setCell (zA B 1) (zI q)).setCell (zA B 2) (.slice i j t)).setCell (zA B 3) (.slice d f m)) S B r u E o q i j t z d f m v:=by
 have a:=zk wr B 40 _ _ _ _ (zI o) (zI q) (.slice i j t) (.slice d f m) h.box;obtain ⟨A,G⟩:=qB ((((wr.setCell ⟨B,0,none⟩ (zI o)).setCell ⟨B,1,none⟩ (zI q)).setCell ⟨B,2,none⟩ (.slice i j t)).setCell ⟨B,3,none⟩ (.slice d f m));have Z:=h.sb;have P:Below S w A:=by rw [G];exact (((h.below.setCell (p:=(zA B 0)) (by show S<=B;omega) _).setCell (p:=(zA B 1)) (by show S<=B;omega) _).setCell (p:=(zA B 2)) (by show S<=B;omega) _).setCell (p:=(zA B 3)) (by show S<=B;omega) _
 rw [<-G] at a ⊢;refine ⟨a.1,(a.2 S (by omega)).trans h.res,R.keep F (fun k Q=>a.2 k (by omega)),F.blk (fun k Q=>⟨by omega,by omega⟩),U,?_,fun x y=>⟨?_,(h.each x y).2⟩,P,h.sb⟩
 ·have H:=h.row;refine ⟨H.1,?_⟩;rcases H.2 with V | ⟨g,M,N,e,O,hg,rest⟩
  ·exact .inl V
  exact .inr ⟨g,M,N,e,O,(a.2 g (by omega)).trans hg,rest⟩
 ·refine (h.each x y).1.of_blocks (fun C k D e=>a.2 k ?_) (fun C k D e=>a.2 k ?_)
  ·have:=((h.each x y).2.1 C k D e).1;omega
  have:=((h.each x y).2.2 C k D e).1;omega
theorem JM {t:ByteArray} {k:Nat} (h:whole t k):pN t k<=3/\cN t k<=48:=by
 obtain ⟨_,a,_,b,_⟩:=h;unfold pN cN;omega
theorem Zr.few {t:ByteArray}:∀ {l:List Ac} {k m:Nat},Zr t k l m->∀ x∈l,x.rq.ps.length<=3/\x.cs.length<=48
 | [],_,_,_,x,a=>by cases a
 | y::l,k,m,h,x,a=>by
  rcases List.mem_cons.1 a with rfl | a
  ·have:=JM h.1;rw [h.2.1.ps,h.2.1.cs,yD,yD];exact this
  exact Zr.few h.2.2 x a
def VK (l:QL) (t:ByteArray):Int:=if z9 l=0 then (if 4096<t.size then 2 else 0) else z9 l
def UT (l:QL) (t:ByteArray):St:=Yd ⟨0,0,zi l,[]⟩ (yN t 60 0).1
def US (l:QL) (t:ByteArray):Int:=if VK l t=0 then ((yN t 60 0).1.length:Int) else 0
def J7 (w w':World) (e:Ending) (l:QL) (t:ByteArray):Prop:=∃ c' n' ta' tn' tc' ba' bn' bc',e=.returned (.tuple #[.agg (zS c' n' ta' tn' tc' ba' bn' bc'),zI (US l t),zI (VK l t)])/\X9 w' w.heap.size (VK l t) (UT l t) c' n' ta' tn' tc' ba' bn' bc'/\Below w.heap.size w w'
end Go.Proofs.YtckpdfkobdgjeaaGreatDoor
