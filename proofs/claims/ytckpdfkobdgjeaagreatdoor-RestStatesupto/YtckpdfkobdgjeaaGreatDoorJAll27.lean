/- Several texts in one: RefT, RefU, AnyU, RefV, RefW, RefX. -/
import Derived.Test.YtckpdfkobdgjeaaGreatDoorJRefR
import Derived.Test.YtckpdfkobdgjeaaGreatDoorJAll19
import Derived.Test.YtckpdfkobdgjeaaGreatDoorJAll20
import Derived.Deep.RegionWith
import Derived.Test.YtckpdfkobdgjeaaGreatDoorJAll4
import Derived.Deep.Upon
import Derived.Test.YtckpdfkobdgjeaaGreatDoorJAll17
import Derived.Test.YtckpdfkobdgjeaaGreatDoorJAll13
namespace Go.Proofs.YtckpdfkobdgjeaaGreatDoor
set_option maxRecDepth 100000
set_option maxHeartbeats 4000000
open Go.RowKit
set_option linter.unusedSectionVars false
variable [Inhabited Mk]
def Vv:Prop:=∀ (w:World) (c n:Int) (ta:Option Addr) (tn tc:Nat) (l:QL) (ba:Option Addr) (bn bc:Nat) (b:BL),zY w ta tn tc l ba bn bc b->zU c n l b=0->∀ (q:Int) (ra:Option Addr) (rn rc:Nat) (rs:zd),RunsIn w ra rn rc rs ->
 zC 65 #[.agg (zS c n ta tn tc ba bn bc),zI q,.slice ra rn rc] w fun e w'=>∃ c' n' ta' tn' tc' ba' bn' bc' m1 m2 m3 d1 d2 d3,e=.returned (.tuple #[.agg (zS c' n' ta' tn' tc' ba' bn' bc'),.slice m1 m2 m3,.slice d1 d2 d3,zI (ZG c n l b q rs)])/\X9 w' w.heap.size (ZG c n l b q rs) ⟨c,n,zi (yP l q.toNat rs),(Sk c (zi (yP l q.toNat rs)) (zg b)).1⟩ c' n' ta' tn' tc' ba' bn' bc'/\Below w.heap.size w w'
theorem GW (w:World) (c n:Int) (R:Option Addr) (V U:Nat) (l:QL) (J:Option Addr) (M L:Nat) (b:BL) (h:zY w R V U l J M L b) (aS:zU c n l b=0) (x:Ac) (ad:wl w x) (_hcn:x.cn<=1048576) (aC:x.kind=1) :
 zC 25 #[.agg (zS c n R V U J M L),.agg #[zI x.kind,zI x.n,zI x.rq.queue,zI x.rq.fr,zI x.rq.un,zI x.rq.kind,.slice x.rq.pa x.rq.pn x.rq.pc,.slice x.ca x.cn x.cc]] w fun e w'=>∃ y z A C B r t s,e=.returned (.tuple #[.agg (zS y z A C B r t s),zI (ZO ⟨c,n,l,b⟩ x)])/\X9 w' w.heap.size (ZO ⟨c,n,l,b⟩ x) (YR ⟨c,n,zi l,zg b⟩ x.bare) y z A C B r t s/\Below w.heap.size w w':=by
 obtain ⟨kd,H,⟨q,f,u,j,a,g,d,i⟩,D,F,E,cs⟩:=x;have aA:RunsIn w a g d i:=ad.1;have aR:RunsIn w D F E cs:=ad.2;simp only at aC;simp only;obtain ⟨S,ax⟩:=qA (w.heap.size);obtain ⟨aO,aa⟩:=qB (((w.alloc (.cells (zS c n R V U J M L) 40)).alloc (.cells #[zI kd,zI H,zI q,zI f,zI u,zI j,.slice a g d,.slice D F E] 27)).alloc (.cells zZ 40));obtain ⟨ae,af,ag,Q,ab⟩:=Zy w _ _ _ _ _ _ _ _ _ _ _ _ aa;rw [ax] at ae af ag ab;obtain ⟨ar,c1,c2,c3⟩:=ae.cells;obtain ⟨aj,ak,al,am,an,ao,ap,aq⟩:=af.cells;have aP:=zh ag;have aJ:=zh Q;have ah:=zh aa;have aT:=zh ax;have aN:=zh ab;subst aC;have I:=zh (J1 aO c n R V U l J M L b (h.later Q) aS ⟨q,f,u,j,a,g,d,i⟩ (aA.later Q));unfold YA at I;have av:ZO ⟨c,n,l,b⟩ ⟨1,H,⟨q,f,u,j,a,g,d,i⟩,D,F,E,cs⟩=Zp c n l b ⟨q,f,u,j,a,g,d,i⟩:=by unfold ZO;simp only [if_pos]
 have az:YR ⟨c,n,zi l,zg b⟩ (Ac.bare ⟨1,H,⟨q,f,u,j,a,g,d,i⟩,D,F,E,cs⟩)=⟨c,n+1,zi l,zg b++[⟨n,Rq.bare ⟨q,f,u,j,a,g,d,i⟩,none,0,0,(yU l b ⟨q,f,u,j,a,g,d,i⟩).1⟩]⟩:=by
  unfold YR;rw [if_pos (show (Ac.bare ⟨1,H,⟨q,f,u,j,a,g,d,i⟩,D,F,E,cs⟩).kind=1 from rfl)];simp only;rw [show (Ac.bare ⟨1,H,⟨q,f,u,j,a,g,d,i⟩,D,F,E,cs⟩).rq=Rq.bare ⟨q,f,u,j,a,g,d,i⟩ from rfl,XF];rfl
 rw [av,az];clear aa ae af ag Q h ab ad aA aR av az;rw [ah.o] at ar c1 c2 c3 aj ak al am an ao ap aq;obtain ⟨Y,au⟩:=qA (Zp c n l b ⟨q,f,u,j,a,g,d,i⟩);rw [au] at I ⊢;obtain ⟨ai,ay⟩:∃ ai:St,(⟨c,n+1,zi l,zg b++[⟨n,Rq.bare ⟨q,f,u,j,a,g,d,i⟩,none,0,0,(yU l b ⟨q,f,u,j,a,g,d,i⟩).1⟩]⟩:St)=ai:=⟨_,rfl⟩;rw [ay] at I ⊢;clear au ay;go_enter Tryz.func25,Tryz.ntmps25;go_wp2_with fail
 rw [<-ah.o];refine I.o.mono ?_;rintro e W ⟨y,z,A,C,B,r,t,s,aX,rfl,aw,P⟩;have aV:=P.size;have aW:=aN.o;have aK:=zh (za aJ.o P);have aH:=aP.o.later P;obtain ⟨m,O⟩:=qB (W.alloc (.cells (zS y z A C B r t s) 40));have G:zL W m:=by rw [O];exact zr _ _
 have aI:zj m W.heap.size (zI y) (zI z) (.slice A C B) (.slice r t s):=by rw [O];exact zj.new W _ _ _ _
 have aM:=zh (aw.later G);have aL:=zh (za aK.o G);have X:=aH.later G;have a3:=G.size;obtain ⟨a4,a5,a6,a7⟩:=aI.cells;obtain ⟨aD,aE,aF,aG⟩:=X.cells;have a2:∀ k,m.frozen? (zA (S+1+1) k)=false:=fun k=>frozen_of_row m (S+2) k _ _ X;have aY:m.cell? (zA (S+1+1) 0)=some (zI 0):=aD;have aZ:m.cell? (zA (S+1+1) 1)=some (zI 0):=aE;have a0:m.cell? (zA (S+1+1) 2)=some zN:=aF;have a1:m.cell? (zA (S+1+1) 3)=some zN:=aG;have aQ:=zh X;clear aH X aw P ar c1 c2 c3 aj ak al am an ao ap aq aD aE aF aG;go_upto_region 4 with fail
 rw [<-O];clear O G aI;go_wp2_with fail
 have aB:=zk m (S+2) 40 _ _ _ _ (zI y) (zI z) (.slice A C B) (.slice r t s) aQ.o;have N:w.heap.size<=S+2:=by omega
 refine bodyPost_ret (v:=.tuple #[.agg (zS y z A C B r t s),zI Y]) (zt Tryz.results25 _ _ (S+2) 40 (zS y z A C B r t s) (0,0) _ rfl aB.1 Tryz.underlying40 rfl (by kernel_rfl)) rfl ⟨y,z,A,C,B,r,t,s,rfl,?_,?_⟩
 ·exact (aM.o.keep (fun k aU=>aB.2 k (by omega))).mono (by omega)
 ·exact ((((aL.o.setCell (p:=(zA (S+2) 0)) N _).setCell (p:=(zA (S+2) 1)) N _).setCell (p:=(zA (S+2) 2)) N _).setCell (p:=(zA (S+2) 3)) N _)
theorem GX (w:World) (c n:Int) (R:Option Addr) (V U:Nat) (l:QL) (L:Option Addr) (N M:Nat) (b:BL) (h:zY w R V U l L N M b) (aV:zU c n l b=0) (x:Ac) (ae:wl w x) (_hcn:x.cn<=1048576) (aD:x.kind=2) :
 zC 25 #[.agg (zS c n R V U L N M),.agg #[zI x.kind,zI x.n,zI x.rq.queue,zI x.rq.fr,zI x.rq.un,zI x.rq.kind,.slice x.rq.pa x.rq.pn x.rq.pc,.slice x.ca x.cn x.cc]] w fun e w'=>∃ m r s y t g j i,e=.returned (.tuple #[.agg (zS m r s y t g j i),zI (ZO ⟨c,n,l,b⟩ x)])/\X9 w' w.heap.size (ZO ⟨c,n,l,b⟩ x) (YR ⟨c,n,zi l,zg b⟩ x.bare) m r s y t g j i/\Below w.heap.size w w':=by
 obtain ⟨kd,a,⟨q,f,u,G,C,E,D,F⟩,z,B,A,cs⟩:=x;have aU:RunsIn w C E D F:=ae.1;have aT:RunsIn w z B A cs:=ae.2;simp only at aD;simp only;obtain ⟨S,az⟩:=qA (w.heap.size);obtain ⟨aR,aa⟩:=qB (((w.alloc (.cells (zS c n R V U L N M) 40)).alloc (.cells #[zI kd,zI a,zI q,zI f,zI u,zI G,.slice C E D,.slice z B A] 27)).alloc (.cells zZ 40));obtain ⟨ag,ah,ai,ab,ad⟩:=Zy w _ _ _ _ _ _ _ _ _ _ _ _ aa;rw [az] at ag ah ai ad;obtain ⟨av,c1,c2,c3⟩:=ag.cells;obtain ⟨al,am,an,ao,ap,aq,ar,au⟩:=ah.cells;have aS:=zh ai;have aO:=zh ab;have aj:=zh aa;have aW:=zh az;have aQ:=zh ad;subst aD;have X:=zh (JY aR c n R V U l L N M b (h.later ab) aV a);have ax:ZO ⟨c,n,l,b⟩ ⟨2,a,⟨q,f,u,G,C,E,D,F⟩,z,B,A,cs⟩=xy c n l b a:=by unfold ZO;simp only [if_neg (show ¬((2:Int)=1) by decide),if_pos]
 have aB:YR ⟨c,n,zi l,zg b⟩ (Ac.bare ⟨2,a,⟨q,f,u,G,C,E,D,F⟩,z,B,A,cs⟩)=⟨c,n,zi l,wU (zg b) ((yS b a).getD 0)⟩:=by
  unfold YR;rw [if_neg (show ¬((Ac.bare ⟨2,a,⟨q,f,u,G,C,E,D,F⟩,z,B,A,cs⟩).kind=1) from (show ¬((2:Int)=1) by decide))];rw [if_pos (show (Ac.bare ⟨2,a,⟨q,f,u,G,C,E,D,F⟩,z,B,A,cs⟩).kind=2 from rfl)];simp only;rw [WM];rfl
 rw [ax,aB];clear aa ag ah ai ab h ad ae aU aT ax aB;rw [aj.o] at av c1 c2 c3 al am an ao ap aq ar au;obtain ⟨W,aw⟩:=qA (xy c n l b a);rw [aw] at X ⊢;obtain ⟨ak,aA⟩:∃ ak:St,(⟨c,n,zi l,wU (zg b) ((yS b a).getD 0)⟩:St)=ak:=⟨_,rfl⟩;rw [aA] at X ⊢;clear aw aA;go_enter Tryz.func25,Tryz.ntmps25;go_wp2_with fail
 rw [<-aj.o];refine X.o.mono ?_;rintro e af ⟨m,r,s,y,t,g,j,i,rfl,ay,Q⟩;have aY:=Q.size;have aZ:=aQ.o;have aP:=zh (za aO.o Q);have aN:=aS.o.later Q;have J:=zh ay;have I:=aP;have H:=aN;obtain ⟨d,P⟩:=qB (af);have a0:af.heap.size<=af.heap.size:=Nat.le_refl _;rw [<-P] at H J I;obtain ⟨aI,aJ,aK,aL⟩:=H.cells;have aM:∀ k,d.frozen? (zA (S+1+1) k)=false:=fun k=>frozen_of_row d (S+2) k _ _ H;have aE:d.cell? (zA (S+1+1) 0)=some (zI 0):=aI;have aF:d.cell? (zA (S+1+1) 1)=some (zI 0):=aJ;have aG:d.cell? (zA (S+1+1) 2)=some zN:=aK;have aH:d.cell? (zA (S+1+1) 3)=some zN:=aL;have Z:=zh H;clear aN H ay Q av c1 c2 c3 al am an ao ap aq ar au aI aJ aK aL;rw [P] at aE aF aG aH aM Z J I;go_wp2_with fail
 rw [<-P] at aE aF aG aH aM Z J I ⊢;clear P;have aC:=zk d (S+2) 40 _ _ _ _ (zI m) (zI r) (.slice s y t) (.slice g j i) Z.o;have O:w.heap.size<=S+2:=by omega
 refine bodyPost_ret (v:=.tuple #[.agg (zS m r s y t g j i),zI W]) (zt Tryz.results25 _ _ (S+2) 40 (zS m r s y t g j i) (0,0) _ rfl aC.1 Tryz.underlying40 rfl (by kernel_rfl)) rfl ⟨m,r,s,y,t,g,j,i,rfl,?_,?_⟩
 ·exact (J.o.keep (fun k aX=>aC.2 k (by omega))).mono (by omega)
 ·exact ((((I.o.setCell (p:=(zA (S+2) 0)) O _).setCell (p:=(zA (S+2) 1)) O _).setCell (p:=(zA (S+2) 2)) O _).setCell (p:=(zA (S+2) 3)) O _)
theorem GY (w:World) (c n:Int) (Q:Option Addr) (U R:Nat) (l:QL) (J:Option Addr) (M L:Nat) (b:BL) (h:zY w Q U R l J M L b) (aS:zU c n l b=0) (x:Ac) (ad:wl w x) (_hcn:x.cn<=1048576) (aB:x.kind=3) :
 zC 25 #[.agg (zS c n Q U R J M L),.agg #[zI x.kind,zI x.n,zI x.rq.queue,zI x.rq.fr,zI x.rq.un,zI x.rq.kind,.slice x.rq.pa x.rq.pn x.rq.pc,.slice x.ca x.cn x.cc]] w fun e w'=>∃ m r s y t g j i,e=.returned (.tuple #[.agg (zS m r s y t g j i),zI (ZO ⟨c,n,l,b⟩ x)])/\X9 w' w.heap.size (ZO ⟨c,n,l,b⟩ x) (YR ⟨c,n,zi l,zg b⟩ x.bare) m r s y t g j i/\Below w.heap.size w w':=by
 obtain ⟨kd,a,⟨q,f,u,G,C,E,D,F⟩,z,B,A,cs⟩:=x;have aR:RunsIn w C E D F:=ad.1;have aQ:RunsIn w z B A cs:=ad.2;simp only at aB;simp only;obtain ⟨S,ax⟩:=qA (w.heap.size);obtain ⟨aN,Z⟩:=qB (((w.alloc (.cells (zS c n Q U R J M L) 40)).alloc (.cells #[zI kd,zI a,zI q,zI f,zI u,zI G,.slice C E D,.slice z B A] 27)).alloc (.cells zZ 40));obtain ⟨ae,af,ag,aa,ab⟩:=Zy w _ _ _ _ _ _ _ _ _ _ _ _ Z;rw [ax] at ae af ag ab;obtain ⟨ar,c1,c2,c3⟩:=ae.cells;obtain ⟨aj,ak,al,am,an,ao,ap,aq⟩:=af.cells;have aO:=zh ag;have aI:=zh aa;have ah:=zh Z;have aT:=zh ax;have aM:=zh ab;subst aB;have I:=zh (G0 aN c n Q U R l J M L b (h.later aa) aS a);unfold Y3 at I;have av:ZO ⟨c,n,l,b⟩ ⟨3,a,⟨q,f,u,G,C,E,D,F⟩,z,B,A,cs⟩=we c n l b a:=by unfold ZO;simp only [if_neg (show ¬((3:Int)=1) by decide),if_neg (show ¬((3:Int)=2) by decide),if_pos]
 have az:YR ⟨c,n,zi l,zg b⟩ (Ac.bare ⟨3,a,⟨q,f,u,G,C,E,D,F⟩,z,B,A,cs⟩)=⟨a,n,zi l,xU (zg b) a⟩:=by
  unfold YR;rw [if_neg (show ¬((Ac.bare ⟨3,a,⟨q,f,u,G,C,E,D,F⟩,z,B,A,cs⟩).kind=1) from (show ¬((3:Int)=1) by decide))];rw [if_neg (show ¬((Ac.bare ⟨3,a,⟨q,f,u,G,C,E,D,F⟩,z,B,A,cs⟩).kind=2) from (show ¬((3:Int)=2) by decide))];rw [if_pos (show (Ac.bare ⟨3,a,⟨q,f,u,G,C,E,D,F⟩,z,B,A,cs⟩).kind=3 from rfl)];rfl
 rw [av,az];clear Z ae af ag aa h ab ad aR aQ av az;rw [ah.o] at ar c1 c2 c3 aj ak al am an ao ap aq;obtain ⟨X,au⟩:=qA (we c n l b a);rw [au] at I ⊢;obtain ⟨ai,ay⟩:∃ ai:St,(⟨a,n,zi l,xU (zg b) a⟩:St)=ai:=⟨_,rfl⟩;rw [ay] at I ⊢;clear au ay;go_enter Tryz.func25,Tryz.ntmps25;go_wp2_with fail
 rw [<-ah.o];refine I.o.mono ?_;rintro e V ⟨m,r,s,y,t,g,j,i,aX,rfl,aw,P⟩;have aV:=P.size;have aW:=aM.o;have aJ:=zh (za aI.o P);have aG:=aO.o.later P;obtain ⟨d,O⟩:=qB (V.alloc (.cells (zS m r s y t g j i) 40));have H:zL V d:=by rw [O];exact zr _ _
 have aH:zj d V.heap.size (zI m) (zI r) (.slice s y t) (.slice g j i):=by rw [O];exact zj.new V _ _ _ _
 have aL:=zh (aw.later H);have aK:=zh (za aJ.o H);have W:=aG.later H;have a3:=H.size;obtain ⟨a4,a5,a6,a7⟩:=aH.cells;obtain ⟨aC,aD,aE,aF⟩:=W.cells;have a2:∀ k,d.frozen? (zA (S+1+1) k)=false:=fun k=>frozen_of_row d (S+2) k _ _ W;have aY:d.cell? (zA (S+1+1) 0)=some (zI 0):=aC;have aZ:d.cell? (zA (S+1+1) 1)=some (zI 0):=aD;have a0:d.cell? (zA (S+1+1) 2)=some zN:=aE;have a1:d.cell? (zA (S+1+1) 3)=some zN:=aF;have aP:=zh W;clear aG W aw P ar c1 c2 c3 aj ak al am an ao ap aq aC aD aE aF;go_upto_region 9 with fail
 rw [<-O];clear O H aH;go_wp2_with fail
 have aA:=zk d (S+2) 40 _ _ _ _ (zI m) (zI r) (.slice s y t) (.slice g j i) aP.o;have N:w.heap.size<=S+2:=by omega
 refine bodyPost_ret (v:=.tuple #[.agg (zS m r s y t g j i),zI X]) (zt Tryz.results25 _ _ (S+2) 40 (zS m r s y t g j i) (0,0) _ rfl aA.1 Tryz.underlying40 rfl (by kernel_rfl)) rfl ⟨m,r,s,y,t,g,j,i,rfl,?_,?_⟩
 ·exact (aL.o.keep (fun k aU=>aA.2 k (by omega))).mono (by omega)
 ·exact ((((aK.o.setCell (p:=(zA (S+2) 0)) N _).setCell (p:=(zA (S+2) 1)) N _).setCell (p:=(zA (S+2) 2)) N _).setCell (p:=(zA (S+2) 3)) N _)
theorem GZ (aR:Vv) (w:World) (c n:Int) (Q:Option Addr) (U R:Nat) (l:QL) (I:Option Addr) (L J:Nat) (b:BL) (h:zY w Q U R l I L J b) (aU:zU c n l b=0) (x:Ac) (ad:wl w x) (aS:x.cn<=1048576) (aC:x.kind=4) :
 zC 25 #[.agg (zS c n Q U R I L J),.agg #[zI x.kind,zI x.n,zI x.rq.queue,zI x.rq.fr,zI x.rq.un,zI x.rq.kind,.slice x.rq.pa x.rq.pn x.rq.pc,.slice x.ca x.cn x.cc]] w fun e w'=>∃ m r s y t g j i,e=.returned (.tuple #[.agg (zS m r s y t g j i),zI (ZO ⟨c,n,l,b⟩ x)])/\X9 w' w.heap.size (ZO ⟨c,n,l,b⟩ x) (YR ⟨c,n,zi l,zg b⟩ x.bare) m r s y t g j i/\Below w.heap.size w w':=by
 obtain ⟨kd,a,⟨q,f,u,G,C,E,D,F⟩,z,B,A,cs⟩:=x;have aT:RunsIn w C E D F:=ad.1;have aA:RunsIn w z B A cs:=ad.2;simp only at aC;simp only at aS ⊢;obtain ⟨S,ax⟩:=qA (w.heap.size);obtain ⟨aO,aa⟩:=qB (((w.alloc (.cells (zS c n Q U R I L J) 40)).alloc (.cells #[zI kd,zI a,zI q,zI f,zI u,zI G,.slice C E D,.slice z B A] 27)).alloc (.cells zZ 40));obtain ⟨ae,af,ag,P,ab⟩:=Zy w _ _ _ _ _ _ _ _ _ _ _ _ aa;rw [ax] at ae af ag ab;obtain ⟨ar,c1,c2,c3⟩:=ae.cells;obtain ⟨aj,ak,al,am,an,ao,ap,aq⟩:=af.cells;have aP:=zh ag;have aJ:=zh P;have ah:=zh aa;have aV:=zh ax;have aN:=zh ab;subst aC;have Y:=zh (aR aO c n Q U R l I L J b (h.later P) aU a z B A cs (aA.later P));have av:ZO ⟨c,n,l,b⟩ ⟨4,a,⟨q,f,u,G,C,E,D,F⟩,z,B,A,cs⟩=ZG c n l b a cs:=by unfold ZO;simp only [if_neg (show ¬((4:Int)=1) by decide),if_neg (show ¬((4:Int)=2) by decide),if_neg (show ¬((4:Int)=3) by decide),if_pos]
 have az:YR ⟨c,n,zi l,zg b⟩ (Ac.bare ⟨4,a,⟨q,f,u,G,C,E,D,F⟩,z,B,A,cs⟩)=⟨c,n,zi (yP l a.toNat cs),(Sk c (zi (yP l a.toNat cs)) (zg b)).1⟩:=by
  unfold YR;rw [if_neg (show ¬((Ac.bare ⟨4,a,⟨q,f,u,G,C,E,D,F⟩,z,B,A,cs⟩).kind=1) from (show ¬((4:Int)=1) by decide))];rw [if_neg (show ¬((Ac.bare ⟨4,a,⟨q,f,u,G,C,E,D,F⟩,z,B,A,cs⟩).kind=2) from (show ¬((4:Int)=2) by decide))];rw [if_neg (show ¬((Ac.bare ⟨4,a,⟨q,f,u,G,C,E,D,F⟩,z,B,A,cs⟩).kind=3) from (show ¬((4:Int)=3) by decide))];simp only;rw [VV];rfl
 rw [av,az];clear aa ae af ag P h ab ad aT aA av az;rw [ah.o] at ar c1 c2 c3 aj ak al am an ao ap aq;obtain ⟨X,au⟩:=qA (ZG c n l b a cs);rw [au] at Y ⊢;obtain ⟨ai,ay⟩:∃ ai:St,(⟨c,n,zi (yP l a.toNat cs),(Sk c (zi (yP l a.toNat cs)) (zg b)).1⟩:St)=ai:=⟨_,rfl⟩;rw [ay] at Y ⊢;clear au ay;go_enter Tryz.func25,Tryz.ntmps25;go_wp2_with fail
 rw [<-ah.o];refine Y.o.mono ?_;rintro e V ⟨m,r,s,y,t,g,j,i,a2,a3,a4,aW,aX,aY,rfl,aw,O⟩;have a0:=O.size;have a1:=aN.o;have aK:=zh (za aJ.o O);have aH:=aP.o.later O;obtain ⟨d,N⟩:=qB (V.alloc (.cells (zS m r s y t g j i) 40));have H:zL V d:=by rw [N];exact zr _ _
 have aI:zj d V.heap.size (zI m) (zI r) (.slice s y t) (.slice g j i):=by rw [N];exact zj.new V _ _ _ _
 have aM:=zh (aw.later H);have aL:=zh (za aK.o H);have W:=aH.later H;have ba:=H.size;obtain ⟨bb,bc,bd,be⟩:=aI.cells;obtain ⟨aD,aE,aF,aG⟩:=W.cells;have a9:∀ k,d.frozen? (zA (S+1+1) k)=false:=fun k=>frozen_of_row d (S+2) k _ _ W;have a5:d.cell? (zA (S+1+1) 0)=some (zI 0):=aD;have a6:d.cell? (zA (S+1+1) 1)=some (zI 0):=aE;have a7:d.cell? (zA (S+1+1) 2)=some zN:=aF;have a8:d.cell? (zA (S+1+1) 3)=some zN:=aG;have aQ:=zh W;clear aH W aw O ar c1 c2 c3 aj ak al am an ao ap aq aD aE aF aG;go_upto_region 12 with fail
 rw [<-N];clear N H aI;go_wp2_with fail
 have aB:=zk d (S+2) 40 _ _ _ _ (zI m) (zI r) (.slice s y t) (.slice g j i) aQ.o;have M:w.heap.size<=S+2:=by omega
 refine bodyPost_ret (v:=.tuple #[.agg (zS m r s y t g j i),zI X]) (zt Tryz.results25 _ _ (S+2) 40 (zS m r s y t g j i) (0,0) _ rfl aB.1 Tryz.underlying40 rfl (by kernel_rfl)) rfl ⟨m,r,s,y,t,g,j,i,rfl,?_,?_⟩
 ·exact (aM.o.keep (fun k aZ=>aB.2 k (by omega))).mono (by omega)
 ·exact ((((aL.o.setCell (p:=(zA (S+2) 0)) M _).setCell (p:=(zA (S+2) 1)) M _).setCell (p:=(zA (S+2) 2)) M _).setCell (p:=(zA (S+2) 3)) M _)
theorem GV (w:World) (c n:Int) (I:Option Addr) (L J:Nat) (l:QL) (r:Option Addr) (t s:Nat) (b:BL) (_h:zY w I L J l r t s b) (_hpl:zU c n l b=0) (x:Ac) (E:wl w x) (_hcn:x.cn<=1048576) (h:¬x.kind=1) (i:¬x.kind=2) (j:¬x.kind=3) (m:¬x.kind=4) :
 zC 25 #[.agg (zS c n I L J r t s),.agg #[zI x.kind,zI x.n,zI x.rq.queue,zI x.rq.fr,zI x.rq.un,zI x.rq.kind,.slice x.rq.pa x.rq.pn x.rq.pc,.slice x.ca x.cn x.cc]] w fun e w'=>∃ ad ah ap ar aq Z ab aa,e=.returned (.tuple #[.agg (zS ad ah ap ar aq Z ab aa),zI (ZO ⟨c,n,l,b⟩ x)])/\X9 w' w.heap.size (ZO ⟨c,n,l,b⟩ x) (YR ⟨c,n,zi l,zg b⟩ x.bare) ad ah ap ar aq Z ab aa/\Below w.heap.size w w':=by
 obtain ⟨kd,ai,⟨q,f,u,ao,F,H,G,aj⟩,y,A,z,cs⟩:=x;have az:RunsIn w F H G aj:=E.1;have ay:RunsIn w y A z cs:=E.2;simp only at h i j m;simp only;obtain ⟨S,B⟩:=qA (w.heap.size);obtain ⟨a,C⟩:=qB (((w.alloc (.cells (zS c n I L J r t s) 40)).alloc (.cells #[zI kd,zI ai,zI q,zI f,zI u,zI ao,.slice F H G,.slice y A z] 27)).alloc (.cells zZ 40));obtain ⟨M,N,d,ag,D⟩:=Zy w _ _ _ _ _ _ _ _ _ _ _ _ C;rw [B] at M N d D;obtain ⟨ae,c1,c2,c3⟩:=M.cells;obtain ⟨P,Q,R,U,V,W,X,Y⟩:=N.cells;have ax:=zh d;have au:=zh ag;have O:=zh C;have aB:=zh B;have av:=zh D;have af:ZO ⟨c,n,l,b⟩ ⟨kd,ai,⟨q,f,u,ao,F,H,G,aj⟩,y,A,z,cs⟩=7:=by unfold ZO;simp only [if_neg h,if_neg i,if_neg j,if_neg m]
 rw [af];have b1:(kd==1)=false:=by simpa using h
 have aC:(kd==2)=false:=by simpa using i
 have aD:(kd==3)=false:=by simpa using j
 have aE:(kd==4)=false:=by simpa using m
 obtain ⟨ak,al,am,an⟩:=d.cells;have aK:∀ k,a.frozen? (zA (S+1+1) k)=false:=fun k=>frozen_of_row a (S+2) k _ _ d;have aG:a.cell? (zA (S+1+1) 0)=some (zI 0):=ak;have aH:a.cell? (zA (S+1+1) 1)=some (zI 0):=al;have aI:a.cell? (zA (S+1+1) 2)=some zN:=am;have aJ:a.cell? (zA (S+1+1) 3)=some zN:=an;clear C M N d ag D E az ay af ak al am an h i j m;rw [O.o] at ae c1 c2 c3 P Q R U V W X Y;go_enter Tryz.func25,Tryz.ntmps25;go_upto_region 1 with fail
 rw [<-O.o] at ae c1 c2 c3 P Q R U V W X Y ⊢;go_wp2_with fail
 have aA:=zk a (S+2) 40 _ _ _ _ (zI 0) (zI 0) zN zN ax.o;have aF:=av.o;have g:w.heap.size<=S+2:=by omega
 refine bodyPost_ret (v:=.tuple #[.agg zZ,zI 7]) (zt Tryz.results25 _ _ (S+2) 40 zZ (0,0) _ rfl aA.1 Tryz.underlying40 rfl (by kernel_rfl)) rfl ⟨0,0,none,0,0,none,0,0,rfl,Or.inl ⟨by decide,rfl,rfl,rfl,rfl,rfl,rfl,rfl,rfl⟩,?_⟩;have hfin:=((((au.o.setCell (p:=(zA (S+2) 0)) g (zI 0)).setCell (p:=(zA (S+2) 1)) g (zI 0)).setCell (p:=(zA (S+2) 2)) g zN).setCell (p:=(zA (S+2) 3)) g zN)
 first
 | exact hfin
 | (rw [B] at hfin;exact hfin)
theorem Hu (D:Vv) (w:World) (c n:Int) (g:Option Addr) (j i:Nat) (l:QL) (a:Option Addr) (f d:Nat) (b:BL) (h:zY w g j i l a f d b) (m:zU c n l b=0) (x:Ac) (o:wl w x) (k:x.cn<=1048576) :
 zC 25 #[.agg (zS c n g j i a f d),.agg #[zI x.kind,zI x.n,zI x.rq.queue,zI x.rq.fr,zI x.rq.un,zI x.rq.kind,.slice x.rq.pa x.rq.pn x.rq.pc,.slice x.ca x.cn x.cc]] w fun e w'=>∃ s z A C B p r q,e=.returned (.tuple #[.agg (zS s z A C B p r q),zI (ZO ⟨c,n,l,b⟩ x)])/\X9 w' w.heap.size (ZO ⟨c,n,l,b⟩ x) (YR ⟨c,n,zi l,zg b⟩ x.bare) s z A C B p r q/\Below w.heap.size w w':=by
 by_cases t:x.kind=1
 ·exact GW w c n g j i l a f d b h m x o k t
 by_cases u:x.kind=2
 ·exact GX w c n g j i l a f d b h m x o k u
 by_cases v:x.kind=3
 ·exact GY w c n g j i l a f d b h m x o k v
 by_cases y:x.kind=4
 ·exact GZ D w c n g j i l a f d b h m x o k y
 exact GV w c n g j i l a f d b h m x o k t u v y
structure AcsIn (w:World) (a:Option Addr) (n cap:Nat) (l:List Ac):Prop where
 len:n=l.length
 le:n<=cap
 capb:cap<=9223372036854775807
 cells:0<n->∃ g off,a=zO g off/\∀ (i:Nat) (X:Ac),l[i]?=some X->∀ j u,(xW X)[j]?=some u->w.cell? (zA g (off+i*8+j))=some u
 each:∀ x∈l,wl w x
theorem AcsIn.later {w w':World} {a:Option Addr} {n b:Nat} {l:List Ac} (h:AcsIn w a n b l) (c:Below w.heap.size w w'):AcsIn w' a n b l:=by
 refine ⟨h.len,h.le,h.capb,fun k=>?_,fun x o=>(h.each x o).later c⟩;obtain ⟨g,p,e,f⟩:=h.cells k;exact ⟨g,p,e,fun i X d j u m=>cell_later c (f i X d j u m)⟩
structure DInv (w wr:World) (S B:Nat) (s:St) (c n:Int) (ta:Option Addr) (tn tc:Nat) (l:QL) (ba:Option Addr) (bn bc:Nat) (b:BL):Prop where
 box:zj wr B (zI c) (zI n) (.slice ta tn tc) (.slice ba bn bc)
 res:zj wr S (zI 0) (zI 0) zN zN
 st:zY wr ta tn tc l ba bn bc b
 blk:BlkSt (fun k=>S<k/\k≠B) ta tn l ba bn b
 says:c=s.c/\n=s.n/\zi l=s.l/\zg b=s.b
 below:Below S w wr
 sb:S<B
theorem DInv.size {w wr:World} {S B:Nat} {s:St} {c n:Int} {f:Option Addr} {i g:Nat} {l:QL} {a:Option Addr} {e d:Nat} {b:BL} (h:DInv w wr S B s c n f i g l a e d b):B<wr.heap.size:=(Array.getElem?_eq_some_iff.1 h.box).1
theorem DInv.later {w wr k:World} {S B:Nat} {s:St} {c n:Int} {g:Option Addr} {j i:Nat} {l:QL} {d:Option Addr} {f e:Nat} {b:BL} (h:DInv w wr S B s c n g j i l d f e b) (a:Below wr.heap.size wr k):DInv w k S B s c n g j i l d f e b :=
 ⟨h.box.later a,h.res.later a,h.st.later a,h.blk,h.says,h.below.trans (a.mono (by have:=h.size;have:=h.sb;omega)),h.sb⟩
theorem DInv.store {w wr:World} {S B:Nat} {s m:St} {c n:Int} {G:Option Addr} {I H:Nat} {l:QL} {y:Option Addr} {A z:Nat} {b:BL} (h:DInv w wr S B s c n G I H l y A z b)
 {i j:Int} {e:Option Addr} {f o:Nat} {t:QL} {a:Option Addr} {d g:Nat} {q:BL} (E:zY wr e f o t a d g q) (v:NewSt (B+1) e f t a d q) (F:i=m.c/\j=m.n/\zi t=m.l/\zg q=m.b) :
 DInv w ((((wr.setCell (zA B 0) (zI i)).setCell (zA B 1) (zI j)).setCell (zA B 2) (.slice e f o)).setCell (zA B 3) (.slice a d g)) S B m i j e f o t a d g q:=by
 have r:=zk wr B 40 _ _ _ _ (zI i) (zI j) (.slice e f o) (.slice a d g) h.box;obtain ⟨u,x⟩:=qB ((((wr.setCell ⟨B,0,none⟩ (zI i)).setCell ⟨B,1,none⟩ (zI j)).setCell ⟨B,2,none⟩ (.slice e f o)).setCell ⟨B,3,none⟩ (.slice a d g));have J:=h.sb;have C:Below S w u:=by rw [x];exact (((h.below.setCell (p:=(zA B 0)) (by show S<=B;omega) _).setCell (p:=(zA B 1)) (by show S<=B;omega) _).setCell (p:=(zA B 2)) (by show S<=B;omega) _).setCell (p:=(zA B 3)) (by show S<=B;omega) _
 rw [<-x] at r ⊢;exact ⟨r.1,(r.2 S (by omega)).trans h.res,E.keep v (fun k D=>r.2 k (by omega)),v.blk (fun k D=>⟨by omega,by omega⟩),F,C,h.sb⟩
theorem H8 {w:World} {g b n i:Nat} {l:BL} (h:BksIn w (zO g b) n i l):∀ j u,(ze l)[j]?=some u->w.cell? (((zA g b):Addr).add j)=some u:=by
 intro j u a;have r:j<(ze l).length:=(List.getElem?_eq_some_iff.1 a).1;rw [zE] at r;have v:=h.len;obtain ⟨t,x,e,p⟩:=h.cells (by omega);injection e with e;injection e with m o _;subst m;subst o;have q:j / 7<n:=by omega
 have c:j % 7<7:=Nat.mod_lt _ (by omega);have s:j=j / 7*7+j % 7:=by omega
 rw [s,Za l (j / 7) (j % 7) (by omega) c] at a;rw [Addr.add_lit,show b+j=b+j / 7*7+j % 7 by omega];obtain ⟨d,c1,c2,c3,c4,c5,f⟩:=p (j / 7) q;generalize j % 7=k at c a;unfold zx at a
 match k,c with
 | 0,_=>rw [<-a];exact d
 | 1,_=>rw [<-a];exact c1
 | 2,_=>rw [<-a];exact c2
 | 3,_=>rw [<-a];exact c3
 | 4,_=>rw [<-a];exact c4
 | 5,_=>rw [<-a];exact c5
 | 6,_=>rw [<-a];exact f
theorem Y5 (w:World) (B:Nat) (o:Option Addr) (n k:Nat) (b1:BL) (p:OwnBks w B (.slice o n k) b1) (hn:n=b1.length) (F:Option Addr) (m x:Nat) (c:BL) (z:BksIn w F m x c) (M:TypeId) (af:n+m<=1000) (I:B<=w.heap.size)
 (S:∀ i,i<c.length->(0<(bk c i).rq.pn->∀ g d,(bk c i).rq.pa=zO g d->(Value.slice o n k).ownBlock≠some g)/\(0<(bk c i).bn->∀ g d,(bk c i).ba=zO g d->(Value.slice o n k).ownBlock≠some g)) :
 ∃ G v r,(Builtin.append_ #[38,38] M #[.slice o n k,.slice F m x]).run Tryz.prog w=.ok (.slice G (n+m) v) r/\OwnBks r B (.slice G (n+m) v) (b1++c)/\(∀ j,j<w.heap.size->some j≠(Value.slice o n k).ownBlock->r.heap[j]?=w.heap[j]?)/\w.heap.size<=r.heap.size/\(∀ g,(Value.slice G (n+m) v).ownBlock=some g->(Value.slice o n k).ownBlock=some g\/w.heap.size<=g)/\Below B w r:=by
 subst hn;obtain ⟨U,f,e⟩:=Option.map_eq_some_iff.1 Z5;simp only [Prod.mk.injEq] at e;obtain ⟨V,s,W⟩:=e;have J:=z.len;by_cases aa:m=0
 ·subst aa;obtain rfl:c=[]:=List.length_eq_zero_iff.1 J.symm;have R:b1.length<=k:=by
   rcases p.row.2 with ⟨ah,ae⟩ | ⟨ad,y,ab,e,I,hg,R,_⟩
   ·omega
   simp only [Value.slice.injEq] at e;omega
  refine ⟨o,k,w,?_,?_,fun j _ _=>rfl,Nat.le_refl _,fun g e=>Or.inl e,Below.refl _ _⟩
  ·rw [Nat.add_zero];refine run_append_nothing w 38 38 M 60 U Tryz.underlying38 f o b1.length k R (.slice F 0 x) ?_;cases F with
   | none=>exact Src.ofNil (P:=Tryz.prog) (w:=w) Tryz.underlying38 x
   | some a=>exact Src.ofSlice (P:=Tryz.prog) (w:=w) Tryz.underlying38 a 0 x [] (by simp) (fun j u L=>by simp at L) (fun u L=>by cases L)
  rw [Nat.add_zero,List.append_nil];exact p
 ·obtain ⟨g,d,rfl,_⟩:=z.cells (by omega);obtain ⟨t,v,r,X,Y,C,D,ag⟩:=run_append_lies w 38 M B 60 U _ 7 88 Tryz.underlying38 f V s W (by rfl) (by omega) (.slice o b1.length k) b1.length (ze b1) p.row (zA g d) m x (ze c) (by rw [zE,<-J])
   (H8 z) (y7 c) (by omega) (by simp only [maxLen];omega) (by omega) I w.heap.size rfl
  have O:(Value.slice o b1.length k).ownBlock=some t\/w.heap.size<=t:=by
   rcases D with D | D
   ·exact Or.inl D
   exact Or.inr (by omega)
  have Q:∀ {a:Option Addr} {n y:Nat} {l:zd},RunsIn w a n y l->(0<n->∀ b d,a=zO b d->(Value.slice o b1.length k).ownBlock≠some b)->RunsIn r a n y l:=fun h hn=>h.of_away fun A b d e=>C.block b (h.lt A e) (fun s=>hn A b d e s.symm);have N:∀ {a:Option Addr} {n y:Nat} {l:zd},RunsIn w a n y l->(0<n->∀ b d,a=zO b d->(Value.slice o b1.length k).ownBlock≠some b)->0<n->∀ b d,a=zO b d->(Value.slice (zO t 0) (b1.length+m) v).ownBlock≠some b:=fun h hn A b d e s=>by
   have s:t=b:=(by simpa [Value.ownBlock] using s);subst s;rcases O with h' | h'
   ·exact hn A t d e h'
   have:=h.lt A e;omega
  have q:∀ i,i<(b1++c).length->(zH w (bk (b1++c) i).rq/\(0<(bk (b1++c) i).rq.pn->∀ b d,(bk (b1++c) i).rq.pa=zO b d->(Value.slice o b1.length k).ownBlock≠some b))/\(RunsIn w (bk (b1++c) i).ba (bk (b1++c) i).bn (bk (b1++c) i).bc (bk (b1++c) i).bs/\(0<(bk (b1++c) i).bn->∀ b d,(bk (b1++c) i).ba=zO b d->(Value.slice o b1.length k).ownBlock≠some b)):=by
   intro i f;by_cases e:i<b1.length
   ·have H:bk (b1++c) i=bk b1 i:=by
     unfold bk;simp only [List.getD_eq_getElem?_getD,List.getElem?_append_left e]
    rw [H];exact ⟨⟨p.rqs i e,p.farP i e⟩,p.bites i e,p.farB i e⟩
   have E:i-b1.length<c.length:=(by rw [List.length_append] at f;omega);have H:bk (b1++c) i=bk c (i-b1.length):=by
    unfold bk;simp only [List.getD_eq_getElem?_getD,List.getElem?_append_right (show b1.length<=i by omega)]
   rw [H];exact ⟨⟨z.rqs _ (by omega),(S _ E).1⟩,z.bites _ (by omega),(S _ E).2⟩
  refine ⟨zO t 0,v,r,X,⟨?_,fun i f=>?_,fun i f=>?_,fun i f=>?_,fun i f=>?_⟩,fun j E Z=>C.block j E Z,C.size,fun g e=>?_,?_⟩
  ·rw [List.length_append,<-J,xw];exact Y
  ·exact Q (q i f).1.1 (q i f).1.2
  ·exact Q (q i f).2.1 (q i f).2.2
  ·exact N (q i f).1.1 (q i f).1.2
  ·exact N (q i f).2.1 (q i f).2.2
  ·have e:t=g:=(by simpa [Value.ownBlock] using e);subst e;exact O
  exact (Below.refl B w).grown C I (fun k e=>(p.row.lt k e).1)
theorem FP {b:BL} (d:Up b) {i j:Nat} (c:i<j) (a:j<b.length):(bk b i).id<(bk b j).id:=by
 have h:=List.pairwise_iff_getElem.1 d i j (by omega) a c;rw [wI (show i<b.length by omega),wI a];exact h
theorem Lh {b:BL} (j:Up b) {a:Int} {k:Nat} (l:k<=b.length) (h:∀ i,i<k->(bk b i).id<a) (c:k=b.length\/¬(bk b k).id<a):XY b a b.length=k:=by
 have g:∀ i,k<=i->i<b.length->¬(bk b i).id<a:=fun i d f=>by
  rcases c with e | c
  ·omega
  by_cases e:i=k
  ·subst e;exact c
  have:=FP j (show k<i by omega) f;omega
 by_cases e:k=0
 ·subst e;exact To fun i d=>g i (Nat.zero_le _) d
 obtain ⟨m,rfl⟩:∃ m,k=m+1:=⟨k-1,by omega⟩;exact P9 (by omega) (h m (by omega)) fun i d f=>g i (by omega) f
theorem Oc {b:BL} (e:Up b) {x:Bk} {k:Nat} (d:k<=b.length) (a:∀ i,i<k->(bk b i).id<x.id) (c:k=b.length\/¬(bk b k).id<x.id):Zj b x=yL b k x:=by
 unfold Zj;rw [Lh e d a c]
theorem Ro {b:BL} {x:Bk} {k:Nat} (a:k<=b.length):bk (yL b k x) k=x:=by
 unfold bk yL;rw [List.getD_eq_getElem?_getD,List.getElem?_append_right (by simp;omega)];simp [Nat.min_eq_left a]
theorem Rp {b:BL} {x:Bk} {k:Nat} (a:k<b.length):bk (yL b k x) (k+1)=bk b k:=by
 unfold bk yL;rw [List.getD_eq_getElem?_getD,List.getElem?_append_right (by simp;omega)];have e:k+1-(b.take k).length=1:=by simp;omega
 rw [e,List.getElem?_cons_succ,List.getElem?_drop,List.getD_eq_getElem?_getD,Nat.add_zero]
theorem IC {b:BL} {x:Bk} {k:Nat} (a:k<b.length):((yL b k x).set k (bk b k)).set (k+1) x=yL b (k+1) x:=by
 have d:b.take (k+1)=b.take k++[bk b k]:=by
  rw [List.take_succ_eq_append_getElem a,wI a]
 have e:b.drop k=bk b k::b.drop (k+1):=by
  rw [wI a];exact (List.getElem_cons_drop a).symm
 have c:(b.take k).length=k:=by simp;omega
 unfold yL;rw [d,e,List.set_append_right _ _ (by omega),c,Nat.sub_self,List.set_cons_zero,List.set_append_right _ _ (by omega),c,show k+1-k=1 by omega,List.set_cons_succ,List.set_cons_zero,List.append_assoc];rfl
theorem ID (b:BL) (x:Bk):yL b 0 x=x::b:=by simp [yL]
theorem NI {l:QL} {b:BL} (h:Clean l b) {q:Nat} (d:q<l.length) {t:Nat} (e:t<48):yw l b (t:Int) q=XD l b t q:=by
 have:=UL h d (t:=(t:Int)) (by omega) (by omega);rw [Int.toNat_natCast] at this;unfold XD;cases a:yw l b (t:Int) q with
 | true=>rw [decide_eq_true (this.1 a)]
 | false =>
  rw [decide_eq_false];intro c;rw [this.2 c] at a;cases a
theorem RP {l:QL} {b:BL} (h:Clean l b) {C:Nat} {t q:Int} {f:Bool} (w:Vu C l b t q f):XO (C:Int) (zi l) (zg b) l.length t q f:=by
 have c:∀ (u:Int) (k:Nat),(C:Int)<=u->u<48->k<l.length->yw (zi l) (zg b) u k=XD l b u.toNat k:=fun u k a m e=>by
  rw [Yp,<-NI h e (show u.toNat<48 by omega),Int.toNat_of_nonneg (by omega)]
 rcases w with ⟨a,m,n,o⟩ | ⟨a,T,k,rfl,rfl,n,o,p,r,s,v⟩
 ·exact Or.inl ⟨a,m,n,fun u g j k e=>by rw [c u k g j e];exact o u.toNat (by omega) (by omega) k e⟩
 refine Or.inr ⟨a,by omega,by omega,k,p,rfl,?_,fun i d=>?_,fun u g j i d=>?_⟩
 ·rw [c T k (by omega) (by omega) p,Int.toNat_natCast];exact r
 ·rw [c T i (by omega) (by omega) (by omega),Int.toNat_natCast];exact s i d
 rw [c u i g (by omega) d];exact v u.toNat (by omega) (by omega) i d
theorem Ge {r:Rq} {c:Int} (h:z8 false r=0) (f:max r.fr c<r.un):z8 false (r.from c)=0:=by
 obtain ⟨b,d,a⟩:=zv.1 h;refine zv.2 ⟨b,d,?_⟩;unfold yJ at a ⊢;rw [Bool.and_eq_true] at a ⊢;refine ⟨?_,a.2⟩;have e:=of_decide_eq_true a.1;refine decide_eq_true (show 0<=max r.fr c/\max r.fr c<r.un/\r.un<=48 from ?_);omega
theorem Jq {l:QL} {b:BL} {X:Bk} {c:Int} (f:Clean l b) (h:yI l X.rq=0) (hn:ZD X c=false) (i:max X.rq.fr c<X.rq.un):y9 c l b X=Zf (X.rq.from c) (xH l b X.rq.queue)/\z8 false (X.rq.from c)=0/\0<=X.rq.queue/\X.rq.queue<l.length:=by
 obtain ⟨g,a,d⟩:=GL f.tree h;have e:=Ge g i;refine ⟨?_,e,a,d⟩;unfold y9;rw [hn,if_neg (by decide)];exact NN f e a d
theorem Pv {l:QL} {b:BL} {X:Bk} {c:Int} (h:ZD X c=true\/¬max X.rq.fr c<X.rq.un):(y9 c l b X).2=false:=by
 unfold y9;cases f:ZD X c with
 | true=>rfl
 | false =>
  have i:¬max X.rq.fr c<X.rq.un:=h.resolve_left (by rw [f];decide);rw [if_neg (by decide)];have g:¬z8 false (X.rq.from c)=0:=fun a=>by
   have d:=(zv.1 a).2.2;unfold yJ at d;rw [Bool.and_eq_true] at d;have e:0<=max X.rq.fr c/\max X.rq.fr c<X.rq.un/\X.rq.un<=48:=of_decide_eq_true d.1;exact i e.2.1
  unfold yU
  split
  ·rw [if_neg];intro a;unfold yq at a
   split at a
   ·exact g a
   cases a
  rfl
theorem LG {p:Qu->Bool} {l m:QL} (h:∀ i,p (qu l i)=p (qu m i)):∀ n,Yg p l n=Yg p m n
 | 0=>rfl
 | n+1=>by rw [Yg,Yg,LG h n,h]
theorem QS {l m:QL} (h:∀ i,nm l i=nm m i) (k:Nat):∀ n,yy l k n=yy m k n
 | 0=>rfl
 | n+1=>by rw [yy,yy,QS h k n,h,h]
theorem NA {l m:QL} (h:∀ i,nm l i=nm m i):∀ n,yu l n=yu m n
 | 0=>rfl
 | n+1=>by rw [yu,yu,NA h n,QS h]
theorem IW {l m:QL} (h:∀ i,(qu l i).parent=(qu m i).parent):∀ n,xK l n=xK m n
 | 0=>rfl
 | n+1=>by rw [xK,xK,IW h n,h]
theorem O7 {l:QL} {q:Nat} {rs:zd} (h:z9 l=0) (a:q<l.length):z9 (yP l q rs)=if yR rs=true then 0 else 1:=by
 have hn:∀ i,(qu (yP l q rs) i).name=(qu l i).name:=fun i=>by
  rw [RV a];by_cases e:i=q
  ·subst e;rw [if_pos rfl]
  rw [if_neg e]
 have r:∀ i,(qu (yP l q rs) i).parent=(qu l i).parent:=fun i=>by
  rw [RV a];by_cases e:i=q
  ·subst e;rw [if_pos rfl]
  rw [if_neg e]
 have n:xC (yP l q rs)=xC l:=by
  unfold xC;rw [Zd];exact LG (fun i=>by rw [hn]) _
 have o:ZX (yP l q rs)=yR rs/\yW l.length 1 5=true/\xC l=true/\yu l l.length=true/\xK l l.length=true:=by
  unfold z9 at h;by_cases b:yW l.length 1 5=true
  ·rw [if_pos b] at h;by_cases c:xC l=true
   ·rw [if_pos c] at h;by_cases d:yu l l.length=true
    ·rw [if_pos d] at h;by_cases f:xK l l.length=true
     ·rw [if_pos f] at h;by_cases g:ZX l=true
      ·refine ⟨?_,b,c,d,f⟩;unfold ZX;rw [Zd];cases j:yR rs with
       | true =>
        refine Um.2 fun k p=>?_;show yR (qu (yP l q rs) k).runs=true;rw [RV a];by_cases e:k=q
        ·rw [if_pos e];exact j
        rw [if_neg e];exact Um.1 g k p
       | false =>
        refine Xg (k:=q) ?_ _ a;show yR (qu (yP l q rs) q).runs=false;rw [RV a,if_pos rfl];exact j
      rw [if_neg g] at h;cases h
     rw [if_neg f] at h;cases h
    rw [if_neg d] at h;cases h
   rw [if_neg c] at h;cases h
  rw [if_neg b] at h;cases h
 obtain ⟨c1,c2,c3,c4,c5⟩:=o;unfold z9;rw [Zd,n,NA (l:=yP l q rs) (m:=l) (fun i=>by unfold nm;rw [hn]),IW (l:=yP l q rs) (m:=l) r,if_pos c2,if_pos c3,if_pos c4,if_pos c5,c1]
theorem TN:∀ (b:BL) (i:Nat) (X:Bk),i<b.length->(((((((ze b).set (i*7) (zI X.id)).set (i*7+1) (zI X.rq.queue)).set (i*7+2) (zI X.rq.fr)).set (i*7+3) (zI X.rq.un)).set (i*7+4) (zI X.rq.kind)).set (i*7+5) (.slice X.rq.pa X.rq.pn X.rq.pc)).set (i*7+6) (.slice X.ba X.bn X.bc)=ze (b.set i X)
 | [],i,X,h=>by simp at h
 | y::b,0,X,_=>by simp [ze,zx]
 | y::b,i+1,X,h=>by
  have f:=TN b i X (by simpa using h);have e:∀ k,(i+1)*7+k=7+(i*7+k):=fun k=>by omega
  have d:(i+1)*7=7+i*7:=by omega
  rw [List.set_cons_succ,ze,ze,<-f,e,e,e,e,e,e,d];have a:∀ (k:Nat) (v:Value) (c:List Value),(zx y++c).set (7+k) v=zx y++c.set k v:=fun k v c=>by
   rw [List.set_append_right _ _ (by simp [zx])]
   congr 2
   simp [zx]
  rw [a,a,a,a,a,a,a]
def Nt (w:World) (g o:Nat) (X:Bk):World:=((((((w.setCell (zA g o) (zI X.id)).setCell (zA g (o+1)) (zI X.rq.queue)).setCell (zA g (o+2)) (zI X.rq.fr)).setCell (zA g (o+3)) (zI X.rq.un)).setCell (zA g (o+4)) (zI X.rq.kind)).setCell (zA g (o+5)) (.slice X.rq.pa X.rq.pn X.rq.pc)).setCell (zA g (o+6)) (.slice X.ba X.bn X.bc)
theorem Wj (w:World) (g o:Nat) (X:Bk) (k:Nat) (a:k≠g):(Nt w g o X).heap[k]?=w.heap[k]?:=by
 unfold Nt;rw [heap_setCell_other _ _ _ _ a,heap_setCell_other _ _ _ _ a,heap_setCell_other _ _ _ _ a,heap_setCell_other _ _ _ _ a,heap_setCell_other _ _ _ _ a,heap_setCell_other _ _ _ _ a,heap_setCell_other _ _ _ _ a]
theorem Rx {B:Nat} {a w:World} (h:Below B a w) {g:Nat} (hg:B<=g) (o:Nat) (X:Bk):Below B a (Nt w g o X) :=
 ((((((h.setCell (p:=(zA g o)) hg _).setCell (p:=(zA g (o+1))) hg _).setCell (p:=(zA g (o+2))) hg _).setCell (p:=(zA g (o+3))) hg _).setCell (p:=(zA g (o+4))) hg _).setCell (p:=(zA g (o+5))) hg _).setCell (p:=(zA g (o+6))) hg _
theorem LX {w:World} {B g n k:Nat} {b:BL} (h:OwnBks w B (.slice (zO g 0) n k) b) (hn:n=b.length) {i:Nat} (t:i<n) {X:Bk} (x:zH w X.rq) (v:RunsIn w X.ba X.bn X.bc X.bs) (r:0<X.rq.pn->∀ c d,X.rq.pa=zO c d->c≠g) (u:0<X.bn->∀ c d,X.ba=zO c d->c≠g) :
 OwnBks (Nt w g (i*7) X) B (.slice (zO g 0) n k) (b.set i X):=by
 subst hn;have p:(b.set i X).length=b.length:=List.length_set;have q:∀ {a:Option Addr} {n cap:Nat} {l:zd},RunsIn w a n cap l->(0<n->∀ c d,a=zO c d->c≠g)->RunsIn (Nt w g (i*7) X) a n cap l:=fun h hn=>h.of_away fun r c d e=>Wj w g (i*7) X c (hn r c d e);have s:∀ j,bk (b.set i X) j=if j=i then X else bk b j:=fun j=>by
  unfold bk;rw [List.getD_eq_getElem?_getD,List.getD_eq_getElem?_getD,List.getElem?_set];by_cases e:i=j
  ·subst e;simp [t]
  rw [if_neg e,if_neg (Ne.symm e)]
 refine ⟨?_,fun j f=>?_,fun j f=>?_,fun j f=>?_,fun j f=>?_⟩
 ·rw [p,<-TN b i X t];exact (((((((h.row.stored (i*7) _).1.stored (i*7+1) _).1.stored (i*7+2) _).1.stored (i*7+3) _).1.stored (i*7+4) _).1.stored (i*7+5) _).1.stored (i*7+6) _).1
 ·rw [p] at f;rw [s];by_cases e:j=i
  ·rw [if_pos e];exact q x r
  rw [if_neg e];exact q (h.rqs j f) (fun o c d m=>xc.1 (h.farP j f o c d m) |>.symm)
 ·rw [p] at f;rw [s];by_cases e:j=i
  ·rw [if_pos e];exact q v u
  rw [if_neg e];exact q (h.bites j f) (fun o c d m=>xc.1 (h.farB j f o c d m) |>.symm)
 ·rw [p] at f;rw [s];by_cases e:j=i
  ·rw [if_pos e];exact fun o c d m=>xc.2 (r o c d m).symm
  rw [if_neg e];exact h.farP j f
 ·rw [p] at f;rw [s];by_cases e:j=i
  ·rw [if_pos e];exact fun o c d m=>xc.2 (u o c d m).symm
  rw [if_neg e];exact h.farB j f
end Go.Proofs.YtckpdfkobdgjeaaGreatDoor
