/- Several texts in one: LogN, LogO. -/
import Derived.Test.YtckpdfkobdgjeaaGreatDoorHAll20
namespace Go.Proofs.YtckpdfkobdgjeaaGreatDoor
set_option maxRecDepth 100000
set_option maxHeartbeats 4000000
open Go.RowKit
theorem Zy (w:World) (a b c d h i j k l m n o:Value) {e:World} (r:e=((w.alloc (.cells #[a,b,c,d] 40)).alloc (.cells #[h,i,j,k,l,m,n,o] 27)).alloc (.cells zZ 40)) :
 zj e w.heap.size a b c d/\wj e (w.heap.size+1) h i j k l m n o/\zj e (w.heap.size+2) (zI 0) (zI 0) zN zN/\Below w.heap.size w e/\e.heap.size=w.heap.size+3:=by
 obtain ⟨f,p⟩:=qB (w.alloc (.cells #[a,b,c,d] 40));obtain ⟨g,q⟩:=qB (f.alloc (.cells #[h,i,j,k,l,m,n,o] 27));rw [<-p,<-q] at r;have u:f.heap.size=w.heap.size+1:=by rw [p];simp
 have v:g.heap.size=w.heap.size+2:=by rw [q];simp [u]
 have b1:zL w f:=by rw [p];exact zr _ _
 have t:zL f g:=by rw [q];exact zr _ _
 have s:zL g e:=by rw [r];exact zr _ _
 have x:zj f w.heap.size a b c d:=by rw [p];exact zj.new w a b c d
 have y:wj g (w.heap.size+1) h i j k l m n o:=by rw [q,<-u];exact heap_alloc_new f _
 have z:zj e (w.heap.size+2) (zI 0) (zI 0) zN zN:=by rw [r,<-v];exact zj.new g _ _ _ _
 exact ⟨(x.later t).later s,(s.block _ (by omega)).trans y,z,za (za b1 t) s,by rw [r];simp [v]⟩
theorem GJ (w:World) (c n:Int) (N:Option Addr) (P O:Nat) (l:QL) (ba:Option Addr) (bn bc:Nat) (b:BL) (h:zY w N P O l ba bn bc b) (x:Ac) (Z:wl w x) (_hcn:x.cn<=1048576) (az:x.kind=1) :
 zC 21 #[.agg (zS c n N P O ba bn bc),.agg #[zI x.kind,zI x.n,zI x.rq.queue,zI x.rq.fr,zI x.rq.un,zI x.rq.kind,.slice x.rq.pa x.rq.pn x.rq.pc,.slice x.ca x.cn x.cc]] w fun e w'=>∃ y z A C B s u t,e=.returned (.tuple #[.agg (zS y z A C B s u t),zI (ZO ⟨c,n,l,b⟩ x)])/\X9 w' w.heap.size (ZO ⟨c,n,l,b⟩ x) (YR ⟨c,n,zi l,zg b⟩ x.bare) y z A C B s u t/\Below w.heap.size w w':=by
 obtain ⟨kd,H,⟨q,f,m,j,a,g,d,i⟩,D,F,E,cs⟩:=x;have ax:RunsIn w a g d i:=Z.1;have aO:RunsIn w D F E cs:=Z.2;simp only at az;simp only;obtain ⟨S,au⟩:=qA (w.heap.size);obtain ⟨aL,X⟩:=qB (((w.alloc (.cells (zS c n N P O ba bn bc) 40)).alloc (.cells #[zI kd,zI H,zI q,zI f,zI m,zI j,.slice a g d,.slice D F E] 27)).alloc (.cells zZ 40));obtain ⟨aa,ab,ad,M,Y⟩:=Zy w _ _ _ _ _ _ _ _ _ _ _ _ X;rw [au] at aa ab ad Y;obtain ⟨ao,c1,c2,c3⟩:=aa.cells;obtain ⟨ag,ah,ai,aj,ak,al,am,an⟩:=ab.cells;have aM:=zh ad;have aG:=zh M;have ae:=zh X;have aP:=zh au;have aK:=zh Y;subst az;have V:=zh (Mx aL c n N P O l ba bn bc b (h.later M) ⟨q,f,m,j,a,g,d,i⟩ (ax.later M));have aq:ZO ⟨c,n,l,b⟩ ⟨1,H,⟨q,f,m,j,a,g,d,i⟩,D,F,E,cs⟩=Zp c n l b ⟨q,f,m,j,a,g,d,i⟩:=by unfold ZO;simp only [if_pos]
 have aw:YR ⟨c,n,zi l,zg b⟩ (Ac.bare ⟨1,H,⟨q,f,m,j,a,g,d,i⟩,D,F,E,cs⟩)=⟨c,n+1,zi l,zg b++[⟨n,Rq.bare ⟨q,f,m,j,a,g,d,i⟩,none,0,0,(yU l b ⟨q,f,m,j,a,g,d,i⟩).1⟩]⟩:=by
  unfold YR;rw [if_pos (show (Ac.bare ⟨1,H,⟨q,f,m,j,a,g,d,i⟩,D,F,E,cs⟩).kind=1 from rfl)];simp only;rw [show (Ac.bare ⟨1,H,⟨q,f,m,j,a,g,d,i⟩,D,F,E,cs⟩).rq=Rq.bare ⟨q,f,m,j,a,g,d,i⟩ from rfl,XF];rfl
 rw [aq,aw];clear X aa ab ad M h Y Z ax aO aq aw;rw [ae.o] at ao c1 c2 c3 ag ah ai aj ak al am an;obtain ⟨U,ap⟩:=qA (Zp c n l b ⟨q,f,m,j,a,g,d,i⟩);rw [ap] at V ⊢;obtain ⟨af,av⟩:∃ af:St,(⟨c,n+1,zi l,zg b++[⟨n,Rq.bare ⟨q,f,m,j,a,g,d,i⟩,none,0,0,(yU l b ⟨q,f,m,j,a,g,d,i⟩).1⟩]⟩:St)=af:=⟨_,rfl⟩;rw [av] at V ⊢;clear ap av;go_enter Tryz.func21,Tryz.ntmps21;go_wp2_with fail
 rw [<-ae.o];refine V.o.mono ?_;rintro e Q ⟨y,z,A,C,B,s,u,t,aT,rfl,ar,L⟩;have aR:=L.size;have aS:=aK.o;have aH:=zh (za aG.o L);have aE:=aM.o.later L;obtain ⟨r,J⟩:=qB (Q.alloc (.cells (zS y z A C B s u t) 40));have G:zL Q r:=by rw [J];exact zr _ _
 have aF:zj r Q.heap.size (zI y) (zI z) (.slice A C B) (.slice s u t):=by rw [J];exact zj.new Q _ _ _ _
 have aJ:=zh (ar.later G);have aI:=zh (za aH.o G);have R:=aE.later G;have aZ:=G.size;obtain ⟨a0,a1,a2,a3⟩:=aF.cells;obtain ⟨aA,aB,aC,aD⟩:=R.cells;have aY:∀ k,r.frozen? (zA (S+1+1) k)=false:=fun k=>frozen_of_row r (S+2) k _ _ R;have aU:r.cell? (zA (S+1+1) 0)=some (zI 0):=aA;have aV:r.cell? (zA (S+1+1) 1)=some (zI 0):=aB;have aW:r.cell? (zA (S+1+1) 2)=some zN:=aC;have aX:r.cell? (zA (S+1+1) 3)=some zN:=aD;have aN:=zh R;clear aE R ar L ao c1 c2 c3 ag ah ai aj ak al am an aA aB aC aD;go_upto_region 4 with fail
 rw [<-J];clear J G aF;go_wp2_with fail
 have ay:=zk r (S+2) 40 _ _ _ _ (zI y) (zI z) (.slice A C B) (.slice s u t) aN.o;have I:w.heap.size<=S+2:=by omega
 refine bodyPost_ret (v:=.tuple #[.agg (zS y z A C B s u t),zI U]) (zt Tryz.results21 _ _ (S+2) 40 (zS y z A C B s u t) (0,0) _ rfl ay.1 Tryz.underlying40 rfl (by kernel_rfl)) rfl ⟨y,z,A,C,B,s,u,t,rfl,?_,?_⟩
 ·exact (aJ.o.keep (fun k aQ=>ay.2 k (by omega))).mono (by omega)
 ·exact ((((aI.o.setCell (p:=(zA (S+2) 0)) I _).setCell (p:=(zA (S+2) 1)) I _).setCell (p:=(zA (S+2) 2)) I _).setCell (p:=(zA (S+2) 3)) I _)
theorem Fw (w:World) (c n:Int) (O:Option Addr) (Q P:Nat) (l:QL) (ba:Option Addr) (bn bc:Nat) (b:BL) (h:zY w O Q P l ba bn bc b) (x:Ac) (aa:wl w x) (_hcn:x.cn<=1048576) (aA:x.kind=2) :
 zC 21 #[.agg (zS c n O Q P ba bn bc),.agg #[zI x.kind,zI x.n,zI x.rq.queue,zI x.rq.fr,zI x.rq.un,zI x.rq.kind,.slice x.rq.pa x.rq.pn x.rq.pc,.slice x.ca x.cn x.cc]] w fun e w'=>∃ m r s u t g j i,e=.returned (.tuple #[.agg (zS m r s u t g j i),zI (ZO ⟨c,n,l,b⟩ x)])/\X9 w' w.heap.size (ZO ⟨c,n,l,b⟩ x) (YR ⟨c,n,zi l,zg b⟩ x.bare) m r s u t g j i/\Below w.heap.size w w':=by
 obtain ⟨kd,a,⟨q,f,G,F,B,D,C,E⟩,y,A,z,cs⟩:=x;have aR:RunsIn w B D C E:=aa.1;have aQ:RunsIn w y A z cs:=aa.2;simp only at aA;simp only;obtain ⟨S,aw⟩:=qA (w.heap.size);obtain ⟨aO,X⟩:=qB (((w.alloc (.cells (zS c n O Q P ba bn bc) 40)).alloc (.cells #[zI kd,zI a,zI q,zI f,zI G,zI F,.slice B D C,.slice y A z] 27)).alloc (.cells zZ 40));obtain ⟨ad,ae,af,Y,Z⟩:=Zy w _ _ _ _ _ _ _ _ _ _ _ _ X;rw [aw] at ad ae af Z;obtain ⟨aq,c1,c2,c3⟩:=ad.cells;obtain ⟨ai,aj,ak,al,am,an,ao,ap⟩:=ae.cells;have aP:=zh af;have aL:=zh Y;have ag:=zh X;have aS:=zh aw;have aN:=zh Z;subst aA;have U:=zh (Mb aO c n O Q P l ba bn bc b (h.later Y) a);have au:ZO ⟨c,n,l,b⟩ ⟨2,a,⟨q,f,G,F,B,D,C,E⟩,y,A,z,cs⟩=xy c n l b a:=by unfold ZO;simp only [if_neg (show ¬((2:Int)=1) by decide),if_pos]
 have ay:YR ⟨c,n,zi l,zg b⟩ (Ac.bare ⟨2,a,⟨q,f,G,F,B,D,C,E⟩,y,A,z,cs⟩)=⟨c,n,zi l,wU (zg b) ((yS b a).getD 0)⟩:=by
  unfold YR;rw [if_neg (show ¬((Ac.bare ⟨2,a,⟨q,f,G,F,B,D,C,E⟩,y,A,z,cs⟩).kind=1) from (show ¬((2:Int)=1) by decide))];rw [if_pos (show (Ac.bare ⟨2,a,⟨q,f,G,F,B,D,C,E⟩,y,A,z,cs⟩).kind=2 from rfl)];simp only;rw [WM];rfl
 rw [au,ay];clear X ad ae af Y h Z aa aR aQ au ay;rw [ag.o] at aq c1 c2 c3 ai aj ak al am an ao ap;obtain ⟨R,ar⟩:=qA (xy c n l b a);rw [ar] at U ⊢;obtain ⟨ah,ax⟩:∃ ah:St,(⟨c,n,zi l,wU (zg b) ((yS b a).getD 0)⟩:St)=ah:=⟨_,rfl⟩;rw [ax] at U ⊢;clear ar ax;go_enter Tryz.func21,Tryz.ntmps21;go_wp2_with fail
 rw [<-ag.o];refine U.o.mono ?_;rintro e ab ⟨m,r,s,u,t,g,j,i,rfl,av,N⟩;have aU:=N.size;have aV:=aN.o;have aM:=zh (za aL.o N);have aK:=aP.o.later N;have J:=zh av;have I:=aM;have H:=aK;obtain ⟨d,M⟩:=qB (ab);have aW:ab.heap.size<=ab.heap.size:=Nat.le_refl _;rw [<-M] at H J I;obtain ⟨aF,aG,aH,aI⟩:=H.cells;have aJ:∀ k,d.frozen? (zA (S+1+1) k)=false:=fun k=>frozen_of_row d (S+2) k _ _ H;have aB:d.cell? (zA (S+1+1) 0)=some (zI 0):=aF;have aC:d.cell? (zA (S+1+1) 1)=some (zI 0):=aG;have aD:d.cell? (zA (S+1+1) 2)=some zN:=aH;have aE:d.cell? (zA (S+1+1) 3)=some zN:=aI;have W:=zh H;clear aK H av N aq c1 c2 c3 ai aj ak al am an ao ap aF aG aH aI;rw [M] at aB aC aD aE aJ W J I;go_wp2_with fail
 rw [<-M] at aB aC aD aE aJ W J I ⊢;clear M;have az:=zk d (S+2) 40 _ _ _ _ (zI m) (zI r) (.slice s u t) (.slice g j i) W.o;have L:w.heap.size<=S+2:=by omega
 refine bodyPost_ret (v:=.tuple #[.agg (zS m r s u t g j i),zI R]) (zt Tryz.results21 _ _ (S+2) 40 (zS m r s u t g j i) (0,0) _ rfl az.1 Tryz.underlying40 rfl (by kernel_rfl)) rfl ⟨m,r,s,u,t,g,j,i,rfl,?_,?_⟩
 ·exact (J.o.keep (fun k aT=>az.2 k (by omega))).mono (by omega)
 ·exact ((((I.o.setCell (p:=(zA (S+2) 0)) L _).setCell (p:=(zA (S+2) 1)) L _).setCell (p:=(zA (S+2) 2)) L _).setCell (p:=(zA (S+2) 3)) L _)
theorem GK (w:World) (c n:Int) (M:Option Addr) (O N:Nat) (l:QL) (ba:Option Addr) (bn bc:Nat) (b:BL) (h:zY w M O N l ba bn bc b) (x:Ac) (Z:wl w x) (_hcn:x.cn<=1048576) (ay:x.kind=3) :
 zC 21 #[.agg (zS c n M O N ba bn bc),.agg #[zI x.kind,zI x.n,zI x.rq.queue,zI x.rq.fr,zI x.rq.un,zI x.rq.kind,.slice x.rq.pa x.rq.pn x.rq.pc,.slice x.ca x.cn x.cc]] w fun e w'=>∃ m r s u t g j i,e=.returned (.tuple #[.agg (zS m r s u t g j i),zI (ZO ⟨c,n,l,b⟩ x)])/\X9 w' w.heap.size (ZO ⟨c,n,l,b⟩ x) (YR ⟨c,n,zi l,zg b⟩ x.bare) m r s u t g j i/\Below w.heap.size w w':=by
 obtain ⟨kd,a,⟨q,f,G,F,B,D,C,E⟩,y,A,z,cs⟩:=x;have aO:RunsIn w B D C E:=Z.1;have aN:RunsIn w y A z cs:=Z.2;simp only at ay;simp only;obtain ⟨S,au⟩:=qA (w.heap.size);obtain ⟨aK,W⟩:=qB (((w.alloc (.cells (zS c n M O N ba bn bc) 40)).alloc (.cells #[zI kd,zI a,zI q,zI f,zI G,zI F,.slice B D C,.slice y A z] 27)).alloc (.cells zZ 40));obtain ⟨aa,ab,ad,X,Y⟩:=Zy w _ _ _ _ _ _ _ _ _ _ _ _ W;rw [au] at aa ab ad Y;obtain ⟨ao,c1,c2,c3⟩:=aa.cells;obtain ⟨ag,ah,ai,aj,ak,al,am,an⟩:=ab.cells;have aL:=zh ad;have aF:=zh X;have ae:=zh W;have aP:=zh au;have aJ:=zh Y;subst ay;have U:=zh (Ib aK c n M O N l ba bn bc b (h.later X) a);have aq:ZO ⟨c,n,l,b⟩ ⟨3,a,⟨q,f,G,F,B,D,C,E⟩,y,A,z,cs⟩=we c n l b a:=by unfold ZO;simp only [if_neg (show ¬((3:Int)=1) by decide),if_neg (show ¬((3:Int)=2) by decide),if_pos]
 have aw:YR ⟨c,n,zi l,zg b⟩ (Ac.bare ⟨3,a,⟨q,f,G,F,B,D,C,E⟩,y,A,z,cs⟩)=⟨a,n,zi l,xU (zg b) a⟩:=by
  unfold YR;rw [if_neg (show ¬((Ac.bare ⟨3,a,⟨q,f,G,F,B,D,C,E⟩,y,A,z,cs⟩).kind=1) from (show ¬((3:Int)=1) by decide))];rw [if_neg (show ¬((Ac.bare ⟨3,a,⟨q,f,G,F,B,D,C,E⟩,y,A,z,cs⟩).kind=2) from (show ¬((3:Int)=2) by decide))];rw [if_pos (show (Ac.bare ⟨3,a,⟨q,f,G,F,B,D,C,E⟩,y,A,z,cs⟩).kind=3 from rfl)];rfl
 rw [aq,aw];clear W aa ab ad X h Y Z aO aN aq aw;rw [ae.o] at ao c1 c2 c3 ag ah ai aj ak al am an;obtain ⟨R,ap⟩:=qA (we c n l b a);rw [ap] at U ⊢;obtain ⟨af,av⟩:∃ af:St,(⟨a,n,zi l,xU (zg b) a⟩:St)=af:=⟨_,rfl⟩;rw [av] at U ⊢;clear ap av;go_enter Tryz.func21,Tryz.ntmps21;go_wp2_with fail
 rw [<-ae.o];refine U.o.mono ?_;rintro e P ⟨m,r,s,u,t,g,j,i,aT,rfl,ar,L⟩;have aR:=L.size;have aS:=aJ.o;have aG:=zh (za aF.o L);have aD:=aL.o.later L;obtain ⟨d,J⟩:=qB (P.alloc (.cells (zS m r s u t g j i) 40));have H:zL P d:=by rw [J];exact zr _ _
 have aE:zj d P.heap.size (zI m) (zI r) (.slice s u t) (.slice g j i):=by rw [J];exact zj.new P _ _ _ _
 have aI:=zh (ar.later H);have aH:=zh (za aG.o H);have Q:=aD.later H;have aZ:=H.size;obtain ⟨a0,a1,a2,a3⟩:=aE.cells;obtain ⟨az,aA,aB,aC⟩:=Q.cells;have aY:∀ k,d.frozen? (zA (S+1+1) k)=false:=fun k=>frozen_of_row d (S+2) k _ _ Q;have aU:d.cell? (zA (S+1+1) 0)=some (zI 0):=az;have aV:d.cell? (zA (S+1+1) 1)=some (zI 0):=aA;have aW:d.cell? (zA (S+1+1) 2)=some zN:=aB;have aX:d.cell? (zA (S+1+1) 3)=some zN:=aC;have aM:=zh Q;clear aD Q ar L ao c1 c2 c3 ag ah ai aj ak al am an az aA aB aC;go_upto_region 9 with fail
 rw [<-J];clear J H aE;go_wp2_with fail
 have ax:=zk d (S+2) 40 _ _ _ _ (zI m) (zI r) (.slice s u t) (.slice g j i) aM.o;have I:w.heap.size<=S+2:=by omega
 refine bodyPost_ret (v:=.tuple #[.agg (zS m r s u t g j i),zI R]) (zt Tryz.results21 _ _ (S+2) 40 (zS m r s u t g j i) (0,0) _ rfl ax.1 Tryz.underlying40 rfl (by kernel_rfl)) rfl ⟨m,r,s,u,t,g,j,i,rfl,?_,?_⟩
 ·exact (aI.o.keep (fun k aQ=>ax.2 k (by omega))).mono (by omega)
 ·exact ((((aH.o.setCell (p:=(zA (S+2) 0)) I _).setCell (p:=(zA (S+2) 1)) I _).setCell (p:=(zA (S+2) 2)) I _).setCell (p:=(zA (S+2) 3)) I _)
theorem Fx (w:World) (c n:Int) (N:Option Addr) (P O:Nat) (l:QL) (ba:Option Addr) (bn bc:Nat) (b:BL) (h:zY w N P O l ba bn bc b) (x:Ac) (Z:wl w x) (ay:x.cn<=1048576) (aA:x.kind=4) :
 zC 21 #[.agg (zS c n N P O ba bn bc),.agg #[zI x.kind,zI x.n,zI x.rq.queue,zI x.rq.fr,zI x.rq.un,zI x.rq.kind,.slice x.rq.pa x.rq.pn x.rq.pc,.slice x.ca x.cn x.cc]] w fun e w'=>∃ m r s u t g j i,e=.returned (.tuple #[.agg (zS m r s u t g j i),zI (ZO ⟨c,n,l,b⟩ x)])/\X9 w' w.heap.size (ZO ⟨c,n,l,b⟩ x) (YR ⟨c,n,zi l,zg b⟩ x.bare) m r s u t g j i/\Below w.heap.size w w':=by
 obtain ⟨kd,a,⟨q,f,G,F,B,D,C,E⟩,y,A,z,cs⟩:=x;have aP:RunsIn w B D C E:=Z.1;have ax:RunsIn w y A z cs:=Z.2;simp only at aA;simp only at ay ⊢;obtain ⟨S,au⟩:=qA (w.heap.size);obtain ⟨aM,X⟩:=qB (((w.alloc (.cells (zS c n N P O ba bn bc) 40)).alloc (.cells #[zI kd,zI a,zI q,zI f,zI G,zI F,.slice B D C,.slice y A z] 27)).alloc (.cells zZ 40));obtain ⟨aa,ab,ad,M,Y⟩:=Zy w _ _ _ _ _ _ _ _ _ _ _ _ X;rw [au] at aa ab ad Y;obtain ⟨ao,c1,c2,c3⟩:=aa.cells;obtain ⟨ag,ah,ai,aj,ak,al,am,an⟩:=ab.cells;have aN:=zh ad;have aH:=zh M;have ae:=zh X;have aQ:=zh au;have aL:=zh Y;subst aA;have V:=zh (Me aM c n N P O l ba bn bc b (h.later M) a y A z cs (ax.later M) ay);have aq:ZO ⟨c,n,l,b⟩ ⟨4,a,⟨q,f,G,F,B,D,C,E⟩,y,A,z,cs⟩=ZG c n l b a cs:=by unfold ZO;simp only [if_neg (show ¬((4:Int)=1) by decide),if_neg (show ¬((4:Int)=2) by decide),if_neg (show ¬((4:Int)=3) by decide),if_pos]
 have aw:YR ⟨c,n,zi l,zg b⟩ (Ac.bare ⟨4,a,⟨q,f,G,F,B,D,C,E⟩,y,A,z,cs⟩)=⟨c,n,zi (yP l a.toNat cs),(Sk c (zi (yP l a.toNat cs)) (zg b)).1⟩:=by
  unfold YR;rw [if_neg (show ¬((Ac.bare ⟨4,a,⟨q,f,G,F,B,D,C,E⟩,y,A,z,cs⟩).kind=1) from (show ¬((4:Int)=1) by decide))];rw [if_neg (show ¬((Ac.bare ⟨4,a,⟨q,f,G,F,B,D,C,E⟩,y,A,z,cs⟩).kind=2) from (show ¬((4:Int)=2) by decide))];rw [if_neg (show ¬((Ac.bare ⟨4,a,⟨q,f,G,F,B,D,C,E⟩,y,A,z,cs⟩).kind=3) from (show ¬((4:Int)=3) by decide))];simp only;rw [VV];rfl
 rw [aq,aw];clear X aa ab ad M h Y Z aP ax aq aw;rw [ae.o] at ao c1 c2 c3 ag ah ai aj ak al am an;obtain ⟨U,ap⟩:=qA (ZG c n l b a cs);rw [ap] at V ⊢;obtain ⟨af,av⟩:∃ af:St,(⟨c,n,zi (yP l a.toNat cs),(Sk c (zi (yP l a.toNat cs)) (zg b)).1⟩:St)=af:=⟨_,rfl⟩;rw [av] at V ⊢;clear ap av;go_enter Tryz.func21,Tryz.ntmps21;go_wp2_with fail
 rw [<-ae.o];refine V.o.mono ?_;rintro e Q ⟨m,r,s,u,t,g,j,i,aX,aY,aZ,aR,aS,aT,rfl,ar,L⟩;have aV:=L.size;have aW:=aL.o;have aI:=zh (za aH.o L);have aF:=aN.o.later L;obtain ⟨d,J⟩:=qB (Q.alloc (.cells (zS m r s u t g j i) 40));have H:zL Q d:=by rw [J];exact zr _ _
 have aG:zj d Q.heap.size (zI m) (zI r) (.slice s u t) (.slice g j i):=by rw [J];exact zj.new Q _ _ _ _
 have aK:=zh (ar.later H);have aJ:=zh (za aI.o H);have R:=aF.later H;have a5:=H.size;obtain ⟨a6,a7,a8,a9⟩:=aG.cells;obtain ⟨aB,aC,aD,aE⟩:=R.cells;have a4:∀ k,d.frozen? (zA (S+1+1) k)=false:=fun k=>frozen_of_row d (S+2) k _ _ R;have a0:d.cell? (zA (S+1+1) 0)=some (zI 0):=aB;have a1:d.cell? (zA (S+1+1) 1)=some (zI 0):=aC;have a2:d.cell? (zA (S+1+1) 2)=some zN:=aD;have a3:d.cell? (zA (S+1+1) 3)=some zN:=aE;have aO:=zh R;clear aF R ar L ao c1 c2 c3 ag ah ai aj ak al am an aB aC aD aE;go_upto_region 12 with fail
 rw [<-J];clear J H aG;go_wp2_with fail
 have az:=zk d (S+2) 40 _ _ _ _ (zI m) (zI r) (.slice s u t) (.slice g j i) aO.o;have I:w.heap.size<=S+2:=by omega
 refine bodyPost_ret (v:=.tuple #[.agg (zS m r s u t g j i),zI U]) (zt Tryz.results21 _ _ (S+2) 40 (zS m r s u t g j i) (0,0) _ rfl az.1 Tryz.underlying40 rfl (by kernel_rfl)) rfl ⟨m,r,s,u,t,g,j,i,rfl,?_,?_⟩
 ·exact (aK.o.keep (fun k aU=>az.2 k (by omega))).mono (by omega)
 ·exact ((((aJ.o.setCell (p:=(zA (S+2) 0)) I _).setCell (p:=(zA (S+2) 1)) I _).setCell (p:=(zA (S+2) 2)) I _).setCell (p:=(zA (S+2) 3)) I _)
theorem GI (w:World) (c n:Int) (E:Option Addr) (G F:Nat) (l:QL) (ba:Option Addr) (bn bc:Nat) (b:BL) (_h:zY w E G F l ba bn bc b) (x:Ac) (A:wl w x) (_hcn:x.cn<=1048576) (h:¬x.kind=1) (i:¬x.kind=2) (j:¬x.kind=3) (m:¬x.kind=4) :
 zC 21 #[.agg (zS c n E G F ba bn bc),.agg #[zI x.kind,zI x.n,zI x.rq.queue,zI x.rq.fr,zI x.rq.un,zI x.rq.kind,.slice x.rq.pa x.rq.pn x.rq.pc,.slice x.ca x.cn x.cc]] w fun e w'=>∃ Y ad al an am V X W,e=.returned (.tuple #[.agg (zS Y ad al an am V X W),zI (ZO ⟨c,n,l,b⟩ x)])/\X9 w' w.heap.size (ZO ⟨c,n,l,b⟩ x) (YR ⟨c,n,zi l,zg b⟩ x.bare) Y ad al an am V X W/\Below w.heap.size w w':=by
 obtain ⟨kd,ae,⟨q,f,ao,ak,B,D,C,af⟩,r,t,s,cs⟩:=x;have aw:RunsIn w B D C af:=A.1;have av:RunsIn w r t s cs:=A.2;simp only at h i j m;simp only;obtain ⟨S,u⟩:=qA (w.heap.size);obtain ⟨a,y⟩:=qB (((w.alloc (.cells (zS c n E G F ba bn bc) 40)).alloc (.cells #[zI kd,zI ae,zI q,zI f,zI ao,zI ak,.slice B D C,.slice r t s] 27)).alloc (.cells zZ 40));obtain ⟨H,I,d,ab,z⟩:=Zy w _ _ _ _ _ _ _ _ _ _ _ _ y;rw [u] at H I d z;obtain ⟨Z,c1,c2,c3⟩:=H.cells;obtain ⟨L,M,N,O,P,Q,R,U⟩:=I.cells;have au:=zh d;have ap:=zh ab;have J:=zh y;have ay:=zh u;have aq:=zh z;have aa:ZO ⟨c,n,l,b⟩ ⟨kd,ae,⟨q,f,ao,ak,B,D,C,af⟩,r,t,s,cs⟩=7:=by unfold ZO;simp only [if_neg h,if_neg i,if_neg j,if_neg m]
 rw [aa];have b1:(kd==1)=false:=by simpa using h
 have az:(kd==2)=false:=by simpa using i
 have aA:(kd==3)=false:=by simpa using j
 have aB:(kd==4)=false:=by simpa using m
 obtain ⟨ag,ah,ai,aj⟩:=d.cells;have aH:∀ k,a.frozen? (zA (S+1+1) k)=false:=fun k=>frozen_of_row a (S+2) k _ _ d;have aD:a.cell? (zA (S+1+1) 0)=some (zI 0):=ag;have aE:a.cell? (zA (S+1+1) 1)=some (zI 0):=ah;have aF:a.cell? (zA (S+1+1) 2)=some zN:=ai;have aG:a.cell? (zA (S+1+1) 3)=some zN:=aj;clear y H I d ab z A aw av aa ag ah ai aj h i j m;rw [J.o] at Z c1 c2 c3 L M N O P Q R U;go_enter Tryz.func21,Tryz.ntmps21;go_upto_region 1 with fail
 rw [<-J.o] at Z c1 c2 c3 L M N O P Q R U ⊢;go_wp2_with fail
 have ax:=zk a (S+2) 40 _ _ _ _ (zI 0) (zI 0) zN zN au.o;have aC:=aq.o;have g:w.heap.size<=S+2:=by omega
 refine bodyPost_ret (v:=.tuple #[.agg zZ,zI 7]) (zt Tryz.results21 _ _ (S+2) 40 zZ (0,0) _ rfl ax.1 Tryz.underlying40 rfl (by kernel_rfl)) rfl ⟨0,0,none,0,0,none,0,0,rfl,Or.inl ⟨by decide,rfl,rfl,rfl,rfl,rfl,rfl,rfl,rfl⟩,?_⟩;have hfin:=((((ap.o.setCell (p:=(zA (S+2) 0)) g (zI 0)).setCell (p:=(zA (S+2) 1)) g (zI 0)).setCell (p:=(zA (S+2) 2)) g zN).setCell (p:=(zA (S+2) 3)) g zN)
 first
 | exact hfin
 | (rw [u] at hfin;exact hfin)
theorem GT (w:World) (c n:Int) (a:Option Addr) (f d:Nat) (l:QL) (ba:Option Addr) (bn bc:Nat) (b:BL) (h:zY w a f d l ba bn bc b) (x:Ac) (i:wl w x) (g:x.cn<=1048576) :
 zC 21 #[.agg (zS c n a f d ba bn bc),.agg #[zI x.kind,zI x.n,zI x.rq.queue,zI x.rq.fr,zI x.rq.un,zI x.rq.kind,.slice x.rq.pa x.rq.pn x.rq.pc,.slice x.ca x.cn x.cc]] w fun e w'=>∃ o t u y v j m k,e=.returned (.tuple #[.agg (zS o t u y v j m k),zI (ZO ⟨c,n,l,b⟩ x)])/\X9 w' w.heap.size (ZO ⟨c,n,l,b⟩ x) (YR ⟨c,n,zi l,zg b⟩ x.bare) o t u y v j m k/\Below w.heap.size w w':=by
 by_cases p:x.kind=1
 ·exact GJ w c n a f d l ba bn bc b h x i g p
 by_cases q:x.kind=2
 ·exact Fw w c n a f d l ba bn bc b h x i g q
 by_cases r:x.kind=3
 ·exact GK w c n a f d l ba bn bc b h x i g r
 by_cases s:x.kind=4
 ·exact Fx w c n a f d l ba bn bc b h x i g s
 exact GI w c n a f d l ba bn bc b h x i g p q r s
theorem OB (w:World) (a:Option Addr) (n cap:Nat) (l:QL) (h:QsIn w a n cap l) (t:z9 l≠0) :
 zC 40 #[.slice a n cap] w fun e w'=>e=.returned (.tuple #[.agg zZ,zI (z9 l)])/\Below w.heap.size w w':=by
 obtain ⟨S,s⟩:=qA (w.heap.size);obtain ⟨b,c⟩:=qB (w.alloc (.cells zZ 40));have m:zL w b:=by rw [c];exact zr _ _
 have u:zj b S (zI 0) (zI 0) zN zN:=by rw [c,<-s];exact zj.new w _ _ _ _
 have x:b.heap.size=S+1:=by rw [c,<-s];simp
 have i:=wF b a n cap l (h.later m);obtain ⟨d,r⟩:=qA (z9 l);rw [r] at i t ⊢;have F:(d != 0)=true:=by simpa using t
 have A:=zh i;have D:=zh c;have y:=zh m;have B:=zh u;have C:=zh x;clear i c m u x h r;go_enter Tryz.func40,Tryz.ntmps40;go_wp2_with fail
 rw [<-D.o];refine A.o.mono ?_;rintro e q ⟨rfl,j⟩;have G:=C.o;have z:=zh (za y.o j);have g:=zh (B.o.later j);obtain ⟨H,I,J,L⟩:=g.o.cells;have M:∀ k,q.frozen? (zA S k)=false:=fun k=>frozen_of_row q S k _ _ g.o;clear j;go_wp2_with fail
 have E:=zk q S 40 _ _ _ _ (zI 0) (zI 0) zN zN g.o;have f:w.heap.size<=S:=by omega
 refine bodyPost_ret (v:=.tuple #[.agg zZ,zI d]) (zt Tryz.results40 _ _ S 40 zZ (0,0) _ rfl E.1 Tryz.underlying40 rfl (by kernel_rfl)) rfl ⟨rfl,?_⟩;exact ((((z.o.setCell (p:=(zA S 0)) f _).setCell (p:=(zA S 1)) f _).setCell (p:=(zA S 2)) f _).setCell (p:=(zA S 3)) f _)
theorem L9 (w:World) (a:Option Addr) (n cap:Nat) (l:QL) (h:QsIn w a n cap l) (z:z9 l=0) :
 zC 40 #[.slice a n cap] w fun e w'=>∃ g k j,e=.returned (.tuple #[.agg (zS 0 0 (zO g 0) n k none 0 0),zI 0])/\OwnQs w' w.heap.size (.slice (zO g 0) n k) j/\n=j.length/\zi j=zi l/\Below w.heap.size w w'/\(∀ i,i<n->0<(qu j i).cn->∀ b r,(qu j i).ca=zO b r->w.heap.size<=b):=by
 obtain ⟨ad,al,N⟩:=S5 h z;obtain ⟨S,F⟩:=qA (w.heap.size);obtain ⟨m,q⟩:=qB (w.alloc (.cells zZ 40));have y:zL w m:=by rw [q];exact zr _ _
 have J:m.heap[S]?=some (.cells zZ 40 (0,0)):=by rw [q,<-F];exact heap_alloc_new w _
 have M:m.heap.size=S+1:=by rw [q,<-F];simp
 have x:=wF m a n cap l (h.later y);rw [z] at x;have R:=zh x;have U:=zh fun X (ab:zL w X)=>SO X a n cap l (h.later ab) ad (by omega) (fun i t=>by have:=N i t;omega);have aa:=zh q;have O:=zh y;have Y:=zh J;have Z:=zh M;clear x q y J M h z N;go_enter Tryz.func40,Tryz.ntmps40;go_wp2_with fail
 rw [<-aa.o];refine R.o.mono ?_;rintro e ae ⟨rfl,d⟩;have u:=zh (za O.o d);have B:=zh d;clear d;go_wp2_with fail
 refine (U.o ae u.o).mono ?_;rintro e c ⟨g,k,j,rfl,E,H,G,d,ai,I⟩;have aj:=Z.o;have ak:=B.o.size;have f:c.heap[S]?=some (.cells zZ 40 (0,0)):=by rw [d.block S (by omega),B.o.block S (by omega)];exact Y.o
 have am:c.cell? (zA S 0)=some (zI 0):=by rw [cell_of_row c S 0 _ _ _ f];rfl
 have an:c.cell? (zA S 1)=some (zI 0):=by rw [cell_of_row c S 1 _ _ _ f];rfl
 have ao:c.cell? (zA S 2)=some zN:=by rw [cell_of_row c S 2 _ _ _ f];rfl
 have ap:c.cell? (zA S 3)=some zN:=by rw [cell_of_row c S 3 _ _ _ f];rfl
 have aq:∀ k,c.frozen? (zA S k)=false:=fun k=>frozen_of_row c S k _ _ f;have W:=zh f;have V:=zh E;have C:=zh H;have Q:=zh G;have P:=zh (za u.o d);have D:=zh I;clear f E H G d I;go_wp2_with fail
 have L:=zk c S 40 _ _ _ _ (zI 0) (zI 0) (.slice (zO g 0) n k) zN W.o;have s:w.heap.size<=S:=by omega
 refine bodyPost_ret (v:=.tuple #[.agg (zS 0 0 (zO g 0) n k none 0 0),zI 0]) (zt Tryz.results40 _ _ S 40 (zS 0 0 (zO g 0) n k none 0 0) (0,0) _ rfl L.1 Tryz.underlying40 rfl (by kernel_rfl)) rfl ⟨g,k,j,rfl,?_,C.o,Q.o,?_,?_⟩
 ·have ah:=C.o;refine OwnQs.base (V.o.blocks (fun i t A b r e=>D.o i (by omega) A b r e) fun k' af ag=>L.2 k' (by omega)) (by omega)
 ·exact ((((P.o.setCell (p:=(zA S 0)) s _).setCell (p:=(zA S 1)) s _).setCell (p:=(zA S 2)) s _).setCell (p:=(zA S 3)) s _)
 ·intro i t A b r e;have:=D.o i t A b r e;have:=u.o.size;omega
theorem OV:∀ (l:List Ac) (i k:Nat) {X:Ac},l[i]?=some X->k<8->(YB l)[i*8+k]?=(xW X)[k]?
 | [],i,k,X,h,_=>by simp at h
 | x::l,0,k,X,h,hk=>by
  rw [List.getElem?_cons_zero] at h;cases h
  rw [YB,List.getElem?_append_left (by simp [xW];omega),Nat.zero_mul,Nat.zero_add]
 | x::l,i+1,k,X,h,hk=>by
  rw [List.getElem?_cons_succ] at h;have:=OV l i k h hk;rw [YB,List.getElem?_append_right (by simp [xW];omega),<-this]
  congr 1
  simp [xW];omega
theorem OW {w:World} {B c:Nat} {a:Option Addr} {l:List Ac} (h:w.ownsRow B 27 8 (.slice a l.length c) l.length (YB l)) {i:Nat} {X:Ac} (k:l[i]?=some X):∃ g,a=zO g 0/\l.length<=c/\c<=9223372036854775807/\∀ j b,(xW X)[j]?=some b->w.cell? (zA g (i*8+j))=some b:=by
 have u:i<l.length:=(List.getElem?_eq_some_iff.1 k).1;rcases h.2 with ⟨e,s⟩ | ⟨d,cap,r,e,t,hg,o,p,v,q⟩
 ·omega
 simp only [Value.slice.injEq,true_and] at e;obtain ⟨rfl,rfl⟩:=e;refine ⟨d,rfl,o,by unfold maxLen at p;omega,fun j b m=>?_⟩;have n:j<8:=(List.getElem?_eq_some_iff.1 m).1;rw [cell_of_row w d _ _ _ _ hg,<-Array.getElem?_toList];have f:=OV l i j k n;rw [<-q,List.getElem?_take,if_pos (by omega)] at f;rw [f];exact m
structure BlkSt (P:Nat->Prop) (ta:Option Addr) (tn:Nat) (l:QL) (ba:Option Addr) (bn:Nat) (b:BL):Prop where
 qs:0<tn->∀ g off,ta=zO g off->P g
 caps:∀ i,i<tn->0<(qu l i).cn->∀ g off,(qu l i).ca=zO g off->P g
 bks:0<bn->∀ g off,ba=zO g off->P g
 ps:∀ i,i<bn->0<(bk b i).rq.pn->∀ g off,(bk b i).rq.pa=zO g off->P g
 bs:∀ i,i<bn->0<(bk b i).bn->∀ g off,(bk b i).ba=zO g off->P g
theorem NewSt.blk {B:Nat} {P:Nat->Prop} {f:Option Addr} {j:Nat} {l:QL} {ba:Option Addr} {bn:Nat} {b:BL} (h:NewSt B f j l ba bn b) (d:∀ k,B<=k->P k):BlkSt P f j l ba bn b :=
 ⟨fun a g o e=>d _ (h.qs a g o e),fun i a c g o e=>d _ (h.caps i a c g o e),fun a g o e=>d _ (h.bks a g o e),fun i a c g o e=>d _ (h.ps i a c g o e),fun i a c g o e=>d _ (h.bs i a c g o e)⟩
theorem BlkSt.new {B:Nat} {P:Nat->Prop} {f:Option Addr} {j:Nat} {l:QL} {ba:Option Addr} {bn:Nat} {b:BL} (h:BlkSt P f j l ba bn b) (d:∀ k,P k->B<=k):NewSt B f j l ba bn b :=
 ⟨fun a g o e=>d _ (h.qs a g o e),fun i a c g o e=>d _ (h.caps i a c g o e),fun a g o e=>d _ (h.bks a g o e),fun i a c g o e=>d _ (h.ps i a c g o e),fun i a c g o e=>d _ (h.bs i a c g o e)⟩
theorem zY.stand {w w':World} {P:Nat->Prop} {m:Option Addr} {n o:Nat} {l:QL} {ba:Option Addr} {bn bc:Nat} {b:BL} (h:zY w m n o l ba bn bc b) (d:BlkSt P m n l ba bn b) (j:∀ k,P k->w'.heap[k]?=w.heap[k]?):zY w' m n o l ba bn bc b :=
 ⟨h.1.keep (fun a g c e=>j g (d.qs a g c e)) (fun i f a g c e=>j g (d.caps i f a g c e)),h.2.keep (fun a g c e=>j g (d.bks a g c e)) (fun i f a g c e=>j g (d.ps i f a g c e)) (fun i f a g c e=>j g (d.bs i f a g c e))⟩
structure RecInv (w wr:World) (S B:Nat) (s:St) (u:Value) (acts:List Ac) (c n:Int) (ta:Option Addr) (tn tc:Nat) (l:QL) (ba:Option Addr) (bn bc:Nat) (b:BL):Prop where
 box:zj wr B (zI c) (zI n) (.slice ta tn tc) (.slice ba bn bc)
 res:zj wr S (zI 0) (zI 0) zN zN
 st:zY wr ta tn tc l ba bn bc b
 blk:BlkSt (fun k=>S<k/\k≠B) ta tn l ba bn b
 says:c=s.c/\n=s.n/\zi l=s.l/\zg b=s.b
 row:wr.ownsRow (B+1) 27 8 u acts.length (YB acts)
 each:∀ x∈acts,wl wr x/\wX (B+1) x u
 below:Below S w wr
 sb:S<B
theorem RecInv.size {w wr:World} {S B:Nat} {s:St} {g:Value} {a:List Ac} {c n:Int} {d:Option Addr} {f e:Nat} {l:QL} {ba:Option Addr} {bn bc:Nat} {b:BL} (h:RecInv w wr S B s g a c n d f e l ba bn bc b):B<wr.heap.size:=(Array.getElem?_eq_some_iff.1 h.box).1
theorem RecInv.later {w wr k:World} {S B:Nat} {s:St} {j:Value} {d:List Ac} {c n:Int} {f:Option Addr} {i g:Nat} {l:QL} {ba:Option Addr} {bn bc:Nat} {b:BL} (h:RecInv w wr S B s j d c n f i g l ba bn bc b) (a:Below wr.heap.size wr k):RecInv w k S B s j d c n f i g l ba bn bc b :=
 ⟨h.box.later a,h.res.later a,h.st.later a,h.blk,h.says,zT h.row a,fun x e=>⟨(h.each x e).1.later a,(h.each x e).2⟩,h.below.trans (a.mono (by have:=h.size;have:=h.sb;omega)),h.sb⟩
theorem RecInv.store {w wr:World} {S B:Nat} {s r:St} {H:Value} {D:List Ac} {c n:Int} {Q:Option Addr} {U R:Nat} {l:QL} {ba:Option Addr} {bn bc:Nat} {b:BL} (h:RecInv w wr S B s H D c n Q U R l ba bn bc b)
 {o q:Int} {i:Option Addr} {j t:Nat} {y:QL} {d:Option Addr} {f m:Nat} {u:BL} (N:zY wr i j t y d f m u) (E:NewSt (B+1) i j y d f u) (O:o=r.c/\q=r.n/\zi y=r.l/\zg u=r.b) :
 RecInv w ((((wr.setCell (zA B 0) (zI o)).setCell (zA B 1) (zI q)).setCell (zA B 2) (.slice i j t)).setCell (zA B 3) (.slice d f m)) S B r H D o q i j t y d f m u:=by
 have a:=zk wr B 40 _ _ _ _ (zI o) (zI q) (.slice i j t) (.slice d f m) h.box;obtain ⟨z,F⟩:=qB ((((wr.setCell ⟨B,0,none⟩ (zI o)).setCell ⟨B,1,none⟩ (zI q)).setCell ⟨B,2,none⟩ (.slice i j t)).setCell ⟨B,3,none⟩ (.slice d f m));have V:=h.sb;have L:Below S w z:=by rw [F];exact (((h.below.setCell (p:=(zA B 0)) (by show S<=B;omega) _).setCell (p:=(zA B 1)) (by show S<=B;omega) _).setCell (p:=(zA B 2)) (by show S<=B;omega) _).setCell (p:=(zA B 3)) (by show S<=B;omega) _
 rw [<-F] at a ⊢;refine ⟨a.1,(a.2 S (by omega)).trans h.res,N.keep E (fun k M=>a.2 k (by omega)),E.blk (fun k M=>⟨by omega,by omega⟩),O,?_,fun x v=>⟨?_,(h.each x v).2⟩,L,h.sb⟩
 ·have G:=h.row;refine ⟨G.1,?_⟩;rcases G.2 with P | ⟨g,cap,I,e,J,hg,rest⟩
  ·exact .inl P
  exact .inr ⟨g,cap,I,e,J,(a.2 g (by omega)).trans hg,rest⟩
 ·refine (h.each x v).1.of_blocks (fun A k C e=>a.2 k ?_) (fun A k C e=>a.2 k ?_)
  ·have:=((h.each x v).2.1 A k C e).1;omega
  have:=((h.each x v).2.2 A k C e).1;omega
theorem JM {t:ByteArray} {k:Nat} (h:whole t k):pN t k<=3/\cN t k<=48:=by
 obtain ⟨_,a,_,b,_⟩:=h;unfold pN cN;omega
theorem Zr.few {t:ByteArray}:∀ {l:List Ac} {k m:Nat},Zr t k l m->∀ x∈l,x.rq.ps.length<=3/\x.cs.length<=48
 | [],_,_,_,x,a=>by cases a
 | y::l,k,m,h,x,a=>by
  rcases List.mem_cons.1 a with rfl | a
  ·have:=JM h.1;rw [h.2.1.ps,h.2.1.cs,yD,yD];exact this
  exact Zr.few h.2.2 x a
def VK (l:QL) (t:ByteArray):Int:=if z9 l=0 then (if 4096<t.size then 2 else 0) else z9 l
def UT (l:QL) (t:ByteArray):St:=Yd ⟨0,0,zi l,[]⟩ (yN t 60 0).1
def US (l:QL) (t:ByteArray):Int:=if VK l t=0 then ((yN t 60 0).1.length:Int) else 0
def J7 (w w':World) (e:Ending) (l:QL) (t:ByteArray):Prop:=∃ c' n' ta' tn' tc' ba' bn' bc',e=.returned (.tuple #[.agg (zS c' n' ta' tn' tc' ba' bn' bc'),zI (US l t),zI (VK l t)])/\X9 w' w.heap.size (VK l t) (UT l t) c' n' ta' tn' tc' ba' bn' bc'/\Below w.heap.size w w'
end Go.Proofs.YtckpdfkobdgjeaaGreatDoor
