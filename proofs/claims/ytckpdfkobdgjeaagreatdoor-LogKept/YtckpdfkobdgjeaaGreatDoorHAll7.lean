/- Several texts in one: LogD, BookC. -/
import Derived.Laws.BytesArg
import Derived.Test.YtckpdfkobdgjeaaGreatDoorHAll6
import Derived.Test.YtckpdfkobdgjeaaGreatDoorHAll4
namespace Go.Proofs.YtckpdfkobdgjeaaGreatDoor
set_option maxRecDepth 100000
set_option maxHeartbeats 4000000
open Go.RowKit
structure Ac where
 kind:Int
 n:Int
 rq:Rq
 ca:Option Addr
 cn:Nat
 cc:Nat
 cs:zd
def wl (w:World) (x:Ac):Prop:=zH w x.rq/\RunsIn w x.ca x.cn x.cc x.cs
theorem wl.later {w w':World} {x:Ac} (h:wl w x) (a:Below w.heap.size w w'):wl w' x:=⟨zH.later h.1 a,h.2.later a⟩
def wG (x:Ac):List Int:=[x.kind,x.n,x.rq.queue,x.rq.fr,x.rq.un,x.rq.kind]++((x.rq.ps.length:Int)::wL x.rq.ps)++((x.cs.length:Int)::wL x.cs)
def Sc (x:Ac):Int:=if (wG x).any wu=true then 3 else if 3<x.rq.ps.length\/48<x.cs.length then 2 else 0
def Ud (x:Ac):ByteArray:=if Sc x=0 then strOfNums (wG x) else ByteArray.empty
theorem Ii (l:zd):(wL l).any wu=l.any WC:=by
 unfold wL
 induction l with
 | nil=>rfl
 | cons p l ih=>simp [WC,ih,Bool.or_assoc]
theorem Ff (x:Ac):(wG x).any wu=((((([x.kind,x.n,x.rq.queue,x.rq.fr,x.rq.un,x.rq.kind].any wu||wu x.rq.ps.length)||x.rq.ps.any WC)||wu x.cs.length)||x.cs.any WC)):=by
 unfold wG;generalize [x.kind,x.n,x.rq.queue,x.rq.fr,x.rq.un,x.rq.kind]=hd;simp only [List.any_append,List.any_cons,Ii,Bool.or_assoc]
theorem FO {l:List Int} (h:l.any wu=false):l.map u8=l:=by
 induction l with
 | nil=>rfl
 | cons x l ih =>
  rw [List.any_cons,Bool.or_eq_false_iff] at h;rw [List.map_cons,ih h.2];have a:=h.1;simp only [wu,Bool.or_eq_false_iff,decide_eq_false_iff_not] at a
  congr 1
  unfold u8;omega
theorem Lf {w:World} {B:Nat} {v:Value} {l:List Int} (h:Xe w B v l):(convert 72 9 v).run Tryz.prog w=.ok (.string (strOfNums l)) w:=by
 rcases h.2 with ⟨rfl,b⟩ | ⟨g,cap,d,rfl,_,hg,e,_,j,f⟩
 ·obtain rfl:l=[]:=List.length_eq_zero_iff.1 b;exact run_convert_bytes_nil w 72 5 Tryz.underlying72 Tryz.underlying5 0 0 _ Tryz.underlying9
 refine run_convert_bytes_arg w 72 5 Tryz.underlying72 Tryz.underlying5 g 0 l.length cap l rfl (fun i a=>?_) _ Tryz.underlying9;have c:=World.ownsRow.cellAt (show w.ownsRow B 5 1 (.slice (zO g 0) l.length cap) l.length (l.map (Value.int .u8)) from h) i (by omega);rw [Nat.zero_add,c,List.getElem?_map,List.getElem?_eq_getElem a];simp [List.getD,a]
theorem Wr.far {w w':World} {S c:Nat} {f:Value} {bs:List Int} {p:Bool} (o:Wr w' S c f bs p) (i:w.heap.size=S) (q:S<=c) {a:Option Addr} {m k:Nat} {l:zd} (n:RunsIn w a m k l) (j:0<m):∀ b d,a=zO b d->b≠c/\f.ownBlock≠some b:=fun b d e=>by
 have h:=n.lt j e;rw [i] at h;exact ⟨by omega,fun g=>by have:=(o.row.lt b g).1;omega⟩
theorem Vy (w:World) (x:Ac) (h:wl w x) :
 zC 9 #[.agg #[zI x.kind,zI x.n,zI x.rq.queue,zI x.rq.fr,zI x.rq.un,zI x.rq.kind,.slice x.rq.pa x.rq.pn x.rq.pc,.slice x.ca x.cn x.cc]] w fun e w'=>e=.returned (.tuple #[.string (Ud x),zI (Sc x)])/\Below w.heap.size w w':=by
 obtain ⟨kd,g,⟨q,f,l,j,s,a,t,G⟩,m,c,p,cs⟩:=x;have aQ:RunsIn w s a t G:=h.1;have aK:RunsIn w m c p cs:=h.2;obtain ⟨X,V⟩:∃ X:Ac,X=⟨kd,g,⟨q,f,l,j,s,a,t,G⟩,m,c,p,cs⟩:=⟨_,rfl⟩;rw [show Ud ⟨kd,g,⟨q,f,l,j,s,a,t,G⟩,m,c,p,cs⟩=Ud X by rw [V],show Sc ⟨kd,g,⟨q,f,l,j,s,a,t,G⟩,m,c,p,cs⟩=Sc X by rw [V]];obtain ⟨S,L⟩:=qA (w.heap.size);obtain ⟨d,F⟩:=qB ((w.alloc (.cells #[zI kd,zI g,zI q,zI f,zI l,zI j,.slice s a t,.slice m c p] 27)).alloc (.cells #[zN,.bool false] 74));have aD:Below w.heap.size w d:=by rw [F];exact (zr _ _).alloc (by simp) _
 have al:d.heap.size=S+2:=by rw [F];simp [L]
 have am:d.heap[S]?=some (.cells #[zI kd,zI g,zI q,zI f,zI l,zI j,.slice s a t,.slice m c p] 27 (0,0)):=by rw [F,<-L];exact (Below.heap_alloc _ _ _ (by simp)).trans (heap_alloc_new w _)
 have aY:d.heap[S+1]?=some (.cells #[zN,.bool false] 74 (0,0)):=by
  have:=heap_alloc_new (w.alloc (.cells #[zI kd,zI g,zI q,zI f,zI l,zI j,.slice s a t,.slice m c p] 27)) (.cells #[zN,.bool false] 74);rw [World.size_alloc,L] at this;rw [F];exact this
 obtain ⟨v,E⟩:=qB (d.alloc (.cells #[zI kd,zI g,zI q,zI f,zI l,zI j] 3));have W:Below d.heap.size d v:=by rw [E];exact zr _ _
 have aT:v.heap.size=S+3:=by rw [E];simp [al]
 have J:v.heap[S+2]?=some (.cells #[zI kd,zI g,zI q,zI f,zI l,zI j] 3 (0,0)):=by rw [E,<-al];exact heap_alloc_new d _
 have aL:IntsIn v (zO (S+2) 0) 6 6 [kd,g,q,f,l,j]:=by
  refine ⟨rfl,Nat.le_refl _,by omega,fun _=>⟨S+2,0,rfl,fun i bl=>?_⟩⟩;rw [Nat.zero_add,cell_of_row v (S+2) i _ _ _ J]
  match i,bl with
  | 0,_=>rfl
  | 1,_=>rfl
  | 2,_=>rfl
  | 3,_=>rfl
  | 4,_=>rfl
  | 5,_=>rfl
 have aX:v.heap[S]?=some (.cells #[zI kd,zI g,zI q,zI f,zI l,zI j,.slice s a t,.slice m c p] 27 (0,0)):=(W.block S (by omega)).trans am;have aS:Wr v S (S+1) zN [] false:=⟨(W.block (S+1) (by omega)).trans aY,World.ownsRow_nil _ _ _ _,fun e=>by simp [Value.ownBlock] at e⟩;have bb:=zh (UQ v S (S+1) _ [] false aS _ 6 6 [kd,g,q,f,l,j] aL (fun b bt e=>by
  injection e with e;injection e with e;exact ⟨by omega,fun u=>by simp [Value.ownBlock] at u⟩) (by simp) (by omega) (by omega))
 have aH:Below S w v:=by have:=za aD W;rw [L] at this;exact this
 have C:∀ k,d.cell? (zA S k)=#[Value.int .i64 kd,zI g,zI q,zI f,zI l,zI j,.slice s a t,.slice m c p][k]?:=fun k=>cell_of_row d S k _ _ _ am;have ar:d.cell? (zA S 0)=some (zI kd):=C 0;have au:d.cell? (zA S 1)=some (zI g):=C 1;have av:d.cell? (zA S 2)=some (zI q):=C 2;have aw:d.cell? (zA S 3)=some (zI f):=C 3;have ax:d.cell? (zA S 4)=some (zI l):=C 4;have ay:d.cell? (zA S 5)=some (zI j):=C 5;have ad:=zh V;have a2:=zh aH;have a7:=zh aX;have aq:=zh E;have ab:=zh aQ;have aa:=zh aK;have z:=zh L;have ba:=zh aT;rw [F] at ar au av aw ax ay E
 replace aq:=zh E
 clear aD al am aY W aT J aL aX aS aH C h aQ aK V E F;go_enter Tryz.func9,Tryz.ntmps9;go_wp2_with fail
 rw [<-aq.o];refine bb.o.mono ?_;rintro e H ⟨rfl,aU,ai,N⟩;have ae:Below S w H:=a2.o.trans N.below;have aI:Below w.heap.size w H:=by rw [z.o];exact ae
 have bq:=N.below.size;have bu:=ba.o;have an:H.heap[S]?=some (.cells #[zI kd,zI g,zI q,zI f,zI l,zI j,.slice s a t,.slice m c p] 27 (0,0)):=(N.blk S (by omega) (by omega) (fun e=>by simp [Value.ownBlock] at e)).trans a7.o;have az:H.cell? (zA S 6)=some (.slice s a t):=by rw [cell_of_row H S 6 _ _ _ an];rfl
 have aM:([]++[kd,g,q,f,l,j].map u8).length<=5000:=by simp
 have bc:=zh (Ob H S (S+1) aU _ _ ai s a t G (ab.o.later aI) (ai.far z.o (by omega) ab.o) aM (by omega) (by omega));have aZ:=zh ae;have a8:=zh an;have P:aU.ownBlock≠some S:=fun e=>by
  rcases N.own S e with D | D
  ·simp [Value.ownBlock] at D
  omega
 have ap:=zh P;clear ai N ae aI an aM P ar au av aw ax ay;go_wp2_with fail
 refine bc.o.mono ?_;rintro e I ⟨rfl,aW,⟨aV,bf,aj,O,aN,aE⟩,aR⟩;have af:Below S w I:=aZ.o.trans O.below;have aJ:Below w.heap.size w I:=by rw [z.o];exact af
 have br:=O.below.size;have ao:I.heap[S]?=some (.cells #[zI kd,zI g,zI q,zI f,zI l,zI j,.slice s a t,.slice m c p] 27 (0,0)):=(O.blk S (by omega) (by omega) ap.o).trans a8.o;have be:I.cell? (zA S 7)=some (.slice m c p):=by rw [cell_of_row I S 7 _ _ _ ao];rfl
 have bd:=zh (Li I S (S+1) aV bf aW aj m c p cs (aa.o.later aJ) (aj.far z.o (by omega) aa.o) (by simp at aN;omega) (by omega) (by omega));have a0:=zh af;have a9:=zh ao;have P:aV.ownBlock≠some S:=fun e=>by
  rcases O.own S e with D | D
  ·exact ap.o D
  omega
 have a5:=zh P;have a1:=zh aE;have a6:=zh aR;clear aj O af aJ ao aN P aE aR az;go_wp2_with fail
 refine bd.o.mono ?_;rintro e y ⟨rfl,Q,⟨bn,aA,Z,Y,bm,aF⟩,ak⟩;have R:=zh (a0.o.trans Y.below);have bs:=Y.below.size;have J:y.heap[S]?=some (.cells #[zI kd,zI g,zI q,zI f,zI l,zI j,.slice s a t,.slice m c p] 27 (0,0)):=(Y.blk S (by omega) (by omega) a5.o).trans a9.o;have az:y.cell? (zA S 6)=some (.slice s a t):=by rw [cell_of_row y S 6 _ _ _ J];rfl
 have bo:y.cell? (zA S 7)=some (.slice m c p):=by rw [cell_of_row y S 7 _ _ _ J];rfl
 have bp:y.cell? (zA (S+1) 0)=some bn:=by rw [cell_of_row y (S+1) 0 _ _ _ Z.box];rfl
 have b1:y.cell? (zA (S+1) 1)=some (.bool Q):=by rw [cell_of_row y (S+1) 1 _ _ _ Z.box];rfl
 have ah:=Lf Z.row;have ag:(wG X).any wu=Q:=by
  rw [ad.o,Ff,ak,a6.o];simp
 have aP:G.length=a:=ab.o.len.symm;have aO:cs.length=c:=aa.o.len.symm;have aC:Sc X=if Q=true then 3 else if 3<a\/48<c then 2 else 0:=by
  unfold Sc;rw [ag,ad.o];simp only [aP,aO]
 have aG:Q=false->aA=wG X:=fun M=>by
  have D:=aF M;have bg:aW=false:=by
   rw [ak] at M;simp only [Bool.or_eq_false_iff] at M;exact M.1.1
  rw [D,a1.o bg,<-FO (ag.trans M),ad.o];simp [wG]
 have U:=zh aC;have a3:=zh aG;have a4:=zh ah;clear Z Y bm aF ak J ah ag aP aO aC aG be;cases Q with
 | true =>
  have r:Sc X=3:=by rw [U.o,if_pos rfl]
  have u:Ud X=ByteArray.empty:=by unfold Ud;rw [r,if_neg (by decide)]
  have A:=zh r;have B:=zh u;clear r u;go_wp2;go_ret2
  rw [A.o,B.o];exact ⟨rfl,by rw [z.o];exact R.o⟩
 | false =>
  by_cases bh:3<a
  ·have aB:(3:Int)<a:=(by omega);have r:Sc X=2:=(by rw [U.o,if_neg (by decide),if_pos (Or.inl bh)]);have u:Ud X=ByteArray.empty:=(by unfold Ud;rw [r,if_neg (by decide)]);have A:=zh r;have B:=zh u;clear r u;go_wp2;go_ret2
   rw [A.o,B.o];exact ⟨rfl,by rw [z.o];exact R.o⟩
  by_cases bi:48<c
  ·have aB:¬(3:Int)<a:=(by omega);have bj:(48:Int)<c:=(by omega);have r:Sc X=2:=(by rw [U.o,if_neg (by decide),if_pos (Or.inr bi)]);have u:Ud X=ByteArray.empty:=(by unfold Ud;rw [r,if_neg (by decide)]);have A:=zh r;have B:=zh u;clear r u;go_wp2;go_ret2
   rw [A.o,B.o];exact ⟨rfl,by rw [z.o];exact R.o⟩
  have aB:¬(3:Int)<a:=by omega
  have bj:¬(48:Int)<c:=by omega
  have r:Sc X=0:=by rw [U.o,if_neg (by decide),if_neg (by omega)]
  have u:Ud X=strOfNums aA:=by unfold Ud;rw [r,if_pos rfl,a3.o rfl]
  have A:=zh r;have B:=zh u;have ah:=a4.o;clear r u;go_wp2;go_ret2
  rw [A.o,B.o];exact ⟨rfl,by rw [z.o];exact R.o⟩
def Zp (c n:Int) (l:QL) (b:BL) (r:Rq):Int:=if wW c n l b r=0 then (if 12<=b.length\/1048576<=n then 2 else if (yU l b r).2=true then 0 else 8) else wW c n l b r
theorem L5 {c n:Int} {l:QL} {b:BL} {r:Rq} (h:wW c n l b r=0):zU c n l b=0/\yI l r=0/\c<=r.fr:=by
 unfold wW at h
 split at h
 ·rename_i h1
  split at h
  ·rename_i h2
   split at h
   ·cases h
   exact ⟨h1,h2,by omega⟩
  contradiction
 contradiction
theorem Ha {c n:Int} {l:QL} {b:BL} {r:Rq} (h:Zp c n l b r=0):wW c n l b r=0/\b.length<12/\n<1048576/\(yU l b r).2=true:=by
 unfold Zp at h
 split at h
 ·rename_i h1
  split at h
  ·cases h
  split at h
  ·rename_i h2 h3;exact ⟨h1,by omega,by omega,h3⟩
  cases h
 contradiction
theorem YL (w:World) (a b c d:Value) (r:Rq) {e:World} (m:e=((w.alloc (.cells #[a,b,c,d] 40)).alloc (.cells #[zI r.queue,zI r.fr,zI r.un,zI r.kind,.slice r.pa r.pn r.pc] 24)).alloc (.cells zZ 40)):zj e w.heap.size a b c d/\Ww e (w.heap.size+1) r/\zj e (w.heap.size+2) (zI 0) (zI 0) zN zN/\Below w.heap.size w e/\e.heap.size=w.heap.size+3:=by
 subst m;obtain ⟨h,i,j,k⟩:=Tu w a b c d r rfl;obtain ⟨f,l⟩:=qB ((w.alloc (.cells #[a,b,c,d] 40)).alloc (.cells (zR r) 24));rw [<-l] at h i j k ⊢;have g:zL f (f.alloc (.cells zZ 40)):=zr _ _;refine ⟨h.later g,i.later g,?_,za j g,by simp;omega⟩;have:=zj.new f (zI 0) (zI 0) zN zN;rw [k] at this;exact this
theorem PQ (w:World) (c n:Int) (g:Option Addr) (j i:Nat) (l:QL) (ba:Option Addr) (bn bc:Nat) (b:BL) (h:zY w g j i l ba bn bc b) (r:Rq) (F:zH w r) (x:wW c n l b r≠0) :
 zC 52 #[.agg (zS c n g j i ba bn bc),.agg #[zI r.queue,zI r.fr,zI r.un,zI r.kind,.slice r.pa r.pn r.pc]] w fun e w'=>e=.returned (.tuple #[.agg zZ,zI 0,zI (wW c n l b r)])/\Below w.heap.size w w':=by
 obtain ⟨S,E⟩:=qA (w.heap.size);obtain ⟨u,y⟩:=qB (((w.alloc (.cells (zS c n g j i ba bn bc) 40)).alloc (.cells (zR r) 24)).alloc (.cells zZ 40));obtain ⟨m,q,C,f,A⟩:=YL w _ _ _ _ r y;rw [E] at m q C A;have t:=Yz u c n g j i l ba bn bc b (h.later f) r (zH.later F f);have X:=zh m;have Y:=zh q;have M:=zh C;have G:=zh f;have L:=zh y;have J:=zh E;have W:=zh A;obtain ⟨N,c1,c2,c3⟩:=m.cells;obtain ⟨O,P,Q,R,U⟩:=q.cells;clear y m q C f h F A;obtain ⟨a,D⟩:=qA (wW c n l b r);rw [D] at t x ⊢;have Z:(a != 0)=true:=by simp [x]
 have I:=zh t;clear t D x;go_enter Tryz.func52,Tryz.ntmps52;go_wp2_with fail
 rw [<-L.o];refine I.o.mono ?_;rintro e B ⟨rfl,z⟩;have s:=zh (M.o.later z);have H:=zh (za G.o z);clear z N c1 c2 c3 O P Q R U;obtain ⟨aa,ab,ad,ae⟩:=s.o.cells;have af:∀ k,B.frozen? (zA (S+2) k)=false:=fun k=>frozen_of_row B (S+2) k _ _ s.o;go_wp2_with fail
 have V:=zk B (S+2) 40 _ _ _ _ (zI 0) (zI 0) zN zN s.o;have d:w.heap.size<=S+2:=by have:=J.o;omega
 refine bodyPost_ret (v:=.tuple #[.agg zZ,zI 0,zI a]) (zq Tryz.results52 _ _ (S+2) 40 zZ (0,0) _ rfl V.1 Tryz.underlying40 rfl (by kernel_rfl)) rfl ⟨rfl,?_⟩;exact ((((H.o.setCell (p:=(zA (S+2) 0)) d _).setCell (p:=(zA (S+2) 1)) d _).setCell (p:=(zA (S+2) 2)) d _).setCell (p:=(zA (S+2) 3)) d _)
theorem OU (w:World) (c n:Int) (i:Option Addr) (m j:Nat) (l:QL) (ba:Option Addr) (bn bc:Nat) (b:BL) (h:zY w i m j l ba bn bc b) (r:Rq) (I:zH w r) (F:wW c n l b r=0) (H:12<=bn\/1048576<=n) :
 zC 52 #[.agg (zS c n i m j ba bn bc),.agg #[zI r.queue,zI r.fr,zI r.un,zI r.kind,.slice r.pa r.pn r.pc]] w fun e w'=>e=.returned (.tuple #[.agg zZ,zI 0,zI 2])/\Below w.heap.size w w':=by
 obtain ⟨S,G⟩:=qA (w.heap.size);obtain ⟨x,y⟩:=qB (((w.alloc (.cells (zS c n i m j ba bn bc) 40)).alloc (.cells (zR r) 24)).alloc (.cells zZ 40));obtain ⟨s,t,B,g,A⟩:=YL w _ _ _ _ r y;rw [G] at s t B A;have u:=Yz x c n i m j l ba bn bc b (h.later g) r (zH.later I g);have P:=zh s;have Z:=zh t;have Q:=zh B;have J:=zh g;have N:=zh y;have D:=zh G;have Y:=zh A;obtain ⟨E,c1,c2,c3⟩:=s.cells;obtain ⟨R,U,V,W,X⟩:=t.cells;clear y s t B g h I A;rw [F] at u;have L:=zh u;have M:=zh H;clear u F H;go_enter Tryz.func52,Tryz.ntmps52;go_wp2_with fail
 rw [<-N.o];refine L.o.mono ?_;rintro e q ⟨rfl,f⟩;have d:=zh (Q.o.later f);have C:=zh (za J.o f);have O:=zh (P.o.later f);clear f E c1 c2 c3 R U V W X;obtain ⟨E,c1,c2,c3⟩:=O.o.cells;obtain ⟨ab,ad,ae,af⟩:=d.o.cells;have ag:∀ k,q.frozen? (zA (S+2) k)=false:=fun k=>frozen_of_row q (S+2) k _ _ d.o;by_cases aa:(12:Int)<=bn
 ·go_wp2_with fail
  have z:=zk q (S+2) 40 _ _ _ _ (zI 0) (zI 0) zN zN d.o;have a:w.heap.size<=S+2:=by have:=D.o;omega
  refine bodyPost_ret (v:=.tuple #[.agg zZ,zI 0,zI 2]) (zq Tryz.results52 _ _ (S+2) 40 zZ (0,0) _ rfl z.1 Tryz.underlying40 rfl (by kernel_rfl)) rfl ⟨rfl,?_⟩;exact ((((C.o.setCell (p:=(zA (S+2) 0)) a _).setCell (p:=(zA (S+2) 1)) a _).setCell (p:=(zA (S+2) 2)) a _).setCell (p:=(zA (S+2) 3)) a _)
 ·have hn:1048576<=n:=by rcases M.o with h | h <;> omega
  go_wp2_with fail
  have z:=zk q (S+2) 40 _ _ _ _ (zI 0) (zI 0) zN zN d.o;have a:w.heap.size<=S+2:=by have:=D.o;omega
  refine bodyPost_ret (v:=.tuple #[.agg zZ,zI 0,zI 2]) (zq Tryz.results52 _ _ (S+2) 40 zZ (0,0) _ rfl z.1 Tryz.underlying40 rfl (by kernel_rfl)) rfl ⟨rfl,?_⟩;exact ((((C.o.setCell (p:=(zA (S+2) 0)) a _).setCell (p:=(zA (S+2) 1)) a _).setCell (p:=(zA (S+2) 2)) a _).setCell (p:=(zA (S+2) 3)) a _)
theorem OT (w:World) (c n:Int) (d:Option Addr) (g f:Nat) (l:QL) (ba:Option Addr) (bn bc:Nat) (b:BL) (h:zY w d g f l ba bn bc b) (r:Rq) (G:zH w r) (O:wW c n l b r=0) (an:(bn:Int)<12) (hn:n<1048576) (F:(yU l b r).2=false) :
 zC 52 #[.agg (zS c n d g f ba bn bc),.agg #[zI r.queue,zI r.fr,zI r.un,zI r.kind,.slice r.pa r.pn r.pc]] w fun e w'=>e=.returned (.tuple #[.agg zZ,zI 0,zI 8])/\Below w.heap.size w w':=by
 obtain ⟨S,P⟩:=qA (w.heap.size);obtain ⟨x,E⟩:=qB (((w.alloc (.cells (zS c n d g f ba bn bc) 40)).alloc (.cells (zR r) 24)).alloc (.cells zZ 40));obtain ⟨m,q,J,j,H⟩:=YL w _ _ _ _ r E;rw [P] at m q J H;have u:=Yz x c n d g f l ba bn bc b (h.later j) r (zH.later G j);have ad:=zh m;have ae:=zh q;have af:=zh J;have R:=zh j;have Y:=zh E;have W:=zh P;have al:=zh H;obtain ⟨y,c1,c2,c3⟩:=m.cells;obtain ⟨z,A,B,C,D⟩:=q.cells;have M:=zh fun X (Q:zL w X)=>XN X c n d g f l ba bn bc b (h.later Q) r (zH.later G Q);clear E m q J j h G H;rw [O] at u;have V:=zh u;obtain ⟨s,N⟩:=qA (yU l b r);rw [N] at M F;obtain ⟨aj,ak⟩:=s;simp only at F;subst F;clear u O N;go_enter Tryz.func52,Tryz.ntmps52;go_wp2_with fail
 rw [<-Y.o];refine V.o.mono ?_;rintro e ai ⟨rfl,a⟩;have L:=zh (za R.o a);have Z:=zh (ad.o.later a);have aa:=zh (ae.o.later a);have ab:=zh (af.o.later a);clear a y c1 c2 c3 z A B C D;obtain ⟨y,c1,c2,c3⟩:=Z.o.cells;obtain ⟨z,A,B,C,D⟩:=aa.o.cells;go_wp2_with fail
 refine (M.o ai L.o).mono ?_;rintro e I ⟨am,ap,ao,rfl,ag,a⟩;have t:=zh (ab.o.later a);have U:=zh (za L.o a);clear a ag y c1 c2 c3 z A B C D;obtain ⟨aq,ar,au,av⟩:=t.o.cells;have aw:∀ k,I.frozen? (zA (S+2) k)=false:=fun k=>frozen_of_row I (S+2) k _ _ t.o;go_wp2_with fail
 have ah:=zk I (S+2) 40 _ _ _ _ (zI 0) (zI 0) zN zN t.o;have i:w.heap.size<=S+2:=by have:=W.o;omega
 refine bodyPost_ret (v:=.tuple #[.agg zZ,zI 0,zI 8]) (zq Tryz.results52 _ _ (S+2) 40 zZ (0,0) _ rfl ah.1 Tryz.underlying40 rfl (by kernel_rfl)) rfl ⟨rfl,?_⟩;exact ((((U.o.setCell (p:=(zA (S+2) 0)) i _).setCell (p:=(zA (S+2) 1)) i _).setCell (p:=(zA (S+2) 2)) i _).setCell (p:=(zA (S+2) 3)) i _)
end Go.Proofs.YtckpdfkobdgjeaaGreatDoor
