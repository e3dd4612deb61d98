/- Several texts in one: RoomAll, PlanM. -/
import Derived.Test.YtckpdfkobdgjeaaGreatDoorHLoadAll
import Derived.Test.YtckpdfkobdgjeaaGreatDoorHAny
import Derived.Test.YtckpdfkobdgjeaaGreatDoorHPlaceAll
namespace Go.Proofs.YtckpdfkobdgjeaaGreatDoor
set_option maxRecDepth 100000
set_option maxHeartbeats 4000000
open Go.RowKit Go.Shelf
attribute [local go_sem] Oper.semAt_some
theorem Mn (w:World) (l m:Option Addr) (z A p q:Nat) (c d:zd) (j:RunsIn w l z p c) (k:RunsIn w m A q d) :
 zC 172 #[.slice l z p,.slice m A q] w fun e w'=>SC w w' e (xl (fun x y=>min x y) c d):=by
 cases f:(xe c&&xe d) with
 | false =>
  have h:xl (fun x y=>min x y) c d=([],1):=by simp only [xl,f];rfl
  rw [h];have t:(if (xe c&&xe d)=true then (0:Int) else 1)=1:=by rw [f];rfl
  go_enter Tryz.func172,Tryz.ntmps172;go_wp2_with fail
  refine (wP _ _ _ _ _ _ _ c d j k).mono ?_;rintro e D ⟨rfl,g⟩;rw [t];go_wp2;go_ret2
  exact Yk g
 | true =>
  have h:xl (fun x y=>min x y) c d=Yc (jv (fun x y=>min x y) c d):=by simp only [xl,f];rfl
  rw [h];have t:(if (xe c&&xe d)=true then (0:Int) else 1)=0:=by rw [f];rfl
  rw [Bool.and_eq_true] at f;have B:=zh (zX.1 f.1);have C:=zh (zX.1 f.2);obtain ⟨r,v⟩:=qB (Yc (jv (fun x y=>min x y) c d));rw [<-v];have E:=zh v;clear v h f;go_enter Tryz.func172,Tryz.ntmps172;go_wp2_with fail
  refine (wP _ _ _ _ _ _ _ c d j k).mono ?_;rintro e D ⟨rfl,g⟩;rw [t];go_wp2_with fail
  have u:=V4 188 _ Gj D l m z p A q c d (j.later g) (k.later g) B.o.rises C.o.rises (fun i s=>B.o.bdd (by rw [<-j.len];exact s)) (fun i s=>C.o.bdd (by rw [<-k.len];exact s));rw [<-E.o] at u;refine u.mono ?_;clear u;rintro e I ⟨a,n,cap,rfl,h,F,G⟩;go_wp2;go_ret2
  exact ⟨a,n,cap,rfl,h,za g F,fun b H e=>by have j:=G b H e;have k:=g.size;omega⟩
def Zu (l:QL) (T:Nat->zd) (f:zd):List Int->zd
 | []=>f
 | p::ps=>Zu l T (xl (fun x y=>min x y) f (xl (fun x y=>x-y) (qu l p.toNat).runs (T p.toNat)).1).1 ps
theorem T7 (l:QL) (T:Nat->zd):∀ (a:List Int) (f:zd) (p:Int),Zu l T f (a++[p])=(xl (fun x y=>min x y) (Zu l T f a) (xl (fun x y=>x-y) (qu l p.toNat).runs (T p.toNat)).1).1
 | [],f,p=>rfl
 | y::a,f,p=>by rw [List.cons_append,Zu,T7 l T a _ p];rfl
theorem GA {a:World} {B:Nat} {v:Value} (h:Boxed a B 25 v):a.rowIs B 25 1 (fun _=>v):=by
 refine ⟨#[v],h,rfl,fun i b=>?_⟩;obtain rfl:i=0:=by omega
 rfl
def xH (l:QL) (b:BL) (q:Int):zd:=Zu l (zM l b b.length) [(0,1048576)] (zK l q)
theorem Kh (w:World) (a:Option Addr) (n cap:Nat) (l:QL) (p:QsIn w a n cap l) (ba:Option Addr) (bn bc:Nat) (b:BL) (f:BksIn w ba bn bc b) (q:Int) (az:wS l b=0) (cd:0<=q) (cf:q<n) :
 zC 139 #[.slice a n cap,.slice ba bn bc,zI q] w fun e w'=>Uf w w' e (xH l b q,0):=by
 have aL:=zh p.len;have b9:=p.capb;have ca:=p.le;have Y:=(XU az).1;have aM:=zh (yY Y);have a8:0<n:=by have:=aM.o.pos;have:=aL.o;omega
 obtain ⟨r,t,rfl,aA⟩:=p.cells a8;have b8:r<w.heap.size:=block_lt_of_cell (aA 0 a8).1;have aJ:=zh aA;have bx:=zh p;have ai:zL w (w.alloc (.cells #[.slice (zO r t) n cap] 37)):=zr _ _;have M:=PM _ _ n cap l (p.later ai) ba bn bc b (f.later ai);rw [az] at M;have aK:=zh M;have bt:=zh ai;have aN:Zh (xH l b q=Zu l (zM l b b.length) [(0,1048576)] (zK l q)):=rfl;obtain ⟨U,aW⟩:=qA (zM l b b.length);rw [aW] at aK aN;have ce:¬q<0:=by omega
 have cg:¬(n:Int)<=q:=by omega
 have aP:Zh (Boxed (w.alloc (.cells #[.slice (zO r t) n cap] 37)) w.heap.size 37 (.slice (zO r t) n cap)):=Boxed.new w 37 (.slice (zO r t) n cap);have bF:=aP.o.cell;clear aA p f az Y M ai aW;refine (callsIn_wide (n:=4)).1 ?_;refine callsIn_of_wp_marks Tryz.func139 rfl trivial ?_ rfl;simp only [Tryz.ntmps139,List.size_toArray,List.length_cons,List.length_nil,Nat.reduceAdd,Nat.reduceSub,Array.replicate_succ,Array.replicate_zero,List.push_toArray,List.append_toArray,List.nil_append,List.cons_append]
 gi_wp2_with fail
 refine ⟨trivial,(callsIn_wide.2 aK.o).mono ?_⟩;rintro e j ⟨bZ,cn,cl,rfl,Y,_,am⟩;obtain ⟨u,rfl,rfl,rfl,be⟩:=Y rfl;have bC:=zh be;have aa:=zh (za bt.o am);have ar:Zh (Boxed j w.heap.size 37 (.slice (zO r t) n cap)):=(am.block _ (by simp)).trans aP.o;have bG:=ar.o.cell;have bQ:w.heap.size<j.heap.size:=ar.o.lt;have bR:w.heap.size<j.heap.size+1:=by omega
 have bS:w.heap.size<j.heap.size+1+1:=by omega
 have bL:¬w.heap.size=j.heap.size:=by omega
 have bM:¬w.heap.size=j.heap.size+1:=by omega
 have bN:¬w.heap.size=j.heap.size+1+1:=by omega
 clear Y be am bF
 gi_wp2_with fail
 refine ⟨trivial,(Hh Fence.wide _ trivial rfl _ _ _ ⟨_,_,_,rfl⟩).mono ?_⟩;rintro e cq ⟨rfl,rfl⟩
 gi_wp2_with fail
 have ad:=Boxed.new ((((j.alloc (.cells #[.slice (zO u 0) n n] 97)).alloc (.cells #[zI 0,zI 1048576] 55)).alloc (.cells #[.slice (zO (j.heap.size+1) 0) 1 1] 25)).alloc (.cells #[.slice (zO r t) n cap] 37)) 3 (zI q);have ae:=(Boxed.new (((j.alloc (.cells #[.slice (zO u 0) n n] 97)).alloc (.cells #[zI 0,zI 1048576] 55)).alloc (.cells #[.slice (zO (j.heap.size+1) 0) 1 1] 25)) 37 (.slice (zO r t) n cap)).alloc (.cells #[zI q] 3);have W:=((Boxed.new ((j.alloc (.cells #[.slice (zO u 0) n n] 97)).alloc (.cells #[zI 0,zI 1048576] 55)) 25 (.slice (zO (j.heap.size+1) 0) 1 1)).alloc (.cells #[.slice (zO r t) n cap] 37)).alloc (.cells #[zI q] 3);have au:=(((((Boxed.new j 97 (.slice (zO u 0) n n)).alloc (.cells #[zI 0,zI 1048576] 55)).alloc (.cells #[.slice (zO (j.heap.size+1) 0) 1 1] 25)).alloc (.cells #[.slice (zO r t) n cap] 37)).alloc (.cells #[zI q] 3));have R:=R7 (j.alloc (.cells #[.slice (zO u 0) n n] 97)) [(0,1048576)] #[zI 0,zI 1048576] 1 rfl rfl (by decide);have aZ:Below ((j.alloc (.cells #[.slice (zO u 0) n n] 97)).alloc (.cells #[zI 0,zI 1048576] 55)).heap.size ((j.alloc (.cells #[.slice (zO u 0) n n] 97)).alloc (.cells #[zI 0,zI 1048576] 55)) (((((j.alloc (.cells #[.slice (zO u 0) n n] 97)).alloc (.cells #[zI 0,zI 1048576] 55)).alloc (.cells #[.slice (zO (j.heap.size+1) 0) 1 1] 25)).alloc (.cells #[.slice (zO r t) n cap] 37)).alloc (.cells #[zI q] 3)):=((zr _ _).alloc (by simp) _).alloc (by simp only [World.size_alloc];omega) _
 replace R:=R.later aZ
 simp only [World.size_alloc] at ad ae W R;have av:zL j (((((j.alloc (.cells #[.slice (zO u 0) n n] 97)).alloc (.cells #[zI 0,zI 1048576] 55)).alloc (.cells #[.slice (zO (j.heap.size+1) 0) 1 1] 25)).alloc (.cells #[.slice (zO r t) n cap] 37)).alloc (.cells #[zI q] 3)):=(((((Below.refl _ j).alloc (Nat.le_refl _) _).alloc (by simp) _).alloc (by simp only [World.size_alloc];omega) _).alloc (by simp only [World.size_alloc];omega) _).alloc (by simp only [World.size_alloc];omega) _;have bd:(((((j.alloc (.cells #[.slice (zO u 0) n n] 97)).alloc (.cells #[zI 0,zI 1048576] 55)).alloc (.cells #[.slice (zO (j.heap.size+1) 0) 1 1] 25)).alloc (.cells #[.slice (zO r t) n cap] 37)).alloc (.cells #[zI q] 3)).heap.size=j.heap.size+5:=by simp
 obtain ⟨W0,aX⟩:=qA (((((j.alloc (.cells #[.slice (some ⟨u,0,none⟩) n n] 97)).alloc (.cells #[zI 0,zI 1048576] 55)).alloc (.cells #[.slice (some ⟨j.heap.size+1,0,none⟩) 1 1] 25)).alloc (.cells #[.slice (some ⟨r,t,none⟩) n cap] 37)).alloc (.cells #[zI q] 3));rw [aX] at bd av ad ae W au R ⊢;clear aX aZ bR bS bL bM bN bG;obtain ⟨S,ay⟩:=qA (j.heap.size);rw [ay] at bd ad ae W au R bQ ⊢;have ab:=zh ay;have ao:=zh av;clear ay av;have bl:Tk W0 W0 (S+1+1) 1 (fun _=>Zu l U [(0,1048576)] []):=⟨rfl,rfl,rfl,Nat.le_refl _,fun _ _ _=>rfl,fun _=>.slice (zO (S+1) 0) 1 1,GA W,fun q bO=>⟨_,1,1,rfl,R,fun b bj e=>by cases e;omega⟩⟩;have bD:=zh bl;have bv:Zh (∀ i,i<n->W0.cell? (zA r (t+i*3+1))=some (zI (qu l i).parent)):=fun i bK=>cell_later ao.o (cell_later aa.o (aJ.o i bK).2.1);have bP:r<S:=by have:=aa.o.size;have:=ab.o;omega
 clear bl R W;refine wpIn_rangeFunc_ownG (F:=Fence.wide) rfl (by omega) (gf:=130) (lb:=#[.pointer (zO (S+1+1+1+1) 0),.pointer (zO (S+1+1+1) 0)]) rfl trivial (enters_of Tryz.func130 (by kernel_rfl) rfl)
  (Py Fence.wide _ trivial rfl (by omega) (S+1+1+1+1) (S+1+1+1) S r t n cap l q aM.o aL.o (by omega) W0 ad ae (by omega) bP bv.o)
  YO.trans (Rs (by omega)) (Below.refl _ _) (fun _=>rfl)
  (fun aE z=>Tk W0 z (S+1+1) 1 (fun _=>Zu l U [(0,1048576)] (aE.map (·.1))))
  (fun _ _ _=>False)
  (Tk.own (Nat.le_refl _) (by omega))
  (fun c s X N row h _ _=>h)
  bD.o
  (fun x=>{ tmps:=#[.slice (zO r t) n cap,.slice ba bn bc,zI q,.pointer (zO w.heap.size 0),undef,undef,zN,zI 0,.pointer (zO S 0),zI 0,.pointer (zO (S+1+1) 0),zI x.1,undef,undef,.tuple #[.slice (zO u 0) n n,zI 0],.slice (zO r t) n cap,.slice ba bn bc,.tuple #[.slice (zO u 0) n n,zI 0],.slice (zO u 0) n n,zI 0,zI 0,.bool false,undef,zI q,.bool (decide (q<0)),.bool (decide (q<0)),zI q,.slice (zO r t) n cap,zI n,.bool (decide ((n:Int)<=q)),.bool (decide (q<0)||decide ((n:Int)<=q)),.agg #[zI 0,zI 1048576],.slice (zO (S+1) 0) 1 1,.slice (zO r t) n cap,zI q,.func (.func 130) #[] #[.pointer (zO (S+1+1+1+1) 0),.pointer (zO (S+1+1+1) 0)],zI x.1,undef,undef,undef,undef,undef,undef,undef,undef,undef,undef,undef,undef,undef,undef,undef,undef,undef,undef,undef,undef],defers:=[] }) ?assign ?body ?done ?stop
 case assign =>
  intro l x bX bW M
  gi_wp2
  exact M
 case body =>
  rintro cm aE x z I cb;obtain ⟨x,bT,ck⟩:=x;obtain ⟨P,rfl⟩:=Int.eq_ofNat_of_zero_le bT;have ax:P<n:=by omega
  have b7:(P:Int)<n:=by omega
  have ci:W0.heap.size<=z.heap.size:=I.size;have Q:zL j z:=ao.o.trans (I.below (B:=j.heap.size) (by have:=ab.o;omega) (by omega));have aB:zL w z:=za aa.o Q;have bp:=zh (cell_later Q ar.o.cell);have bq:=zh (I.box au (by omega)).cell;have aI:=zh (cell_later aB (aJ.o P ax).2.2);obtain ⟨aF,aH,aG,a4,a5⟩:=bC.o.later Q P ax;have bo:=zh a4;have a3:=(bx.o.caps P ax).later aB;have ap:=zh fun N (aY:zL z N)=>QK N (qu l P).ca aF (qu l P).cn aH (qu l P).cc aG (qu l P).runs (U P) (a3.later aY) (a5.later aY);obtain ⟨A,aw⟩:=qA (xl (fun x y=>x-y) (qu l P).runs (U P));rw [aw] at ap;have bw:=zh aw;obtain ⟨af,a0⟩:=qA ((qu l P).ca);obtain ⟨ah,a2⟩:=qA ((qu l P).cn);obtain ⟨ag,a1⟩:=qA ((qu l P).cc);rw [a0,a2,a1] at aI ap;obtain ⟨aO,bi,bh,aC,al,Z,aD⟩:=I.at (q:=0) (by omega);have br:=zh aC;have bs:=zh al;have aq:=zh Z;have bE:=zh I;clear I a4 a5 a3 aw a0 a2 a1 aC al Z aD Q aB
  gi_wp2_with fail
  refine Sm ((Tryz.f139.body.bind fun c=>yi c 9).getD #[]) (by kernel_rfl) [zl (.slice (zO r t) n cap),zl (zI P),zl (.pointer (zO r (t+P*3))),zl (.pointer (zO r (t+P*3+2))),zl (.slice af ah ag),zl (.slice (zO u 0) n n),zl (zI P),zl (.pointer (zO u P)),zl (.slice aF aH aG),⟨fun v X=>∃ a n cap,v=.tuple #[.slice a n cap,zI A.2]/\RunsIn X a n cap A.1,fun _ X N ⟨a,n,cap,L,O⟩ f=>⟨a,n,cap,L,O.later f⟩⟩,⟨fun v X=>∃ a n cap,v=.tuple #[.slice a n cap,zI A.2]/\RunsIn X a n cap A.1,fun _ X N ⟨a,n,cap,L,O⟩ f=>⟨a,n,cap,L,O.later f⟩⟩,⟨fun v X=>∃ a n cap,v=.slice a n cap/\RunsIn X a n cap A.1,fun _ X N ⟨a,n,cap,L,O⟩ f=>⟨a,n,cap,L,O.later f⟩⟩,zl (zI A.2),⟨fun v X=>∃ a n cap,v=.slice a n cap/\RunsIn X a n cap A.1,fun _ X N ⟨a,n,cap,L,O⟩ f=>⟨a,n,cap,L,O.later f⟩⟩,zl (zI A.2)] [] (by kernel_rfl) (by kernel_rfl) (by kernel_rfl) (by kernel_rfl) ?hg ?hstep ?hfin
  case hg =>
   intro g hg v w h;cases hg
  case hstep =>
   refine zc.cons 1 rfl ?_ ?_
   ·intro T w' f p m;have G:T.getD 3 undef=.pointer (zO w.heap.size 0):=p 3;have b2:=cell_later f bp.o;exact zs (by go_simp) rfl
   refine zc.cons 2 rfl ?_ ?_
   ·intro T w' f p m;have G:T.getD 11 undef=zI P:=p 11;exact zs (by go_simp) rfl
   refine zc.cons 3 rfl ?_ ?_
   ·intro T w' f p m;have G:T.getD 38 undef=_:=m 0 38;have L:T.getD 39 undef=_:=m 1 39;exact zs (by go_simp) rfl
   refine zc.cons 4 rfl ?_ ?_
   ·intro T w' f p m;have G:T.getD 40 undef=_:=m 2 40;exact zs (by go_simp) rfl
   refine zc.cons 5 rfl ?_ ?_
   ·intro T w' f p m;have G:T.getD 41 undef=_:=m 3 41;have b3:=cell_later f aI.o;exact zs (by go_simp) rfl
   refine zc.cons 6 rfl ?_ ?_
   ·intro T w' f p m;have G:T.getD 8 undef=.pointer (zO S 0):=p 8;have b4:=cell_later f bq.o;exact zs (by go_simp) rfl
   refine zc.cons 7 rfl ?_ ?_
   ·intro T w' f p m;have G:T.getD 11 undef=zI P:=p 11;exact zs (by go_simp) rfl
   refine zc.cons 8 rfl ?_ ?_
   ·intro T w' f p m;have G:T.getD 43 undef=_:=m 5 43;have L:T.getD 44 undef=_:=m 6 44;exact zs (by go_simp) rfl
   refine zc.cons 9 rfl ?_ ?_
   ·intro T w' f p m;have G:T.getD 45 undef=_:=m 7 45;have b1:=cell_later f bo.o;exact zs (by go_simp) rfl
   refine zc.cons 10 rfl ?_ ?_
   ·intro T w' f p m;have G:T.getD 42 undef=_:=m 4 42;have L:T.getD 46 undef=_:=m 8 46;refine Or.inr ⟨137,#[.slice af ah ag,.slice aF aH aG],by go_simp,?_⟩;refine (ap.o w' f).mono ?_;rintro e cp ⟨C,H,E,rfl,J,bI⟩;exact ⟨_,rfl,⟨C,H,E,rfl,J⟩,bI⟩
   refine zc.cons 11 rfl ?_ ?_
   ·intro T w' f p m;obtain ⟨C,H,E,G,J⟩:=m 9 47;exact Or.inl ⟨.tuple #[.slice C H E,zI A.2],w',by go_simp,⟨C,H,E,rfl,J⟩,Below.refl _ _⟩
   refine zc.cons 12 rfl ?_ ?_
   ·intro T w' f p m;obtain ⟨C,H,E,G,J⟩:=m 10 37;exact Or.inl ⟨.slice C H E,w',by go_simp,⟨C,H,E,rfl,J⟩,Below.refl _ _⟩
   refine zc.cons 13 rfl ?_ ?_
   ·intro T w' f p m;obtain ⟨C,H,E,G,J⟩:=m 10 37;exact zs (by go_simp) rfl
   refine zc.cons 14 rfl ?_ ?_
   ·intro T w' f p m;obtain ⟨C,H,E,G,J⟩:=m 11 48;exact Or.inl ⟨.slice C H E,w',by go_simp,⟨C,H,E,rfl,J⟩,Below.refl _ _⟩
   refine zc.cons 15 rfl ?_ ?_
   ·intro T w' f p m;have G:T.getD 49 undef=_:=m 12 49;exact zs (by go_simp) rfl
   exact trivial
  intro T w' f bb p m;obtain ⟨C,H,E,aR,J⟩:=m 13 12;have aS:T.getD 13 undef=zI A.2:=m 14 13;rw [yb [true,true,true,true,true,true,true,true,true,true,true,true,false,false,true,true,true,true,true,true,true,true,true,true,true,true,true,true,true,true,true,true,true,true,true,true,true,false,false,false,false,false,false,false,false,false,false,false,false,false,true,true,true,true,true,true,true] (by kernel_rfl) bb @p];obtain ⟨us,ak⟩:∃ us:Nat->Value,(fun d=>T.getD d undef)=us:=⟨_,rfl⟩;rw [ak];have aT:us 12=.slice C H E:=by rw [<-ak];exact aR
  have aU:us 13=zI A.2:=by rw [<-ak];exact aS
  simp only [xj,aT,aU];have aQ:=cell_later f br.o;have an:=zh f;have bB:=zh J;have cj:z.heap.size<=w'.heap.size:=f.size;clear f J bb p m aR aS aT aU ak
  gi_wp2_with fail
  refine ⟨trivial,(Xz (Mn w' aO C bi H bh E _ A.1 (aq.o.later an.o) bB.o)).mono ?_⟩;rintro e bm ⟨b0,co,c3,rfl,a9,aj,a7⟩;have b5:=cell_later aj aQ;have b6:=(World.frozen?_of_block (w:=z) (a:=(zA (S+1+1) 0)) ((za an.o aj).block _ (by show S+1+1<_;omega))).trans bs.o;have V:=zh (za an.o aj);have bA:=zh a9;have bz:=zh a7;clear a9 aj a7 aQ
  gi_wp2
  refine ⟨?_,?_,?_⟩
  ·exact (KeepsOthers.trans (⟨V.o.size,fun k o a6 _=>(V.o.block k (Array.getElem?_eq_some_iff.1 a6).1).trans a6⟩:KeepsOthers z bm) (KeepsOthers.setCell _ _ _)).from _
  ·exact ⟨(show Below S z bm from V.o.mono (by omega)).setCell (by show S<=S+1+1;omega) _,fun v bf=>(Below.heap_setCell _ _ _ _ (by simp only;omega)).trans ((V.o.block _ bf.lt).trans bf)⟩
  have:=(bE.o.later V.o).hit 0 bA.o (fun b bj e=>by have:=bz.o b bj e;omega);exact this.congr fun q bO=>by
   rw [if_pos (by omega),List.map_append,List.map_cons,List.map_nil,T7,Int.toNat_natCast,bw.o]
 case done =>
  rintro D cr z bH bg I M;rw [bg] at I;obtain ⟨aO,bi,bh,aC,al,Z,aD⟩:=I.at (q:=0) (by omega);have bV:=zh I;have Q:zL j z:=ao.o.trans (I.below (B:=j.heap.size) (by have:=ab.o;omega) (by omega));have bu:=zh (za aa.o Q);have aq:=zh Z;have ch:W0.heap.size<=z.heap.size:=I.size;clear I bg al Z aD Q
  gi_wp2
  show LeavesInM _ _ _ _ _ _ (([D]:List Nat).map fun D=>{ target:=.collected D,args:=#[] }) _ _;refine XL (S+5) [D] z (by omega) (by simp) (fun bU aV=>by simp at aV;subst aV;exact ⟨by omega,M⟩) (fun bY f bJ=>?_);refine ⟨_,results_tmp2 rfl _ _ _,_,_,_,rfl,by rw [aN.o];exact aq.o.kept bJ,bu.o.trans (f.mono (by have:=ab.o;omega))⟩
 case stop =>
  rintro D c aE z bH cc h M;cases h
def Zq (l:QL) (b:BL) (q:Int):Int:=if wS l b=0 then (if 0<=q/\q<l.length then 0 else 6) else wS l b
theorem Mv (w:World) (a:Option Addr) (n cap:Nat) (l:QL) (m:QsIn w a n cap l) (ba:Option Addr) (bn bc:Nat) (b:BL) (B:BksIn w ba bn bc b) (q:Int) (c:Zq l b q≠0) :
 zC 139 #[.slice a n cap,.slice ba bn bc,zI q] w fun e w'=>Uf w w' e ([],Zq l b q):=by
 have I:=m.capb;have J:=m.le;have G:=zh m.len;have s:zL w (w.alloc (.cells #[.slice a n cap] 37)):=zr _ _;have i:=PM _ _ n cap l (m.later s) ba bn bc b (B.later s);have t:=zh s;have z:Zh (Boxed (w.alloc (.cells #[.slice a n cap] 37)) w.heap.size 37 (.slice a n cap)):=Boxed.new w 37 (.slice a n cap);have u:=z.o.cell;clear m B s;by_cases f:wS l b=0
 ·have k:Zq l b q=6:=by
   unfold Zq at c ⊢;rw [if_pos f] at c ⊢;by_cases h:0<=q/\q<l.length
   ·rw [if_pos h] at c;exact absurd rfl c
   ·rw [if_neg h]
  have C:q<0\/(n:Int)<=q:=by
   unfold Zq at c;rw [if_pos f] at c;by_cases h:0<=q/\q<l.length
   ·rw [if_pos h] at c;exact absurd rfl c
   have:=G.o;omega
  rw [k];rw [f] at i;have r:=zh i;clear i k c f;by_cases M:q<0
  ·clear C;refine (callsIn_wide (n:=4)).1 ?_;refine callsIn_of_wp_marks Tryz.func139 rfl trivial ?_ rfl;simp only [Tryz.ntmps139,List.size_toArray,List.length_cons,List.length_nil,Nat.reduceAdd,Nat.reduceSub,Array.replicate_succ,Array.replicate_zero,List.push_toArray,List.append_toArray,List.nil_append,List.cons_append]
   gi_wp2_with fail
   refine ⟨trivial,(callsIn_wide.2 r.o).mono ?_⟩;rintro e j ⟨y,F,E,rfl,p,_,d⟩;have g:=zh (za t.o d);have D:w.heap.size<=j.heap.size:=g.o.size;clear p d u
   gi_wp2
   exact ⟨_,results_tmp2 rfl _ _ _,none,0,0,rfl,ZJ _,g.o.alloc (by omega) _⟩
  ·have N:(n:Int)<=q:=(by omega);clear C;refine (callsIn_wide (n:=4)).1 ?_;refine callsIn_of_wp_marks Tryz.func139 rfl trivial ?_ rfl;simp only [Tryz.ntmps139,List.size_toArray,List.length_cons,List.length_nil,Nat.reduceAdd,Nat.reduceSub,Array.replicate_succ,Array.replicate_zero,List.push_toArray,List.append_toArray,List.nil_append,List.cons_append]
   gi_wp2_with fail
   refine ⟨trivial,(callsIn_wide.2 r.o).mono ?_⟩;rintro e j ⟨y,F,E,rfl,p,_,d⟩;have g:=zh (za t.o d);have A:Zh (Boxed j w.heap.size 37 (.slice a n cap)):=(d.block _ (by simp)).trans z.o;have H:=A.o.cell;have D:w.heap.size<j.heap.size:=A.o.lt;clear p d u
   gi_wp2
   exact ⟨_,results_tmp2 rfl _ _ _,none,0,0,rfl,ZJ _,g.o.alloc (by omega) _⟩
 ·have k:Zq l b q=wS l b:=if_neg f;rw [k];obtain ⟨v,x⟩:=qA (wS l b);rw [x] at i f;rw [x];have L:(v != 0)=true:=by simp [f]
  have r:=zh i;clear i k c x f;refine (callsIn_wide (n:=4)).1 ?_;refine callsIn_of_wp_marks Tryz.func139 rfl trivial ?_ rfl;simp only [Tryz.ntmps139,List.size_toArray,List.length_cons,List.length_nil,Nat.reduceAdd,Nat.reduceSub,Array.replicate_succ,Array.replicate_zero,List.push_toArray,List.append_toArray,List.nil_append,List.cons_append]
  gi_wp2_with fail
  refine ⟨trivial,(callsIn_wide.2 r.o).mono ?_⟩;rintro e j ⟨y,F,E,rfl,p,_,d⟩;have g:=zh (za t.o d);have D:w.heap.size<=j.heap.size:=g.o.size;clear p d u
  gi_wp2
  exact ⟨_,results_tmp2 rfl _ _ _,none,0,0,rfl,ZJ _,g.o.alloc (by omega) _⟩
theorem Mu (w:World) (a:Option Addr) (n cap:Nat) (l:QL) (d:QsIn w a n cap l) (ba:Option Addr) (bn bc:Nat) (b:BL) (f:BksIn w ba bn bc b) (q:Int) :
 zC 139 #[.slice a n cap,.slice ba bn bc,zI q] w fun e w'=>Uf w w' e (if Zq l b q=0 then xH l b q else [],Zq l b q):=by
 by_cases c:Zq l b q=0
 ·have g:wS l b=0:=by
   unfold Zq at c;by_cases h:wS l b=0
   ·exact h
   ·rw [if_neg h] at c;exact c
  have i:0<=q/\q<l.length:=by
   unfold Zq at c;rw [if_pos g] at c;by_cases h:0<=q/\q<l.length
   ·exact h
   rw [if_neg h] at c;simp at c
  rw [if_pos c,c];exact Kh w a n cap l d ba bn bc b f q g i.1 (by rw [d.len];exact i.2)
 ·rw [if_neg c];exact Mv w a n cap l d ba bn bc b f q c
def Rz (l:QL) (T:Nat->zd) (p:Int) (t:Nat):Int:=zn (qu l p.toNat).runs t-zn (T p.toNat) t
def VP (l:QL) (T:Nat->zd) (t:Nat):Int->List Int->Int
 | c,[]=>c
 | c,p::ps=>VP l T t (min c (Rz l T p t)) ps
theorem UU {l:QL} {b:BL} (h:Clean l b):∀ (c:List Int) (f:zd),zW f->(∀ p∈c,0<=p/\p<l.length)->zW (Zu l (zM l b b.length) f c)/\∀ t,t<48->zn (Zu l (zM l b b.length) f c) t=VP l (zM l b b.length) t (zn f t) c
 | [],f,hf,_=>⟨hf,fun t _=>rfl⟩
 | p::c,f,hf,hp=>by
  have r:=hp p (by simp);obtain ⟨c1,c2⟩:=Yx h.tree (p:=p.toNat) (by omega);obtain ⟨n,o⟩:=ZT h b.length (Nat.le_refl _) p.toNat;have q:=h.few;obtain ⟨d,_,g⟩:=Sr (jn:=fun x y=>x-y) c1 n (fun t a=>by have:=c2 t;have:=o t a;omega);obtain ⟨i,_,j⟩:=Sr (jn:=fun x y=>min x y) hf d (fun t a=>by have:=LN hf t;have:=LN d t;omega);obtain ⟨k,m⟩:=UU h c _ i (fun y e=>hp y (by simp [e]));refine ⟨k,fun t a=>?_⟩;rw [Zu,m t a,VP,j t a,g t a];rfl
theorem UC {l:QL} (b:Right l) {q:Int} (a:q<l.length):∀ x∈zK l q,0<=x/\x<l.length:=fun x c=>by
 have:=(Th b (q.toNat+1) q a (by omega)).2 x c;omega
theorem Tf:zW [(0,1048576)]:=zX.1 (by decide)
theorem XZ {l:QL} {b:BL} (h:Clean l b) {q:Int} (a:q<l.length):zW (xH l b q):=(UU h _ _ Tf (UC (yY h.tree) a)).1
def Qu.bare (q:Qu):Qu:=⟨q.name,q.parent,none,0,0,q.runs⟩
def zi (l:QL):QL:=l.map Qu.bare
def Rq.bare (r:Rq):Rq:=⟨r.queue,r.fr,r.un,r.kind,none,0,0,r.ps⟩
def Bk.bare (x:Bk):Bk:=⟨x.id,x.rq.bare,none,0,0,x.bs⟩
def zg (b:BL):BL:=b.map Bk.bare
theorem Z8 (l:QL) (i:Nat):qu (zi l) i=(qu l i).bare:=by
 unfold qu zi;rw [List.getD_eq_getElem?_getD,List.getD_eq_getElem?_getD,List.getElem?_map];cases l[i]? <;> rfl
theorem xp (b:BL) (i:Nat):bk (zg b) i=(bk b i).bare:=by
 unfold bk zg;rw [List.getD_eq_getElem?_getD,List.getD_eq_getElem?_getD,List.getElem?_map];cases b[i]? <;> rfl
theorem yv (l:QL):(zi l).length=l.length:=List.length_map _
theorem zF (b:BL):(zg b).length=b.length:=List.length_map _
theorem U5 {p:Qu->Bool} (a:∀ q,p q.bare=p q) (l:QL):∀ n,Yg p (zi l) n=Yg p l n
 | 0=>rfl
 | n+1=>by rw [Yg,Yg,U5 a l n,Z8,a]
theorem LU (l:QL) (i:Nat):nm (zi l) i=nm l i:=by unfold nm;rw [Z8];rfl
theorem WA (l:QL) (k:Nat):∀ m,yy (zi l) k m=yy l k m
 | 0=>rfl
 | m+1=>by rw [yy,yy,WA l k m,LU,LU]
theorem UH (l:QL):∀ n,yu (zi l) n=yu l n
 | 0=>rfl
 | n+1=>by rw [yu,yu,UH l n,WA]
theorem RQ (l:QL):∀ n,xK (zi l) n=xK l n
 | 0=>rfl
 | n+1=>by rw [xK,xK,RQ l n,Z8];rfl
theorem xi (l:QL):z9 (zi l)=z9 l:=by
 unfold z9 xC ZX;rw [yv,U5 (fun _=>rfl),UH,RQ,U5 (fun _=>rfl)]
theorem RA (l:QL):∀ f q,YI (zi l) f q=YI l f q
 | 0,_=>rfl
 | f+1,q=>by rw [YI,YI,Z8,RA l f];rfl
theorem WX (l:QL) (q:Int):zK (zi l) q=zK l q:=RA l 5 q
theorem S8 (l:QL) (r:Rq):yI (zi l) r.bare=yI l r:=by unfold yI;rw [xi,yv];rfl
theorem M8 (r:Rq) (b:zd):meets r.bare b=meets r b:=by kernel_rfl
theorem Y7 (l:QL) (x:Bk):ZZ (zi l) x.bare=ZZ l x:=by
 unfold ZZ;show (if yI (zi l) x.rq.bare=0 then (if meets x.rq.bare x.bs=true then 0 else 1) else yI (zi l) x.rq.bare)=_;rw [S8,M8]
theorem IM (l:QL) (b:BL) (e:Int):Uc (zi l) (zg b) e=Uc l b e:=by
 unfold Uc;rw [zF]
 congr 1
 funext i
 rw [xp,Y7]
theorem TQ (l:QL) (b:BL):∀ m k,Z4 (zi l) (zg b) k m=Z4 l b k m
 | 0,_=>rfl
 | m+1,k=>by rw [Z4,Z4,IM,TQ l b m]
theorem Tb (l:QL) (b:BL):wS (zi l) (zg b)=wS l b:=by unfold wS;rw [xi,zF,TQ]
theorem Sb (f:zd) (x:Bk):∀ k,wh f x.bare k=wh f x k
 | 0=>rfl
 | k+1=>by rw [wh,wh,Sb f x k];rfl
theorem TE (x:Bk):∀ (a:List Int) (T:Nat->zd),wZ x.bare T a=wZ x T a
 | [],_=>rfl
 | p::a,T=>by
  rw [wZ,wZ,TE x a]
  congr 1
  funext q
  rw [show x.bare.bs.length=x.bs.length from rfl,Sb]
theorem YZ (l:QL) (b:BL):∀ j,zM (zi l) (zg b) j=zM l b j
 | 0=>rfl
 | j+1=>by rw [zM,zM,YZ l b j,xp,WX,TE];rfl
theorem TR (l:QL) (T:Nat->zd) (fm:Int):∀ n,Zt (zi l) T fm n=Zt l T fm n
 | 0=>rfl
 | n+1=>by rw [Zt,Zt,TR l T fm n,Z8];rfl
theorem MV (l:QL) (b:BL) (fm:Int):Uy (zi l) (zg b) fm=Uy l b fm:=by unfold Uy;rw [Tb]
theorem MW (l:QL) (b:BL) (fm:Int):YS (zi l) (zg b) fm=YS l b fm:=by unfold YS;rw [MV,zF,yv,YZ,TR]
theorem T6 (l:QL) (T:Nat->zd):∀ (a:List Int) (f:zd),Zu (zi l) T f a=Zu l T f a
 | [],_=>rfl
 | p::a,f=>by rw [Zu,Zu,T6 l T a,Z8];rfl
theorem Lm (l:QL) (b:BL) (q:Int):xH (zi l) (zg b) q=xH l b q:=by unfold xH;rw [zF,YZ,WX,T6]
theorem Ll (l:QL) (b:BL) (q:Int):Zq (zi l) (zg b) q=Zq l b q:=by unfold Zq;rw [Tb,yv]
theorem MR (r:Rq) (f:zd):Zf r.bare f=Zf r f:=by kernel_rfl
theorem NG (r:Rq) (b:zd):yd r.bare b=yd r b:=by kernel_rfl
theorem UJ (r:Rq) (b:zd):∀ k,zJ r.bare b k=zJ r b k
 | 0=>rfl
 | k+1=>by rw [zJ,zJ,UJ r b k];rfl
def yA (x:Bk):Int:=if yd x.rq x.bs=true then zJ x.rq x.bs x.bs.length else 0
theorem Wm (x:Bk):yA x.bare=yA x:=by
 unfold yA;show (if yd x.rq.bare x.bs=true then zJ x.rq.bare x.bs x.bs.length else 0)=_;rw [NG,UJ]
def xd (b:BL) (i:Nat):Int:=if i=0 then 0 else (bk b (i-1)).id+1
def PV (b:BL) (next:Int) (i:Nat):Bool:=decide (xd b i<=(bk b i).id/\(bk b i).id<next)
def Oh (b:BL) (next:Int):Bool:=zQ (PV b next) b.length
def WV (b:BL) (t:Int):Bool:=!zQ (fun i=>!decide (yA (bk b i)<=t)) b.length
def zU (clock next:Int) (l:QL) (b:BL):Int :=
 if wS l b=0 then (if (0<=clock/\clock<=48)/\(0<=next/\next<=1048576) then (if Oh b next=true then (if WV b clock=true then 9 else (if YS l b clock=true then 0 else 10)) else 1) else 3) else wS l b
theorem Jr (b:BL) (next:Int):Oh (zg b) next=Oh b next:=by
 unfold Oh;rw [zF]
 congr 1
 funext i
 unfold PV xd;rw [xp,xp];rfl
theorem M4 (b:BL) (t:Int):WV (zg b) t=WV b t:=by
 unfold WV;rw [zF]
 congr 2
 funext i
 rw [xp,Wm]
theorem xQ (c n:Int) (l:QL) (b:BL):zU c n (zi l) (zg b)=zU c n l b:=by unfold zU;rw [Tb,Jr,M4,MW]
theorem Lg {c n:Int} {l d:QL} {b a:BL} (f:zi d=zi l) (e:zg a=zg b):zU c n d a=zU c n l b:=by rw [<-xQ,f,e,xQ]
structure Sound (clock next:Int) (l:QL) (b:BL):Prop where
 clean:Clean l b
 c0:0<=clock
 c48:clock<=48
 n0:0<=next
 n1:next<=1048576
 rise:∀ i,i<b.length->xd b i<=(bk b i).id/\(bk b i).id<next
 alive:∀ i,i<b.length->clock<yA (bk b i)
 fits:∀ q:Nat,q<l.length->∀ t:Nat,clock<=t->t<48->xh l b q t b.length<=zn (qu l q).runs t
theorem yZ {c n:Int} {l:QL} {b:BL} (h:zU c n l b=0):Sound c n l b:=by
 unfold zU at h;by_cases d:wS l b=0
 ·rw [if_pos d] at h;have m:=O8 d;by_cases a:(0<=c/\c<=48)/\(0<=n/\n<=1048576)
  ·rw [if_pos a] at h;by_cases e:Oh b n=true
   ·rw [if_pos e] at h;by_cases f:WV b c=true
    ·rw [if_pos f] at h;cases h
    rw [if_neg f] at h;by_cases j:YS l b c=true
    ·refine ⟨m,a.1.1,a.1.2,a.2.1,a.2.2,fun i g=>of_decide_eq_true (xv.1 e i g),fun i g=>?_,(Nj m a.1.1 a.1.2).1 j⟩;have o:zQ (fun i=>!decide (yA (bk b i)<=c)) b.length=true:=(by simpa [WV] using f);have k:=xv.1 o i g;simp at k;exact k
    rw [if_neg j] at h;cases h
   rw [if_neg e] at h;cases h
  rw [if_neg a] at h;cases h
 rw [if_neg d] at h;exact absurd h d
theorem YJ {c n:Int} {l:QL} {b:BL} (h:Sound c n l b):zU c n l b=0:=by
 unfold zU;have d:Oh b n=true:=xv.2 fun i a=>decide_eq_true (h.rise i a);have e:¬WV b c=true:=by
  have:zQ (fun i=>!decide (yA (bk b i)<=c)) b.length=true:=xv.2 fun i a=>by
   have:=h.alive i a;simp;exact this
  simp [WV,this]
 rw [if_pos (Xk h.clean),if_pos ⟨⟨h.c0,h.c48⟩,h.n0,h.n1⟩,if_pos d,if_neg e,if_pos ((Nj h.clean h.c0 h.c48).2 h.fits)]
theorem YG {c n:Int} {l:QL} {b:BL} (h:Sound c n l b):∀ {j:Nat},j<b.length->∀ {i:Nat},i<j->(bk b i).id<(bk b j).id
 | 0,_,i,hi=>by omega
 | j+1,hj,i,hi=>by
  have a:=(h.rise (j+1) hj).1;unfold xd at a;rw [if_neg (by omega),show j+1-1=j from rfl] at a;by_cases e:i=j
  ·subst e;omega
  have:=YG h (j:=j) (by omega) (i:=i) (by omega);omega
theorem PW {c n:Int} {l:QL} {b:BL} (h:Sound c n l b) {i:Nat} (d:i<b.length):0<=(bk b i).id/\(bk b i).id<n:=by
 refine ⟨?_,(h.rise i d).2⟩;have a:=(h.rise i d).1;unfold xd at a;by_cases e:i=0
 ·rw [if_pos e] at a;exact a
 have g:=YG h d (i:=0) (by omega);have f:=(h.rise 0 (by omega)).1;unfold xd at f;rw [if_pos rfl] at f;omega
theorem Pk {x:Bk} (h:meets x.rq x.bs=true):yd x.rq x.bs=true/\yA x=zJ x.rq x.bs x.bs.length:=by
 have:=La h;exact ⟨this,by unfold yA;rw [if_pos this]⟩
end Go.Proofs.YtckpdfkobdgjeaaGreatDoor
