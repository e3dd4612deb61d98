/- Several texts in one: RoomAll, PlanM. -/
import Derived.Test.YtckpdfkobdgjeaaGreatDoorJLoadAll
import Derived.Test.YtckpdfkobdgjeaaGreatDoorJAnyJ
import Derived.Test.YtckpdfkobdgjeaaGreatDoorJPlaceAll
namespace Go.Proofs.YtckpdfkobdgjeaaGreatDoor
set_option maxRecDepth 100000
set_option maxHeartbeats 4000000
open Go.RowKit Go.Shelf
attribute [local go_sem] Oper.semAt_some
set_option linter.unusedSectionVars false
variable [Inhabited Mk]
theorem Mn (w:World) (l m:Option Addr) (z A p q:Nat) (c d:zd) (j:RunsIn w l z p c) (k:RunsIn w m A q d) :
 zC 172 #[.slice l z p,.slice m A q] w fun e w'=>SC w w' e (xl (fun x y=>min x y) c d):=by
 cases f:(xe c&&xe d) with
 | false =>
  have h:xl (fun x y=>min x y) c d=([],1):=by simp only [xl,f];rfl
  rw [h];have t:(if (xe c&&xe d)=true then (0:Int) else 1)=1:=by rw [f];rfl
  go_enter Tryz.func172,Tryz.ntmps172;go_wp2_with fail
  refine (wP _ _ _ _ _ _ _ c d j k).mono ?_;rintro e D ⟨rfl,g⟩;rw [t];go_wp2;go_ret2
  exact Yk g
 | true =>
  have h:xl (fun x y=>min x y) c d=Yc (jv (fun x y=>min x y) c d):=by simp only [xl,f];rfl
  rw [h];have t:(if (xe c&&xe d)=true then (0:Int) else 1)=0:=by rw [f];rfl
  rw [Bool.and_eq_true] at f;have B:=zh (zX.1 f.1);have C:=zh (zX.1 f.2);obtain ⟨r,v⟩:=qB (Yc (jv (fun x y=>min x y) c d));rw [<-v];have E:=zh v;clear v h f;go_enter Tryz.func172,Tryz.ntmps172;go_wp2_with fail
  refine (wP _ _ _ _ _ _ _ c d j k).mono ?_;rintro e D ⟨rfl,g⟩;rw [t];go_wp2_with fail
  have u:=V4 188 _ Gj D l m z p A q c d (j.later g) (k.later g) B.o.rises C.o.rises (fun i s=>B.o.bdd (by rw [<-j.len];exact s)) (fun i s=>C.o.bdd (by rw [<-k.len];exact s));rw [<-E.o] at u;refine u.mono ?_;clear u;rintro e J ⟨a,n,F,rfl,h,G,H⟩;go_wp2;go_ret2
  exact ⟨a,n,F,rfl,h,za g G,fun b I e=>by have j:=H b I e;have k:=g.size;omega⟩
def Zu (l:QL) (T:Nat->zd) (f:zd):List Int->zd
 | []=>f
 | p::ps=>Zu l T (xl (fun x y=>min x y) f (xl (fun x y=>x-y) (qu l p.toNat).runs (T p.toNat)).1).1 ps
theorem T7 (l:QL) (T:Nat->zd):∀ (a:List Int) (f:zd) (p:Int),Zu l T f (a++[p])=(xl (fun x y=>min x y) (Zu l T f a) (xl (fun x y=>x-y) (qu l p.toNat).runs (T p.toNat)).1).1
 | [],f,p=>rfl
 | y::a,f,p=>by rw [List.cons_append,Zu,T7 l T a _ p];rfl
theorem GA {a:World} {B:Nat} {v:Value} (h:Boxed a B 25 v):a.rowIs B 25 1 (fun _=>v):=by
 refine ⟨#[v],h,rfl,fun i b=>?_⟩;obtain rfl:i=0:=by omega
 rfl
def xH (l:QL) (b:BL) (q:Int):zd:=Zu l (zM l b b.length) [(0,1048576)] (zK l q)
theorem Kh (w:World) (a:Option Addr) (n f:Nat) (l:QL) (r:QsIn w a n f l) (Z:Option Addr) (ab aa:Nat) (b:BL) (j:BksIn w Z ab aa b) (q:Int) (aD:wS l b=0) (ce:0<=q) (cg:q<n) :
 zC 139 #[.slice a n f,.slice Z ab aa,zI q] w fun e w'=>Uf w w' e (xH l b q,0):=by
 have aP:=zh r.len;have ca:=r.capb;have cb:=r.le;have ad:=(XU aD).1;have aQ:=zh (yY ad);have bc:0<n:=by have:=aQ.o.pos;have:=aP.o;omega
 obtain ⟨t,u,rfl,aE⟩:=r.cells bc;have b9:t<w.heap.size:=block_lt_of_cell (aE 0 bc).1;have aN:=zh aE;have bz:=zh r;have am:zL w (w.alloc (.cells #[.slice (zO t u) n f] 37)):=zr _ _;have N:=PM _ _ n f l (r.later am) Z ab aa b (j.later am);rw [aD] at N;have aO:=zh N;have bu:=zh am;have aR:Zh (xH l b q=Zu l (zM l b b.length) [(0,1048576)] (zK l q)):=rfl;obtain ⟨V,a0⟩:=qA (zM l b b.length);rw [a0] at aO aR;have cf:¬q<0:=by omega
 have ch:¬(n:Int)<=q:=by omega
 have aT:Zh (Boxed (w.alloc (.cells #[.slice (zO t u) n f] 37)) w.heap.size 37 (.slice (zO t u) n f)):=Boxed.new w 37 (.slice (zO t u) n f);have bG:=aT.o.cell;clear aE r j aD ad N am a0;refine (callsIn_wide (n:=4)).1 ?_;refine callsIn_of_wp_marks Tryz.func139 rfl trivial ?_ rfl;simp only [Tryz.ntmps139,List.size_toArray,List.length_cons,List.length_nil,Nat.reduceAdd,Nat.reduceSub,Array.replicate_succ,Array.replicate_zero,List.push_toArray,List.append_toArray,List.nil_append,List.cons_append]
 gi_wp2_with fail
 refine ⟨trivial,(callsIn_wide.2 aO.o).mono ?_⟩;rintro e m ⟨b0,co,cm,rfl,ad,_,aq⟩;obtain ⟨z,rfl,rfl,rfl,bg⟩:=ad rfl;have bD:=zh bg;have af:=zh (za bu.o aq);have ax:Zh (Boxed m w.heap.size 37 (.slice (zO t u) n f)):=(aq.block _ (by simp)).trans aT.o;have bH:=ax.o.cell;have bR:w.heap.size<m.heap.size:=ax.o.lt;have bS:w.heap.size<m.heap.size+1:=by omega
 have bT:w.heap.size<m.heap.size+1+1:=by omega
 have bM:¬w.heap.size=m.heap.size:=by omega
 have bN:¬w.heap.size=m.heap.size+1:=by omega
 have bO:¬w.heap.size=m.heap.size+1+1:=by omega
 clear ad bg aq bG
 gi_wp2_with fail
 refine ⟨trivial,(Hh Fence.wide _ trivial rfl _ _ _ ⟨_,_,_,rfl⟩).mono ?_⟩;rintro e cr ⟨rfl,rfl⟩
 gi_wp2_with fail
 have ah:=Boxed.new ((((m.alloc (.cells #[.slice (zO z 0) n n] 97)).alloc (.cells #[zI 0,zI 1048576] 55)).alloc (.cells #[.slice (zO (m.heap.size+1) 0) 1 1] 25)).alloc (.cells #[.slice (zO t u) n f] 37)) 3 (zI q);have ai:=(Boxed.new (((m.alloc (.cells #[.slice (zO z 0) n n] 97)).alloc (.cells #[zI 0,zI 1048576] 55)).alloc (.cells #[.slice (zO (m.heap.size+1) 0) 1 1] 25)) 37 (.slice (zO t u) n f)).alloc (.cells #[zI q] 3);have Y:=((Boxed.new ((m.alloc (.cells #[.slice (zO z 0) n n] 97)).alloc (.cells #[zI 0,zI 1048576] 55)) 25 (.slice (zO (m.heap.size+1) 0) 1 1)).alloc (.cells #[.slice (zO t u) n f] 37)).alloc (.cells #[zI q] 3);have ay:=(((((Boxed.new m 97 (.slice (zO z 0) n n)).alloc (.cells #[zI 0,zI 1048576] 55)).alloc (.cells #[.slice (zO (m.heap.size+1) 0) 1 1] 25)).alloc (.cells #[.slice (zO t u) n f] 37)).alloc (.cells #[zI q] 3));have U:=R7 (m.alloc (.cells #[.slice (zO z 0) n n] 97)) [(0,1048576)] #[zI 0,zI 1048576] 1 rfl rfl (by decide);have a3:Below ((m.alloc (.cells #[.slice (zO z 0) n n] 97)).alloc (.cells #[zI 0,zI 1048576] 55)).heap.size ((m.alloc (.cells #[.slice (zO z 0) n n] 97)).alloc (.cells #[zI 0,zI 1048576] 55)) (((((m.alloc (.cells #[.slice (zO z 0) n n] 97)).alloc (.cells #[zI 0,zI 1048576] 55)).alloc (.cells #[.slice (zO (m.heap.size+1) 0) 1 1] 25)).alloc (.cells #[.slice (zO t u) n f] 37)).alloc (.cells #[zI q] 3)):=((zr _ _).alloc (by simp) _).alloc (by simp only [World.size_alloc];omega) _
 replace U:=U.later a3
 simp only [World.size_alloc] at ah ai Y U;have az:zL m (((((m.alloc (.cells #[.slice (zO z 0) n n] 97)).alloc (.cells #[zI 0,zI 1048576] 55)).alloc (.cells #[.slice (zO (m.heap.size+1) 0) 1 1] 25)).alloc (.cells #[.slice (zO t u) n f] 37)).alloc (.cells #[zI q] 3)):=(((((Below.refl _ m).alloc (Nat.le_refl _) _).alloc (by simp) _).alloc (by simp only [World.size_alloc];omega) _).alloc (by simp only [World.size_alloc];omega) _).alloc (by simp only [World.size_alloc];omega) _;have bf:(((((m.alloc (.cells #[.slice (zO z 0) n n] 97)).alloc (.cells #[zI 0,zI 1048576] 55)).alloc (.cells #[.slice (zO (m.heap.size+1) 0) 1 1] 25)).alloc (.cells #[.slice (zO t u) n f] 37)).alloc (.cells #[zI q] 3)).heap.size=m.heap.size+5:=by simp
 obtain ⟨W0,a1⟩:=qA (((((m.alloc (.cells #[.slice (some ⟨z,0,none⟩) n n] 97)).alloc (.cells #[zI 0,zI 1048576] 55)).alloc (.cells #[.slice (some ⟨m.heap.size+1,0,none⟩) 1 1] 25)).alloc (.cells #[.slice (some ⟨t,u,none⟩) n f] 37)).alloc (.cells #[zI q] 3));rw [a1] at bf az ah ai Y ay U ⊢;clear a1 a3 bS bT bM bN bO bH;obtain ⟨S,aC⟩:=qA (m.heap.size);rw [aC] at bf ah ai Y ay U bR ⊢;have ag:=zh aC;have au:=zh az;clear aC az;have bn:Tk W0 W0 (S+1+1) 1 (fun _=>Zu l V [(0,1048576)] []):=⟨rfl,rfl,rfl,Nat.le_refl _,fun _ _ _=>rfl,fun _=>.slice (zO (S+1) 0) 1 1,GA Y,fun q bP=>⟨_,1,1,rfl,U,fun b bm e=>by cases e;omega⟩⟩;have bE:=zh bn;have bw:Zh (∀ i,i<n->W0.cell? (zA t (u+i*3+1))=some (zI (qu l i).parent)):=fun i bL=>cell_later au.o (cell_later af.o (aN.o i bL).2.1);have bQ:t<S:=by have:=af.o.size;have:=ag.o;omega
 clear bn U Y;refine wpIn_rangeFunc_ownG (F:=Fence.wide) rfl (by omega) (gf:=130) (lb:=#[.pointer (zO (S+1+1+1+1) 0),.pointer (zO (S+1+1+1) 0)]) rfl trivial (enters_of Tryz.func130 (by kernel_rfl) rfl)
  (Py Fence.wide _ trivial rfl (by omega) (S+1+1+1+1) (S+1+1+1) S t u n f l q aQ.o aP.o (by omega) W0 ah ai (by omega) bQ bw.o)
  YO.trans (Rs (by omega)) (Below.refl _ _) (fun _=>rfl)
  (fun aI A=>Tk W0 A (S+1+1) 1 (fun _=>Zu l V [(0,1048576)] (aI.map (·.1))))
  (fun _ _ _=>False)
  (Tk.own (Nat.le_refl _) (by omega))
  (fun c s X O row h _ _=>h)
  bE.o
  (fun x=>{ tmps:=#[.slice (zO t u) n f,.slice Z ab aa,zI q,.pointer (zO w.heap.size 0),undef,undef,zN,zI 0,.pointer (zO S 0),zI 0,.pointer (zO (S+1+1) 0),zI x.1,undef,undef,.tuple #[.slice (zO z 0) n n,zI 0],.slice (zO t u) n f,.slice Z ab aa,.tuple #[.slice (zO z 0) n n,zI 0],.slice (zO z 0) n n,zI 0,zI 0,.bool false,undef,zI q,.bool (decide (q<0)),.bool (decide (q<0)),zI q,.slice (zO t u) n f,zI n,.bool (decide ((n:Int)<=q)),.bool (decide (q<0)||decide ((n:Int)<=q)),.agg #[zI 0,zI 1048576],.slice (zO (S+1) 0) 1 1,.slice (zO t u) n f,zI q,.func (.func 130) #[] #[.pointer (zO (S+1+1+1+1) 0),.pointer (zO (S+1+1+1) 0)],zI x.1,undef,undef,undef,undef,undef,undef,undef,undef,undef,undef,undef,undef,undef,undef,undef,undef,undef,undef,undef,undef],defers:=[] }) ?assign ?body ?done ?stop
 case assign =>
  intro l x bY bX N
  gi_wp2
  exact N
 case body =>
  rintro cn aI x A J cc;obtain ⟨x,bU,cl⟩:=x;obtain ⟨P,rfl⟩:=Int.eq_ofNat_of_zero_le bU;have aB:P<n:=by omega
  have b8:(P:Int)<n:=by omega
  have cj:W0.heap.size<=A.heap.size:=J.size;have R:zL m A:=au.o.trans (J.below (B:=m.heap.size) (by have:=ag.o;omega) (by omega));have aF:zL w A:=za af.o R;have bq:=zh (cell_later R ax.o.cell);have br:=zh (J.box ay (by omega)).cell;have aM:=zh (cell_later aF (aN.o P aB).2.2);obtain ⟨aJ,aL,aK,a8,a9⟩:=bD.o.later R P aB;have bp:=zh a8;have a7:=(bz.o.caps P aB).later aF;have av:=zh fun O (a2:zL A O)=>QK O (qu l P).ca aJ (qu l P).cn aL (qu l P).cc aK (qu l P).runs (V P) (a7.later a2) (a9.later a2);obtain ⟨C,aA⟩:=qA (xl (fun x y=>x-y) (qu l P).runs (V P));rw [aA] at av;have bx:=zh aA;obtain ⟨aj,a4⟩:=qA ((qu l P).ca);obtain ⟨al,a6⟩:=qA ((qu l P).cn);obtain ⟨ak,a5⟩:=qA ((qu l P).cc);rw [a4,a6,a5] at aM av;obtain ⟨aS,bl,bj,aG,ap,ae,aH⟩:=J.at (q:=0) (by omega);have bs:=zh aG;have bt:=zh ap;have aw:=zh ae;have bF:=zh J;clear J a8 a9 a7 aA a4 a6 a5 aG ap ae aH R aF
  gi_wp2_with fail
  refine Sm ((Tryz.f139.body.bind fun c=>yi c 9).getD #[]) (by kernel_rfl) [zl (.slice (zO t u) n f),zl (zI P),zl (.pointer (zO t (u+P*3))),zl (.pointer (zO t (u+P*3+2))),zl (.slice aj al ak),zl (.slice (zO z 0) n n),zl (zI P),zl (.pointer (zO z P)),zl (.slice aJ aL aK),⟨fun v X=>∃ a n f,v=.tuple #[.slice a n f,zI C.2]/\RunsIn X a n f C.1,fun _ X O ⟨a,n,f,M,Q⟩ j=>⟨a,n,f,M,Q.later j⟩⟩,⟨fun v X=>∃ a n f,v=.tuple #[.slice a n f,zI C.2]/\RunsIn X a n f C.1,fun _ X O ⟨a,n,f,M,Q⟩ j=>⟨a,n,f,M,Q.later j⟩⟩,⟨fun v X=>∃ a n f,v=.slice a n f/\RunsIn X a n f C.1,fun _ X O ⟨a,n,f,M,Q⟩ j=>⟨a,n,f,M,Q.later j⟩⟩,zl (zI C.2),⟨fun v X=>∃ a n f,v=.slice a n f/\RunsIn X a n f C.1,fun _ X O ⟨a,n,f,M,Q⟩ j=>⟨a,n,f,M,Q.later j⟩⟩,zl (zI C.2)] [] (by kernel_rfl) (by kernel_rfl) (by kernel_rfl) (by kernel_rfl) ?hg ?hstep ?hfin
  case hg =>
   intro g hg v w h;cases hg
  case hstep =>
   refine zc.cons 1 rfl ?_ ?_
   ·intro T w' j r p;have H:T.getD 3 undef=.pointer (zO w.heap.size 0):=r 3;have b3:=cell_later j bq.o;exact zs (by go_simp) rfl
   refine zc.cons 2 rfl ?_ ?_
   ·intro T w' j r p;have H:T.getD 11 undef=zI P:=r 11;exact zs (by go_simp) rfl
   refine zc.cons 3 rfl ?_ ?_
   ·intro T w' j r p;have H:T.getD 38 undef=_:=p 0 38;have M:T.getD 39 undef=_:=p 1 39;exact zs (by go_simp) rfl
   refine zc.cons 4 rfl ?_ ?_
   ·intro T w' j r p;have H:T.getD 40 undef=_:=p 2 40;exact zs (by go_simp) rfl
   refine zc.cons 5 rfl ?_ ?_
   ·intro T w' j r p;have H:T.getD 41 undef=_:=p 3 41;have b4:=cell_later j aM.o;exact zs (by go_simp) rfl
   refine zc.cons 6 rfl ?_ ?_
   ·intro T w' j r p;have H:T.getD 8 undef=.pointer (zO S 0):=r 8;have b5:=cell_later j br.o;exact zs (by go_simp) rfl
   refine zc.cons 7 rfl ?_ ?_
   ·intro T w' j r p;have H:T.getD 11 undef=zI P:=r 11;exact zs (by go_simp) rfl
   refine zc.cons 8 rfl ?_ ?_
   ·intro T w' j r p;have H:T.getD 43 undef=_:=p 5 43;have M:T.getD 44 undef=_:=p 6 44;exact zs (by go_simp) rfl
   refine zc.cons 9 rfl ?_ ?_
   ·intro T w' j r p;have H:T.getD 45 undef=_:=p 7 45;have b2:=cell_later j bp.o;exact zs (by go_simp) rfl
   refine zc.cons 10 rfl ?_ ?_
   ·intro T w' j r p;have H:T.getD 42 undef=_:=p 4 42;have M:T.getD 46 undef=_:=p 8 46;refine Or.inr ⟨137,#[.slice aj al ak,.slice aJ aL aK],by go_simp,?_⟩;refine (av.o w' j).mono ?_;rintro e cq ⟨E,I,G,rfl,L,bJ⟩;exact ⟨_,rfl,⟨E,I,G,rfl,L⟩,bJ⟩
   refine zc.cons 11 rfl ?_ ?_
   ·intro T w' j r p;obtain ⟨E,I,G,H,L⟩:=p 9 47;exact Or.inl ⟨.tuple #[.slice E I G,zI C.2],w',by go_simp,⟨E,I,G,rfl,L⟩,Below.refl _ _⟩
   refine zc.cons 12 rfl ?_ ?_
   ·intro T w' j r p;obtain ⟨E,I,G,H,L⟩:=p 10 37;exact Or.inl ⟨.slice E I G,w',by go_simp,⟨E,I,G,rfl,L⟩,Below.refl _ _⟩
   refine zc.cons 13 rfl ?_ ?_
   ·intro T w' j r p;obtain ⟨E,I,G,H,L⟩:=p 10 37;exact zs (by go_simp) rfl
   refine zc.cons 14 rfl ?_ ?_
   ·intro T w' j r p;obtain ⟨E,I,G,H,L⟩:=p 11 48;exact Or.inl ⟨.slice E I G,w',by go_simp,⟨E,I,G,rfl,L⟩,Below.refl _ _⟩
   refine zc.cons 15 rfl ?_ ?_
   ·intro T w' j r p;have H:T.getD 49 undef=_:=p 12 49;exact zs (by go_simp) rfl
   exact trivial
  intro T w' j be r p;obtain ⟨E,I,G,aV,L⟩:=p 13 12;have aW:T.getD 13 undef=zI C.2:=p 14 13;rw [yb [true,true,true,true,true,true,true,true,true,true,true,true,false,false,true,true,true,true,true,true,true,true,true,true,true,true,true,true,true,true,true,true,true,true,true,true,true,false,false,false,false,false,false,false,false,false,false,false,false,false,true,true,true,true,true,true,true] (by kernel_rfl) be @r];obtain ⟨us,ao⟩:∃ us:Nat->Value,(fun d=>T.getD d undef)=us:=⟨_,rfl⟩;rw [ao];have aX:us 12=.slice E I G:=by rw [<-ao];exact aV
  have aY:us 13=zI C.2:=by rw [<-ao];exact aW
  simp only [xj,aX,aY];have aU:=cell_later j bs.o;have ar:=zh j;have bC:=zh L;have ck:A.heap.size<=w'.heap.size:=j.size;clear j L be r p aV aW aX aY ao
  gi_wp2_with fail
  refine ⟨trivial,(Xz (Mn w' aS E bl I bj G _ C.1 (aw.o.later ar.o) bC.o)).mono ?_⟩;rintro e bo ⟨b1,cp,c3,rfl,bd,an,bb⟩;have b6:=cell_later an aU;have b7:=(World.frozen?_of_block (w:=A) (a:=(zA (S+1+1) 0)) ((za ar.o an).block _ (by show S+1+1<_;omega))).trans bt.o;have W:=zh (za ar.o an);have bB:=zh bd;have bA:=zh bb;clear bd an bb aU
  gi_wp2
  refine ⟨?_,?_,?_⟩
  ·exact (KeepsOthers.trans (⟨W.o.size,fun k o ba _=>(W.o.block k (Array.getElem?_eq_some_iff.1 ba).1).trans ba⟩:KeepsOthers A bo) (KeepsOthers.setCell _ _ _)).from _
  ·exact ⟨(show Below S A bo from W.o.mono (by omega)).setCell (by show S<=S+1+1;omega) _,fun v bh=>(Below.heap_setCell _ _ _ _ (by simp only;omega)).trans ((W.o.block _ bh.lt).trans bh)⟩
  have:=(bF.o.later W.o).hit 0 bB.o (fun b bm e=>by have:=bA.o b bm e;omega);exact this.congr fun q bP=>by
   rw [if_pos (by omega),List.map_append,List.map_cons,List.map_nil,T7,Int.toNat_natCast,bx.o]
 case done =>
  rintro D cs A bI bi J N;rw [bi] at J;obtain ⟨aS,bl,bj,aG,ap,ae,aH⟩:=J.at (q:=0) (by omega);have bW:=zh J;have R:zL m A:=au.o.trans (J.below (B:=m.heap.size) (by have:=ag.o;omega) (by omega));have bv:=zh (za af.o R);have aw:=zh ae;have ci:W0.heap.size<=A.heap.size:=J.size;clear J bi ap ae aH R
  gi_wp2
  show LeavesInM _ _ _ _ _ _ (([D]:List Nat).map fun D=>{ target:=.collected D,args:=#[] }) _ _;refine XL (S+5) [D] A (by omega) (by simp) (fun bV aZ=>by simp at aZ;subst aZ;exact ⟨by omega,N⟩) (fun bZ j bK=>?_);refine ⟨_,results_tmp2 rfl _ _ _,_,_,_,rfl,by rw [aR.o];exact aw.o.kept bK,bv.o.trans (j.mono (by have:=ag.o;omega))⟩
 case stop =>
  rintro D c aI A bI cd h N;cases h
def Zq (l:QL) (b:BL) (q:Int):Int:=if wS l b=0 then (if 0<=q/\q<l.length then 0 else 6) else wS l b
theorem Mv (w:World) (a:Option Addr) (n f:Nat) (l:QL) (p:QsIn w a n f l) (v:Option Addr) (y x:Nat) (b:BL) (F:BksIn w v y x b) (q:Int) (c:Zq l b q≠0) :
 zC 139 #[.slice a n f,.slice v y x,zI q] w fun e w'=>Uf w w' e ([],Zq l b q):=by
 have N:=p.capb;have O:=p.le;have L:=zh p.len;have t:zL w (w.alloc (.cells #[.slice a n f] 37)):=zr _ _;have j:=PM _ _ n f l (p.later t) v y x b (F.later t);have u:=zh t;have D:Zh (Boxed (w.alloc (.cells #[.slice a n f] 37)) w.heap.size 37 (.slice a n f)):=Boxed.new w 37 (.slice a n f);have z:=D.o.cell;clear p F t;by_cases g:wS l b=0
 ·have m:Zq l b q=6:=by
   unfold Zq at c ⊢;rw [if_pos g] at c ⊢;by_cases h:0<=q/\q<l.length
   ·rw [if_pos h] at c;exact absurd rfl c
   ·rw [if_neg h]
  have G:q<0\/(n:Int)<=q:=by
   unfold Zq at c;rw [if_pos g] at c;by_cases h:0<=q/\q<l.length
   ·rw [if_pos h] at c;exact absurd rfl c
   have:=L.o;omega
  rw [m];rw [g] at j;have s:=zh j;clear j m c g;by_cases Q:q<0
  ·clear G;refine (callsIn_wide (n:=4)).1 ?_;refine callsIn_of_wp_marks Tryz.func139 rfl trivial ?_ rfl;simp only [Tryz.ntmps139,List.size_toArray,List.length_cons,List.length_nil,Nat.reduceAdd,Nat.reduceSub,Array.replicate_succ,Array.replicate_zero,List.push_toArray,List.append_toArray,List.nil_append,List.cons_append]
   gi_wp2_with fail
   refine ⟨trivial,(callsIn_wide.2 s.o).mono ?_⟩;rintro e k ⟨C,J,I,rfl,r,_,d⟩;have i:=zh (za u.o d);have H:w.heap.size<=k.heap.size:=i.o.size;clear r d z
   gi_wp2
   exact ⟨_,results_tmp2 rfl _ _ _,none,0,0,rfl,ZJ _,i.o.alloc (by omega) _⟩
  ·have R:(n:Int)<=q:=(by omega);clear G;refine (callsIn_wide (n:=4)).1 ?_;refine callsIn_of_wp_marks Tryz.func139 rfl trivial ?_ rfl;simp only [Tryz.ntmps139,List.size_toArray,List.length_cons,List.length_nil,Nat.reduceAdd,Nat.reduceSub,Array.replicate_succ,Array.replicate_zero,List.push_toArray,List.append_toArray,List.nil_append,List.cons_append]
   gi_wp2_with fail
   refine ⟨trivial,(callsIn_wide.2 s.o).mono ?_⟩;rintro e k ⟨C,J,I,rfl,r,_,d⟩;have i:=zh (za u.o d);have E:Zh (Boxed k w.heap.size 37 (.slice a n f)):=(d.block _ (by simp)).trans D.o;have M:=E.o.cell;have H:w.heap.size<k.heap.size:=E.o.lt;clear r d z
   gi_wp2
   exact ⟨_,results_tmp2 rfl _ _ _,none,0,0,rfl,ZJ _,i.o.alloc (by omega) _⟩
 ·have m:Zq l b q=wS l b:=if_neg g;rw [m];obtain ⟨A,B⟩:=qA (wS l b);rw [B] at j g;rw [B];have P:(A != 0)=true:=by simp [g]
  have s:=zh j;clear j m c B g;refine (callsIn_wide (n:=4)).1 ?_;refine callsIn_of_wp_marks Tryz.func139 rfl trivial ?_ rfl;simp only [Tryz.ntmps139,List.size_toArray,List.length_cons,List.length_nil,Nat.reduceAdd,Nat.reduceSub,Array.replicate_succ,Array.replicate_zero,List.push_toArray,List.append_toArray,List.nil_append,List.cons_append]
  gi_wp2_with fail
  refine ⟨trivial,(callsIn_wide.2 s.o).mono ?_⟩;rintro e k ⟨C,J,I,rfl,r,_,d⟩;have i:=zh (za u.o d);have H:w.heap.size<=k.heap.size:=i.o.size;clear r d z
  gi_wp2
  exact ⟨_,results_tmp2 rfl _ _ _,none,0,0,rfl,ZJ _,i.o.alloc (by omega) _⟩
theorem Mu (w:World) (a:Option Addr) (n i:Nat) (l:QL) (j:QsIn w a n i l) (d:Option Addr) (g f:Nat) (b:BL) (k:BksIn w d g f b) (q:Int) :
 zC 139 #[.slice a n i,.slice d g f,zI q] w fun e w'=>Uf w w' e (if Zq l b q=0 then xH l b q else [],Zq l b q):=by
 by_cases c:Zq l b q=0
 ·have m:wS l b=0:=by
   unfold Zq at c;by_cases h:wS l b=0
   ·exact h
   ·rw [if_neg h] at c;exact c
  have o:0<=q/\q<l.length:=by
   unfold Zq at c;rw [if_pos m] at c;by_cases h:0<=q/\q<l.length
   ·exact h
   rw [if_neg h] at c;simp at c
  rw [if_pos c,c];exact Kh w a n i l j d g f b k q m o.1 (by rw [j.len];exact o.2)
 ·rw [if_neg c];exact Mv w a n i l j d g f b k q c
def Rz (l:QL) (T:Nat->zd) (p:Int) (t:Nat):Int:=zn (qu l p.toNat).runs t-zn (T p.toNat) t
def VP (l:QL) (T:Nat->zd) (t:Nat):Int->List Int->Int
 | c,[]=>c
 | c,p::ps=>VP l T t (min c (Rz l T p t)) ps
theorem UU {l:QL} {b:BL} (h:Clean l b):∀ (c:List Int) (f:zd),zW f->(∀ p∈c,0<=p/\p<l.length)->zW (Zu l (zM l b b.length) f c)/\∀ t,t<48->zn (Zu l (zM l b b.length) f c) t=VP l (zM l b b.length) t (zn f t) c
 | [],f,hf,_=>⟨hf,fun t _=>rfl⟩
 | p::c,f,hf,hp=>by
  have r:=hp p (by simp);obtain ⟨c1,c2⟩:=Yx h.tree (p:=p.toNat) (by omega);obtain ⟨n,o⟩:=ZT h b.length (Nat.le_refl _) p.toNat;have q:=h.few;obtain ⟨d,_,g⟩:=Sr (jn:=fun x y=>x-y) c1 n (fun t a=>by have:=c2 t;have:=o t a;omega);obtain ⟨i,_,j⟩:=Sr (jn:=fun x y=>min x y) hf d (fun t a=>by have:=LN hf t;have:=LN d t;omega);obtain ⟨k,m⟩:=UU h c _ i (fun y e=>hp y (by simp [e]));refine ⟨k,fun t a=>?_⟩;rw [Zu,m t a,VP,j t a,g t a];rfl
theorem UC {l:QL} (b:Right l) {q:Int} (a:q<l.length):∀ x∈zK l q,0<=x/\x<l.length:=fun x c=>by
 have:=(Th b (q.toNat+1) q a (by omega)).2 x c;omega
theorem Tf:zW [(0,1048576)]:=zX.1 (by decide)
theorem XZ {l:QL} {b:BL} (h:Clean l b) {q:Int} (a:q<l.length):zW (xH l b q):=(UU h _ _ Tf (UC (yY h.tree) a)).1
def Qu.bare (q:Qu):Qu:=⟨q.name,q.parent,none,0,0,q.runs⟩
def zi (l:QL):QL:=l.map Qu.bare
def Rq.bare (r:Rq):Rq:=⟨r.queue,r.fr,r.un,r.kind,none,0,0,r.ps⟩
def Bk.bare (x:Bk):Bk:=⟨x.id,x.rq.bare,none,0,0,x.bs⟩
def zg (b:BL):BL:=b.map Bk.bare
theorem Z8 (l:QL) (i:Nat):qu (zi l) i=(qu l i).bare:=by
 unfold qu zi;rw [List.getD_eq_getElem?_getD,List.getD_eq_getElem?_getD,List.getElem?_map];cases l[i]? <;> rfl
theorem xp (b:BL) (i:Nat):bk (zg b) i=(bk b i).bare:=by
 unfold bk zg;rw [List.getD_eq_getElem?_getD,List.getD_eq_getElem?_getD,List.getElem?_map];cases b[i]? <;> rfl
theorem yv (l:QL):(zi l).length=l.length:=List.length_map _
theorem zF (b:BL):(zg b).length=b.length:=List.length_map _
theorem U5 {p:Qu->Bool} (a:∀ q,p q.bare=p q) (l:QL):∀ n,Yg p (zi l) n=Yg p l n
 | 0=>rfl
 | n+1=>by rw [Yg,Yg,U5 a l n,Z8,a]
theorem LU (l:QL) (i:Nat):nm (zi l) i=nm l i:=by unfold nm;rw [Z8];rfl
theorem WA (l:QL) (k:Nat):∀ m,yy (zi l) k m=yy l k m
 | 0=>rfl
 | m+1=>by rw [yy,yy,WA l k m,LU,LU]
theorem UH (l:QL):∀ n,yu (zi l) n=yu l n
 | 0=>rfl
 | n+1=>by rw [yu,yu,UH l n,WA]
theorem RQ (l:QL):∀ n,xK (zi l) n=xK l n
 | 0=>rfl
 | n+1=>by rw [xK,xK,RQ l n,Z8];rfl
theorem xi (l:QL):z9 (zi l)=z9 l:=by
 unfold z9 xC ZX;rw [yv,U5 (fun _=>rfl),UH,RQ,U5 (fun _=>rfl)]
theorem RA (l:QL):∀ f q,YI (zi l) f q=YI l f q
 | 0,_=>rfl
 | f+1,q=>by rw [YI,YI,Z8,RA l f];rfl
theorem WX (l:QL) (q:Int):zK (zi l) q=zK l q:=RA l 5 q
theorem S8 (l:QL) (r:Rq):yI (zi l) r.bare=yI l r:=by unfold yI;rw [xi,yv];rfl
theorem M8 (r:Rq) (b:zd):meets r.bare b=meets r b:=by kernel_rfl
theorem Y7 (l:QL) (x:Bk):ZZ (zi l) x.bare=ZZ l x:=by
 unfold ZZ;show (if yI (zi l) x.rq.bare=0 then (if meets x.rq.bare x.bs=true then 0 else 1) else yI (zi l) x.rq.bare)=_;rw [S8,M8]
theorem IM (l:QL) (b:BL) (e:Int):Uc (zi l) (zg b) e=Uc l b e:=by
 unfold Uc;rw [zF]
 congr 1
 funext i
 rw [xp,Y7]
theorem TQ (l:QL) (b:BL):∀ m k,Z4 (zi l) (zg b) k m=Z4 l b k m
 | 0,_=>rfl
 | m+1,k=>by rw [Z4,Z4,IM,TQ l b m]
theorem Tb (l:QL) (b:BL):wS (zi l) (zg b)=wS l b:=by unfold wS;rw [xi,zF,TQ]
theorem Sb (f:zd) (x:Bk):∀ k,wh f x.bare k=wh f x k
 | 0=>rfl
 | k+1=>by rw [wh,wh,Sb f x k];rfl
theorem TE (x:Bk):∀ (a:List Int) (T:Nat->zd),wZ x.bare T a=wZ x T a
 | [],_=>rfl
 | p::a,T=>by
  rw [wZ,wZ,TE x a]
  congr 1
  funext q
  rw [show x.bare.bs.length=x.bs.length from rfl,Sb]
theorem YZ (l:QL) (b:BL):∀ j,zM (zi l) (zg b) j=zM l b j
 | 0=>rfl
 | j+1=>by rw [zM,zM,YZ l b j,xp,WX,TE];rfl
theorem TR (l:QL) (T:Nat->zd) (fm:Int):∀ n,Zt (zi l) T fm n=Zt l T fm n
 | 0=>rfl
 | n+1=>by rw [Zt,Zt,TR l T fm n,Z8];rfl
theorem MV (l:QL) (b:BL) (fm:Int):Uy (zi l) (zg b) fm=Uy l b fm:=by unfold Uy;rw [Tb]
theorem MW (l:QL) (b:BL) (fm:Int):YS (zi l) (zg b) fm=YS l b fm:=by unfold YS;rw [MV,zF,yv,YZ,TR]
theorem T6 (l:QL) (T:Nat->zd):∀ (a:List Int) (f:zd),Zu (zi l) T f a=Zu l T f a
 | [],_=>rfl
 | p::a,f=>by rw [Zu,Zu,T6 l T a,Z8];rfl
theorem Lm (l:QL) (b:BL) (q:Int):xH (zi l) (zg b) q=xH l b q:=by unfold xH;rw [zF,YZ,WX,T6]
theorem Ll (l:QL) (b:BL) (q:Int):Zq (zi l) (zg b) q=Zq l b q:=by unfold Zq;rw [Tb,yv]
theorem MR (r:Rq) (f:zd):Zf r.bare f=Zf r f:=by kernel_rfl
theorem NG (r:Rq) (b:zd):yd r.bare b=yd r b:=by kernel_rfl
theorem UJ (r:Rq) (b:zd):∀ k,zJ r.bare b k=zJ r b k
 | 0=>rfl
 | k+1=>by rw [zJ,zJ,UJ r b k];rfl
def yA (x:Bk):Int:=if yd x.rq x.bs=true then zJ x.rq x.bs x.bs.length else 0
theorem Wm (x:Bk):yA x.bare=yA x:=by
 unfold yA;show (if yd x.rq.bare x.bs=true then zJ x.rq.bare x.bs x.bs.length else 0)=_;rw [NG,UJ]
def xd (b:BL) (i:Nat):Int:=if i=0 then 0 else (bk b (i-1)).id+1
def PV (b:BL) (next:Int) (i:Nat):Bool:=decide (xd b i<=(bk b i).id/\(bk b i).id<next)
def Oh (b:BL) (next:Int):Bool:=zQ (PV b next) b.length
def WV (b:BL) (t:Int):Bool:=!zQ (fun i=>!decide (yA (bk b i)<=t)) b.length
def zU (clock next:Int) (l:QL) (b:BL):Int :=
 if wS l b=0 then (if (0<=clock/\clock<=48)/\(0<=next/\next<=1048576) then (if Oh b next=true then (if WV b clock=true then 9 else (if YS l b clock=true then 0 else 10)) else 1) else 3) else wS l b
theorem Jr (b:BL) (next:Int):Oh (zg b) next=Oh b next:=by
 unfold Oh;rw [zF]
 congr 1
 funext i
 unfold PV xd;rw [xp,xp];rfl
theorem M4 (b:BL) (t:Int):WV (zg b) t=WV b t:=by
 unfold WV;rw [zF]
 congr 2
 funext i
 rw [xp,Wm]
theorem xQ (c n:Int) (l:QL) (b:BL):zU c n (zi l) (zg b)=zU c n l b:=by unfold zU;rw [Tb,Jr,M4,MW]
theorem Lg {c n:Int} {l d:QL} {b a:BL} (f:zi d=zi l) (e:zg a=zg b):zU c n d a=zU c n l b:=by rw [<-xQ,f,e,xQ]
structure Sound (clock next:Int) (l:QL) (b:BL):Prop where
 clean:Clean l b
 c0:0<=clock
 c48:clock<=48
 n0:0<=next
 n1:next<=1048576
 rise:∀ i,i<b.length->xd b i<=(bk b i).id/\(bk b i).id<next
 alive:∀ i,i<b.length->clock<yA (bk b i)
 fits:∀ q:Nat,q<l.length->∀ t:Nat,clock<=t->t<48->xh l b q t b.length<=zn (qu l q).runs t
theorem yZ {c n:Int} {l:QL} {b:BL} (h:zU c n l b=0):Sound c n l b:=by
 unfold zU at h;by_cases d:wS l b=0
 ·rw [if_pos d] at h;have m:=O8 d;by_cases a:(0<=c/\c<=48)/\(0<=n/\n<=1048576)
  ·rw [if_pos a] at h;by_cases e:Oh b n=true
   ·rw [if_pos e] at h;by_cases f:WV b c=true
    ·rw [if_pos f] at h;cases h
    rw [if_neg f] at h;by_cases j:YS l b c=true
    ·refine ⟨m,a.1.1,a.1.2,a.2.1,a.2.2,fun i g=>of_decide_eq_true (xv.1 e i g),fun i g=>?_,(Nj m a.1.1 a.1.2).1 j⟩;have o:zQ (fun i=>!decide (yA (bk b i)<=c)) b.length=true:=(by simpa [WV] using f);have k:=xv.1 o i g;simp at k;exact k
    rw [if_neg j] at h;cases h
   rw [if_neg e] at h;cases h
  rw [if_neg a] at h;cases h
 rw [if_neg d] at h;exact absurd h d
theorem YJ {c n:Int} {l:QL} {b:BL} (h:Sound c n l b):zU c n l b=0:=by
 unfold zU;have d:Oh b n=true:=xv.2 fun i a=>decide_eq_true (h.rise i a);have e:¬WV b c=true:=by
  have:zQ (fun i=>!decide (yA (bk b i)<=c)) b.length=true:=xv.2 fun i a=>by
   have:=h.alive i a;simp;exact this
  simp [WV,this]
 rw [if_pos (Xk h.clean),if_pos ⟨⟨h.c0,h.c48⟩,h.n0,h.n1⟩,if_pos d,if_neg e,if_pos ((Nj h.clean h.c0 h.c48).2 h.fits)]
theorem YG {c n:Int} {l:QL} {b:BL} (h:Sound c n l b):∀ {j:Nat},j<b.length->∀ {i:Nat},i<j->(bk b i).id<(bk b j).id
 | 0,_,i,hi=>by omega
 | j+1,hj,i,hi=>by
  have a:=(h.rise (j+1) hj).1;unfold xd at a;rw [if_neg (by omega),show j+1-1=j from rfl] at a;by_cases e:i=j
  ·subst e;omega
  have:=YG h (j:=j) (by omega) (i:=i) (by omega);omega
theorem PW {c n:Int} {l:QL} {b:BL} (h:Sound c n l b) {i:Nat} (d:i<b.length):0<=(bk b i).id/\(bk b i).id<n:=by
 refine ⟨?_,(h.rise i d).2⟩;have a:=(h.rise i d).1;unfold xd at a;by_cases e:i=0
 ·rw [if_pos e] at a;exact a
 have g:=YG h d (i:=0) (by omega);have f:=(h.rise 0 (by omega)).1;unfold xd at f;rw [if_pos rfl] at f;omega
theorem Pk {x:Bk} (h:meets x.rq x.bs=true):yd x.rq x.bs=true/\yA x=zJ x.rq x.bs x.bs.length:=by
 have:=La h;exact ⟨this,by unfold yA;rw [if_pos this]⟩
end Go.Proofs.YtckpdfkobdgjeaaGreatDoor
