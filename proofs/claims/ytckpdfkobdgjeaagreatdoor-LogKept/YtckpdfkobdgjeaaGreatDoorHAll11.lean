/- Several texts in one: CutB, CutU, CutC, CutD. -/
import Derived.RangeFuncNested
import Derived.Test.YtckpdfkobdgjeaaGreatDoorHAll10
import Derived.Test.YtckpdfkobdgjeaaGreatDoorHAny
namespace Go.Proofs.YtckpdfkobdgjeaaGreatDoor
set_option maxRecDepth 100000
set_option maxHeartbeats 4000000
open Go.RowKit
open Go.RowKit Go.Shelf
open Go.RowKit Go.Shelf
attribute [local go_sem] Oper.semAt_some
def yw (l:QL) (b:BL) (t:Int) (q:Nat):Bool:=decide ((Yv (UA l b q) t).1<0)
theorem MT (w:World) (T:Nat) (t:Int) (h:w.cell? (zA T 0)=some (zI t)) (fa:Option Addr) (fm fc:Nat) (f:zd) (b:RunsIn w fa fm fc f) :
 zC 175 #[.slice fa fm fc,.pointer (zO T 0)] w fun e w'=>e=.returned (.bool (decide ((Yv f t).1<0)))/\Below w.heap.size w w':=by
 have a:=Ki w fa fm fc f t b;obtain ⟨x,c⟩:=qA (Yv f t);rw [c] at a ⊢;have d:=zh a;clear a c b;go_enter Tryz.func175,Tryz.ntmps175;go_wp2_with fail
 refine d.o.mono ?_;rintro e i ⟨rfl,g⟩;go_wp2;go_ret;exact ⟨rfl,g⟩
def Fy (p:Nat->Bool) (n:Nat) (r:Int):Prop:=(r=-1/\∀ i,i<n->p i=false)\/∃ k:Nat,k<n/\r=k/\p k=true/\∀ i,i<k->p i=false
theorem OI (d:Nat) (x:Array Value) (p:Nat->Bool) (J:∀ (args:Array Value) (w:World),(callFunc d args).run Tryz.prog w=.ok (.enter d args) w) (w:World) (t n:Nat) (hn:n<=5) (T:Nat->zd) (h:Vx w t n T)
 (B:∀ w',Below w.heap.size w w'->∀ i,i<n->∀ (a:Option Addr) (m c:Nat),RunsIn w' a m c (T i)->zC d (#[.slice a m c]++x) w' fun e F=>e=.returned (.bool (p i))/\Below w'.heap.size w' F) :
 zC 174 #[.slice (zO t 0) n n,.func (.func d) #[] x] w fun e w'=>∃ r:Int,e=.returned (zI r)/\Fy p n r/\Below w.heap.size w w':=by
 have E:=zh h;have u:=zh B;clear h B;go_enter Tryz.func174,Tryz.ntmps174;go_wp2;go_loopw [5,8] (fun _ s wr=>∃ k:Nat,s=zI k/\k<=n/\(∀ i,i<k->p i=false)/\zL w wr) (fun _ s _=>n-(intOf s).toNat)
 case atStart=>exact ⟨0,rfl,by omega,fun i A=>absurd A (Nat.not_lt_zero i),Below.refl _ _⟩
 case round =>
  obtain ⟨j,rfl,I,y,z⟩:=hrel;have q:=zh y;have b:=zh z;clear y z;by_cases l:j<n
  ·have L:(j:Int)<n:=(by omega);obtain ⟨a,m,c,H,C⟩:=(E.o.later b.o) j l;have v:=zh C;clear C;cases g:p j with
   | true =>
    go_wp2_with fail
    refine (u.o wr b.o j l a m c v.o).mono ?_;rintro e G ⟨rfl,f⟩;rw [g];go_wp2;go_ret;exact ⟨_,rfl,Or.inr ⟨j,l,rfl,g,q.o⟩,za b.o f⟩
   | false =>
    go_wp2_with fail
    refine (u.o wr b.o j l a m c v.o).mono ?_;rintro e G ⟨rfl,f⟩;have D:=zh f;clear f;rw [g];go_wp2;go_roundw
    case rel=>exact ⟨j+1,by go_num,by omega,fun i A=>by
     by_cases e:i=j
     ·subst e;exact g
     exact q.o i (by omega),za b.o D.o⟩
    case measure=>simp [intOf];omega
  obtain rfl:j=n:=by omega
  go_wp2;go_ret;exact ⟨_,rfl,Or.inl ⟨rfl,q.o⟩,b.o⟩
def XO (c:Int) (l:QL) (b:BL) (tn:Nat) (t q:Int) (f:Bool):Prop :=
 (f=false/\t=0/\q=0/\∀ u,c<=u->u<48->∀ k,k<tn->yw l b u k=false) \/
 (f=true/\c<=t/\t<48/\∃ k:Nat,k<tn/\q=k/\yw l b t k=true/\(∀ i,i<k->yw l b t i=false)/\∀ u,c<=u->u<t->∀ i,i<tn->yw l b u i=false)
def Mj (w w':World) (e:Ending) (c:Int) (l:QL) (b:BL) (tn:Nat):Prop:=∃ t q f,e=.returned (.tuple #[zI t,zI q,.bool f])/\XO c l b tn t q f/\Below w.heap.size w w'
theorem Q8 (w:World) (c n:Int) (x:Option Addr) (f y:Nat) (l:QL) (ba:Option Addr) (bn bc:Nat) (b:BL) (h:zY w x f y l ba bn bc b) (H:wS l b=0) (au:0<=c) (ao:c<=48) :
 zC 144 #[.agg (zS c n x f y ba bn bc)] w fun e w'=>Mj w w' e c l b f:=by
 obtain ⟨S,F⟩:=qA (w.heap.size);obtain ⟨u,v⟩:=qB (w.alloc (.cells (zS c n x f y ba bn bc) 40));have G:zL w u:=by rw [v];exact zr _ _
 have J:zj u S (zI c) (zI n) (.slice x f y) (.slice ba bn bc):=by rw [v,<-F];exact zj.new w _ _ _ _
 have ah:f<=5:=by have:=(yY (XU H).1).five;have:=h.1.len;omega
 have af:=zh (Jh u c n x f y l ba bn bc b (h.later G) H);have ab:=zh J;have z:=zh G;have aa:=zh v;obtain ⟨D,c1,c2,c3⟩:=J.cells;rw [v] at D c1 c2 c3;clear G v h J H;go_enter Tryz.func144,Tryz.ntmps144;go_wp2_with fail
 rw [<-aa.o];refine af.o.mono ?_;rintro e U ⟨V,rfl,ai,M,g⟩;have A:=zh g;have Z:=zh M;have ad:=zh (ab.o.later g);clear M ai g D c1 c2 c3;obtain ⟨D,c1,c2,c3⟩:=ad.o.cells;go_wp2;go_loopw [6] (fun p wr=>∃ (P:Nat) (t:Int),p=.pointer (zO P 0)/\wr.cell? (zA P 0)=some (zI t)/\c<=t/\t<=48/\(∀ q,c<=q->q<t->∀ i,i<f->yw l b q i=false)/\zL U wr) (fun p wr=>(48-intOf (wr.cell? (match p with | .pointer (some a)=>a | _=>(zA 0 0)) |>.getD undef)).toNat)
 case atStart=>exact ⟨U.heap.size,c,rfl,by go_simp,Int.le_refl _,ao,fun q L ag=>by omega,zr _ _⟩
 case round =>
  obtain ⟨P,t,rfl,E,am,ar,R,N⟩:=hrel;have B:=zh R;have d:=zh N;have C:=zh E;clear R N;by_cases ak:t<48
  ·have ae:=zh (OI 175 #[.pointer (zO P 0)] (yw l b t) (fun args w=>by go_simp) wr V f ah (UA l b) (Z.o.later d.o) (fun w' an i I a m k s=>MT w' P t (cell_later an C.o) a m k _ s));go_wp2_with fail
   refine ae.o.mono ?_;rintro e ap ⟨r,rfl,s,g⟩;have j:=zh g;have av:=cell_later g C.o;rcases s with ⟨rfl,s⟩ | ⟨k,aj,rfl,O,Q⟩
   ·have Y:=zh s;clear s g E;go_wp2;go_roundw
    case rel=>exact ⟨ap.heap.size,t+1,by first | rfl | go_simp,by first | go_simp | (go_simp;go_num),by omega,by omega,fun q L ag i I=>by
     by_cases e:q=t
     ·subst e;exact Y.o i I
     exact B.o q L (by omega) i I,by first | exact (za d.o j.o).alloc (za d.o j.o).size _ | exact ((za d.o j.o).alloc (za d.o j.o).size _).setCell (by simp;exact (za d.o j.o).size) _⟩
    case measure =>
     have al:=C.o;simp [al,intOf];omega
   have W:=zh O;have X:=zh Q;have aq:(0:Int)<=k:=(by omega);clear O Q g E;go_wp2;go_ret3
   refine ⟨t,k,true,rfl,Or.inr ⟨rfl,am,ak,k,aj,rfl,W.o,X.o,B.o⟩,?_⟩
   first | exact za z.o (za A.o (za d.o j.o)) | (rw [<-F];exact za z.o (za A.o (za d.o j.o)))
  obtain rfl:t=48:=by omega
  go_wp2;go_ret3
  refine ⟨0,0,false,rfl,Or.inl ⟨rfl,rfl,rfl,B.o⟩,?_⟩
  first | exact za z.o (za A.o d.o) | (rw [<-F];exact za z.o (za A.o d.o))
theorem S7 (w:World) (a:Option Addr) (n cap:Nat) (l:QL) (q:Int) (h:QsIn w a n cap l) :
 zC 189 #[.slice a n cap,zI q] w fun e w'=>e=.returned (zI (Lj l q))/\Below w.heap.size w w':=by
 have i:=zh h.len;have m:=h.capb;have p:=h.le;by_cases c:z9 l=0
 ·by_cases d:0<=q/\q<l.length
  ·rw [L0 c d];rw [<-i.o] at d;obtain ⟨r,s⟩:=d;go_enter Tryz.func189,Tryz.ntmps189;go_wp2_with fail
   refine (wF w a n cap l h).mono ?_;rintro e f ⟨rfl,b⟩;rw [c];go_wp2;go_ret;exact ⟨rfl,b⟩
  rw [Jp c d];rw [<-i.o] at d;by_cases g:q<0
  ·go_enter Tryz.func189,Tryz.ntmps189;go_wp2_with fail
   refine (wF w a n cap l h).mono ?_;rintro e f ⟨rfl,b⟩;rw [c];go_wp2;go_ret;exact ⟨rfl,b⟩
  have j:(n:Int)<=q:=by omega
  go_enter Tryz.func189,Tryz.ntmps189;go_wp2_with fail
  refine (wF w a n cap l h).mono ?_;rintro e f ⟨rfl,b⟩;rw [c];go_wp2;go_ret;exact ⟨rfl,b⟩
 ·rw [IZ c];have k:(z9 l != 0)=true:=by simp [c]
  go_enter Tryz.func189,Tryz.ntmps189;go_wp2_with fail
  refine (wF w a n cap l h).mono ?_;rintro e f ⟨rfl,b⟩;go_wp2;go_ret;exact ⟨rfl,b⟩
theorem Ic (w:World) (a:Option Addr) (n cap:Nat) (l:QL) (q:Int) (h:QsIn w a n cap l) (aq:z9 l=0) (aS:0<=q) (aT:q<n) :
 zC 177 #[.slice a n cap,zI q] w fun e w'=>∃ af al,e=.returned (.tuple #[.slice af n al,zI 0])/\BoolsIn w' af n al (UY l n q)/\Below w.heap.size w w':=by
 have Q:=zh h.len;have a5:=h.capb;have a7:=h.le;have X:=zh (yY aq);have az:0<n:=by have:=X.o.pos;have:=Q.o;omega
 have aO:n<=5:=by have:=X.o.five;have:=Q.o;omega
 have aP:Lj l q=0:=L0 aq ⟨aS,by rw [<-Q.o];exact aT⟩;obtain ⟨b,m,rfl,ab⟩:=h.cells az;have a3:b<w.heap.size:=block_lt_of_cell (ab 0 az).1;have aD:=zh ab;have aG:=zh h;clear ab h;have aR:=run_make_row' (P:=Tryz.prog) 211 4 (.bool false) 1 Tryz.underlying211 Tryz.info4 rfl .i64 .i64 n (by omega) (by omega);refine (callsIn_wide (n:=4)).1 ?_;refine callsIn_of_wp_marks Tryz.func177 rfl trivial ?_ rfl;simp only [Tryz.ntmps177,List.size_toArray,List.length_cons,List.length_nil,Nat.reduceAdd,Nat.reduceSub,Array.replicate_succ,Array.replicate_zero,List.push_toArray,List.append_toArray,List.nil_append,List.cons_append]
 gi_wp2_with fail
 refine ⟨trivial,(callsIn_wide.2 (S7 _ _ n cap l q (aG.o.later ((Below.refl _ w).alloc (Nat.le_refl _) _)))).mono ?_⟩;rintro e d ⟨rfl,M⟩;rw [aP];have aK:Boxed d w.heap.size 3 (zI q):=(M.block _ (by simp)).trans (Boxed.new w 3 (zI q));have ae:=zh (za ((Below.refl w.heap.size w).alloc (Nat.le_refl _) _) M);have aV:w.heap.size<d.heap.size:=by have:=M.size;simp at this;omega
 have aE:Zh (∀ i,i<n->d.cell? (zA b (m+i*3+1))=some (zI (qu l i).parent)):=fun i t=>cell_later ae.o (aD.o i t).2.1;clear M
 gi_wp2_with fail
 clear aR;obtain ⟨s,G⟩:=qA ((d.alloc (.cells (madeCells #[.bool false] n) 4)).alloc (.cells #[.slice (some ⟨d.heap.size,0,none⟩) n n] 211));have aJ:Zh (s.rowIs d.heap.size 4 n (fun _=>.bool false)):=by rw [<-G];exact (World.rowIs_made d _ n 4).alloc _
 have ak:Zh (Boxed s (d.heap.size+1) 211 (.slice (zO d.heap.size 0) n n)):=by
  rw [<-G];have:=Boxed.new (d.alloc (.cells (madeCells #[.bool false] n) 4)) 211 (.slice (zO d.heap.size 0) n n);rwa [World.size_alloc] at this
 have R:Zh (zL d s):=by rw [<-G];exact ((Below.refl _ d).alloc (Nat.le_refl _) _).alloc (by simp) _
 have aB:s.heap.size=d.heap.size+2:=by rw [<-G];simp
 rw [G];clear G;refine wpIn_loop (FD w.heap.size d.heap.size b m n cap l q s) (FW n) ?start ?round
 case start=>exact ⟨0,_,[],undef,undef,undef,undef,undef,undef,undef,rfl,by omega,⟨rfl,rfl,rfl,Nat.le_refl _,fun _ _ _=>rfl,aJ.o⟩,fun i t=>by omega,fun i _ _=>rfl,fun D u=>by simp at u,by simp⟩
 case round =>
  rintro a k ⟨j,f,an,u8,ba,bb,bc,bd,be,aY,rfl,a6,aa,aw,au,ax,ay⟩;have r:=zh aa;have U:=zh aw;have N:=zh au;have O:=zh ax;have V:=zh ay;have ad:d.heap.size+2<=k.heap.size:=by have:=aa.size;omega
  clear aa aw au ax ay;generalize ar:(an.map fun D=>({ target:=.collected D,args:=#[] }:Deferred))=dm;have S:=zh ar;clear ar;by_cases I:j<n
  ·have aQ:(j:Int)<n:=by omega
   gi_wp2_with fail
   refine ⟨trivial,(Hh Fence.wide _ trivial rfl _ _ _ ⟨_,_,_,rfl⟩).mono ?_⟩;rintro e bf ⟨rfl,rfl⟩
   gi_wp2_with fail
   have ag:=Boxed.new k 3 (zI j);have Z:=Boxed.new (k.alloc (.cells #[zI j] 3)) 37 (.slice (zO b m) n cap);have Y:=Boxed.new ((k.alloc (.cells #[zI j] 3)).alloc (.cells #[.slice (zO b m) n cap] 37)) 3 (zI j);rw [World.size_alloc] at Z;rw [World.size_alloc,World.size_alloc] at Y;have A:zL k (((k.alloc (.cells #[zI j] 3)).alloc (.cells #[.slice (zO b m) n cap] 37)).alloc (.cells #[zI j] 3)):=(((Below.refl _ k).alloc (Nat.le_refl _) _).alloc (by simp) _).alloc (by simp;omega) _;have aU:(((k.alloc (.cells #[zI j] 3)).alloc (.cells #[.slice (zO b m) n cap] 37)).alloc (.cells #[zI j] 3)).heap.size=k.heap.size+3:=(by simp);have ah:=(ag.alloc (.cells #[.slice (zO b m) n cap] 37)).alloc (.cells #[zI j] 3);have ai:=Z.alloc (.cells #[zI j] 3);obtain ⟨W0,ao⟩:=qA (((k.alloc (.cells #[zI j] 3)).alloc (.cells #[.slice (some ⟨b,m,none⟩) n cap] 37)).alloc (.cells #[zI j] 3));rw [ao] at aU A ah ai Y ⊢;clear ao ag Z;have aM:Boxed W0 (d.heap.size+1) 211 (.slice (zO d.heap.size 0) n n):=(A.block _ (by omega)).trans (r.o.box ak.o (by omega));have aj:Boxed s w.heap.size 3 (zI q):=(R.o.block _ aV).trans aK;have aL:Boxed W0 w.heap.size 3 (zI q):=(A.block _ (by omega)).trans (r.o.box aj (by omega));have aC:W0.rowIs d.heap.size 4 n f:=r.o.row.of_block (A.block _ (by omega));have am:∀ i,i<n->W0.cell? (zA b (m+i*3+1))=some (zI (qu l i).parent):=fun i t=>by
    have c1:=cell_later R.o (aE.o i t);have c2:k.cell? (zA b (m+i*3+1))=some (zI (qu l i).parent):=(World.cell?_of_block (w:=s) (a:=(zA b (m+i*3+1))) (r.o.block b (by omega) (by omega))).trans c1;exact cell_later A c2
   have aF:=zh am;have aI:=zh aC;clear am aC aj;refine wpIn_rangeFunc_ownG (F:=Fence.wide) rfl (by omega) (gf:=130) (lb:=#[.pointer (zO (k.heap.size+1+1) 0),.pointer (zO (k.heap.size+1) 0)]) rfl trivial (enters_of Tryz.func130 (by kernel_rfl) rfl)
    (Hj Fence.wide _ trivial rfl (by omega) (k.heap.size+1+1) (k.heap.size+1) k.heap.size b m n cap l j X.o Q.o aQ W0 Y ai (by omega) (by omega) aF.o)
    YO.trans (Rs (by omega)) (Below.refl _ _) (fun _=>rfl)
    (fun L z=>(∀ x∈L,x≠q)/\After W0 z d.heap.size n f)
    (fun c L z=>(c=.exit 2/\q∈L)/\After W0 z d.heap.size n (fun i=>if i=j then .bool true else f i))
    (OwnFrom.and (ownFrom_pure _ _) (After.own (Nat.le_refl _) (by omega)))
    (fun c=>OwnFrom.and (ownFrom_pure _ _) (After.own (Nat.le_refl _) (by omega)))
    ⟨fun x aX=>by simp at aX,⟨rfl,rfl,rfl,Nat.le_refl _,fun _ _ _=>rfl,aI.o⟩⟩
    (fun x=>{ tmps:=#[.slice (zO b m) n cap,zI q,undef,.pointer (zO w.heap.size 0),zN,zI 0,zI 0,.pointer (zO (d.heap.size+1) 0),.pointer (zO k.heap.size 0),zI x,.slice (zO b m) n cap,zI q,zI 0,zI 0,.bool false,undef,.slice (zO b m) n cap,zI n,.slice (zO d.heap.size 0) n n,.slice (zO b m) n cap,zI n,zI j,.bool true,zI j,.slice (zO b m) n cap,zI j,.func (.func 130) #[] #[.pointer (zO (k.heap.size+1+1) 0),.pointer (zO (k.heap.size+1) 0)],zI x,undef,undef,undef,undef,undef,undef,aY,undef],defers:=[] }) ?assign ?body ?done ?stop
   case assign =>
    intro l x k aZ H
    gi_wp2
    exact H
   case body =>
    rintro a9 L x z ⟨J,p⟩ a8;have W:=zh J;have a1:=(p.box aL (by omega)).cell;have a2:=(p.box aM (by omega)).cell;have a0:=(p.box ah (by omega)).cell;have aN:=p.row.cell I;rw [N.o j (Nat.le_refl _) I] at aN;have fr:=p.row.frozen j;have E:=zh p;clear J p;cases g:(x==q) with
    | true =>
     gi_wp2
     exact ⟨(KeepsOthers.setCell _ _ _).from _,⟨rfl,by rw [eq_of_beq g];simp⟩,E.o.hit j _⟩
    | false =>
     gi_wp2
     exact ⟨KeepsFrom.refl _ _,⟨Below.refl _ _,fun v aW=>aW⟩,fun y C=>by
      rw [List.mem_append] at C;rcases C with C | C
      ·exact W.o y C
      simp at C;subst C;exact ne_of_beq_false g,E.o⟩
   case done =>
    rintro D bg z u rfl ⟨J,p⟩ H;have W:=zh J;have E:=zh p;clear J p
    gi_wp2
    rw [<-S.o];exact ⟨Qd I r.o A E.o ad aB U.o N.o O.o V.o u H (by rw [Lu W.o];exact N.o j (Nat.le_refl _) I) (fun i _=>rfl),by simp [FW,intOf];omega⟩
   case stop =>
    rintro D c L z u aA ⟨⟨rfl,av⟩,p⟩ H;have aH:Zh (yG l (j:Int) q=true):=Wu.2 (aA.subset av);have E:=zh p;clear av p aA
    gi_wp2
    rw [<-S.o];exact ⟨Qd I r.o A E.o ad aB U.o N.o O.o V.o u H (by rw [if_pos rfl,aH.o]) (fun i t=>if_neg t),by simp [FW,intOf];omega⟩
  obtain rfl:n=j:=by omega
  have a4:=(r.o.box ak.o (by omega)).cell
  gi_wp2
  show LeavesInM _ _ _ _ _ _ dm _ _;rw [<-S.o];refine Uz (d.heap.size+2) an k ad V.o (fun D u=>⟨(O.o D u).1,(O.o D u).2.2⟩) (fun z ap=>?_);refine ⟨_,results_tmp2 rfl _ _ _,_,_,rfl,Km (N4 l n q).symm (r.o.row.of_block (ap.block _ (by omega))) (fun i t=>by rw [U.o i t,Sa l n q i t]) aO,?_⟩;exact (za ae.o R.o).trans (((r.o.below (B:=w.heap.size) (by omega) (by omega))).trans (ap.mono (by omega)))
theorem OA (w:World) (a:Option Addr) (len cap:Nat) :
 zC 178 #[.slice a len cap] w fun e w'=>e=.returned (.func (.func 190) #[] #[.pointer (zO w.heap.size 0)])/\w'=w.alloc (.cells #[.slice a len cap] 38):=by
 go_enter Tryz.func178,Tryz.ntmps178;go_wp2;go_ret;exact ⟨rfl,rfl⟩
abbrev BN (n:Nat):={ i:Nat // i<n }
def dn (n:Nat):Nat->List (BN n)
 | 0=>[]
 | k+1=>dn n k++(if h:k<n then [⟨n-1-k,by omega⟩] else [])
theorem Iu (n:Nat):∀ k,k<=n->(dn n k).length=k
 | 0,_=>rfl
 | k+1,h=>by rw [dn,dif_pos (by omega),List.length_append,Iu n k (by omega)];rfl
theorem LJ {n m:Nat} (h:m<n):dn n (n-m)=dn n (n-(m+1))++[⟨m,h⟩]:=by
 rw [show n-m=(n-(m+1))+1 by omega,dn,dif_pos (by omega)]
 congr 2
 apply Subtype.ext;show n-1-(n-(m+1))=m;omega
theorem Ra {n:Nat}:∀ {k:Nat},k<=n->∀ {i:Nat} (h:i<n),n-k<=i->(⟨i,h⟩:BN n)∈dn n k
 | 0,_,i,h,hi=>by omega
 | k+1,hk,i,h,hi=>by
  rw [dn,dif_pos (by omega),List.mem_append];by_cases e:i=n-1-k
  ·right;subst e;exact List.mem_singleton.2 rfl
  left;exact Ra (by omega) h (by omega)
def Fi (x:Bk):Value:=.agg #[zI x.id,zI x.rq.queue,zI x.rq.fr,zI x.rq.un,zI x.rq.kind,.slice x.rq.pa x.rq.pn x.rq.pc,.slice x.ba x.bn x.bc]
theorem Ox (n:Nat) (hn:1<=n) (P q t a d bn bc:Nat) (b:BL) (ai:bn<=12) (_hle:bn<=bc) (_hcb:bc<=9223372036854775807) (g:a<t) (X:q<t) (j w:List (BN bn)->World->Prop)
 (M:∀ h x c,j h c->h.length<bn->YieldAt Fence.wide (n-1) Tryz.prog P #[zI (x.1:Int),Fi (bk b x.1)] c fun e l =>
  (e=.returned (.bool true)/\j (h++[x]) l/\Below t c l)\/(e=.returned (.bool false)/\w (h++[x]) l))
 (c:World) (W:c.cell? (zA q 0)=some (.slice (zO a d) bn bc))
 (N:∀ i,i<bn->c.cell? (zA a (d+i*7))=some (zI (bk b i).id)/\c.cell? (zA a (d+i*7+1))=some (zI (bk b i).rq.queue)/\c.cell? (zA a (d+i*7+2))=some (zI (bk b i).rq.fr)/\c.cell? (zA a (d+i*7+3))=some (zI (bk b i).rq.un)/\c.cell? (zA a (d+i*7+4))=some (zI (bk b i).rq.kind)/\c.cell? (zA a (d+i*7+5))=some (.slice (bk b i).rq.pa (bk b i).rq.pn (bk b i).rq.pc)/\c.cell? (zA a (d+i*7+6))=some (.slice (bk b i).ba (bk b i).bn (bk b i).bc))
 (V:j [] c) :
 CallsIn Fence.wide n Tryz.prog 190 #[.func (.yield P) #[] #[],.pointer (zO q 0)] c fun e l=>(∃ v,e=.returned v)/\((∃ Q,Q=dn bn bn/\j Q l)\/(∃ h,(∃ k,k<=bn/\h=dn bn k)/\w h l)):=by
 have U:=zh M;have S:=zh N;clear M N;refine callsIn_of_wp Tryz.func190 rfl trivial ?_ rfl;simp only [Tryz.ntmps190,List.size_toArray,List.length_cons,List.length_nil,Nat.reduceAdd,Nat.reduceSub,Array.replicate_succ,Array.replicate_zero,List.push_toArray,List.append_toArray,List.nil_append,List.cons_append]
 gi_wp2
 gi_loopw [3] (fun i wr=>∃ m:Nat,m<=bn/\i=zI ((m:Int)-1)/\j (dn bn (bn-m)) wr/\Below t c wr) (fun i _=>(intOf i+1).toNat)
 case atStart=>exact ⟨bn,Nat.le_refl _,rfl,by rw [Nat.sub_self];exact V,Below.refl _ _⟩
 case round =>
  obtain ⟨m,ak,rfl,J,y⟩:=hrel;have z:=zh J;have f:=zh y;have aj:=(y.cell (p:=(zA q 0)) X).trans W;clear J y;cases m with
  | zero =>
   have s:((0:Nat):Int)-1=-1:=rfl;rw [s]
   gi_wp2
   go_end0
   exact ⟨⟨_,rfl⟩,.inl ⟨_,rfl,z.o⟩⟩
  | succ m =>
   have s:((m+1:Nat):Int)-1=m:=(by omega);rw [s];have r:m<bn:=(by omega);have al:(m:Int)<bn:=(by omega);obtain ⟨fn,tmps,assign,body,Z,Y⟩:=U.o _ ⟨m,r⟩ wr z.o (by rw [Iu _ _ (by omega)];omega);obtain ⟨B,C,D,E,F,G,H⟩:=S.o m r;have aa:=(f.o.cell (p:=(zA a (d+m*7))) g).trans B;have ab:=(f.o.cell (p:=(zA a (d+m*7+1))) g).trans C;have ad:=(f.o.cell (p:=(zA a (d+m*7+2))) g).trans D;have ae:=(f.o.cell (p:=(zA a (d+m*7+3))) g).trans E;have af:=(f.o.cell (p:=(zA a (d+m*7+4))) g).trans F;have ag:=(f.o.cell (p:=(zA a (d+m*7+5))) g).trans G;have ah:=(f.o.cell (p:=(zA a (d+m*7+6))) g).trans H
   dsimp only [Fi] at Z
   clear B C D E F G H s
   gi_wp2
   refine Y.mono ?_;rintro e A (⟨rfl,I,O⟩ | ⟨rfl,L⟩)
   ·have u:Zh (j (dn bn (bn-m)) A):=zh (by rw [LJ r];exact I);have R:=zh (f.o.trans O);clear I O
    gi_wp2
    go_roundw
    case rel=>exact ⟨m,by omega,by go_num,u.o,R.o⟩
    case measure=>simp [intOf]
   have u:Zh (w (dn bn (bn-m)) A):=zh (by rw [LJ r];exact L);clear L
   gi_wp2
   refine bodyPost_ret (results_none rfl _ _ _) rfl ?_;exact ⟨⟨_,rfl⟩,.inr ⟨_,⟨bn-m,by omega,rfl⟩,u.o⟩⟩
theorem N9 (n:Nat) (hn:1<=n) (c:Nat) (ba:Option Addr) (bn bc:Nat) (b:BL) (A:bn<=12) (w:World) (d:BksIn w ba bn bc b) (h:0<bn) (f:w.cell? (zA c 0)=some (.slice ba bn bc)) :
 SeqStopsK Fence.wide n Tryz.prog 190 #[.pointer (zO c 0)] (fun x:BN bn=>#[zI (x.1:Int),Fi (bk b x.1)]) (Below w.heap.size) (fun G=>G=dn bn bn) (fun F=>∃ k,k<=bn/\F=dn bn k) bn w:=fun l j m o a _ _ C z=>by
 obtain ⟨e,p,rfl,g⟩:=d.cells h;have B:c<w.heap.size:=block_lt_of_cell f;have D:e<w.heap.size:=block_lt_of_cell (g 0 h).1;refine Ox n hn l c w.heap.size e p bn bc b A d.le d.capb D B j m C o (cell_later a f) (fun i E=>?_) z;obtain ⟨q,r,s,t,u,v,y⟩:=g i E;exact ⟨cell_later a q,cell_later a r,cell_later a s,cell_later a t,cell_later a u,cell_later a v,cell_later a y⟩
def Zz (l:QL) (b:BL) (t q:Int) (i:Nat):Bool:=yG l (bk b i).rq.queue q&&Yb (bk b i) t
def wC (l:QL) (b:BL) (t q:Int):Nat->Nat
 | 0=>0
 | m+1=>if Zz l b t q m=true then m else wC l b t q m
theorem Ru {l:QL} {b:BL} {t q:Int}:∀ {n m:Nat},m<n->Zz l b t q m=true->(∀ i,m<i->i<n->Zz l b t q i=false)->wC l b t q n=m
 | 0,m,h,_,_=>by omega
 | n+1,m,h,h1,h2=>by
  rw [wC];by_cases e:m=n
  ·subst e;rw [if_pos h1]
  rw [if_neg (by rw [h2 n (by omega) (by omega)];decide)];exact Ru (by omega) h1 fun i a hn=>h2 i a (by omega)
theorem V3 {l:QL} {b:BL} {t q:Int}:∀ {n:Nat},(∀ i,i<n->Zz l b t q i=false)->wC l b t q n=0
 | 0,_=>rfl
 | n+1,h=>by
  rw [wC,if_neg (by rw [h n (by omega)];decide)];exact V3 fun i a=>h i (by omega)
theorem IE (w:World) (c n:Int) (J:Option Addr) (d L:Nat) (l:QL) (ba:Option Addr) (bn bc:Nat) (b:BL) (h:zY w J d L l ba bn bc b) (P:Clean l b) (bV:0<bn) (t:Int) (q:Nat) (cc:q<d) :
 zC 145 #[.agg (zS c n J d L ba bn bc),zI t,zI q] w fun e w'=>e=.returned (zI (wC l b t q bn:Nat))/\Below w.heap.size w w':=by
 obtain ⟨S,a5⟩:=qA (w.heap.size);obtain ⟨G,am⟩:=qB (((w.alloc (.cells (zS c n J d L ba bn bc) 40)).alloc (.cells #[zI t] 3)).alloc (.cells #[zI 0] 3));obtain ⟨z,ad⟩:=qB (w.alloc (.cells (zS c n J d L ba bn bc) 40));have a7:Below w.heap.size w z:=by rw [ad];exact zr _ _
 have an:z.heap.size=S+1:=by rw [ad];simp [a5]
 have bl:zj z S (zI c) (zI n) (.slice J d L) (.slice ba bn bc):=by rw [ad,<-a5];exact zj.new w _ _ _ _
 have ae:G=(z.alloc (.cells #[zI t] 3)).alloc (.cells #[zI 0] 3):=by rw [am,ad]
 have aX:Boxed G (S+1) 3 (zI t):=by
  rw [ae,<-an];exact (Boxed.new z 3 (zI t)).alloc _
 have aV:Boxed G (S+1+1) 3 (zI 0):=by
  have:=Boxed.new (z.alloc (.cells #[zI t] 3)) 3 (zI 0);rw [World.size_alloc,an] at this;rw [ae];exact this
 have aJ:Below z.heap.size z G:=by rw [ae];exact (zr _ _).alloc (by simp) _
 have aI:Below w.heap.size w G:=za a7 aJ;have bj:G.heap.size=S+3:=by rw [ae];simp [an]
 have aN:=bl.later aJ;have bA:=yY P.tree;have bX:=h.1.len;have bS:=h.2.len;have bO:bn<=12:=by have:=P.few;omega
 have bI:=zh (Ic G J d L l (q:Int) (h.1.later aI) P.tree (by omega) (by omega));have bz:Zh (∀ i,i<bn->meets (bk b i).rq (bk b i).bs=true/\0<=(bk b i).rq.queue/\(bk b i).rq.queue<d):=fun i f=>by
  have:=Uu P (yx (b:=b) (i:=i) (by omega));exact ⟨this.1,this.2.1,by omega⟩
 have bB:=zh h;have bq:=zh aI;have bE:=zh am;have bF:=zh aN;have bv:=zh aX;have bt:=zh aV;have au:=zh bj;obtain ⟨aa,c1,c2,c3⟩:=aN.cells;rw [am] at aa c1 c2 c3;clear ad a7 an bl ae aX aV aJ aI bj aN bA bX bS P h am;refine (callsIn_wide (n:=4)).1 ?_;refine callsIn_of_wp_marks Tryz.func145 rfl trivial ?_ rfl;simp only [Tryz.ntmps145,List.size_toArray,List.length_cons,List.length_nil,Nat.reduceAdd,Nat.reduceSub,Array.replicate_succ,Array.replicate_zero,List.push_toArray,List.append_toArray,List.nil_append,List.cons_append]
 gi_wp2_with fail
 rw [<-bE.o];refine ⟨trivial,(callsIn_wide.2 bI.o).mono ?_⟩;rintro e ak ⟨aM,R,rfl,bb,V⟩;obtain ⟨m,a6⟩:=qA (ak.heap.size);obtain ⟨v,ai⟩:=qB (ak.alloc (.cells #[.slice aM d R] 211));have W:Below ak.heap.size ak v:=by rw [ai];exact zr _ _
 have aZ:Boxed v m 211 (.slice aM d R):=by rw [ai,<-a6];exact Boxed.new ak _ _
 have bh:v.heap.size=m+1:=by rw [ai];simp [a6]
 have ca:S+3<=m:=by have:=V.size;have:=au.o;omega
 have br:=zh (za (za bq.o V) W);have bG:=zh ((bF.o.later V).later W);have bw:Zh (Boxed v (S+1) 3 (zI t)):=zh ((W.block _ (by omega)).trans ((V.block _ (by have:=au.o;omega)).trans bv.o));have bu:Zh (Boxed v (S+1+1) 3 (zI 0)):=zh ((W.block _ (by omega)).trans ((V.block _ (by have:=au.o;omega)).trans bt.o));have bC:=zh (bb.later W);have bx:=zh aZ;have aS:=zh ai;have U:=zh bh;have bH:=zh (OA v ba bn bc);clear V W bb aZ ai bh aa c1 c2 c3;obtain ⟨aa,c1,c2,c3⟩:=bG.o.cells;rw [aS.o] at aa c1 c2 c3
 gi_wp2_with fail
 rw [<-aS.o];refine ⟨trivial,(callsIn_wide.2 bH.o).mono ?_⟩;rintro e C ⟨rfl,be⟩;rw [U.o];have aw:=zh be;clear be aa c1 c2 c3;have Y:Below v.heap.size v C:=by rw [aw.o];exact zr _ _
 have bi:C.heap.size=m+2:=by rw [aw.o];simp [U.o]
 have aU:Boxed C (m+1) 38 (.slice ba bn bc):=by rw [aw.o,<-U.o];exact Boxed.new v _ _
 have aY:Boxed C (S+1) 3 (zI t):=(Y.block _ (by have:=U.o;omega)).trans bw.o;have aW:Boxed C (S+1+1) 3 (zI 0):=(Y.block _ (by have:=U.o;omega)).trans bu.o;have a0:Boxed C m 211 (.slice aM d R):=(Y.block _ (by have:=U.o;omega)).trans bx.o;have al:=zh (za br.o Y);have av:=zh (bC.o.later Y);have ar:=zh (bB.o.2.later al.o);have M:=zh bi;have bo:=zh aY;have aP:=zh aW;have bp:=zh a0;have bm:=zh aU;obtain ⟨ao,ap,bY,bd⟩:=av.o.cells (by omega);subst bY;have bD:=zh bd;have ce:=av.o.le;have cd:=av.o.capb;clear Y bi aY aW a0 aU bd
 gi_wp2_with fail
 refine wpIn_rangeFunc_ownH (F:=Fence.wide) rfl (by omega) (gf:=190) (lb:=#[.pointer (zO (m+1) 0)]) rfl trivial (enters_of Tryz.func190 (by kernel_rfl) rfl)
  (N9 _ (by omega) (m+1) ba bn bc b bO C ar.o bV bm.o.cell)
  belowK_t (belowK_b (Nat.le_refl _)) (Below.refl _ _) (fun _=>rfl)
  (fun Q a=>(∀ x∈Q,Zz l b t q x.1=false)/\Below C.heap.size C a)
  (fun aB Q a=>(aB=.ret/\∃ aj x,Q=aj++[x]/\(∀ y∈aj,Zz l b t q y.1=false)/\Zz l b t q x.1=true/\a.cell? (zA (S+1+1) 0)=some (zI (x.1:Int)))/\Below w.heap.size w a)
  (OwnFrom.and (ownFrom_pure _ _) (ownFrom_below (Nat.le_refl _) (Nat.le_refl _)))
  (fun aB=>OwnFrom.and (Own.from (fun s aO B row aL hg ah=>by obtain ⟨P,aj,x,ab,aC,aD,bK⟩:=aL;exact ⟨P,aj,x,ab,aC,aD,cell_kept bK hg ah⟩) _) (ownFrom_below (Nat.le_refl _) al.o.size))
  ⟨fun x bf=>absurd bf (List.not_mem_nil),Below.refl _ _⟩
  (fun x ay a=>∃ E,C.heap.size<=E/\ww a E (bk b x.1)/\ay={ tmps:=#[.agg (zS c n J d L ba bn bc),zI t,zI q,.pointer (zO S 0),.pointer (zO (S+1) 0),undef,.pointer (zO (S+1+1) 0),.pointer (zO m 0),zI 0,zI (x.1:Int),.pointer (zO E 0),.tuple #[.slice (zO ao ap) d R,zI 0],.pointer (zO S 2),.slice J d L,zI q,.tuple #[.slice (zO ao ap) d R,zI 0],.slice (zO ao ap) d R,zI 0,.pointer (zO S 3),.slice ba bn bc,.func (.func 190) #[] #[.pointer (zO (m+1) 0)],zI (x.1:Int),.agg #[zI (bk b x.1).id,zI (bk b x.1).rq.queue,zI (bk b x.1).rq.fr,zI (bk b x.1).rq.un,zI (bk b x.1).rq.kind,.slice (bk b x.1).rq.pa (bk b x.1).rq.pn (bk b x.1).rq.pc,.slice (bk b x.1).ba (bk b x.1).bn (bk b x.1).bc],undef,undef,undef,undef,undef,undef,undef,undef,undef,undef,undef,undef],defers:=[] })
  (fun x ay s aO B row aL hg ah=>by
   obtain ⟨E,bN,aF,bQ⟩:=aL;refine ⟨E,bN,(hg.block E (Array.getElem?_eq_some_iff.1 aF).1 (fun e=>?_)).trans aF,bQ⟩;obtain ⟨_,o,a9,bT⟩:=ah E e.symm;have bP:aO.heap[E]?=_:=aF;rw [bP] at a9;cases a9
   cases bT)
  ?assign ?body ?done ?stop
 case assign =>
  rintro bZ Q x a b4 f O;simp only [Fi]
  gi_wp2
  exact O _ _ ((KeepsOthers.alloc _ _).from _) ((Below.refl _ a).alloc f.2.size _) ⟨f.1,f.2.alloc f.2.size _⟩ ⟨a.heap.size,f.2.size,heap_alloc_new a _,rfl⟩
 case body =>
  rintro bZ Q x ay a b9 ⟨r,ah⟩ ⟨ag,u⟩ ⟨E,b7,a1,rfl⟩ cb;obtain ⟨i,f⟩:=x;obtain ⟨bg,b0,b1⟩:=bz.o i f;obtain ⟨k,A⟩:∃ k:Nat,(bk b i).rq.queue=k:=⟨(bk b i).rq.queue.toNat,by omega⟩;have a8:k<d:=by omega
  have b8:(k:Int)<d:=by omega
  have b6:=(show Boxed a m 211 (.slice (zO ao ap) d R) from (u.block _ (by have:=M.o;omega)).trans bp.o).cell;have b5:=(show Boxed a (S+1) 3 (zI t) from (u.block _ (by have:=M.o;omega)).trans bo.o).cell;have az:=cell_later u (bD.o k a8);rw [Sa l d q k a8] at az;have a3:Zz l b t q i=(yG l (k:Int) q&&Yb (bk b i) t):=by unfold Zz;rw [A]
  have I:=zh a3;have Z:=zh ag;have H:=zh u;have aQ:=zh a1;have ax:=zh (JF a (bk b i) ((ar.o.later u).rqs i f) ((ar.o.later u).bites i f) bg t);obtain ⟨X,aH⟩:=qA (bk b i);rw [aH] at ax aQ I A;obtain ⟨cg,b2,ch,ci,cj,ck,cl⟩:=aQ.o.cells;rw [A] at b2;simp only [aH];have b3:=zh A;clear ag u a1 bg b0 b1 a3 aH ah;cases g:yG l (k:Int) q with
  | false =>
   rw [g] at az I
   gi_wp2
   refine ⟨trivial,?_⟩
   gi_wp2
   refine ⟨KeepsFrom.refl _ _,Below.refl _ _,fun y j=>?_,H.o⟩;rw [List.mem_append] at j;rcases j with j | j
   ·exact Z.o y j
   rw [List.mem_singleton] at j;subst j;exact I.o.trans rfl
  | true =>
   rw [g] at az I;have a2:Value.agg #[zI X.id,zI X.rq.queue,zI X.rq.fr,zI X.rq.un,zI X.rq.kind,.slice X.rq.pa X.rq.pn X.rq.pc,.slice X.ba X.bn X.bc]=Value.agg #[zI X.id,zI k,zI X.rq.fr,zI X.rq.un,zI X.rq.kind,.slice X.rq.pa X.rq.pn X.rq.pc,.slice X.ba X.bn X.bc]:=(by rw [A]);rw [a2] at ax;clear A a2
   gi_wp2_with fail
   refine ⟨trivial,(Xz ax.o).mono ?_⟩;rintro e aT ⟨rfl,af⟩;have N:=(show Boxed aT (S+1+1) 3 (zI 0) from (af.block _ (by have:=M.o;have:=H.o.size;omega)).trans ((H.o.block _ (by have:=M.o;omega)).trans aP.o));have aA:=N.cell;have bJ:=N.frozen;have aq:=zh af;have aR:Zh (KeepsOthers a aT):=zh ⟨af.size,fun k o A _=>(af.block k (Array.getElem?_eq_some_iff.1 A).1).trans A⟩;clear af N;cases a4:Yb X t with
   | false =>
    rw [a4] at I
    gi_wp2
    refine ⟨aR.o.from _,aq.o.mono H.o.size,fun y j=>?_,za H.o aq.o⟩;rw [List.mem_append] at j;rcases j with j | j
    ·exact Z.o y j
    rw [List.mem_singleton] at j;subst j;exact I.o.trans rfl
   | true =>
    rw [a4] at I
    gi_wp2
    refine ⟨(aR.o.trans (KeepsOthers.setCell _ _ _)).from _,⟨rfl,Q,⟨i,f⟩,rfl,Z.o,I.o.trans rfl,World.cell?_setCell_same' _ _ _ (by rw [aA];rfl)⟩,?_⟩;exact (za al.o (za H.o aq.o)).setCell (p:=(zA (S+1+1) 0)) (by show w.heap.size<=S+1+1;omega) _
 case done =>
  rintro D cf a bR rfl ⟨ag,u⟩ O;have N:=(show Boxed a (S+1+1) 3 (zI 0) from (u.block _ (by have:=M.o;omega)).trans aP.o);have aA:=N.cell;have bJ:=N.frozen;have Z:=zh ag;have H:=zh u;clear ag u N
  gi_wp2
  have aG:=(KeepsOthers.setCell a (zA (S+1+1) 0) (zI 0)).same D _ O rfl;refine ⟨by simp,.inl ⟨_,_,rfl,run_takeDeferred aG,?_⟩⟩;have aK:=cell_kept (World.cell?_setCell_same' a (zA (S+1+1) 0) (zI 0) (by rw [aA];rfl)) (grownBy_putObj' _ D (.deferred none)) (fun r e=>by cases e;exact ⟨_,aG,rfl⟩);have aE:wC l b t q bn=0:=V3 fun i f=>Z.o ⟨i,f⟩ (Ra (Nat.le_refl _) f (by omega));have bW:=M.o;refine ⟨zI 0,?_,by rw [aE];rfl,?_⟩
  ·simp [results,Tryz.f145,go_sem,aK]
  exact ((za al.o H.o).setCell (p:=(zA (S+1+1) 0)) (by show w.heap.size<=S+1+1;omega) _).trans (belowK_b (w:=w) (Nat.le_refl _) _ D _ _ (by omega) aG rfl rfl)
 case stop =>
  rintro D aB Q a bR ⟨k,A,rfl⟩ ⟨⟨rfl,aj,x,ab,aC,aD,bU⟩,u⟩ O
  gi_wp2
  refine ⟨by simp,.inl ⟨_,_,rfl,run_takeDeferred O,?_⟩⟩;have aK:=cell_kept bU (grownBy_putObj' _ D (.deferred none)) (fun r e=>by cases e;exact ⟨_,O,rfl⟩);obtain ⟨k',rfl⟩:∃ k',k=k'+1:=by
   cases k with
   | zero=>simp [dn] at ab
   | succ k'=>exact ⟨k',rfl⟩
  rw [dn,dif_pos (by omega)] at ab;obtain ⟨rfl,bL⟩:=List.append_inj' ab rfl;obtain ⟨x,bf⟩:=x;have bM:bn-1-k'=x:=by simpa using bL
  subst bM;have aE:wC l b t q bn=bn-1-k':=Ru (by omega) aD fun i f hn=>aC ⟨i,hn⟩ (Ra (by omega) hn (by omega));have bW:=M.o;refine ⟨zI ((bn-1-k':Nat):Int),?_,by rw [aE],?_⟩
  ·simp [results,Tryz.f145,go_sem,aK]
  exact u.trans (belowK_b (w:=w) (Nat.le_refl _) a D _ _ (by omega) O rfl rfl)
end Go.Proofs.YtckpdfkobdgjeaaGreatDoor
